import Derived.Test.YtaigcjhachkmmaaDoorYCh
import Derived.Test.YtaigcjhachkmmaaDoorYDv
import Derived.Test.YtaigcjhachkmmaaDoorYSp
namespace Go.Proofs.YtaigcjhachkmmaaDoor
open Go.RowKit Go.Shelf
set_option maxRecDepth 100000
set_option linter.unusedVariables false
set_option linter.unusedSimpArgs false
attribute [local go_sem] Oper.semAt_some
theorem wpListIn_stK (k : IntKind) {F : Fence} {d : Nat} (w : World) {ops : Array Oper} {rest : List Oper} {o : Oper} {a : Act} {Q : Exit → Act → World → Prop} (hg : o.guard = none) (p v : Operand) (ty n : Nat) (hop : o.op = Op.store ty p v)
    (hi : (Tryd.prog.info? ty).map (·.size) = some n)
    (g : Nat) (f f' : Nat → Nat) (hp : a.eval p = .pointer (some ⟨g, 0, none⟩)) (hv : a.eval v = .agg (kys k n f')) (h : KRow k w g ty n f)
    (hK : ∀ w', KRow k w' g ty n f' → w.grownBy w' (some g) → wpListIn F d Tryd.prog ops Q rest (a.put o.dst undef) w') :
    wpListIn F d Tryd.prog ops Q (o :: rest) a w := by
  refine wpListIn_plain hg fun K hK' => ?_
  unfold Oper.wpIn
  refine ⟨?_, ?_⟩
  · simp [Oper.about, hop]
  · rw [Oper.semAt_plain F _ _ (by rw [hop]; intro c hc'; cases hc')]
    simp [execOp, hop, hp, hv, run_stK k w g ty n f f' hi h, Result.andThen]
    exact hK' _ _ (hK _ (setRow_heap w g _ _ _ _ h) ⟨rfl, rfl, rfl, by simp, fun k _ hk => setRow_other w g k _ (fun e => hk (by rw [e]))⟩)
theorem KRow.part {w : World} {g ty n : Nat} {f : Nat → Nat} (h : KRow .u8 w g ty n f) (hb : ∀ i, f i < 256) (o m c : Nat) (hm : o + m ≤ n) (hc : m ≤ c) (hcm : c ≤ 1000) : Rd w (some ⟨g, o, none⟩) m c ((List.range m).map fun i => f (o + i)) := by
  refine ⟨by simp, hc, by unfold maxLen; omega, (fun h => by cases h), ?_, fun h0 => ⟨g, o, rfl, h.lt, fun i hi => ?_⟩⟩
  · intro y hy
    obtain ⟨i, _, rfl⟩ := List.mem_map.1 hy
    exact hb _
  · rw [h.cell (o + i) (by omega)]
    unfold nth
    rw [List.getD_eq_getElem?_getD, List.getElem?_map, List.getElem?_range hi]; rfl
def tgF (B : List Nat) (r : Nat) (l : List Nat) : Nat := l.foldl (fun s k => (s + grV B k) * r % 2305843009213693951) 0
theorem tgF_range (B : List Nat) (r m : Nat) : tgF B r (List.range m) = tgN B r m := by
  induction m with
  | zero => rfl
  | succ m ih =>
    unfold tgF at *
    rw [List.range_succ, List.foldl_append, ih]; rfl
theorem tgF_lt (B : List Nat) (r : Nat) (l : List Nat) : tgF B r l < 2305843009213693951 := by
  unfold tgF
  rcases List.eq_nil_or_concat l with rfl | ⟨i, x, rfl⟩
  · exact (by decide : (0 : Nat) < 2305843009213693951)
  · rw [List.concat_eq_append, List.foldl_append]; exact Nat.mod_lt _ (by decide)
def tgI (B : List Nat) (R : Nat) (w : World) (G n cb : Nat) (bo : Option Addr) (m : Nat) (pre : List (Pc m)) (W : World) : Prop :=
  Boxed W (G + 1) 52 (.int .u64 (tgF B R (pre.map (·.1)) : Nat)) ∧ Boxed W G 52 (.int .u64 (R : Nat)) ∧ Boxed W (G + 1 + 1) 25 (.slice bo n cb) ∧ Boxed W (G + 1 + 1 + 1) 3 (.int .i64 7) ∧ Below w.heap.size w W
def tgX (m : Nat) (c : Code) (pre : List (Pc m)) (W : World) : Prop := False
theorem tgI_own (B : List Nat) (R : Nat) (w : World) (G n cb : Nat) (bo : Option Addr) (m k : Nat) (hk : w.heap.size ≤ k) : OwnFrom k (tgI B R w G n cb bo m) := by
  rintro s X Y row ⟨h1, h2, h3, h4, h5⟩ hg hr
  exact ⟨boxed_from h1 hg hr, boxed_from h2 hg hr, boxed_from h3 hg hr, boxed_from h4 hg hr, below_from h5 hg hk hr⟩
theorem tgX_own (m k : Nat) (c : Code) : OwnFrom k (tgX m c) := by
  rintro s X Y row h hg hr
  exact h.elim
theorem share1 {F : Fence} {d : Nat} {P : Program} {md : Region.Mode} {ops : Array Oper} {Q : Exit → Act → World → Prop} {fuel : Nat} {listed : Array Bool} {a : Act} {w : World}
    (h : ∀ G1 : World → Nat → Array Bool → Act → Prop, (∀ w f l a, G1 w f l a ↔ wpAnyIn F d P md ops Q f l a w) → G1 w fuel listed a) : wpAnyIn F d P md ops Q fuel listed a w :=
  h (fun w f l a => wpAnyIn F d P md ops Q f l a w) (fun _ _ _ _ => Iff.rfl)
theorem share {X : Nat → Array Bool → Act → Prop} {Y : Nat → Array Bool → Act → Prop} {fuel : Nat} {listed : Array Bool} {a : Act} (h : ∀ G : Nat → Array Bool → Act → Prop, (∀ f l a, G f l a ↔ Y f l a) → G fuel listed a) (hXY : ∀ f l a, X f l a ↔ Y f l a) : X fuel listed a :=
  h X hXY
theorem below_drewN (w : World) (b k : Nat) : Below b w (w.drewN k) := ⟨rfl, rfl, rfl, Nat.le_refl _, fun _ _ => rfl⟩
theorem then_var {F : Fence} {d : Nat} {P : Program} {co : Code} {Q : Exit → Act → World → Prop} {a : Act} {w : World} {T : Act → World → Prop} (h : ∀ K : Act → World → Prop, (∀ a w, T a w → K a w) → co.wpIn F d P (Exit.then K (fun _ _ _ => False)) a w)
    (hq : ∀ e a w, Exit.then T (fun _ _ _ => False) e a w → Q e a w) : co.wpIn F d P Q a w :=
  wpIn_mono (h T (fun _ _ h => h)) hq
set_option maxHeartbeats 4000000 in
theorem tagOf_in (a bo : Option Addr) (cap c n cb : Nat) (S : List Int) (W : Nat → Nat) (B : List Nat) (w : World) (hL : Lin w) (hp : RdI w a 8 cap S) (hW : ∀ i, i < 8 → nthI S i = (W i : Int) ∧ W i < 4294967296) (hc : c < 281474976710656) (hb : Rd w bo n cb B) (hn : n ≤ 1000000) :
    CallsIn Fence.wide 5 Tryd.prog 26 #[.slice a 8 cap, .int .i64 c, .slice bo n cb] w fun e w' => ∃ a' c', e = .returned (.slice a' 8 c') ∧ Ans w' w.heap.size a' 8 c' (tagL W c B) ∧ w.grownBy w' none := by
  have hB := blockOf_any a cap c 0 S W w hL hp hW hc (by decide)
  have hbB : ∀ i, padB W c 0 i < 256 := fun i => Nat.mod_lt _ (by decide)
  refine callsIn_of_wp_marks Tryd.func26 rfl trivial ?_ rfl
  simp only [Tryd.ntmps26, List.size_toArray, List.length_cons, List.length_nil, Nat.reduceAdd, Nat.reduceSub, Array.replicate_succ, Array.replicate_zero, List.push_toArray, List.append_toArray, List.nil_append, List.cons_append]
  gi_wp2_with (first
    | (refine ⟨trivial, ?_⟩; gi_at_call 42; refine (callsIn_wide.2 hB).mono ?_; rintro e w1 ⟨rfl, g1⟩; have z1 := krow_new .u8 w1 67 64 (fun _ => 0))
    | (refine wpListIn_stK .u8 _ rfl (.tmp 7) (.tmp 14) _ 64 rfl Tryd.info_by w1.heap.size _ _ rfl rfl z1 ?_; intro w2 hR2 g2))
  have g12 : w1.grownBy w2 none := grown_far (World.grownBy_alloc w1 _ none) g2 (fun g e => by cases e; exact Nat.le_refl _)
  have hR2' := hR2
  have g02 := grown_trans g1 g12
  clear g2 z1 g12 hB hL hp
  have hP1 := hR2.part hbB 0 8 64 (by decide) (by decide) (by decide)
  have hP2 := hR2.part hbB 8 8 56 (by decide) (by decide) (by decide)
  obtain ⟨X, hX⟩ : ∃ X, X = nuN ((List.range 8).map fun i => padB W c 0 (0 + i)) 8 := ⟨_, rfl⟩
  obtain ⟨Y, hY⟩ : ∃ Y, Y = nuN ((List.range 8).map fun i => padB W c 0 (8 + i)) 8 := ⟨_, rfl⟩
  have hXl : X < 18446744073709551616 := by rw [hX]; exact nuN_lt hP1.byte 8
  have hYl : Y < 18446744073709551616 := by rw [hY]; exact nuN_lt hP2.byte 8
  have HR : Hid (X % 2305843009213693951 = tgR W c) := by rw [hX]; rfl
  have HS : Hid (Y % 2305843009213693951 = tgS W c) := by rw [hY]; rfl
  have hc1 := fun w' (hg : w2.grownBy w' none) => number_any _ 8 64 _ w' (hP1.keep hg) (by decide)
  have hc2 := fun w' (hg : w2.grownBy w' none) => number_any _ 8 56 _ w' (hP2.keep hg) (by decide)
  rw [← hX] at hc1
  rw [← hY] at hc2
  obtain ⟨R, hR⟩ : ∃ R, R = X % 2305843009213693951 := ⟨_, rfl⟩
  obtain ⟨T, hT⟩ : ∃ T, T = Y % 2305843009213693951 := ⟨_, rfl⟩
  have eR : (X : Int) % 2305843009213693951 = (R : Int) := by rw [hR, Int.natCast_emod]; rfl
  have eT : (Y : Int) % 2305843009213693951 = (T : Int) := by rw [hT, Int.natCast_emod]; rfl
  have eR' : (X : Int).tmod 2305843009213693951 = (R : Int) := by rw [Int.tmod_eq_emod_of_nonneg (by omega)]; exact eR
  have eT' : (Y : Int).tmod 2305843009213693951 = (T : Int) := by rw [Int.tmod_eq_emod_of_nonneg (by omega)]; exact eT
  have HR' : Hid (R = tgR W c) := by rw [hR]; exact HR.out
  have HT' : Hid (T = tgS W c) := by rw [hT]; exact HS.out
  have bR : R < 2305843009213693951 := by rw [hR]; exact Nat.mod_lt _ (by decide)
  have bT : T < 2305843009213693951 := by rw [hT]; exact Nat.mod_lt _ (by decide)
  clear hX hY hR hT HR HS hP1 hP2
  rename_i KK hKK
  have hrest : KK { tmps := #[.slice a 8 cap, .int .i64 (c : Nat), .slice bo n cb, undef, undef, undef, .slice none 0 0, .pointer (some ⟨w1.heap.size, 0, none⟩), .pointer (some ⟨w2.heap.size, 0, none⟩), .int .u64 (T : Nat), undef, undef, .slice a 8 cap, .int .i64 (c : Nat), .agg (kys .u8 64 (padB W c 0)), .slice (some ⟨w1.heap.size, 0, none⟩) 8 64, .int .u64 (X : Nat), .int .u64 (R : Nat), .slice (some ⟨w1.heap.size, 8, none⟩) 8 56, .int .u64 (Y : Nat), .int .u64 (T : Nat), undef, undef, undef, undef, undef, undef, undef, undef, undef, undef, undef, undef, undef, undef, undef, undef, undef, undef, undef], defers := [] } (w2.alloc (.cells #[.int .u64 (R : Nat)] 52)).drew := by
    refine hKK _ _ ?_
    clear hc1 hc2 eR eT eR' eT'
    gi_wp2_with (first
      | (refine ⟨trivial, ?_⟩; gi_at_call 43; refine (chunks_in 4 bo n cb 7 _).mono ?_; rintro e w4 ⟨rfl, hw4⟩; have HW4 : Hid _ := hw4; clear hw4))
    have hw4 := HW4.out
    clear HW4
    have bR4 : Boxed w4 w2.heap.size 52 (.int .u64 (R : Nat)) := by rw [hw4]; exact (((Boxed.new w2 52 (.int .u64 (R : Nat))).alloc _).alloc _).alloc _
    have bS4 : Boxed w4 (w2.heap.size + 1) 52 (.int .u64 0) := by
      rw [hw4]
      have h := Boxed.new (w2.alloc (.cells #[.int .u64 (R : Nat)] 52)) 52 (.int .u64 0)
      rw [World.size_alloc] at h
      exact (h.alloc _).alloc _
    have bL4 : Boxed w4 (w2.heap.size + 1 + 1) 25 (.slice bo n cb) := by
      rw [hw4]
      have h := Boxed.new ((w2.alloc (.cells #[.int .u64 (R : Nat)] 52)).alloc (.cells #[.int .u64 0] 52)) 25 (.slice bo n cb)
      simp only [World.size_alloc] at h
      exact h.alloc _
    have b74 : Boxed w4 (w2.heap.size + 1 + 1 + 1) 3 (.int .i64 7) := by
      rw [hw4]
      have h := Boxed.new (((w2.alloc (.cells #[.int .u64 (R : Nat)] 52)).alloc (.cells #[.int .u64 0] 52)).alloc (.cells #[.slice bo n cb] 25)) 3 (.int .i64 7)
      simp only [World.size_alloc] at h
      exact h
    have g24 : w2.grownBy w4 none := by
      rw [hw4]
      exact grown_trans (grown_trans (grown_trans (grown_trans (World.grownBy_alloc w2 _ none) (World.grownBy_alloc _ _ none)) (grown_drew _ none)) (World.grownBy_alloc _ _ none)) (World.grownBy_alloc _ _ none)
    have hs4 : w4.heap.size = w2.heap.size + 1 + 1 + 1 + 1 := by rw [hw4]; simp
    clear hw4
    have g04 := grown_trans g02 g24
    have hB4 : Below w.heap.size w w4 := below_of_grown g04
    have hs02 := g02.size
    have HL : Hid (B.length = n) := hb.len
    obtain ⟨m, hm⟩ : ∃ m, m = (n + 6) / 7 := ⟨_, rfl⟩
    have hm0 : n = 0 → m = 0 := fun h => by omega
    have hm1 : n ≤ 7 * m := by omega
    have hm2 : ∀ k, k < m → 7 * k < n := fun k hk => by omega
    have hI0 : tgI B R w w2.heap.size n cb bo m [] w4 := ⟨bS4, bR4, bL4, b74, hB4⟩
    have hIo := tgI_own B R w w2.heap.size n cb bo m w4.heap.size (by omega)
    have hXo := tgX_own m w4.heap.size
    have hst := chunks_stops 4 (w2.heap.size + 1 + 1) (w2.heap.size + 1 + 1 + 1) n 7 m cb (fun k => k < w.heap.size ∨ k = w2.heap.size + 1 + 1 ∨ k = w2.heap.size + 1 + 1 + 1) bo B w4 (by decide) (hb.keep g04) (by decide) (by decide) hm0 hm1 hm2 hn (.inr (.inl rfl)) (.inr (.inr rfl)) (fun k hk => by omega) bL4.cell b74.cell
    have hput := KeepB.put (p := fun k => k < w.heap.size ∨ k = w2.heap.size + 1 + 1 ∨ k = w2.heap.size + 1 + 1 + 1) (w := w4) (fun k hk => by omega)
    have hent := enters_of Tryd.func58 (by kernel_rfl) rfl
    clear bR4 bS4 bL4 b74
    refine wpIn_rangeFunc_ownG (n := 5) (F := Fence.wide) rfl (by decide) (gf := 58) (lb := #[.pointer (some ⟨w2.heap.size + 1 + 1, 0, none⟩), .pointer (some ⟨w2.heap.size + 1 + 1 + 1, 0, none⟩)]) rfl trivial hent hst KeepB.trans hput (Below.refl _ _) (fun _ => rfl)
      (tgI B R w w2.heap.size n cb bo m) (tgX m) hIo hXo hI0
      (fun x => { tmps := #[.slice a 8 cap, .int .i64 (c : Nat), .slice bo n cb, undef, undef, undef, .slice none 0 0, .pointer (some ⟨w1.heap.size, 0, none⟩), .pointer (some ⟨w2.heap.size, 0, none⟩), .int .u64 (T : Nat), .pointer (some ⟨w2.heap.size + 1, 0, none⟩), .slice (chA bo 7 x.1) (chL n 7 x.1) (cb - 7 * x.1), .slice a 8 cap, .int .i64 (c : Nat), .agg (kys .u8 64 (padB W c 0)), .slice (some ⟨w1.heap.size, 0, none⟩) 8 64, .int .u64 (X : Nat), .int .u64 (R : Nat), .slice (some ⟨w1.heap.size, 8, none⟩) 8 56, .int .u64 (Y : Nat), .int .u64 (T : Nat), .slice bo n cb, .func (.func 58) #[] #[.pointer (some ⟨w2.heap.size + 1 + 1, 0, none⟩), .pointer (some ⟨w2.heap.size + 1 + 1 + 1, 0, none⟩)], .slice (chA bo 7 x.1) (chL n 7 x.1) (cb - 7 * x.1), undef, undef, undef, undef, undef, undef, undef, undef, undef, undef, undef, undef, undef, undef, undef, undef], defers := [] }) ?assign ?body ?done ?stop
    case assign =>
      intro l x W K hK
      gi_wp2
      exact hK
    case body =>
      rintro l pre x W' ⟨bS, bR', bL, b7, hB⟩ hlt
      have hP := ch_rd (s := 7) (hb.keep (grown_of_below hB)) x.1 (hm2 x.1 x.2)
      have hLen : (chB B 7 x.1).length = chL n 7 x.1 := by rw [chB_len, HL.out]
      have hL7 : chL n 7 x.1 ≤ 7 := by unfold chL; omega
      have hN := (callsIn_wide (n := 2)).2 (number_any _ _ _ _ W'.drew (hP.keep (grown_drew _ _)) (by omega))
      have hv := nuN_lt hP.byte (chL n 7 x.1)
      have hpw : 256 ^ chL n 7 x.1 ≤ 72057594037927936 := pow_seven _ (by omega)
      have hsl := tgF_lt B R (pre.map (·.1))
      obtain ⟨s, hs⟩ : ∃ s, s = tgF B R (pre.map (·.1)) := ⟨_, rfl⟩
      obtain ⟨v, hv'⟩ : ∃ v, v = nuN (chB B 7 x.1) (chL n 7 x.1) := ⟨_, rfl⟩
      obtain ⟨p, hp'⟩ : ∃ p, p = 256 ^ chL n 7 x.1 := ⟨_, rfl⟩
      have hG : grV B x.1 = v + p := by unfold grV; rw [hLen, hv', hp']
      have hpe : (2 : Int) ^ (8 * chL n 7 x.1) = (p : Int) := by
        rw [hp', Int.natCast_pow, Int.pow_mul]; rfl
      rw [← hv'] at hN hv
      rw [← hp'] at hv hpw
      rw [← hs] at bS hsl
      have hT := (callsIn_wide (n := 2)).2 (times_any (s + v + p) R (by omega) (by omega) W'.drew)
      have HF : Hid ((s + v + p) * R % 2305843009213693951 = tgF B R ((pre ++ [x]).map (·.1))) := by
        show _ = _
        unfold tgF at hs ⊢
        rw [List.map_append, List.foldl_append, ← hs]
        show _ = (s + grV B x.1) * R % 2305843009213693951
        rw [hG, Nat.add_assoc]
      obtain ⟨y, hy⟩ : ∃ y, y = (s + v + p) * R % 2305843009213693951 := ⟨_, rfl⟩
      rw [← hy] at hT HF
      have cS := bS.cell
      have fS := bS.frozen
      have cR := bR'.cell
      have hLi : ((chL n 7 x.1 : Nat) : Int) ≤ 7 := by omega
      clear hs hv' hp' hG hy hP hLen
      generalize chL n 7 x.1 = L at *
      obtain ⟨q8, hq8⟩ : ∃ q8, q8 = 8 * L := ⟨_, rfl⟩
      have f1 : IntKind.i64.wrap (8 * (L : Int)) = (q8 : Int) := by rw [wrap_i64_in _ (by omega) (by omega)]; omega
      have f0 : q8 < 64 := by omega
      rw [← hq8] at hpe
      obtain ⟨a1, ha1⟩ : ∃ a1, a1 = s + v := ⟨_, rfl⟩
      obtain ⟨a2, ha2⟩ : ∃ a2, a2 = s + v + p := ⟨_, rfl⟩
      rw [← ha2] at hT
      have f2 : IntKind.u64.wrap ((s : Int) + (v : Int)) = (a1 : Int) := by rw [IntKind.wrap_u64]; omega
      have f3 : IntKind.u64.wrap (p : Int) = (p : Int) := by rw [IntKind.wrap_u64]; omega
      have f4 : IntKind.u64.wrap ((a1 : Int) + (p : Int)) = (a2 : Int) := by rw [IntKind.wrap_u64]; omega
      have f5 : a2 < 18446744073709551616 := by omega
      have f6 : (p : Int) % 18446744073709551616 = (p : Int) := by omega
      clear ha1 ha2 hq8
      gi_wp2
      refine then_var (T := fun a' W'' => ownPostG w4.heap.size (KeepB fun k => k < w.heap.size ∨ k = w2.heap.size + 1 + 1 ∨ k = w2.heap.size + 1 + 1 + 1) (tgI B R w w2.heap.size n cb bo m) (tgX m) (pre ++ [x]) W' Exit.normal a' W'') ?_ (fun e a w h => by cases e <;> first | exact h | exact h.elim)
      intro KB hKB
      have hend : ∀ mm, ownPostG w4.heap.size (KeepB fun k => k < w.heap.size ∨ k = w2.heap.size + 1 + 1 ∨ k = w2.heap.size + 1 + 1 + 1) (tgI B R w w2.heap.size n cb bo m) (tgX m) (pre ++ [x]) W' Exit.normal { tmps := #[], defers := [] } (((W'.drewN (1 + mm)).setCell ⟨w2.heap.size + 1, 0, none⟩ (.int .u64 (y : Nat)))) := by
        intro mm
        have hne : w2.heap.size ≠ w2.heap.size + 1 := by omega
        have hne3 : w2.heap.size + 1 + 1 ≠ w2.heap.size + 1 := by omega
        have hne4 : w2.heap.size + 1 + 1 + 1 ≠ w2.heap.size + 1 := by omega
        refine ⟨(KeepsOthers.trans (A := W') (B := W'.drewN (1 + mm)) ⟨Nat.le_refl _, fun _ _ h _ => h⟩ (KeepsOthers.setCell _ _ _)).from _, ?_, ?_, ?_, ?_, ?_, ?_⟩
        · intro k hk
          have hks : k ≠ w2.heap.size + 1 := by omega
          exact Below.heap_setCell _ _ _ k hks
        · rw [← HF.out]
          exact Boxed.set (W := W'.drewN (1 + mm)) _ bS
        · exact Eq.trans (Below.heap_setCell _ _ _ _ hne) bR'
        · exact Eq.trans (Below.heap_setCell _ _ _ _ hne3) bL
        · exact Eq.trans (Below.heap_setCell _ _ _ _ hne4) b7
        · exact Below.setCell (p := ⟨w2.heap.size + 1, 0, none⟩) (hB.trans (below_drewN _ _ _)) (by simp; omega) _
      refine wpIn_region_any (by kernel_rfl) ?_
      try (change wpAnyIn _ _ _ _ _ _ _ _ _ (World.drew _))
      refine share1 ?_
      intro G1 hG1
      refine share ?_ (hG1 _)
      intro G hG
      have htail : ∀ mm, G1 (W'.drewN (1 + mm)) 1 #[true, true, true, true, true, true, true, true, true, true, true, false] { tmps := #[.slice a 8 cap, .int .i64 (c : Nat), .slice bo n cb, undef, undef, undef, .slice none 0 0, .pointer (some ⟨w1.heap.size, 0, none⟩), .pointer (some ⟨w2.heap.size, 0, none⟩), .int .u64 (T : Nat), .pointer (some ⟨w2.heap.size + 1, 0, none⟩), .slice (chA bo 7 x.1) L (cb - 7 * x.1), .slice a 8 cap, .int .i64 (c : Nat), .agg (kys .u8 64 (padB W c 0)), .slice (some ⟨w1.heap.size, 0, none⟩) 8 64, .int .u64 (X : Nat), .int .u64 (R : Nat), .slice (some ⟨w1.heap.size, 8, none⟩) 8 56, .int .u64 (Y : Nat), .int .u64 (T : Nat), .slice bo n cb, .func (.func 58) #[] #[.pointer (some ⟨w2.heap.size + 1 + 1, 0, none⟩), .pointer (some ⟨w2.heap.size + 1 + 1 + 1, 0, none⟩)], .slice (chA bo 7 x.1) L (cb - 7 * x.1), .int .u64 (s : Nat), .slice (chA bo 7 x.1) L (cb - 7 * x.1), .int .u64 (v : Nat), .int .u64 (a1 : Nat), .slice (chA bo 7 x.1) L (cb - 7 * x.1), .int .i64 (L : Nat), .int .i64 (q8 : Nat), .int .u64 (p : Nat), .int .u64 (a2 : Nat), .int .u64 (R : Nat), .int .u64 (y : Nat), undef, undef, undef, undef, undef], defers := [] } := by
        intro mm
        refine (hG1 _ _ _ _).2 ?_
        refine wpAnyIn_ready (rs := [11]) (by kernel_rfl) (by simp) ?_
        refine AllReadyIn.cons rfl (fun K hK => ?_) ?_
        · go_simp
          refine hK _ _ ?_
          refine wpAnyIn_done (by kernel_rfl) ?_ _
          refine hKB _ _ ?_
          exact hend mm
        exact AllReadyIn.nil
      have htail := fun mm => (hG1 _ _ _ _).1 (htail mm)
      have gabcdefghij : G 2 #[true, true, true, true, true, true, true, true, true, true, false, false] { tmps := #[.slice a 8 cap, .int .i64 (c : Nat), .slice bo n cb, undef, undef, undef, .slice none 0 0, .pointer (some ⟨w1.heap.size, 0, none⟩), .pointer (some ⟨w2.heap.size, 0, none⟩), .int .u64 (T : Nat), .pointer (some ⟨w2.heap.size + 1, 0, none⟩), .slice (chA bo 7 x.1) L (cb - 7 * x.1), .slice a 8 cap, .int .i64 (c : Nat), .agg (kys .u8 64 (padB W c 0)), .slice (some ⟨w1.heap.size, 0, none⟩) 8 64, .int .u64 (X : Nat), .int .u64 (R : Nat), .slice (some ⟨w1.heap.size, 8, none⟩) 8 56, .int .u64 (Y : Nat), .int .u64 (T : Nat), .slice bo n cb, .func (.func 58) #[] #[.pointer (some ⟨w2.heap.size + 1 + 1, 0, none⟩), .pointer (some ⟨w2.heap.size + 1 + 1 + 1, 0, none⟩)], .slice (chA bo 7 x.1) L (cb - 7 * x.1), .int .u64 (s : Nat), .slice (chA bo 7 x.1) L (cb - 7 * x.1), .int .u64 (v : Nat), .int .u64 (a1 : Nat), .slice (chA bo 7 x.1) L (cb - 7 * x.1), .int .i64 (L : Nat), .int .i64 (q8 : Nat), .int .u64 (p : Nat), .int .u64 (a2 : Nat), .int .u64 (R : Nat), undef, undef, undef, undef, undef, undef], defers := [] } := by
        refine (hG _ _ _).2 ?_
        refine wpAnyIn_ready (rs := [10]) (by kernel_rfl) (by simp) ?_
        refine AllReadyIn.cons rfl (fun K hK => ?_) ?_
        · go_simp
          gi_wp2_with (refine ⟨trivial, ?_⟩; gi_at_call 44; with_reducible refine (CallsIn.inRound l hT).mono ?_; rintro e wx ⟨rfl, mm, hw⟩; subst hw)
          first | exact hK _ _ (htail mm) | exact htail mm
        exact AllReadyIn.nil
      have gabcdefghi : G 3 #[true, true, true, true, true, true, true, true, true, false, false, false] { tmps := #[.slice a 8 cap, .int .i64 (c : Nat), .slice bo n cb, undef, undef, undef, .slice none 0 0, .pointer (some ⟨w1.heap.size, 0, none⟩), .pointer (some ⟨w2.heap.size, 0, none⟩), .int .u64 (T : Nat), .pointer (some ⟨w2.heap.size + 1, 0, none⟩), .slice (chA bo 7 x.1) L (cb - 7 * x.1), .slice a 8 cap, .int .i64 (c : Nat), .agg (kys .u8 64 (padB W c 0)), .slice (some ⟨w1.heap.size, 0, none⟩) 8 64, .int .u64 (X : Nat), .int .u64 (R : Nat), .slice (some ⟨w1.heap.size, 8, none⟩) 8 56, .int .u64 (Y : Nat), .int .u64 (T : Nat), .slice bo n cb, .func (.func 58) #[] #[.pointer (some ⟨w2.heap.size + 1 + 1, 0, none⟩), .pointer (some ⟨w2.heap.size + 1 + 1 + 1, 0, none⟩)], .slice (chA bo 7 x.1) L (cb - 7 * x.1), .int .u64 (s : Nat), .slice (chA bo 7 x.1) L (cb - 7 * x.1), .int .u64 (v : Nat), .int .u64 (a1 : Nat), .slice (chA bo 7 x.1) L (cb - 7 * x.1), .int .i64 (L : Nat), .int .i64 (q8 : Nat), .int .u64 (p : Nat), .int .u64 (a2 : Nat), undef, undef, undef, undef, undef, undef, undef], defers := [] } := by
        refine (hG _ _ _).2 ?_
        refine wpAnyIn_ready (rs := [9]) (by kernel_rfl) (by simp) ?_
        refine AllReadyIn.cons rfl (fun K hK => ?_) ?_
        · go_simp
          exact hK _ _ ((hG _ _ _).1 gabcdefghij)
        exact AllReadyIn.nil
      have gabcdefghj : G 3 #[true, true, true, true, true, true, true, true, false, true, false, false] { tmps := #[.slice a 8 cap, .int .i64 (c : Nat), .slice bo n cb, undef, undef, undef, .slice none 0 0, .pointer (some ⟨w1.heap.size, 0, none⟩), .pointer (some ⟨w2.heap.size, 0, none⟩), .int .u64 (T : Nat), .pointer (some ⟨w2.heap.size + 1, 0, none⟩), .slice (chA bo 7 x.1) L (cb - 7 * x.1), .slice a 8 cap, .int .i64 (c : Nat), .agg (kys .u8 64 (padB W c 0)), .slice (some ⟨w1.heap.size, 0, none⟩) 8 64, .int .u64 (X : Nat), .int .u64 (R : Nat), .slice (some ⟨w1.heap.size, 8, none⟩) 8 56, .int .u64 (Y : Nat), .int .u64 (T : Nat), .slice bo n cb, .func (.func 58) #[] #[.pointer (some ⟨w2.heap.size + 1 + 1, 0, none⟩), .pointer (some ⟨w2.heap.size + 1 + 1 + 1, 0, none⟩)], .slice (chA bo 7 x.1) L (cb - 7 * x.1), .int .u64 (s : Nat), .slice (chA bo 7 x.1) L (cb - 7 * x.1), .int .u64 (v : Nat), .int .u64 (a1 : Nat), .slice (chA bo 7 x.1) L (cb - 7 * x.1), .int .i64 (L : Nat), .int .i64 (q8 : Nat), .int .u64 (p : Nat), undef, .int .u64 (R : Nat), undef, undef, undef, undef, undef, undef], defers := [] } := by
        refine (hG _ _ _).2 ?_
        refine wpAnyIn_ready (rs := [8]) (by kernel_rfl) (by simp) ?_
        refine AllReadyIn.cons rfl (fun K hK => ?_) ?_
        · go_simp
          exact hK _ _ ((hG _ _ _).1 gabcdefghij)
        exact AllReadyIn.nil
      have gabcdefgh : G 4 #[true, true, true, true, true, true, true, true, false, false, false, false] { tmps := #[.slice a 8 cap, .int .i64 (c : Nat), .slice bo n cb, undef, undef, undef, .slice none 0 0, .pointer (some ⟨w1.heap.size, 0, none⟩), .pointer (some ⟨w2.heap.size, 0, none⟩), .int .u64 (T : Nat), .pointer (some ⟨w2.heap.size + 1, 0, none⟩), .slice (chA bo 7 x.1) L (cb - 7 * x.1), .slice a 8 cap, .int .i64 (c : Nat), .agg (kys .u8 64 (padB W c 0)), .slice (some ⟨w1.heap.size, 0, none⟩) 8 64, .int .u64 (X : Nat), .int .u64 (R : Nat), .slice (some ⟨w1.heap.size, 8, none⟩) 8 56, .int .u64 (Y : Nat), .int .u64 (T : Nat), .slice bo n cb, .func (.func 58) #[] #[.pointer (some ⟨w2.heap.size + 1 + 1, 0, none⟩), .pointer (some ⟨w2.heap.size + 1 + 1 + 1, 0, none⟩)], .slice (chA bo 7 x.1) L (cb - 7 * x.1), .int .u64 (s : Nat), .slice (chA bo 7 x.1) L (cb - 7 * x.1), .int .u64 (v : Nat), .int .u64 (a1 : Nat), .slice (chA bo 7 x.1) L (cb - 7 * x.1), .int .i64 (L : Nat), .int .i64 (q8 : Nat), .int .u64 (p : Nat), undef, undef, undef, undef, undef, undef, undef, undef], defers := [] } := by
        refine (hG _ _ _).2 ?_
        refine wpAnyIn_ready (rs := [8, 9]) (by kernel_rfl) (by simp) ?_
        refine AllReadyIn.cons rfl (fun K hK => ?_) ?_
        · go_simp
          exact hK _ _ ((hG _ _ _).1 gabcdefghi)
        refine AllReadyIn.cons rfl (fun K hK => ?_) ?_
        · go_simp
          exact hK _ _ ((hG _ _ _).1 gabcdefghj)
        exact AllReadyIn.nil
      have gabcdefgj : G 4 #[true, true, true, true, true, true, true, false, false, true, false, false] { tmps := #[.slice a 8 cap, .int .i64 (c : Nat), .slice bo n cb, undef, undef, undef, .slice none 0 0, .pointer (some ⟨w1.heap.size, 0, none⟩), .pointer (some ⟨w2.heap.size, 0, none⟩), .int .u64 (T : Nat), .pointer (some ⟨w2.heap.size + 1, 0, none⟩), .slice (chA bo 7 x.1) L (cb - 7 * x.1), .slice a 8 cap, .int .i64 (c : Nat), .agg (kys .u8 64 (padB W c 0)), .slice (some ⟨w1.heap.size, 0, none⟩) 8 64, .int .u64 (X : Nat), .int .u64 (R : Nat), .slice (some ⟨w1.heap.size, 8, none⟩) 8 56, .int .u64 (Y : Nat), .int .u64 (T : Nat), .slice bo n cb, .func (.func 58) #[] #[.pointer (some ⟨w2.heap.size + 1 + 1, 0, none⟩), .pointer (some ⟨w2.heap.size + 1 + 1 + 1, 0, none⟩)], .slice (chA bo 7 x.1) L (cb - 7 * x.1), .int .u64 (s : Nat), .slice (chA bo 7 x.1) L (cb - 7 * x.1), .int .u64 (v : Nat), .int .u64 (a1 : Nat), .slice (chA bo 7 x.1) L (cb - 7 * x.1), .int .i64 (L : Nat), .int .i64 (q8 : Nat), undef, undef, .int .u64 (R : Nat), undef, undef, undef, undef, undef, undef], defers := [] } := by
        refine (hG _ _ _).2 ?_
        refine wpAnyIn_ready (rs := [7]) (by kernel_rfl) (by simp) ?_
        refine AllReadyIn.cons rfl (fun K hK => ?_) ?_
        · go_simp
          exact hK _ _ ((hG _ _ _).1 gabcdefghj)
        exact AllReadyIn.nil
      have gabcefghj : G 4 #[true, true, true, false, true, true, true, true, false, true, false, false] { tmps := #[.slice a 8 cap, .int .i64 (c : Nat), .slice bo n cb, undef, undef, undef, .slice none 0 0, .pointer (some ⟨w1.heap.size, 0, none⟩), .pointer (some ⟨w2.heap.size, 0, none⟩), .int .u64 (T : Nat), .pointer (some ⟨w2.heap.size + 1, 0, none⟩), .slice (chA bo 7 x.1) L (cb - 7 * x.1), .slice a 8 cap, .int .i64 (c : Nat), .agg (kys .u8 64 (padB W c 0)), .slice (some ⟨w1.heap.size, 0, none⟩) 8 64, .int .u64 (X : Nat), .int .u64 (R : Nat), .slice (some ⟨w1.heap.size, 8, none⟩) 8 56, .int .u64 (Y : Nat), .int .u64 (T : Nat), .slice bo n cb, .func (.func 58) #[] #[.pointer (some ⟨w2.heap.size + 1 + 1, 0, none⟩), .pointer (some ⟨w2.heap.size + 1 + 1 + 1, 0, none⟩)], .slice (chA bo 7 x.1) L (cb - 7 * x.1), .int .u64 (s : Nat), .slice (chA bo 7 x.1) L (cb - 7 * x.1), .int .u64 (v : Nat), undef, .slice (chA bo 7 x.1) L (cb - 7 * x.1), .int .i64 (L : Nat), .int .i64 (q8 : Nat), .int .u64 (p : Nat), undef, .int .u64 (R : Nat), undef, undef, undef, undef, undef, undef], defers := [] } := by
        refine (hG _ _ _).2 ?_
        refine wpAnyIn_ready (rs := [3]) (by kernel_rfl) (by simp) ?_
        refine AllReadyIn.cons rfl (fun K hK => ?_) ?_
        · go_simp
          exact hK _ _ ((hG _ _ _).1 gabcdefghj)
        exact AllReadyIn.nil
      have gabcdefg : G 5 #[true, true, true, true, true, true, true, false, false, false, false, false] { tmps := #[.slice a 8 cap, .int .i64 (c : Nat), .slice bo n cb, undef, undef, undef, .slice none 0 0, .pointer (some ⟨w1.heap.size, 0, none⟩), .pointer (some ⟨w2.heap.size, 0, none⟩), .int .u64 (T : Nat), .pointer (some ⟨w2.heap.size + 1, 0, none⟩), .slice (chA bo 7 x.1) L (cb - 7 * x.1), .slice a 8 cap, .int .i64 (c : Nat), .agg (kys .u8 64 (padB W c 0)), .slice (some ⟨w1.heap.size, 0, none⟩) 8 64, .int .u64 (X : Nat), .int .u64 (R : Nat), .slice (some ⟨w1.heap.size, 8, none⟩) 8 56, .int .u64 (Y : Nat), .int .u64 (T : Nat), .slice bo n cb, .func (.func 58) #[] #[.pointer (some ⟨w2.heap.size + 1 + 1, 0, none⟩), .pointer (some ⟨w2.heap.size + 1 + 1 + 1, 0, none⟩)], .slice (chA bo 7 x.1) L (cb - 7 * x.1), .int .u64 (s : Nat), .slice (chA bo 7 x.1) L (cb - 7 * x.1), .int .u64 (v : Nat), .int .u64 (a1 : Nat), .slice (chA bo 7 x.1) L (cb - 7 * x.1), .int .i64 (L : Nat), .int .i64 (q8 : Nat), undef, undef, undef, undef, undef, undef, undef, undef, undef], defers := [] } := by
        refine (hG _ _ _).2 ?_
        refine wpAnyIn_ready (rs := [7, 9]) (by kernel_rfl) (by simp) ?_
        refine AllReadyIn.cons rfl (fun K hK => ?_) ?_
        · go_simp
          exact hK _ _ ((hG _ _ _).1 gabcdefgh)
        refine AllReadyIn.cons rfl (fun K hK => ?_) ?_
        · go_simp
          exact hK _ _ ((hG _ _ _).1 gabcdefgj)
        exact AllReadyIn.nil
      have gabcdefj : G 5 #[true, true, true, true, true, true, false, false, false, true, false, false] { tmps := #[.slice a 8 cap, .int .i64 (c : Nat), .slice bo n cb, undef, undef, undef, .slice none 0 0, .pointer (some ⟨w1.heap.size, 0, none⟩), .pointer (some ⟨w2.heap.size, 0, none⟩), .int .u64 (T : Nat), .pointer (some ⟨w2.heap.size + 1, 0, none⟩), .slice (chA bo 7 x.1) L (cb - 7 * x.1), .slice a 8 cap, .int .i64 (c : Nat), .agg (kys .u8 64 (padB W c 0)), .slice (some ⟨w1.heap.size, 0, none⟩) 8 64, .int .u64 (X : Nat), .int .u64 (R : Nat), .slice (some ⟨w1.heap.size, 8, none⟩) 8 56, .int .u64 (Y : Nat), .int .u64 (T : Nat), .slice bo n cb, .func (.func 58) #[] #[.pointer (some ⟨w2.heap.size + 1 + 1, 0, none⟩), .pointer (some ⟨w2.heap.size + 1 + 1 + 1, 0, none⟩)], .slice (chA bo 7 x.1) L (cb - 7 * x.1), .int .u64 (s : Nat), .slice (chA bo 7 x.1) L (cb - 7 * x.1), .int .u64 (v : Nat), .int .u64 (a1 : Nat), .slice (chA bo 7 x.1) L (cb - 7 * x.1), .int .i64 (L : Nat), undef, undef, undef, .int .u64 (R : Nat), undef, undef, undef, undef, undef, undef], defers := [] } := by
        refine (hG _ _ _).2 ?_
        refine wpAnyIn_ready (rs := [6]) (by kernel_rfl) (by simp) ?_
        refine AllReadyIn.cons rfl (fun K hK => ?_) ?_
        · go_simp
          exact hK _ _ ((hG _ _ _).1 gabcdefgj)
        exact AllReadyIn.nil
      have gabcefgh : G 5 #[true, true, true, false, true, true, true, true, false, false, false, false] { tmps := #[.slice a 8 cap, .int .i64 (c : Nat), .slice bo n cb, undef, undef, undef, .slice none 0 0, .pointer (some ⟨w1.heap.size, 0, none⟩), .pointer (some ⟨w2.heap.size, 0, none⟩), .int .u64 (T : Nat), .pointer (some ⟨w2.heap.size + 1, 0, none⟩), .slice (chA bo 7 x.1) L (cb - 7 * x.1), .slice a 8 cap, .int .i64 (c : Nat), .agg (kys .u8 64 (padB W c 0)), .slice (some ⟨w1.heap.size, 0, none⟩) 8 64, .int .u64 (X : Nat), .int .u64 (R : Nat), .slice (some ⟨w1.heap.size, 8, none⟩) 8 56, .int .u64 (Y : Nat), .int .u64 (T : Nat), .slice bo n cb, .func (.func 58) #[] #[.pointer (some ⟨w2.heap.size + 1 + 1, 0, none⟩), .pointer (some ⟨w2.heap.size + 1 + 1 + 1, 0, none⟩)], .slice (chA bo 7 x.1) L (cb - 7 * x.1), .int .u64 (s : Nat), .slice (chA bo 7 x.1) L (cb - 7 * x.1), .int .u64 (v : Nat), undef, .slice (chA bo 7 x.1) L (cb - 7 * x.1), .int .i64 (L : Nat), .int .i64 (q8 : Nat), .int .u64 (p : Nat), undef, undef, undef, undef, undef, undef, undef, undef], defers := [] } := by
        refine (hG _ _ _).2 ?_
        refine wpAnyIn_ready (rs := [3, 9]) (by kernel_rfl) (by simp) ?_
        refine AllReadyIn.cons rfl (fun K hK => ?_) ?_
        · go_simp
          exact hK _ _ ((hG _ _ _).1 gabcdefgh)
        refine AllReadyIn.cons rfl (fun K hK => ?_) ?_
        · go_simp
          exact hK _ _ ((hG _ _ _).1 gabcefghj)
        exact AllReadyIn.nil
      have gabcefgj : G 5 #[true, true, true, false, true, true, true, false, false, true, false, false] { tmps := #[.slice a 8 cap, .int .i64 (c : Nat), .slice bo n cb, undef, undef, undef, .slice none 0 0, .pointer (some ⟨w1.heap.size, 0, none⟩), .pointer (some ⟨w2.heap.size, 0, none⟩), .int .u64 (T : Nat), .pointer (some ⟨w2.heap.size + 1, 0, none⟩), .slice (chA bo 7 x.1) L (cb - 7 * x.1), .slice a 8 cap, .int .i64 (c : Nat), .agg (kys .u8 64 (padB W c 0)), .slice (some ⟨w1.heap.size, 0, none⟩) 8 64, .int .u64 (X : Nat), .int .u64 (R : Nat), .slice (some ⟨w1.heap.size, 8, none⟩) 8 56, .int .u64 (Y : Nat), .int .u64 (T : Nat), .slice bo n cb, .func (.func 58) #[] #[.pointer (some ⟨w2.heap.size + 1 + 1, 0, none⟩), .pointer (some ⟨w2.heap.size + 1 + 1 + 1, 0, none⟩)], .slice (chA bo 7 x.1) L (cb - 7 * x.1), .int .u64 (s : Nat), .slice (chA bo 7 x.1) L (cb - 7 * x.1), .int .u64 (v : Nat), undef, .slice (chA bo 7 x.1) L (cb - 7 * x.1), .int .i64 (L : Nat), .int .i64 (q8 : Nat), undef, undef, .int .u64 (R : Nat), undef, undef, undef, undef, undef, undef], defers := [] } := by
        refine (hG _ _ _).2 ?_
        refine wpAnyIn_ready (rs := [3, 7]) (by kernel_rfl) (by simp) ?_
        refine AllReadyIn.cons rfl (fun K hK => ?_) ?_
        · go_simp
          exact hK _ _ ((hG _ _ _).1 gabcdefgj)
        refine AllReadyIn.cons rfl (fun K hK => ?_) ?_
        · go_simp
          exact hK _ _ ((hG _ _ _).1 gabcefghj)
        exact AllReadyIn.nil
      have gabefghj : G 5 #[true, true, false, false, true, true, true, true, false, true, false, false] { tmps := #[.slice a 8 cap, .int .i64 (c : Nat), .slice bo n cb, undef, undef, undef, .slice none 0 0, .pointer (some ⟨w1.heap.size, 0, none⟩), .pointer (some ⟨w2.heap.size, 0, none⟩), .int .u64 (T : Nat), .pointer (some ⟨w2.heap.size + 1, 0, none⟩), .slice (chA bo 7 x.1) L (cb - 7 * x.1), .slice a 8 cap, .int .i64 (c : Nat), .agg (kys .u8 64 (padB W c 0)), .slice (some ⟨w1.heap.size, 0, none⟩) 8 64, .int .u64 (X : Nat), .int .u64 (R : Nat), .slice (some ⟨w1.heap.size, 8, none⟩) 8 56, .int .u64 (Y : Nat), .int .u64 (T : Nat), .slice bo n cb, .func (.func 58) #[] #[.pointer (some ⟨w2.heap.size + 1 + 1, 0, none⟩), .pointer (some ⟨w2.heap.size + 1 + 1 + 1, 0, none⟩)], .slice (chA bo 7 x.1) L (cb - 7 * x.1), .int .u64 (s : Nat), .slice (chA bo 7 x.1) L (cb - 7 * x.1), undef, undef, .slice (chA bo 7 x.1) L (cb - 7 * x.1), .int .i64 (L : Nat), .int .i64 (q8 : Nat), .int .u64 (p : Nat), undef, .int .u64 (R : Nat), undef, undef, undef, undef, undef, undef], defers := [] } := by
        refine (hG _ _ _).2 ?_
        refine wpAnyIn_ready (rs := [2]) (by kernel_rfl) (by simp) ?_
        refine AllReadyIn.cons rfl (fun K hK => ?_) ?_
        · go_simp
          gi_wp2_with (refine ⟨trivial, ?_⟩; gi_at_call 23; with_reducible refine (CallsIn.inRound l hN).mono ?_; rintro e wx ⟨rfl, hw⟩; have hw := hw.symm; subst hw)
          first | exact hK _ _ ((hG _ _ _).1 gabcefghj) | exact (hG _ _ _).1 gabcefghj
        exact AllReadyIn.nil
      have gbcefghj : G 5 #[false, true, true, false, true, true, true, true, false, true, false, false] { tmps := #[.slice a 8 cap, .int .i64 (c : Nat), .slice bo n cb, undef, undef, undef, .slice none 0 0, .pointer (some ⟨w1.heap.size, 0, none⟩), .pointer (some ⟨w2.heap.size, 0, none⟩), .int .u64 (T : Nat), .pointer (some ⟨w2.heap.size + 1, 0, none⟩), .slice (chA bo 7 x.1) L (cb - 7 * x.1), .slice a 8 cap, .int .i64 (c : Nat), .agg (kys .u8 64 (padB W c 0)), .slice (some ⟨w1.heap.size, 0, none⟩) 8 64, .int .u64 (X : Nat), .int .u64 (R : Nat), .slice (some ⟨w1.heap.size, 8, none⟩) 8 56, .int .u64 (Y : Nat), .int .u64 (T : Nat), .slice bo n cb, .func (.func 58) #[] #[.pointer (some ⟨w2.heap.size + 1 + 1, 0, none⟩), .pointer (some ⟨w2.heap.size + 1 + 1 + 1, 0, none⟩)], .slice (chA bo 7 x.1) L (cb - 7 * x.1), undef, .slice (chA bo 7 x.1) L (cb - 7 * x.1), .int .u64 (v : Nat), undef, .slice (chA bo 7 x.1) L (cb - 7 * x.1), .int .i64 (L : Nat), .int .i64 (q8 : Nat), .int .u64 (p : Nat), undef, .int .u64 (R : Nat), undef, undef, undef, undef, undef, undef], defers := [] } := by
        refine (hG _ _ _).2 ?_
        refine wpAnyIn_ready (rs := [0]) (by kernel_rfl) (by simp) ?_
        refine AllReadyIn.cons rfl (fun K hK => ?_) ?_
        · go_simp
          exact hK _ _ ((hG _ _ _).1 gabcefghj)
        exact AllReadyIn.nil
      have gabcdef : G 6 #[true, true, true, true, true, true, false, false, false, false, false, false] { tmps := #[.slice a 8 cap, .int .i64 (c : Nat), .slice bo n cb, undef, undef, undef, .slice none 0 0, .pointer (some ⟨w1.heap.size, 0, none⟩), .pointer (some ⟨w2.heap.size, 0, none⟩), .int .u64 (T : Nat), .pointer (some ⟨w2.heap.size + 1, 0, none⟩), .slice (chA bo 7 x.1) L (cb - 7 * x.1), .slice a 8 cap, .int .i64 (c : Nat), .agg (kys .u8 64 (padB W c 0)), .slice (some ⟨w1.heap.size, 0, none⟩) 8 64, .int .u64 (X : Nat), .int .u64 (R : Nat), .slice (some ⟨w1.heap.size, 8, none⟩) 8 56, .int .u64 (Y : Nat), .int .u64 (T : Nat), .slice bo n cb, .func (.func 58) #[] #[.pointer (some ⟨w2.heap.size + 1 + 1, 0, none⟩), .pointer (some ⟨w2.heap.size + 1 + 1 + 1, 0, none⟩)], .slice (chA bo 7 x.1) L (cb - 7 * x.1), .int .u64 (s : Nat), .slice (chA bo 7 x.1) L (cb - 7 * x.1), .int .u64 (v : Nat), .int .u64 (a1 : Nat), .slice (chA bo 7 x.1) L (cb - 7 * x.1), .int .i64 (L : Nat), undef, undef, undef, undef, undef, undef, undef, undef, undef, undef], defers := [] } := by
        refine (hG _ _ _).2 ?_
        refine wpAnyIn_ready (rs := [6, 9]) (by kernel_rfl) (by simp) ?_
        refine AllReadyIn.cons rfl (fun K hK => ?_) ?_
        · go_simp
          exact hK _ _ ((hG _ _ _).1 gabcdefg)
        refine AllReadyIn.cons rfl (fun K hK => ?_) ?_
        · go_simp
          exact hK _ _ ((hG _ _ _).1 gabcdefj)
        exact AllReadyIn.nil
      have gabcdej : G 6 #[true, true, true, true, true, false, false, false, false, true, false, false] { tmps := #[.slice a 8 cap, .int .i64 (c : Nat), .slice bo n cb, undef, undef, undef, .slice none 0 0, .pointer (some ⟨w1.heap.size, 0, none⟩), .pointer (some ⟨w2.heap.size, 0, none⟩), .int .u64 (T : Nat), .pointer (some ⟨w2.heap.size + 1, 0, none⟩), .slice (chA bo 7 x.1) L (cb - 7 * x.1), .slice a 8 cap, .int .i64 (c : Nat), .agg (kys .u8 64 (padB W c 0)), .slice (some ⟨w1.heap.size, 0, none⟩) 8 64, .int .u64 (X : Nat), .int .u64 (R : Nat), .slice (some ⟨w1.heap.size, 8, none⟩) 8 56, .int .u64 (Y : Nat), .int .u64 (T : Nat), .slice bo n cb, .func (.func 58) #[] #[.pointer (some ⟨w2.heap.size + 1 + 1, 0, none⟩), .pointer (some ⟨w2.heap.size + 1 + 1 + 1, 0, none⟩)], .slice (chA bo 7 x.1) L (cb - 7 * x.1), .int .u64 (s : Nat), .slice (chA bo 7 x.1) L (cb - 7 * x.1), .int .u64 (v : Nat), .int .u64 (a1 : Nat), .slice (chA bo 7 x.1) L (cb - 7 * x.1), undef, undef, undef, undef, .int .u64 (R : Nat), undef, undef, undef, undef, undef, undef], defers := [] } := by
        refine (hG _ _ _).2 ?_
        refine wpAnyIn_ready (rs := [5]) (by kernel_rfl) (by simp) ?_
        refine AllReadyIn.cons rfl (fun K hK => ?_) ?_
        · go_simp
          exact hK _ _ ((hG _ _ _).1 gabcdefj)
        exact AllReadyIn.nil
      have gabcefg : G 6 #[true, true, true, false, true, true, true, false, false, false, false, false] { tmps := #[.slice a 8 cap, .int .i64 (c : Nat), .slice bo n cb, undef, undef, undef, .slice none 0 0, .pointer (some ⟨w1.heap.size, 0, none⟩), .pointer (some ⟨w2.heap.size, 0, none⟩), .int .u64 (T : Nat), .pointer (some ⟨w2.heap.size + 1, 0, none⟩), .slice (chA bo 7 x.1) L (cb - 7 * x.1), .slice a 8 cap, .int .i64 (c : Nat), .agg (kys .u8 64 (padB W c 0)), .slice (some ⟨w1.heap.size, 0, none⟩) 8 64, .int .u64 (X : Nat), .int .u64 (R : Nat), .slice (some ⟨w1.heap.size, 8, none⟩) 8 56, .int .u64 (Y : Nat), .int .u64 (T : Nat), .slice bo n cb, .func (.func 58) #[] #[.pointer (some ⟨w2.heap.size + 1 + 1, 0, none⟩), .pointer (some ⟨w2.heap.size + 1 + 1 + 1, 0, none⟩)], .slice (chA bo 7 x.1) L (cb - 7 * x.1), .int .u64 (s : Nat), .slice (chA bo 7 x.1) L (cb - 7 * x.1), .int .u64 (v : Nat), undef, .slice (chA bo 7 x.1) L (cb - 7 * x.1), .int .i64 (L : Nat), .int .i64 (q8 : Nat), undef, undef, undef, undef, undef, undef, undef, undef, undef], defers := [] } := by
        refine (hG _ _ _).2 ?_
        refine wpAnyIn_ready (rs := [3, 7, 9]) (by kernel_rfl) (by simp) ?_
        refine AllReadyIn.cons rfl (fun K hK => ?_) ?_
        · go_simp
          exact hK _ _ ((hG _ _ _).1 gabcdefg)
        refine AllReadyIn.cons rfl (fun K hK => ?_) ?_
        · go_simp
          exact hK _ _ ((hG _ _ _).1 gabcefgh)
        refine AllReadyIn.cons rfl (fun K hK => ?_) ?_
        · go_simp
          exact hK _ _ ((hG _ _ _).1 gabcefgj)
        exact AllReadyIn.nil
      have gabcefj : G 6 #[true, true, true, false, true, true, false, false, false, true, false, false] { tmps := #[.slice a 8 cap, .int .i64 (c : Nat), .slice bo n cb, undef, undef, undef, .slice none 0 0, .pointer (some ⟨w1.heap.size, 0, none⟩), .pointer (some ⟨w2.heap.size, 0, none⟩), .int .u64 (T : Nat), .pointer (some ⟨w2.heap.size + 1, 0, none⟩), .slice (chA bo 7 x.1) L (cb - 7 * x.1), .slice a 8 cap, .int .i64 (c : Nat), .agg (kys .u8 64 (padB W c 0)), .slice (some ⟨w1.heap.size, 0, none⟩) 8 64, .int .u64 (X : Nat), .int .u64 (R : Nat), .slice (some ⟨w1.heap.size, 8, none⟩) 8 56, .int .u64 (Y : Nat), .int .u64 (T : Nat), .slice bo n cb, .func (.func 58) #[] #[.pointer (some ⟨w2.heap.size + 1 + 1, 0, none⟩), .pointer (some ⟨w2.heap.size + 1 + 1 + 1, 0, none⟩)], .slice (chA bo 7 x.1) L (cb - 7 * x.1), .int .u64 (s : Nat), .slice (chA bo 7 x.1) L (cb - 7 * x.1), .int .u64 (v : Nat), undef, .slice (chA bo 7 x.1) L (cb - 7 * x.1), .int .i64 (L : Nat), undef, undef, undef, .int .u64 (R : Nat), undef, undef, undef, undef, undef, undef], defers := [] } := by
        refine (hG _ _ _).2 ?_
        refine wpAnyIn_ready (rs := [3, 6]) (by kernel_rfl) (by simp) ?_
        refine AllReadyIn.cons rfl (fun K hK => ?_) ?_
        · go_simp
          exact hK _ _ ((hG _ _ _).1 gabcdefj)
        refine AllReadyIn.cons rfl (fun K hK => ?_) ?_
        · go_simp
          exact hK _ _ ((hG _ _ _).1 gabcefgj)
        exact AllReadyIn.nil
      have gabefgh : G 6 #[true, true, false, false, true, true, true, true, false, false, false, false] { tmps := #[.slice a 8 cap, .int .i64 (c : Nat), .slice bo n cb, undef, undef, undef, .slice none 0 0, .pointer (some ⟨w1.heap.size, 0, none⟩), .pointer (some ⟨w2.heap.size, 0, none⟩), .int .u64 (T : Nat), .pointer (some ⟨w2.heap.size + 1, 0, none⟩), .slice (chA bo 7 x.1) L (cb - 7 * x.1), .slice a 8 cap, .int .i64 (c : Nat), .agg (kys .u8 64 (padB W c 0)), .slice (some ⟨w1.heap.size, 0, none⟩) 8 64, .int .u64 (X : Nat), .int .u64 (R : Nat), .slice (some ⟨w1.heap.size, 8, none⟩) 8 56, .int .u64 (Y : Nat), .int .u64 (T : Nat), .slice bo n cb, .func (.func 58) #[] #[.pointer (some ⟨w2.heap.size + 1 + 1, 0, none⟩), .pointer (some ⟨w2.heap.size + 1 + 1 + 1, 0, none⟩)], .slice (chA bo 7 x.1) L (cb - 7 * x.1), .int .u64 (s : Nat), .slice (chA bo 7 x.1) L (cb - 7 * x.1), undef, undef, .slice (chA bo 7 x.1) L (cb - 7 * x.1), .int .i64 (L : Nat), .int .i64 (q8 : Nat), .int .u64 (p : Nat), undef, undef, undef, undef, undef, undef, undef, undef], defers := [] } := by
        refine (hG _ _ _).2 ?_
        refine wpAnyIn_ready (rs := [2, 9]) (by kernel_rfl) (by simp) ?_
        refine AllReadyIn.cons rfl (fun K hK => ?_) ?_
        · go_simp
          gi_wp2_with (refine ⟨trivial, ?_⟩; gi_at_call 23; with_reducible refine (CallsIn.inRound l hN).mono ?_; rintro e wx ⟨rfl, hw⟩; have hw := hw.symm; subst hw)
          first | exact hK _ _ ((hG _ _ _).1 gabcefgh) | exact (hG _ _ _).1 gabcefgh
        refine AllReadyIn.cons rfl (fun K hK => ?_) ?_
        · go_simp
          exact hK _ _ ((hG _ _ _).1 gabefghj)
        exact AllReadyIn.nil
      have gabefgj : G 6 #[true, true, false, false, true, true, true, false, false, true, false, false] { tmps := #[.slice a 8 cap, .int .i64 (c : Nat), .slice bo n cb, undef, undef, undef, .slice none 0 0, .pointer (some ⟨w1.heap.size, 0, none⟩), .pointer (some ⟨w2.heap.size, 0, none⟩), .int .u64 (T : Nat), .pointer (some ⟨w2.heap.size + 1, 0, none⟩), .slice (chA bo 7 x.1) L (cb - 7 * x.1), .slice a 8 cap, .int .i64 (c : Nat), .agg (kys .u8 64 (padB W c 0)), .slice (some ⟨w1.heap.size, 0, none⟩) 8 64, .int .u64 (X : Nat), .int .u64 (R : Nat), .slice (some ⟨w1.heap.size, 8, none⟩) 8 56, .int .u64 (Y : Nat), .int .u64 (T : Nat), .slice bo n cb, .func (.func 58) #[] #[.pointer (some ⟨w2.heap.size + 1 + 1, 0, none⟩), .pointer (some ⟨w2.heap.size + 1 + 1 + 1, 0, none⟩)], .slice (chA bo 7 x.1) L (cb - 7 * x.1), .int .u64 (s : Nat), .slice (chA bo 7 x.1) L (cb - 7 * x.1), undef, undef, .slice (chA bo 7 x.1) L (cb - 7 * x.1), .int .i64 (L : Nat), .int .i64 (q8 : Nat), undef, undef, .int .u64 (R : Nat), undef, undef, undef, undef, undef, undef], defers := [] } := by
        refine (hG _ _ _).2 ?_
        refine wpAnyIn_ready (rs := [2, 7]) (by kernel_rfl) (by simp) ?_
        refine AllReadyIn.cons rfl (fun K hK => ?_) ?_
        · go_simp
          gi_wp2_with (refine ⟨trivial, ?_⟩; gi_at_call 23; with_reducible refine (CallsIn.inRound l hN).mono ?_; rintro e wx ⟨rfl, hw⟩; have hw := hw.symm; subst hw)
          first | exact hK _ _ ((hG _ _ _).1 gabcefgj) | exact (hG _ _ _).1 gabcefgj
        refine AllReadyIn.cons rfl (fun K hK => ?_) ?_
        · go_simp
          exact hK _ _ ((hG _ _ _).1 gabefghj)
        exact AllReadyIn.nil
      have gaefghj : G 6 #[true, false, false, false, true, true, true, true, false, true, false, false] { tmps := #[.slice a 8 cap, .int .i64 (c : Nat), .slice bo n cb, undef, undef, undef, .slice none 0 0, .pointer (some ⟨w1.heap.size, 0, none⟩), .pointer (some ⟨w2.heap.size, 0, none⟩), .int .u64 (T : Nat), .pointer (some ⟨w2.heap.size + 1, 0, none⟩), .slice (chA bo 7 x.1) L (cb - 7 * x.1), .slice a 8 cap, .int .i64 (c : Nat), .agg (kys .u8 64 (padB W c 0)), .slice (some ⟨w1.heap.size, 0, none⟩) 8 64, .int .u64 (X : Nat), .int .u64 (R : Nat), .slice (some ⟨w1.heap.size, 8, none⟩) 8 56, .int .u64 (Y : Nat), .int .u64 (T : Nat), .slice bo n cb, .func (.func 58) #[] #[.pointer (some ⟨w2.heap.size + 1 + 1, 0, none⟩), .pointer (some ⟨w2.heap.size + 1 + 1 + 1, 0, none⟩)], .slice (chA bo 7 x.1) L (cb - 7 * x.1), .int .u64 (s : Nat), undef, undef, undef, .slice (chA bo 7 x.1) L (cb - 7 * x.1), .int .i64 (L : Nat), .int .i64 (q8 : Nat), .int .u64 (p : Nat), undef, .int .u64 (R : Nat), undef, undef, undef, undef, undef, undef], defers := [] } := by
        refine (hG _ _ _).2 ?_
        refine wpAnyIn_ready (rs := [1]) (by kernel_rfl) (by simp) ?_
        refine AllReadyIn.cons rfl (fun K hK => ?_) ?_
        · go_simp
          exact hK _ _ ((hG _ _ _).1 gabefghj)
        exact AllReadyIn.nil
      have gbcefgh : G 6 #[false, true, true, false, true, true, true, true, false, false, false, false] { tmps := #[.slice a 8 cap, .int .i64 (c : Nat), .slice bo n cb, undef, undef, undef, .slice none 0 0, .pointer (some ⟨w1.heap.size, 0, none⟩), .pointer (some ⟨w2.heap.size, 0, none⟩), .int .u64 (T : Nat), .pointer (some ⟨w2.heap.size + 1, 0, none⟩), .slice (chA bo 7 x.1) L (cb - 7 * x.1), .slice a 8 cap, .int .i64 (c : Nat), .agg (kys .u8 64 (padB W c 0)), .slice (some ⟨w1.heap.size, 0, none⟩) 8 64, .int .u64 (X : Nat), .int .u64 (R : Nat), .slice (some ⟨w1.heap.size, 8, none⟩) 8 56, .int .u64 (Y : Nat), .int .u64 (T : Nat), .slice bo n cb, .func (.func 58) #[] #[.pointer (some ⟨w2.heap.size + 1 + 1, 0, none⟩), .pointer (some ⟨w2.heap.size + 1 + 1 + 1, 0, none⟩)], .slice (chA bo 7 x.1) L (cb - 7 * x.1), undef, .slice (chA bo 7 x.1) L (cb - 7 * x.1), .int .u64 (v : Nat), undef, .slice (chA bo 7 x.1) L (cb - 7 * x.1), .int .i64 (L : Nat), .int .i64 (q8 : Nat), .int .u64 (p : Nat), undef, undef, undef, undef, undef, undef, undef, undef], defers := [] } := by
        refine (hG _ _ _).2 ?_
        refine wpAnyIn_ready (rs := [0, 9]) (by kernel_rfl) (by simp) ?_
        refine AllReadyIn.cons rfl (fun K hK => ?_) ?_
        · go_simp
          exact hK _ _ ((hG _ _ _).1 gabcefgh)
        refine AllReadyIn.cons rfl (fun K hK => ?_) ?_
        · go_simp
          exact hK _ _ ((hG _ _ _).1 gbcefghj)
        exact AllReadyIn.nil
      have gbcefgj : G 6 #[false, true, true, false, true, true, true, false, false, true, false, false] { tmps := #[.slice a 8 cap, .int .i64 (c : Nat), .slice bo n cb, undef, undef, undef, .slice none 0 0, .pointer (some ⟨w1.heap.size, 0, none⟩), .pointer (some ⟨w2.heap.size, 0, none⟩), .int .u64 (T : Nat), .pointer (some ⟨w2.heap.size + 1, 0, none⟩), .slice (chA bo 7 x.1) L (cb - 7 * x.1), .slice a 8 cap, .int .i64 (c : Nat), .agg (kys .u8 64 (padB W c 0)), .slice (some ⟨w1.heap.size, 0, none⟩) 8 64, .int .u64 (X : Nat), .int .u64 (R : Nat), .slice (some ⟨w1.heap.size, 8, none⟩) 8 56, .int .u64 (Y : Nat), .int .u64 (T : Nat), .slice bo n cb, .func (.func 58) #[] #[.pointer (some ⟨w2.heap.size + 1 + 1, 0, none⟩), .pointer (some ⟨w2.heap.size + 1 + 1 + 1, 0, none⟩)], .slice (chA bo 7 x.1) L (cb - 7 * x.1), undef, .slice (chA bo 7 x.1) L (cb - 7 * x.1), .int .u64 (v : Nat), undef, .slice (chA bo 7 x.1) L (cb - 7 * x.1), .int .i64 (L : Nat), .int .i64 (q8 : Nat), undef, undef, .int .u64 (R : Nat), undef, undef, undef, undef, undef, undef], defers := [] } := by
        refine (hG _ _ _).2 ?_
        refine wpAnyIn_ready (rs := [0, 7]) (by kernel_rfl) (by simp) ?_
        refine AllReadyIn.cons rfl (fun K hK => ?_) ?_
        · go_simp
          exact hK _ _ ((hG _ _ _).1 gabcefgj)
        refine AllReadyIn.cons rfl (fun K hK => ?_) ?_
        · go_simp
          exact hK _ _ ((hG _ _ _).1 gbcefghj)
        exact AllReadyIn.nil
      have gbefghj : G 6 #[false, true, false, false, true, true, true, true, false, true, false, false] { tmps := #[.slice a 8 cap, .int .i64 (c : Nat), .slice bo n cb, undef, undef, undef, .slice none 0 0, .pointer (some ⟨w1.heap.size, 0, none⟩), .pointer (some ⟨w2.heap.size, 0, none⟩), .int .u64 (T : Nat), .pointer (some ⟨w2.heap.size + 1, 0, none⟩), .slice (chA bo 7 x.1) L (cb - 7 * x.1), .slice a 8 cap, .int .i64 (c : Nat), .agg (kys .u8 64 (padB W c 0)), .slice (some ⟨w1.heap.size, 0, none⟩) 8 64, .int .u64 (X : Nat), .int .u64 (R : Nat), .slice (some ⟨w1.heap.size, 8, none⟩) 8 56, .int .u64 (Y : Nat), .int .u64 (T : Nat), .slice bo n cb, .func (.func 58) #[] #[.pointer (some ⟨w2.heap.size + 1 + 1, 0, none⟩), .pointer (some ⟨w2.heap.size + 1 + 1 + 1, 0, none⟩)], .slice (chA bo 7 x.1) L (cb - 7 * x.1), undef, .slice (chA bo 7 x.1) L (cb - 7 * x.1), undef, undef, .slice (chA bo 7 x.1) L (cb - 7 * x.1), .int .i64 (L : Nat), .int .i64 (q8 : Nat), .int .u64 (p : Nat), undef, .int .u64 (R : Nat), undef, undef, undef, undef, undef, undef], defers := [] } := by
        refine (hG _ _ _).2 ?_
        refine wpAnyIn_ready (rs := [0, 2]) (by kernel_rfl) (by simp) ?_
        refine AllReadyIn.cons rfl (fun K hK => ?_) ?_
        · go_simp
          exact hK _ _ ((hG _ _ _).1 gabefghj)
        refine AllReadyIn.cons rfl (fun K hK => ?_) ?_
        · go_simp
          gi_wp2_with (refine ⟨trivial, ?_⟩; gi_at_call 23; with_reducible refine (CallsIn.inRound l hN).mono ?_; rintro e wx ⟨rfl, hw⟩; have hw := hw.symm; subst hw)
          first | exact hK _ _ ((hG _ _ _).1 gbcefghj) | exact (hG _ _ _).1 gbcefghj
        exact AllReadyIn.nil
      have gabcde : G 7 #[true, true, true, true, true, false, false, false, false, false, false, false] { tmps := #[.slice a 8 cap, .int .i64 (c : Nat), .slice bo n cb, undef, undef, undef, .slice none 0 0, .pointer (some ⟨w1.heap.size, 0, none⟩), .pointer (some ⟨w2.heap.size, 0, none⟩), .int .u64 (T : Nat), .pointer (some ⟨w2.heap.size + 1, 0, none⟩), .slice (chA bo 7 x.1) L (cb - 7 * x.1), .slice a 8 cap, .int .i64 (c : Nat), .agg (kys .u8 64 (padB W c 0)), .slice (some ⟨w1.heap.size, 0, none⟩) 8 64, .int .u64 (X : Nat), .int .u64 (R : Nat), .slice (some ⟨w1.heap.size, 8, none⟩) 8 56, .int .u64 (Y : Nat), .int .u64 (T : Nat), .slice bo n cb, .func (.func 58) #[] #[.pointer (some ⟨w2.heap.size + 1 + 1, 0, none⟩), .pointer (some ⟨w2.heap.size + 1 + 1 + 1, 0, none⟩)], .slice (chA bo 7 x.1) L (cb - 7 * x.1), .int .u64 (s : Nat), .slice (chA bo 7 x.1) L (cb - 7 * x.1), .int .u64 (v : Nat), .int .u64 (a1 : Nat), .slice (chA bo 7 x.1) L (cb - 7 * x.1), undef, undef, undef, undef, undef, undef, undef, undef, undef, undef, undef], defers := [] } := by
        refine (hG _ _ _).2 ?_
        refine wpAnyIn_ready (rs := [5, 9]) (by kernel_rfl) (by simp) ?_
        refine AllReadyIn.cons rfl (fun K hK => ?_) ?_
        · go_simp
          exact hK _ _ ((hG _ _ _).1 gabcdef)
        refine AllReadyIn.cons rfl (fun K hK => ?_) ?_
        · go_simp
          exact hK _ _ ((hG _ _ _).1 gabcdej)
        exact AllReadyIn.nil
      have gabcdj : G 7 #[true, true, true, true, false, false, false, false, false, true, false, false] { tmps := #[.slice a 8 cap, .int .i64 (c : Nat), .slice bo n cb, undef, undef, undef, .slice none 0 0, .pointer (some ⟨w1.heap.size, 0, none⟩), .pointer (some ⟨w2.heap.size, 0, none⟩), .int .u64 (T : Nat), .pointer (some ⟨w2.heap.size + 1, 0, none⟩), .slice (chA bo 7 x.1) L (cb - 7 * x.1), .slice a 8 cap, .int .i64 (c : Nat), .agg (kys .u8 64 (padB W c 0)), .slice (some ⟨w1.heap.size, 0, none⟩) 8 64, .int .u64 (X : Nat), .int .u64 (R : Nat), .slice (some ⟨w1.heap.size, 8, none⟩) 8 56, .int .u64 (Y : Nat), .int .u64 (T : Nat), .slice bo n cb, .func (.func 58) #[] #[.pointer (some ⟨w2.heap.size + 1 + 1, 0, none⟩), .pointer (some ⟨w2.heap.size + 1 + 1 + 1, 0, none⟩)], .slice (chA bo 7 x.1) L (cb - 7 * x.1), .int .u64 (s : Nat), .slice (chA bo 7 x.1) L (cb - 7 * x.1), .int .u64 (v : Nat), .int .u64 (a1 : Nat), undef, undef, undef, undef, undef, .int .u64 (R : Nat), undef, undef, undef, undef, undef, undef], defers := [] } := by
        refine (hG _ _ _).2 ?_
        refine wpAnyIn_ready (rs := [4]) (by kernel_rfl) (by simp) ?_
        refine AllReadyIn.cons rfl (fun K hK => ?_) ?_
        · go_simp
          exact hK _ _ ((hG _ _ _).1 gabcdej)
        exact AllReadyIn.nil
      have gabcef : G 7 #[true, true, true, false, true, true, false, false, false, false, false, false] { tmps := #[.slice a 8 cap, .int .i64 (c : Nat), .slice bo n cb, undef, undef, undef, .slice none 0 0, .pointer (some ⟨w1.heap.size, 0, none⟩), .pointer (some ⟨w2.heap.size, 0, none⟩), .int .u64 (T : Nat), .pointer (some ⟨w2.heap.size + 1, 0, none⟩), .slice (chA bo 7 x.1) L (cb - 7 * x.1), .slice a 8 cap, .int .i64 (c : Nat), .agg (kys .u8 64 (padB W c 0)), .slice (some ⟨w1.heap.size, 0, none⟩) 8 64, .int .u64 (X : Nat), .int .u64 (R : Nat), .slice (some ⟨w1.heap.size, 8, none⟩) 8 56, .int .u64 (Y : Nat), .int .u64 (T : Nat), .slice bo n cb, .func (.func 58) #[] #[.pointer (some ⟨w2.heap.size + 1 + 1, 0, none⟩), .pointer (some ⟨w2.heap.size + 1 + 1 + 1, 0, none⟩)], .slice (chA bo 7 x.1) L (cb - 7 * x.1), .int .u64 (s : Nat), .slice (chA bo 7 x.1) L (cb - 7 * x.1), .int .u64 (v : Nat), undef, .slice (chA bo 7 x.1) L (cb - 7 * x.1), .int .i64 (L : Nat), undef, undef, undef, undef, undef, undef, undef, undef, undef, undef], defers := [] } := by
        refine (hG _ _ _).2 ?_
        refine wpAnyIn_ready (rs := [3, 6, 9]) (by kernel_rfl) (by simp) ?_
        refine AllReadyIn.cons rfl (fun K hK => ?_) ?_
        · go_simp
          exact hK _ _ ((hG _ _ _).1 gabcdef)
        refine AllReadyIn.cons rfl (fun K hK => ?_) ?_
        · go_simp
          exact hK _ _ ((hG _ _ _).1 gabcefg)
        refine AllReadyIn.cons rfl (fun K hK => ?_) ?_
        · go_simp
          exact hK _ _ ((hG _ _ _).1 gabcefj)
        exact AllReadyIn.nil
      have gabcej : G 7 #[true, true, true, false, true, false, false, false, false, true, false, false] { tmps := #[.slice a 8 cap, .int .i64 (c : Nat), .slice bo n cb, undef, undef, undef, .slice none 0 0, .pointer (some ⟨w1.heap.size, 0, none⟩), .pointer (some ⟨w2.heap.size, 0, none⟩), .int .u64 (T : Nat), .pointer (some ⟨w2.heap.size + 1, 0, none⟩), .slice (chA bo 7 x.1) L (cb - 7 * x.1), .slice a 8 cap, .int .i64 (c : Nat), .agg (kys .u8 64 (padB W c 0)), .slice (some ⟨w1.heap.size, 0, none⟩) 8 64, .int .u64 (X : Nat), .int .u64 (R : Nat), .slice (some ⟨w1.heap.size, 8, none⟩) 8 56, .int .u64 (Y : Nat), .int .u64 (T : Nat), .slice bo n cb, .func (.func 58) #[] #[.pointer (some ⟨w2.heap.size + 1 + 1, 0, none⟩), .pointer (some ⟨w2.heap.size + 1 + 1 + 1, 0, none⟩)], .slice (chA bo 7 x.1) L (cb - 7 * x.1), .int .u64 (s : Nat), .slice (chA bo 7 x.1) L (cb - 7 * x.1), .int .u64 (v : Nat), undef, .slice (chA bo 7 x.1) L (cb - 7 * x.1), undef, undef, undef, undef, .int .u64 (R : Nat), undef, undef, undef, undef, undef, undef], defers := [] } := by
        refine (hG _ _ _).2 ?_
        refine wpAnyIn_ready (rs := [3, 5]) (by kernel_rfl) (by simp) ?_
        refine AllReadyIn.cons rfl (fun K hK => ?_) ?_
        · go_simp
          exact hK _ _ ((hG _ _ _).1 gabcdej)
        refine AllReadyIn.cons rfl (fun K hK => ?_) ?_
        · go_simp
          exact hK _ _ ((hG _ _ _).1 gabcefj)
        exact AllReadyIn.nil
      have gabefg : G 7 #[true, true, false, false, true, true, true, false, false, false, false, false] { tmps := #[.slice a 8 cap, .int .i64 (c : Nat), .slice bo n cb, undef, undef, undef, .slice none 0 0, .pointer (some ⟨w1.heap.size, 0, none⟩), .pointer (some ⟨w2.heap.size, 0, none⟩), .int .u64 (T : Nat), .pointer (some ⟨w2.heap.size + 1, 0, none⟩), .slice (chA bo 7 x.1) L (cb - 7 * x.1), .slice a 8 cap, .int .i64 (c : Nat), .agg (kys .u8 64 (padB W c 0)), .slice (some ⟨w1.heap.size, 0, none⟩) 8 64, .int .u64 (X : Nat), .int .u64 (R : Nat), .slice (some ⟨w1.heap.size, 8, none⟩) 8 56, .int .u64 (Y : Nat), .int .u64 (T : Nat), .slice bo n cb, .func (.func 58) #[] #[.pointer (some ⟨w2.heap.size + 1 + 1, 0, none⟩), .pointer (some ⟨w2.heap.size + 1 + 1 + 1, 0, none⟩)], .slice (chA bo 7 x.1) L (cb - 7 * x.1), .int .u64 (s : Nat), .slice (chA bo 7 x.1) L (cb - 7 * x.1), undef, undef, .slice (chA bo 7 x.1) L (cb - 7 * x.1), .int .i64 (L : Nat), .int .i64 (q8 : Nat), undef, undef, undef, undef, undef, undef, undef, undef, undef], defers := [] } := by
        refine (hG _ _ _).2 ?_
        refine wpAnyIn_ready (rs := [2, 7, 9]) (by kernel_rfl) (by simp) ?_
        refine AllReadyIn.cons rfl (fun K hK => ?_) ?_
        · go_simp
          gi_wp2_with (refine ⟨trivial, ?_⟩; gi_at_call 23; with_reducible refine (CallsIn.inRound l hN).mono ?_; rintro e wx ⟨rfl, hw⟩; have hw := hw.symm; subst hw)
          first | exact hK _ _ ((hG _ _ _).1 gabcefg) | exact (hG _ _ _).1 gabcefg
        refine AllReadyIn.cons rfl (fun K hK => ?_) ?_
        · go_simp
          exact hK _ _ ((hG _ _ _).1 gabefgh)
        refine AllReadyIn.cons rfl (fun K hK => ?_) ?_
        · go_simp
          exact hK _ _ ((hG _ _ _).1 gabefgj)
        exact AllReadyIn.nil
      have gabefj : G 7 #[true, true, false, false, true, true, false, false, false, true, false, false] { tmps := #[.slice a 8 cap, .int .i64 (c : Nat), .slice bo n cb, undef, undef, undef, .slice none 0 0, .pointer (some ⟨w1.heap.size, 0, none⟩), .pointer (some ⟨w2.heap.size, 0, none⟩), .int .u64 (T : Nat), .pointer (some ⟨w2.heap.size + 1, 0, none⟩), .slice (chA bo 7 x.1) L (cb - 7 * x.1), .slice a 8 cap, .int .i64 (c : Nat), .agg (kys .u8 64 (padB W c 0)), .slice (some ⟨w1.heap.size, 0, none⟩) 8 64, .int .u64 (X : Nat), .int .u64 (R : Nat), .slice (some ⟨w1.heap.size, 8, none⟩) 8 56, .int .u64 (Y : Nat), .int .u64 (T : Nat), .slice bo n cb, .func (.func 58) #[] #[.pointer (some ⟨w2.heap.size + 1 + 1, 0, none⟩), .pointer (some ⟨w2.heap.size + 1 + 1 + 1, 0, none⟩)], .slice (chA bo 7 x.1) L (cb - 7 * x.1), .int .u64 (s : Nat), .slice (chA bo 7 x.1) L (cb - 7 * x.1), undef, undef, .slice (chA bo 7 x.1) L (cb - 7 * x.1), .int .i64 (L : Nat), undef, undef, undef, .int .u64 (R : Nat), undef, undef, undef, undef, undef, undef], defers := [] } := by
        refine (hG _ _ _).2 ?_
        refine wpAnyIn_ready (rs := [2, 6]) (by kernel_rfl) (by simp) ?_
        refine AllReadyIn.cons rfl (fun K hK => ?_) ?_
        · go_simp
          gi_wp2_with (refine ⟨trivial, ?_⟩; gi_at_call 23; with_reducible refine (CallsIn.inRound l hN).mono ?_; rintro e wx ⟨rfl, hw⟩; have hw := hw.symm; subst hw)
          first | exact hK _ _ ((hG _ _ _).1 gabcefj) | exact (hG _ _ _).1 gabcefj
        refine AllReadyIn.cons rfl (fun K hK => ?_) ?_
        · go_simp
          exact hK _ _ ((hG _ _ _).1 gabefgj)
        exact AllReadyIn.nil
      have gaefgh : G 7 #[true, false, false, false, true, true, true, true, false, false, false, false] { tmps := #[.slice a 8 cap, .int .i64 (c : Nat), .slice bo n cb, undef, undef, undef, .slice none 0 0, .pointer (some ⟨w1.heap.size, 0, none⟩), .pointer (some ⟨w2.heap.size, 0, none⟩), .int .u64 (T : Nat), .pointer (some ⟨w2.heap.size + 1, 0, none⟩), .slice (chA bo 7 x.1) L (cb - 7 * x.1), .slice a 8 cap, .int .i64 (c : Nat), .agg (kys .u8 64 (padB W c 0)), .slice (some ⟨w1.heap.size, 0, none⟩) 8 64, .int .u64 (X : Nat), .int .u64 (R : Nat), .slice (some ⟨w1.heap.size, 8, none⟩) 8 56, .int .u64 (Y : Nat), .int .u64 (T : Nat), .slice bo n cb, .func (.func 58) #[] #[.pointer (some ⟨w2.heap.size + 1 + 1, 0, none⟩), .pointer (some ⟨w2.heap.size + 1 + 1 + 1, 0, none⟩)], .slice (chA bo 7 x.1) L (cb - 7 * x.1), .int .u64 (s : Nat), undef, undef, undef, .slice (chA bo 7 x.1) L (cb - 7 * x.1), .int .i64 (L : Nat), .int .i64 (q8 : Nat), .int .u64 (p : Nat), undef, undef, undef, undef, undef, undef, undef, undef], defers := [] } := by
        refine (hG _ _ _).2 ?_
        refine wpAnyIn_ready (rs := [1, 9]) (by kernel_rfl) (by simp) ?_
        refine AllReadyIn.cons rfl (fun K hK => ?_) ?_
        · go_simp
          exact hK _ _ ((hG _ _ _).1 gabefgh)
        refine AllReadyIn.cons rfl (fun K hK => ?_) ?_
        · go_simp
          exact hK _ _ ((hG _ _ _).1 gaefghj)
        exact AllReadyIn.nil
      have gaefgj : G 7 #[true, false, false, false, true, true, true, false, false, true, false, false] { tmps := #[.slice a 8 cap, .int .i64 (c : Nat), .slice bo n cb, undef, undef, undef, .slice none 0 0, .pointer (some ⟨w1.heap.size, 0, none⟩), .pointer (some ⟨w2.heap.size, 0, none⟩), .int .u64 (T : Nat), .pointer (some ⟨w2.heap.size + 1, 0, none⟩), .slice (chA bo 7 x.1) L (cb - 7 * x.1), .slice a 8 cap, .int .i64 (c : Nat), .agg (kys .u8 64 (padB W c 0)), .slice (some ⟨w1.heap.size, 0, none⟩) 8 64, .int .u64 (X : Nat), .int .u64 (R : Nat), .slice (some ⟨w1.heap.size, 8, none⟩) 8 56, .int .u64 (Y : Nat), .int .u64 (T : Nat), .slice bo n cb, .func (.func 58) #[] #[.pointer (some ⟨w2.heap.size + 1 + 1, 0, none⟩), .pointer (some ⟨w2.heap.size + 1 + 1 + 1, 0, none⟩)], .slice (chA bo 7 x.1) L (cb - 7 * x.1), .int .u64 (s : Nat), undef, undef, undef, .slice (chA bo 7 x.1) L (cb - 7 * x.1), .int .i64 (L : Nat), .int .i64 (q8 : Nat), undef, undef, .int .u64 (R : Nat), undef, undef, undef, undef, undef, undef], defers := [] } := by
        refine (hG _ _ _).2 ?_
        refine wpAnyIn_ready (rs := [1, 7]) (by kernel_rfl) (by simp) ?_
        refine AllReadyIn.cons rfl (fun K hK => ?_) ?_
        · go_simp
          exact hK _ _ ((hG _ _ _).1 gabefgj)
        refine AllReadyIn.cons rfl (fun K hK => ?_) ?_
        · go_simp
          exact hK _ _ ((hG _ _ _).1 gaefghj)
        exact AllReadyIn.nil
      have gbcefg : G 7 #[false, true, true, false, true, true, true, false, false, false, false, false] { tmps := #[.slice a 8 cap, .int .i64 (c : Nat), .slice bo n cb, undef, undef, undef, .slice none 0 0, .pointer (some ⟨w1.heap.size, 0, none⟩), .pointer (some ⟨w2.heap.size, 0, none⟩), .int .u64 (T : Nat), .pointer (some ⟨w2.heap.size + 1, 0, none⟩), .slice (chA bo 7 x.1) L (cb - 7 * x.1), .slice a 8 cap, .int .i64 (c : Nat), .agg (kys .u8 64 (padB W c 0)), .slice (some ⟨w1.heap.size, 0, none⟩) 8 64, .int .u64 (X : Nat), .int .u64 (R : Nat), .slice (some ⟨w1.heap.size, 8, none⟩) 8 56, .int .u64 (Y : Nat), .int .u64 (T : Nat), .slice bo n cb, .func (.func 58) #[] #[.pointer (some ⟨w2.heap.size + 1 + 1, 0, none⟩), .pointer (some ⟨w2.heap.size + 1 + 1 + 1, 0, none⟩)], .slice (chA bo 7 x.1) L (cb - 7 * x.1), undef, .slice (chA bo 7 x.1) L (cb - 7 * x.1), .int .u64 (v : Nat), undef, .slice (chA bo 7 x.1) L (cb - 7 * x.1), .int .i64 (L : Nat), .int .i64 (q8 : Nat), undef, undef, undef, undef, undef, undef, undef, undef, undef], defers := [] } := by
        refine (hG _ _ _).2 ?_
        refine wpAnyIn_ready (rs := [0, 7, 9]) (by kernel_rfl) (by simp) ?_
        refine AllReadyIn.cons rfl (fun K hK => ?_) ?_
        · go_simp
          exact hK _ _ ((hG _ _ _).1 gabcefg)
        refine AllReadyIn.cons rfl (fun K hK => ?_) ?_
        · go_simp
          exact hK _ _ ((hG _ _ _).1 gbcefgh)
        refine AllReadyIn.cons rfl (fun K hK => ?_) ?_
        · go_simp
          exact hK _ _ ((hG _ _ _).1 gbcefgj)
        exact AllReadyIn.nil
      have gbcefj : G 7 #[false, true, true, false, true, true, false, false, false, true, false, false] { tmps := #[.slice a 8 cap, .int .i64 (c : Nat), .slice bo n cb, undef, undef, undef, .slice none 0 0, .pointer (some ⟨w1.heap.size, 0, none⟩), .pointer (some ⟨w2.heap.size, 0, none⟩), .int .u64 (T : Nat), .pointer (some ⟨w2.heap.size + 1, 0, none⟩), .slice (chA bo 7 x.1) L (cb - 7 * x.1), .slice a 8 cap, .int .i64 (c : Nat), .agg (kys .u8 64 (padB W c 0)), .slice (some ⟨w1.heap.size, 0, none⟩) 8 64, .int .u64 (X : Nat), .int .u64 (R : Nat), .slice (some ⟨w1.heap.size, 8, none⟩) 8 56, .int .u64 (Y : Nat), .int .u64 (T : Nat), .slice bo n cb, .func (.func 58) #[] #[.pointer (some ⟨w2.heap.size + 1 + 1, 0, none⟩), .pointer (some ⟨w2.heap.size + 1 + 1 + 1, 0, none⟩)], .slice (chA bo 7 x.1) L (cb - 7 * x.1), undef, .slice (chA bo 7 x.1) L (cb - 7 * x.1), .int .u64 (v : Nat), undef, .slice (chA bo 7 x.1) L (cb - 7 * x.1), .int .i64 (L : Nat), undef, undef, undef, .int .u64 (R : Nat), undef, undef, undef, undef, undef, undef], defers := [] } := by
        refine (hG _ _ _).2 ?_
        refine wpAnyIn_ready (rs := [0, 6]) (by kernel_rfl) (by simp) ?_
        refine AllReadyIn.cons rfl (fun K hK => ?_) ?_
        · go_simp
          exact hK _ _ ((hG _ _ _).1 gabcefj)
        refine AllReadyIn.cons rfl (fun K hK => ?_) ?_
        · go_simp
          exact hK _ _ ((hG _ _ _).1 gbcefgj)
        exact AllReadyIn.nil
      have gbefgh : G 7 #[false, true, false, false, true, true, true, true, false, false, false, false] { tmps := #[.slice a 8 cap, .int .i64 (c : Nat), .slice bo n cb, undef, undef, undef, .slice none 0 0, .pointer (some ⟨w1.heap.size, 0, none⟩), .pointer (some ⟨w2.heap.size, 0, none⟩), .int .u64 (T : Nat), .pointer (some ⟨w2.heap.size + 1, 0, none⟩), .slice (chA bo 7 x.1) L (cb - 7 * x.1), .slice a 8 cap, .int .i64 (c : Nat), .agg (kys .u8 64 (padB W c 0)), .slice (some ⟨w1.heap.size, 0, none⟩) 8 64, .int .u64 (X : Nat), .int .u64 (R : Nat), .slice (some ⟨w1.heap.size, 8, none⟩) 8 56, .int .u64 (Y : Nat), .int .u64 (T : Nat), .slice bo n cb, .func (.func 58) #[] #[.pointer (some ⟨w2.heap.size + 1 + 1, 0, none⟩), .pointer (some ⟨w2.heap.size + 1 + 1 + 1, 0, none⟩)], .slice (chA bo 7 x.1) L (cb - 7 * x.1), undef, .slice (chA bo 7 x.1) L (cb - 7 * x.1), undef, undef, .slice (chA bo 7 x.1) L (cb - 7 * x.1), .int .i64 (L : Nat), .int .i64 (q8 : Nat), .int .u64 (p : Nat), undef, undef, undef, undef, undef, undef, undef, undef], defers := [] } := by
        refine (hG _ _ _).2 ?_
        refine wpAnyIn_ready (rs := [0, 2, 9]) (by kernel_rfl) (by simp) ?_
        refine AllReadyIn.cons rfl (fun K hK => ?_) ?_
        · go_simp
          exact hK _ _ ((hG _ _ _).1 gabefgh)
        refine AllReadyIn.cons rfl (fun K hK => ?_) ?_
        · go_simp
          gi_wp2_with (refine ⟨trivial, ?_⟩; gi_at_call 23; with_reducible refine (CallsIn.inRound l hN).mono ?_; rintro e wx ⟨rfl, hw⟩; have hw := hw.symm; subst hw)
          first | exact hK _ _ ((hG _ _ _).1 gbcefgh) | exact (hG _ _ _).1 gbcefgh
        refine AllReadyIn.cons rfl (fun K hK => ?_) ?_
        · go_simp
          exact hK _ _ ((hG _ _ _).1 gbefghj)
        exact AllReadyIn.nil
      have gbefgj : G 7 #[false, true, false, false, true, true, true, false, false, true, false, false] { tmps := #[.slice a 8 cap, .int .i64 (c : Nat), .slice bo n cb, undef, undef, undef, .slice none 0 0, .pointer (some ⟨w1.heap.size, 0, none⟩), .pointer (some ⟨w2.heap.size, 0, none⟩), .int .u64 (T : Nat), .pointer (some ⟨w2.heap.size + 1, 0, none⟩), .slice (chA bo 7 x.1) L (cb - 7 * x.1), .slice a 8 cap, .int .i64 (c : Nat), .agg (kys .u8 64 (padB W c 0)), .slice (some ⟨w1.heap.size, 0, none⟩) 8 64, .int .u64 (X : Nat), .int .u64 (R : Nat), .slice (some ⟨w1.heap.size, 8, none⟩) 8 56, .int .u64 (Y : Nat), .int .u64 (T : Nat), .slice bo n cb, .func (.func 58) #[] #[.pointer (some ⟨w2.heap.size + 1 + 1, 0, none⟩), .pointer (some ⟨w2.heap.size + 1 + 1 + 1, 0, none⟩)], .slice (chA bo 7 x.1) L (cb - 7 * x.1), undef, .slice (chA bo 7 x.1) L (cb - 7 * x.1), undef, undef, .slice (chA bo 7 x.1) L (cb - 7 * x.1), .int .i64 (L : Nat), .int .i64 (q8 : Nat), undef, undef, .int .u64 (R : Nat), undef, undef, undef, undef, undef, undef], defers := [] } := by
        refine (hG _ _ _).2 ?_
        refine wpAnyIn_ready (rs := [0, 2, 7]) (by kernel_rfl) (by simp) ?_
        refine AllReadyIn.cons rfl (fun K hK => ?_) ?_
        · go_simp
          exact hK _ _ ((hG _ _ _).1 gabefgj)
        refine AllReadyIn.cons rfl (fun K hK => ?_) ?_
        · go_simp
          gi_wp2_with (refine ⟨trivial, ?_⟩; gi_at_call 23; with_reducible refine (CallsIn.inRound l hN).mono ?_; rintro e wx ⟨rfl, hw⟩; have hw := hw.symm; subst hw)
          first | exact hK _ _ ((hG _ _ _).1 gbcefgj) | exact (hG _ _ _).1 gbcefgj
        refine AllReadyIn.cons rfl (fun K hK => ?_) ?_
        · go_simp
          exact hK _ _ ((hG _ _ _).1 gbefghj)
        exact AllReadyIn.nil
      have gefghj : G 7 #[false, false, false, false, true, true, true, true, false, true, false, false] { tmps := #[.slice a 8 cap, .int .i64 (c : Nat), .slice bo n cb, undef, undef, undef, .slice none 0 0, .pointer (some ⟨w1.heap.size, 0, none⟩), .pointer (some ⟨w2.heap.size, 0, none⟩), .int .u64 (T : Nat), .pointer (some ⟨w2.heap.size + 1, 0, none⟩), .slice (chA bo 7 x.1) L (cb - 7 * x.1), .slice a 8 cap, .int .i64 (c : Nat), .agg (kys .u8 64 (padB W c 0)), .slice (some ⟨w1.heap.size, 0, none⟩) 8 64, .int .u64 (X : Nat), .int .u64 (R : Nat), .slice (some ⟨w1.heap.size, 8, none⟩) 8 56, .int .u64 (Y : Nat), .int .u64 (T : Nat), .slice bo n cb, .func (.func 58) #[] #[.pointer (some ⟨w2.heap.size + 1 + 1, 0, none⟩), .pointer (some ⟨w2.heap.size + 1 + 1 + 1, 0, none⟩)], .slice (chA bo 7 x.1) L (cb - 7 * x.1), undef, undef, undef, undef, .slice (chA bo 7 x.1) L (cb - 7 * x.1), .int .i64 (L : Nat), .int .i64 (q8 : Nat), .int .u64 (p : Nat), undef, .int .u64 (R : Nat), undef, undef, undef, undef, undef, undef], defers := [] } := by
        refine (hG _ _ _).2 ?_
        refine wpAnyIn_ready (rs := [0, 1]) (by kernel_rfl) (by simp) ?_
        refine AllReadyIn.cons rfl (fun K hK => ?_) ?_
        · go_simp
          exact hK _ _ ((hG _ _ _).1 gaefghj)
        refine AllReadyIn.cons rfl (fun K hK => ?_) ?_
        · go_simp
          exact hK _ _ ((hG _ _ _).1 gbefghj)
        exact AllReadyIn.nil
      have gabcd : G 8 #[true, true, true, true, false, false, false, false, false, false, false, false] { tmps := #[.slice a 8 cap, .int .i64 (c : Nat), .slice bo n cb, undef, undef, undef, .slice none 0 0, .pointer (some ⟨w1.heap.size, 0, none⟩), .pointer (some ⟨w2.heap.size, 0, none⟩), .int .u64 (T : Nat), .pointer (some ⟨w2.heap.size + 1, 0, none⟩), .slice (chA bo 7 x.1) L (cb - 7 * x.1), .slice a 8 cap, .int .i64 (c : Nat), .agg (kys .u8 64 (padB W c 0)), .slice (some ⟨w1.heap.size, 0, none⟩) 8 64, .int .u64 (X : Nat), .int .u64 (R : Nat), .slice (some ⟨w1.heap.size, 8, none⟩) 8 56, .int .u64 (Y : Nat), .int .u64 (T : Nat), .slice bo n cb, .func (.func 58) #[] #[.pointer (some ⟨w2.heap.size + 1 + 1, 0, none⟩), .pointer (some ⟨w2.heap.size + 1 + 1 + 1, 0, none⟩)], .slice (chA bo 7 x.1) L (cb - 7 * x.1), .int .u64 (s : Nat), .slice (chA bo 7 x.1) L (cb - 7 * x.1), .int .u64 (v : Nat), .int .u64 (a1 : Nat), undef, undef, undef, undef, undef, undef, undef, undef, undef, undef, undef, undef], defers := [] } := by
        refine (hG _ _ _).2 ?_
        refine wpAnyIn_ready (rs := [4, 9]) (by kernel_rfl) (by simp) ?_
        refine AllReadyIn.cons rfl (fun K hK => ?_) ?_
        · go_simp
          exact hK _ _ ((hG _ _ _).1 gabcde)
        refine AllReadyIn.cons rfl (fun K hK => ?_) ?_
        · go_simp
          exact hK _ _ ((hG _ _ _).1 gabcdj)
        exact AllReadyIn.nil
      have gabce : G 8 #[true, true, true, false, true, false, false, false, false, false, false, false] { tmps := #[.slice a 8 cap, .int .i64 (c : Nat), .slice bo n cb, undef, undef, undef, .slice none 0 0, .pointer (some ⟨w1.heap.size, 0, none⟩), .pointer (some ⟨w2.heap.size, 0, none⟩), .int .u64 (T : Nat), .pointer (some ⟨w2.heap.size + 1, 0, none⟩), .slice (chA bo 7 x.1) L (cb - 7 * x.1), .slice a 8 cap, .int .i64 (c : Nat), .agg (kys .u8 64 (padB W c 0)), .slice (some ⟨w1.heap.size, 0, none⟩) 8 64, .int .u64 (X : Nat), .int .u64 (R : Nat), .slice (some ⟨w1.heap.size, 8, none⟩) 8 56, .int .u64 (Y : Nat), .int .u64 (T : Nat), .slice bo n cb, .func (.func 58) #[] #[.pointer (some ⟨w2.heap.size + 1 + 1, 0, none⟩), .pointer (some ⟨w2.heap.size + 1 + 1 + 1, 0, none⟩)], .slice (chA bo 7 x.1) L (cb - 7 * x.1), .int .u64 (s : Nat), .slice (chA bo 7 x.1) L (cb - 7 * x.1), .int .u64 (v : Nat), undef, .slice (chA bo 7 x.1) L (cb - 7 * x.1), undef, undef, undef, undef, undef, undef, undef, undef, undef, undef, undef], defers := [] } := by
        refine (hG _ _ _).2 ?_
        refine wpAnyIn_ready (rs := [3, 5, 9]) (by kernel_rfl) (by simp) ?_
        refine AllReadyIn.cons rfl (fun K hK => ?_) ?_
        · go_simp
          exact hK _ _ ((hG _ _ _).1 gabcde)
        refine AllReadyIn.cons rfl (fun K hK => ?_) ?_
        · go_simp
          exact hK _ _ ((hG _ _ _).1 gabcef)
        refine AllReadyIn.cons rfl (fun K hK => ?_) ?_
        · go_simp
          exact hK _ _ ((hG _ _ _).1 gabcej)
        exact AllReadyIn.nil
      have gabcj : G 8 #[true, true, true, false, false, false, false, false, false, true, false, false] { tmps := #[.slice a 8 cap, .int .i64 (c : Nat), .slice bo n cb, undef, undef, undef, .slice none 0 0, .pointer (some ⟨w1.heap.size, 0, none⟩), .pointer (some ⟨w2.heap.size, 0, none⟩), .int .u64 (T : Nat), .pointer (some ⟨w2.heap.size + 1, 0, none⟩), .slice (chA bo 7 x.1) L (cb - 7 * x.1), .slice a 8 cap, .int .i64 (c : Nat), .agg (kys .u8 64 (padB W c 0)), .slice (some ⟨w1.heap.size, 0, none⟩) 8 64, .int .u64 (X : Nat), .int .u64 (R : Nat), .slice (some ⟨w1.heap.size, 8, none⟩) 8 56, .int .u64 (Y : Nat), .int .u64 (T : Nat), .slice bo n cb, .func (.func 58) #[] #[.pointer (some ⟨w2.heap.size + 1 + 1, 0, none⟩), .pointer (some ⟨w2.heap.size + 1 + 1 + 1, 0, none⟩)], .slice (chA bo 7 x.1) L (cb - 7 * x.1), .int .u64 (s : Nat), .slice (chA bo 7 x.1) L (cb - 7 * x.1), .int .u64 (v : Nat), undef, undef, undef, undef, undef, undef, .int .u64 (R : Nat), undef, undef, undef, undef, undef, undef], defers := [] } := by
        refine (hG _ _ _).2 ?_
        refine wpAnyIn_ready (rs := [3, 4]) (by kernel_rfl) (by simp) ?_
        refine AllReadyIn.cons rfl (fun K hK => ?_) ?_
        · go_simp
          exact hK _ _ ((hG _ _ _).1 gabcdj)
        refine AllReadyIn.cons rfl (fun K hK => ?_) ?_
        · go_simp
          exact hK _ _ ((hG _ _ _).1 gabcej)
        exact AllReadyIn.nil
      have gabef : G 8 #[true, true, false, false, true, true, false, false, false, false, false, false] { tmps := #[.slice a 8 cap, .int .i64 (c : Nat), .slice bo n cb, undef, undef, undef, .slice none 0 0, .pointer (some ⟨w1.heap.size, 0, none⟩), .pointer (some ⟨w2.heap.size, 0, none⟩), .int .u64 (T : Nat), .pointer (some ⟨w2.heap.size + 1, 0, none⟩), .slice (chA bo 7 x.1) L (cb - 7 * x.1), .slice a 8 cap, .int .i64 (c : Nat), .agg (kys .u8 64 (padB W c 0)), .slice (some ⟨w1.heap.size, 0, none⟩) 8 64, .int .u64 (X : Nat), .int .u64 (R : Nat), .slice (some ⟨w1.heap.size, 8, none⟩) 8 56, .int .u64 (Y : Nat), .int .u64 (T : Nat), .slice bo n cb, .func (.func 58) #[] #[.pointer (some ⟨w2.heap.size + 1 + 1, 0, none⟩), .pointer (some ⟨w2.heap.size + 1 + 1 + 1, 0, none⟩)], .slice (chA bo 7 x.1) L (cb - 7 * x.1), .int .u64 (s : Nat), .slice (chA bo 7 x.1) L (cb - 7 * x.1), undef, undef, .slice (chA bo 7 x.1) L (cb - 7 * x.1), .int .i64 (L : Nat), undef, undef, undef, undef, undef, undef, undef, undef, undef, undef], defers := [] } := by
        refine (hG _ _ _).2 ?_
        refine wpAnyIn_ready (rs := [2, 6, 9]) (by kernel_rfl) (by simp) ?_
        refine AllReadyIn.cons rfl (fun K hK => ?_) ?_
        · go_simp
          gi_wp2_with (refine ⟨trivial, ?_⟩; gi_at_call 23; with_reducible refine (CallsIn.inRound l hN).mono ?_; rintro e wx ⟨rfl, hw⟩; have hw := hw.symm; subst hw)
          first | exact hK _ _ ((hG _ _ _).1 gabcef) | exact (hG _ _ _).1 gabcef
        refine AllReadyIn.cons rfl (fun K hK => ?_) ?_
        · go_simp
          exact hK _ _ ((hG _ _ _).1 gabefg)
        refine AllReadyIn.cons rfl (fun K hK => ?_) ?_
        · go_simp
          exact hK _ _ ((hG _ _ _).1 gabefj)
        exact AllReadyIn.nil
      have gabej : G 8 #[true, true, false, false, true, false, false, false, false, true, false, false] { tmps := #[.slice a 8 cap, .int .i64 (c : Nat), .slice bo n cb, undef, undef, undef, .slice none 0 0, .pointer (some ⟨w1.heap.size, 0, none⟩), .pointer (some ⟨w2.heap.size, 0, none⟩), .int .u64 (T : Nat), .pointer (some ⟨w2.heap.size + 1, 0, none⟩), .slice (chA bo 7 x.1) L (cb - 7 * x.1), .slice a 8 cap, .int .i64 (c : Nat), .agg (kys .u8 64 (padB W c 0)), .slice (some ⟨w1.heap.size, 0, none⟩) 8 64, .int .u64 (X : Nat), .int .u64 (R : Nat), .slice (some ⟨w1.heap.size, 8, none⟩) 8 56, .int .u64 (Y : Nat), .int .u64 (T : Nat), .slice bo n cb, .func (.func 58) #[] #[.pointer (some ⟨w2.heap.size + 1 + 1, 0, none⟩), .pointer (some ⟨w2.heap.size + 1 + 1 + 1, 0, none⟩)], .slice (chA bo 7 x.1) L (cb - 7 * x.1), .int .u64 (s : Nat), .slice (chA bo 7 x.1) L (cb - 7 * x.1), undef, undef, .slice (chA bo 7 x.1) L (cb - 7 * x.1), undef, undef, undef, undef, .int .u64 (R : Nat), undef, undef, undef, undef, undef, undef], defers := [] } := by
        refine (hG _ _ _).2 ?_
        refine wpAnyIn_ready (rs := [2, 5]) (by kernel_rfl) (by simp) ?_
        refine AllReadyIn.cons rfl (fun K hK => ?_) ?_
        · go_simp
          gi_wp2_with (refine ⟨trivial, ?_⟩; gi_at_call 23; with_reducible refine (CallsIn.inRound l hN).mono ?_; rintro e wx ⟨rfl, hw⟩; have hw := hw.symm; subst hw)
          first | exact hK _ _ ((hG _ _ _).1 gabcej) | exact (hG _ _ _).1 gabcej
        refine AllReadyIn.cons rfl (fun K hK => ?_) ?_
        · go_simp
          exact hK _ _ ((hG _ _ _).1 gabefj)
        exact AllReadyIn.nil
      have gaefg : G 8 #[true, false, false, false, true, true, true, false, false, false, false, false] { tmps := #[.slice a 8 cap, .int .i64 (c : Nat), .slice bo n cb, undef, undef, undef, .slice none 0 0, .pointer (some ⟨w1.heap.size, 0, none⟩), .pointer (some ⟨w2.heap.size, 0, none⟩), .int .u64 (T : Nat), .pointer (some ⟨w2.heap.size + 1, 0, none⟩), .slice (chA bo 7 x.1) L (cb - 7 * x.1), .slice a 8 cap, .int .i64 (c : Nat), .agg (kys .u8 64 (padB W c 0)), .slice (some ⟨w1.heap.size, 0, none⟩) 8 64, .int .u64 (X : Nat), .int .u64 (R : Nat), .slice (some ⟨w1.heap.size, 8, none⟩) 8 56, .int .u64 (Y : Nat), .int .u64 (T : Nat), .slice bo n cb, .func (.func 58) #[] #[.pointer (some ⟨w2.heap.size + 1 + 1, 0, none⟩), .pointer (some ⟨w2.heap.size + 1 + 1 + 1, 0, none⟩)], .slice (chA bo 7 x.1) L (cb - 7 * x.1), .int .u64 (s : Nat), undef, undef, undef, .slice (chA bo 7 x.1) L (cb - 7 * x.1), .int .i64 (L : Nat), .int .i64 (q8 : Nat), undef, undef, undef, undef, undef, undef, undef, undef, undef], defers := [] } := by
        refine (hG _ _ _).2 ?_
        refine wpAnyIn_ready (rs := [1, 7, 9]) (by kernel_rfl) (by simp) ?_
        refine AllReadyIn.cons rfl (fun K hK => ?_) ?_
        · go_simp
          exact hK _ _ ((hG _ _ _).1 gabefg)
        refine AllReadyIn.cons rfl (fun K hK => ?_) ?_
        · go_simp
          exact hK _ _ ((hG _ _ _).1 gaefgh)
        refine AllReadyIn.cons rfl (fun K hK => ?_) ?_
        · go_simp
          exact hK _ _ ((hG _ _ _).1 gaefgj)
        exact AllReadyIn.nil
      have gaefj : G 8 #[true, false, false, false, true, true, false, false, false, true, false, false] { tmps := #[.slice a 8 cap, .int .i64 (c : Nat), .slice bo n cb, undef, undef, undef, .slice none 0 0, .pointer (some ⟨w1.heap.size, 0, none⟩), .pointer (some ⟨w2.heap.size, 0, none⟩), .int .u64 (T : Nat), .pointer (some ⟨w2.heap.size + 1, 0, none⟩), .slice (chA bo 7 x.1) L (cb - 7 * x.1), .slice a 8 cap, .int .i64 (c : Nat), .agg (kys .u8 64 (padB W c 0)), .slice (some ⟨w1.heap.size, 0, none⟩) 8 64, .int .u64 (X : Nat), .int .u64 (R : Nat), .slice (some ⟨w1.heap.size, 8, none⟩) 8 56, .int .u64 (Y : Nat), .int .u64 (T : Nat), .slice bo n cb, .func (.func 58) #[] #[.pointer (some ⟨w2.heap.size + 1 + 1, 0, none⟩), .pointer (some ⟨w2.heap.size + 1 + 1 + 1, 0, none⟩)], .slice (chA bo 7 x.1) L (cb - 7 * x.1), .int .u64 (s : Nat), undef, undef, undef, .slice (chA bo 7 x.1) L (cb - 7 * x.1), .int .i64 (L : Nat), undef, undef, undef, .int .u64 (R : Nat), undef, undef, undef, undef, undef, undef], defers := [] } := by
        refine (hG _ _ _).2 ?_
        refine wpAnyIn_ready (rs := [1, 6]) (by kernel_rfl) (by simp) ?_
        refine AllReadyIn.cons rfl (fun K hK => ?_) ?_
        · go_simp
          exact hK _ _ ((hG _ _ _).1 gabefj)
        refine AllReadyIn.cons rfl (fun K hK => ?_) ?_
        · go_simp
          exact hK _ _ ((hG _ _ _).1 gaefgj)
        exact AllReadyIn.nil
      have gbcef : G 8 #[false, true, true, false, true, true, false, false, false, false, false, false] { tmps := #[.slice a 8 cap, .int .i64 (c : Nat), .slice bo n cb, undef, undef, undef, .slice none 0 0, .pointer (some ⟨w1.heap.size, 0, none⟩), .pointer (some ⟨w2.heap.size, 0, none⟩), .int .u64 (T : Nat), .pointer (some ⟨w2.heap.size + 1, 0, none⟩), .slice (chA bo 7 x.1) L (cb - 7 * x.1), .slice a 8 cap, .int .i64 (c : Nat), .agg (kys .u8 64 (padB W c 0)), .slice (some ⟨w1.heap.size, 0, none⟩) 8 64, .int .u64 (X : Nat), .int .u64 (R : Nat), .slice (some ⟨w1.heap.size, 8, none⟩) 8 56, .int .u64 (Y : Nat), .int .u64 (T : Nat), .slice bo n cb, .func (.func 58) #[] #[.pointer (some ⟨w2.heap.size + 1 + 1, 0, none⟩), .pointer (some ⟨w2.heap.size + 1 + 1 + 1, 0, none⟩)], .slice (chA bo 7 x.1) L (cb - 7 * x.1), undef, .slice (chA bo 7 x.1) L (cb - 7 * x.1), .int .u64 (v : Nat), undef, .slice (chA bo 7 x.1) L (cb - 7 * x.1), .int .i64 (L : Nat), undef, undef, undef, undef, undef, undef, undef, undef, undef, undef], defers := [] } := by
        refine (hG _ _ _).2 ?_
        refine wpAnyIn_ready (rs := [0, 6, 9]) (by kernel_rfl) (by simp) ?_
        refine AllReadyIn.cons rfl (fun K hK => ?_) ?_
        · go_simp
          exact hK _ _ ((hG _ _ _).1 gabcef)
        refine AllReadyIn.cons rfl (fun K hK => ?_) ?_
        · go_simp
          exact hK _ _ ((hG _ _ _).1 gbcefg)
        refine AllReadyIn.cons rfl (fun K hK => ?_) ?_
        · go_simp
          exact hK _ _ ((hG _ _ _).1 gbcefj)
        exact AllReadyIn.nil
      have gbcej : G 8 #[false, true, true, false, true, false, false, false, false, true, false, false] { tmps := #[.slice a 8 cap, .int .i64 (c : Nat), .slice bo n cb, undef, undef, undef, .slice none 0 0, .pointer (some ⟨w1.heap.size, 0, none⟩), .pointer (some ⟨w2.heap.size, 0, none⟩), .int .u64 (T : Nat), .pointer (some ⟨w2.heap.size + 1, 0, none⟩), .slice (chA bo 7 x.1) L (cb - 7 * x.1), .slice a 8 cap, .int .i64 (c : Nat), .agg (kys .u8 64 (padB W c 0)), .slice (some ⟨w1.heap.size, 0, none⟩) 8 64, .int .u64 (X : Nat), .int .u64 (R : Nat), .slice (some ⟨w1.heap.size, 8, none⟩) 8 56, .int .u64 (Y : Nat), .int .u64 (T : Nat), .slice bo n cb, .func (.func 58) #[] #[.pointer (some ⟨w2.heap.size + 1 + 1, 0, none⟩), .pointer (some ⟨w2.heap.size + 1 + 1 + 1, 0, none⟩)], .slice (chA bo 7 x.1) L (cb - 7 * x.1), undef, .slice (chA bo 7 x.1) L (cb - 7 * x.1), .int .u64 (v : Nat), undef, .slice (chA bo 7 x.1) L (cb - 7 * x.1), undef, undef, undef, undef, .int .u64 (R : Nat), undef, undef, undef, undef, undef, undef], defers := [] } := by
        refine (hG _ _ _).2 ?_
        refine wpAnyIn_ready (rs := [0, 5]) (by kernel_rfl) (by simp) ?_
        refine AllReadyIn.cons rfl (fun K hK => ?_) ?_
        · go_simp
          exact hK _ _ ((hG _ _ _).1 gabcej)
        refine AllReadyIn.cons rfl (fun K hK => ?_) ?_
        · go_simp
          exact hK _ _ ((hG _ _ _).1 gbcefj)
        exact AllReadyIn.nil
      have gbefg : G 8 #[false, true, false, false, true, true, true, false, false, false, false, false] { tmps := #[.slice a 8 cap, .int .i64 (c : Nat), .slice bo n cb, undef, undef, undef, .slice none 0 0, .pointer (some ⟨w1.heap.size, 0, none⟩), .pointer (some ⟨w2.heap.size, 0, none⟩), .int .u64 (T : Nat), .pointer (some ⟨w2.heap.size + 1, 0, none⟩), .slice (chA bo 7 x.1) L (cb - 7 * x.1), .slice a 8 cap, .int .i64 (c : Nat), .agg (kys .u8 64 (padB W c 0)), .slice (some ⟨w1.heap.size, 0, none⟩) 8 64, .int .u64 (X : Nat), .int .u64 (R : Nat), .slice (some ⟨w1.heap.size, 8, none⟩) 8 56, .int .u64 (Y : Nat), .int .u64 (T : Nat), .slice bo n cb, .func (.func 58) #[] #[.pointer (some ⟨w2.heap.size + 1 + 1, 0, none⟩), .pointer (some ⟨w2.heap.size + 1 + 1 + 1, 0, none⟩)], .slice (chA bo 7 x.1) L (cb - 7 * x.1), undef, .slice (chA bo 7 x.1) L (cb - 7 * x.1), undef, undef, .slice (chA bo 7 x.1) L (cb - 7 * x.1), .int .i64 (L : Nat), .int .i64 (q8 : Nat), undef, undef, undef, undef, undef, undef, undef, undef, undef], defers := [] } := by
        refine (hG _ _ _).2 ?_
        refine wpAnyIn_ready (rs := [0, 2, 7, 9]) (by kernel_rfl) (by simp) ?_
        refine AllReadyIn.cons rfl (fun K hK => ?_) ?_
        · go_simp
          exact hK _ _ ((hG _ _ _).1 gabefg)
        refine AllReadyIn.cons rfl (fun K hK => ?_) ?_
        · go_simp
          gi_wp2_with (refine ⟨trivial, ?_⟩; gi_at_call 23; with_reducible refine (CallsIn.inRound l hN).mono ?_; rintro e wx ⟨rfl, hw⟩; have hw := hw.symm; subst hw)
          first | exact hK _ _ ((hG _ _ _).1 gbcefg) | exact (hG _ _ _).1 gbcefg
        refine AllReadyIn.cons rfl (fun K hK => ?_) ?_
        · go_simp
          exact hK _ _ ((hG _ _ _).1 gbefgh)
        refine AllReadyIn.cons rfl (fun K hK => ?_) ?_
        · go_simp
          exact hK _ _ ((hG _ _ _).1 gbefgj)
        exact AllReadyIn.nil
      have gbefj : G 8 #[false, true, false, false, true, true, false, false, false, true, false, false] { tmps := #[.slice a 8 cap, .int .i64 (c : Nat), .slice bo n cb, undef, undef, undef, .slice none 0 0, .pointer (some ⟨w1.heap.size, 0, none⟩), .pointer (some ⟨w2.heap.size, 0, none⟩), .int .u64 (T : Nat), .pointer (some ⟨w2.heap.size + 1, 0, none⟩), .slice (chA bo 7 x.1) L (cb - 7 * x.1), .slice a 8 cap, .int .i64 (c : Nat), .agg (kys .u8 64 (padB W c 0)), .slice (some ⟨w1.heap.size, 0, none⟩) 8 64, .int .u64 (X : Nat), .int .u64 (R : Nat), .slice (some ⟨w1.heap.size, 8, none⟩) 8 56, .int .u64 (Y : Nat), .int .u64 (T : Nat), .slice bo n cb, .func (.func 58) #[] #[.pointer (some ⟨w2.heap.size + 1 + 1, 0, none⟩), .pointer (some ⟨w2.heap.size + 1 + 1 + 1, 0, none⟩)], .slice (chA bo 7 x.1) L (cb - 7 * x.1), undef, .slice (chA bo 7 x.1) L (cb - 7 * x.1), undef, undef, .slice (chA bo 7 x.1) L (cb - 7 * x.1), .int .i64 (L : Nat), undef, undef, undef, .int .u64 (R : Nat), undef, undef, undef, undef, undef, undef], defers := [] } := by
        refine (hG _ _ _).2 ?_
        refine wpAnyIn_ready (rs := [0, 2, 6]) (by kernel_rfl) (by simp) ?_
        refine AllReadyIn.cons rfl (fun K hK => ?_) ?_
        · go_simp
          exact hK _ _ ((hG _ _ _).1 gabefj)
        refine AllReadyIn.cons rfl (fun K hK => ?_) ?_
        · go_simp
          gi_wp2_with (refine ⟨trivial, ?_⟩; gi_at_call 23; with_reducible refine (CallsIn.inRound l hN).mono ?_; rintro e wx ⟨rfl, hw⟩; have hw := hw.symm; subst hw)
          first | exact hK _ _ ((hG _ _ _).1 gbcefj) | exact (hG _ _ _).1 gbcefj
        refine AllReadyIn.cons rfl (fun K hK => ?_) ?_
        · go_simp
          exact hK _ _ ((hG _ _ _).1 gbefgj)
        exact AllReadyIn.nil
      have gefgh : G 8 #[false, false, false, false, true, true, true, true, false, false, false, false] { tmps := #[.slice a 8 cap, .int .i64 (c : Nat), .slice bo n cb, undef, undef, undef, .slice none 0 0, .pointer (some ⟨w1.heap.size, 0, none⟩), .pointer (some ⟨w2.heap.size, 0, none⟩), .int .u64 (T : Nat), .pointer (some ⟨w2.heap.size + 1, 0, none⟩), .slice (chA bo 7 x.1) L (cb - 7 * x.1), .slice a 8 cap, .int .i64 (c : Nat), .agg (kys .u8 64 (padB W c 0)), .slice (some ⟨w1.heap.size, 0, none⟩) 8 64, .int .u64 (X : Nat), .int .u64 (R : Nat), .slice (some ⟨w1.heap.size, 8, none⟩) 8 56, .int .u64 (Y : Nat), .int .u64 (T : Nat), .slice bo n cb, .func (.func 58) #[] #[.pointer (some ⟨w2.heap.size + 1 + 1, 0, none⟩), .pointer (some ⟨w2.heap.size + 1 + 1 + 1, 0, none⟩)], .slice (chA bo 7 x.1) L (cb - 7 * x.1), undef, undef, undef, undef, .slice (chA bo 7 x.1) L (cb - 7 * x.1), .int .i64 (L : Nat), .int .i64 (q8 : Nat), .int .u64 (p : Nat), undef, undef, undef, undef, undef, undef, undef, undef], defers := [] } := by
        refine (hG _ _ _).2 ?_
        refine wpAnyIn_ready (rs := [0, 1, 9]) (by kernel_rfl) (by simp) ?_
        refine AllReadyIn.cons rfl (fun K hK => ?_) ?_
        · go_simp
          exact hK _ _ ((hG _ _ _).1 gaefgh)
        refine AllReadyIn.cons rfl (fun K hK => ?_) ?_
        · go_simp
          exact hK _ _ ((hG _ _ _).1 gbefgh)
        refine AllReadyIn.cons rfl (fun K hK => ?_) ?_
        · go_simp
          exact hK _ _ ((hG _ _ _).1 gefghj)
        exact AllReadyIn.nil
      have gefgj : G 8 #[false, false, false, false, true, true, true, false, false, true, false, false] { tmps := #[.slice a 8 cap, .int .i64 (c : Nat), .slice bo n cb, undef, undef, undef, .slice none 0 0, .pointer (some ⟨w1.heap.size, 0, none⟩), .pointer (some ⟨w2.heap.size, 0, none⟩), .int .u64 (T : Nat), .pointer (some ⟨w2.heap.size + 1, 0, none⟩), .slice (chA bo 7 x.1) L (cb - 7 * x.1), .slice a 8 cap, .int .i64 (c : Nat), .agg (kys .u8 64 (padB W c 0)), .slice (some ⟨w1.heap.size, 0, none⟩) 8 64, .int .u64 (X : Nat), .int .u64 (R : Nat), .slice (some ⟨w1.heap.size, 8, none⟩) 8 56, .int .u64 (Y : Nat), .int .u64 (T : Nat), .slice bo n cb, .func (.func 58) #[] #[.pointer (some ⟨w2.heap.size + 1 + 1, 0, none⟩), .pointer (some ⟨w2.heap.size + 1 + 1 + 1, 0, none⟩)], .slice (chA bo 7 x.1) L (cb - 7 * x.1), undef, undef, undef, undef, .slice (chA bo 7 x.1) L (cb - 7 * x.1), .int .i64 (L : Nat), .int .i64 (q8 : Nat), undef, undef, .int .u64 (R : Nat), undef, undef, undef, undef, undef, undef], defers := [] } := by
        refine (hG _ _ _).2 ?_
        refine wpAnyIn_ready (rs := [0, 1, 7]) (by kernel_rfl) (by simp) ?_
        refine AllReadyIn.cons rfl (fun K hK => ?_) ?_
        · go_simp
          exact hK _ _ ((hG _ _ _).1 gaefgj)
        refine AllReadyIn.cons rfl (fun K hK => ?_) ?_
        · go_simp
          exact hK _ _ ((hG _ _ _).1 gbefgj)
        refine AllReadyIn.cons rfl (fun K hK => ?_) ?_
        · go_simp
          exact hK _ _ ((hG _ _ _).1 gefghj)
        exact AllReadyIn.nil
      have gabc : G 9 #[true, true, true, false, false, false, false, false, false, false, false, false] { tmps := #[.slice a 8 cap, .int .i64 (c : Nat), .slice bo n cb, undef, undef, undef, .slice none 0 0, .pointer (some ⟨w1.heap.size, 0, none⟩), .pointer (some ⟨w2.heap.size, 0, none⟩), .int .u64 (T : Nat), .pointer (some ⟨w2.heap.size + 1, 0, none⟩), .slice (chA bo 7 x.1) L (cb - 7 * x.1), .slice a 8 cap, .int .i64 (c : Nat), .agg (kys .u8 64 (padB W c 0)), .slice (some ⟨w1.heap.size, 0, none⟩) 8 64, .int .u64 (X : Nat), .int .u64 (R : Nat), .slice (some ⟨w1.heap.size, 8, none⟩) 8 56, .int .u64 (Y : Nat), .int .u64 (T : Nat), .slice bo n cb, .func (.func 58) #[] #[.pointer (some ⟨w2.heap.size + 1 + 1, 0, none⟩), .pointer (some ⟨w2.heap.size + 1 + 1 + 1, 0, none⟩)], .slice (chA bo 7 x.1) L (cb - 7 * x.1), .int .u64 (s : Nat), .slice (chA bo 7 x.1) L (cb - 7 * x.1), .int .u64 (v : Nat), undef, undef, undef, undef, undef, undef, undef, undef, undef, undef, undef, undef, undef], defers := [] } := by
        refine (hG _ _ _).2 ?_
        refine wpAnyIn_ready (rs := [3, 4, 9]) (by kernel_rfl) (by simp) ?_
        refine AllReadyIn.cons rfl (fun K hK => ?_) ?_
        · go_simp
          exact hK _ _ ((hG _ _ _).1 gabcd)
        refine AllReadyIn.cons rfl (fun K hK => ?_) ?_
        · go_simp
          exact hK _ _ ((hG _ _ _).1 gabce)
        refine AllReadyIn.cons rfl (fun K hK => ?_) ?_
        · go_simp
          exact hK _ _ ((hG _ _ _).1 gabcj)
        exact AllReadyIn.nil
      have gabe : G 9 #[true, true, false, false, true, false, false, false, false, false, false, false] { tmps := #[.slice a 8 cap, .int .i64 (c : Nat), .slice bo n cb, undef, undef, undef, .slice none 0 0, .pointer (some ⟨w1.heap.size, 0, none⟩), .pointer (some ⟨w2.heap.size, 0, none⟩), .int .u64 (T : Nat), .pointer (some ⟨w2.heap.size + 1, 0, none⟩), .slice (chA bo 7 x.1) L (cb - 7 * x.1), .slice a 8 cap, .int .i64 (c : Nat), .agg (kys .u8 64 (padB W c 0)), .slice (some ⟨w1.heap.size, 0, none⟩) 8 64, .int .u64 (X : Nat), .int .u64 (R : Nat), .slice (some ⟨w1.heap.size, 8, none⟩) 8 56, .int .u64 (Y : Nat), .int .u64 (T : Nat), .slice bo n cb, .func (.func 58) #[] #[.pointer (some ⟨w2.heap.size + 1 + 1, 0, none⟩), .pointer (some ⟨w2.heap.size + 1 + 1 + 1, 0, none⟩)], .slice (chA bo 7 x.1) L (cb - 7 * x.1), .int .u64 (s : Nat), .slice (chA bo 7 x.1) L (cb - 7 * x.1), undef, undef, .slice (chA bo 7 x.1) L (cb - 7 * x.1), undef, undef, undef, undef, undef, undef, undef, undef, undef, undef, undef], defers := [] } := by
        refine (hG _ _ _).2 ?_
        refine wpAnyIn_ready (rs := [2, 5, 9]) (by kernel_rfl) (by simp) ?_
        refine AllReadyIn.cons rfl (fun K hK => ?_) ?_
        · go_simp
          gi_wp2_with (refine ⟨trivial, ?_⟩; gi_at_call 23; with_reducible refine (CallsIn.inRound l hN).mono ?_; rintro e wx ⟨rfl, hw⟩; have hw := hw.symm; subst hw)
          first | exact hK _ _ ((hG _ _ _).1 gabce) | exact (hG _ _ _).1 gabce
        refine AllReadyIn.cons rfl (fun K hK => ?_) ?_
        · go_simp
          exact hK _ _ ((hG _ _ _).1 gabef)
        refine AllReadyIn.cons rfl (fun K hK => ?_) ?_
        · go_simp
          exact hK _ _ ((hG _ _ _).1 gabej)
        exact AllReadyIn.nil
      have gabj : G 9 #[true, true, false, false, false, false, false, false, false, true, false, false] { tmps := #[.slice a 8 cap, .int .i64 (c : Nat), .slice bo n cb, undef, undef, undef, .slice none 0 0, .pointer (some ⟨w1.heap.size, 0, none⟩), .pointer (some ⟨w2.heap.size, 0, none⟩), .int .u64 (T : Nat), .pointer (some ⟨w2.heap.size + 1, 0, none⟩), .slice (chA bo 7 x.1) L (cb - 7 * x.1), .slice a 8 cap, .int .i64 (c : Nat), .agg (kys .u8 64 (padB W c 0)), .slice (some ⟨w1.heap.size, 0, none⟩) 8 64, .int .u64 (X : Nat), .int .u64 (R : Nat), .slice (some ⟨w1.heap.size, 8, none⟩) 8 56, .int .u64 (Y : Nat), .int .u64 (T : Nat), .slice bo n cb, .func (.func 58) #[] #[.pointer (some ⟨w2.heap.size + 1 + 1, 0, none⟩), .pointer (some ⟨w2.heap.size + 1 + 1 + 1, 0, none⟩)], .slice (chA bo 7 x.1) L (cb - 7 * x.1), .int .u64 (s : Nat), .slice (chA bo 7 x.1) L (cb - 7 * x.1), undef, undef, undef, undef, undef, undef, undef, .int .u64 (R : Nat), undef, undef, undef, undef, undef, undef], defers := [] } := by
        refine (hG _ _ _).2 ?_
        refine wpAnyIn_ready (rs := [2, 4]) (by kernel_rfl) (by simp) ?_
        refine AllReadyIn.cons rfl (fun K hK => ?_) ?_
        · go_simp
          gi_wp2_with (refine ⟨trivial, ?_⟩; gi_at_call 23; with_reducible refine (CallsIn.inRound l hN).mono ?_; rintro e wx ⟨rfl, hw⟩; have hw := hw.symm; subst hw)
          first | exact hK _ _ ((hG _ _ _).1 gabcj) | exact (hG _ _ _).1 gabcj
        refine AllReadyIn.cons rfl (fun K hK => ?_) ?_
        · go_simp
          exact hK _ _ ((hG _ _ _).1 gabej)
        exact AllReadyIn.nil
      have gaef : G 9 #[true, false, false, false, true, true, false, false, false, false, false, false] { tmps := #[.slice a 8 cap, .int .i64 (c : Nat), .slice bo n cb, undef, undef, undef, .slice none 0 0, .pointer (some ⟨w1.heap.size, 0, none⟩), .pointer (some ⟨w2.heap.size, 0, none⟩), .int .u64 (T : Nat), .pointer (some ⟨w2.heap.size + 1, 0, none⟩), .slice (chA bo 7 x.1) L (cb - 7 * x.1), .slice a 8 cap, .int .i64 (c : Nat), .agg (kys .u8 64 (padB W c 0)), .slice (some ⟨w1.heap.size, 0, none⟩) 8 64, .int .u64 (X : Nat), .int .u64 (R : Nat), .slice (some ⟨w1.heap.size, 8, none⟩) 8 56, .int .u64 (Y : Nat), .int .u64 (T : Nat), .slice bo n cb, .func (.func 58) #[] #[.pointer (some ⟨w2.heap.size + 1 + 1, 0, none⟩), .pointer (some ⟨w2.heap.size + 1 + 1 + 1, 0, none⟩)], .slice (chA bo 7 x.1) L (cb - 7 * x.1), .int .u64 (s : Nat), undef, undef, undef, .slice (chA bo 7 x.1) L (cb - 7 * x.1), .int .i64 (L : Nat), undef, undef, undef, undef, undef, undef, undef, undef, undef, undef], defers := [] } := by
        refine (hG _ _ _).2 ?_
        refine wpAnyIn_ready (rs := [1, 6, 9]) (by kernel_rfl) (by simp) ?_
        refine AllReadyIn.cons rfl (fun K hK => ?_) ?_
        · go_simp
          exact hK _ _ ((hG _ _ _).1 gabef)
        refine AllReadyIn.cons rfl (fun K hK => ?_) ?_
        · go_simp
          exact hK _ _ ((hG _ _ _).1 gaefg)
        refine AllReadyIn.cons rfl (fun K hK => ?_) ?_
        · go_simp
          exact hK _ _ ((hG _ _ _).1 gaefj)
        exact AllReadyIn.nil
      have gaej : G 9 #[true, false, false, false, true, false, false, false, false, true, false, false] { tmps := #[.slice a 8 cap, .int .i64 (c : Nat), .slice bo n cb, undef, undef, undef, .slice none 0 0, .pointer (some ⟨w1.heap.size, 0, none⟩), .pointer (some ⟨w2.heap.size, 0, none⟩), .int .u64 (T : Nat), .pointer (some ⟨w2.heap.size + 1, 0, none⟩), .slice (chA bo 7 x.1) L (cb - 7 * x.1), .slice a 8 cap, .int .i64 (c : Nat), .agg (kys .u8 64 (padB W c 0)), .slice (some ⟨w1.heap.size, 0, none⟩) 8 64, .int .u64 (X : Nat), .int .u64 (R : Nat), .slice (some ⟨w1.heap.size, 8, none⟩) 8 56, .int .u64 (Y : Nat), .int .u64 (T : Nat), .slice bo n cb, .func (.func 58) #[] #[.pointer (some ⟨w2.heap.size + 1 + 1, 0, none⟩), .pointer (some ⟨w2.heap.size + 1 + 1 + 1, 0, none⟩)], .slice (chA bo 7 x.1) L (cb - 7 * x.1), .int .u64 (s : Nat), undef, undef, undef, .slice (chA bo 7 x.1) L (cb - 7 * x.1), undef, undef, undef, undef, .int .u64 (R : Nat), undef, undef, undef, undef, undef, undef], defers := [] } := by
        refine (hG _ _ _).2 ?_
        refine wpAnyIn_ready (rs := [1, 5]) (by kernel_rfl) (by simp) ?_
        refine AllReadyIn.cons rfl (fun K hK => ?_) ?_
        · go_simp
          exact hK _ _ ((hG _ _ _).1 gabej)
        refine AllReadyIn.cons rfl (fun K hK => ?_) ?_
        · go_simp
          exact hK _ _ ((hG _ _ _).1 gaefj)
        exact AllReadyIn.nil
      have gbce : G 9 #[false, true, true, false, true, false, false, false, false, false, false, false] { tmps := #[.slice a 8 cap, .int .i64 (c : Nat), .slice bo n cb, undef, undef, undef, .slice none 0 0, .pointer (some ⟨w1.heap.size, 0, none⟩), .pointer (some ⟨w2.heap.size, 0, none⟩), .int .u64 (T : Nat), .pointer (some ⟨w2.heap.size + 1, 0, none⟩), .slice (chA bo 7 x.1) L (cb - 7 * x.1), .slice a 8 cap, .int .i64 (c : Nat), .agg (kys .u8 64 (padB W c 0)), .slice (some ⟨w1.heap.size, 0, none⟩) 8 64, .int .u64 (X : Nat), .int .u64 (R : Nat), .slice (some ⟨w1.heap.size, 8, none⟩) 8 56, .int .u64 (Y : Nat), .int .u64 (T : Nat), .slice bo n cb, .func (.func 58) #[] #[.pointer (some ⟨w2.heap.size + 1 + 1, 0, none⟩), .pointer (some ⟨w2.heap.size + 1 + 1 + 1, 0, none⟩)], .slice (chA bo 7 x.1) L (cb - 7 * x.1), undef, .slice (chA bo 7 x.1) L (cb - 7 * x.1), .int .u64 (v : Nat), undef, .slice (chA bo 7 x.1) L (cb - 7 * x.1), undef, undef, undef, undef, undef, undef, undef, undef, undef, undef, undef], defers := [] } := by
        refine (hG _ _ _).2 ?_
        refine wpAnyIn_ready (rs := [0, 5, 9]) (by kernel_rfl) (by simp) ?_
        refine AllReadyIn.cons rfl (fun K hK => ?_) ?_
        · go_simp
          exact hK _ _ ((hG _ _ _).1 gabce)
        refine AllReadyIn.cons rfl (fun K hK => ?_) ?_
        · go_simp
          exact hK _ _ ((hG _ _ _).1 gbcef)
        refine AllReadyIn.cons rfl (fun K hK => ?_) ?_
        · go_simp
          exact hK _ _ ((hG _ _ _).1 gbcej)
        exact AllReadyIn.nil
      have gbcj : G 9 #[false, true, true, false, false, false, false, false, false, true, false, false] { tmps := #[.slice a 8 cap, .int .i64 (c : Nat), .slice bo n cb, undef, undef, undef, .slice none 0 0, .pointer (some ⟨w1.heap.size, 0, none⟩), .pointer (some ⟨w2.heap.size, 0, none⟩), .int .u64 (T : Nat), .pointer (some ⟨w2.heap.size + 1, 0, none⟩), .slice (chA bo 7 x.1) L (cb - 7 * x.1), .slice a 8 cap, .int .i64 (c : Nat), .agg (kys .u8 64 (padB W c 0)), .slice (some ⟨w1.heap.size, 0, none⟩) 8 64, .int .u64 (X : Nat), .int .u64 (R : Nat), .slice (some ⟨w1.heap.size, 8, none⟩) 8 56, .int .u64 (Y : Nat), .int .u64 (T : Nat), .slice bo n cb, .func (.func 58) #[] #[.pointer (some ⟨w2.heap.size + 1 + 1, 0, none⟩), .pointer (some ⟨w2.heap.size + 1 + 1 + 1, 0, none⟩)], .slice (chA bo 7 x.1) L (cb - 7 * x.1), undef, .slice (chA bo 7 x.1) L (cb - 7 * x.1), .int .u64 (v : Nat), undef, undef, undef, undef, undef, undef, .int .u64 (R : Nat), undef, undef, undef, undef, undef, undef], defers := [] } := by
        refine (hG _ _ _).2 ?_
        refine wpAnyIn_ready (rs := [0, 4]) (by kernel_rfl) (by simp) ?_
        refine AllReadyIn.cons rfl (fun K hK => ?_) ?_
        · go_simp
          exact hK _ _ ((hG _ _ _).1 gabcj)
        refine AllReadyIn.cons rfl (fun K hK => ?_) ?_
        · go_simp
          exact hK _ _ ((hG _ _ _).1 gbcej)
        exact AllReadyIn.nil
      have gbef : G 9 #[false, true, false, false, true, true, false, false, false, false, false, false] { tmps := #[.slice a 8 cap, .int .i64 (c : Nat), .slice bo n cb, undef, undef, undef, .slice none 0 0, .pointer (some ⟨w1.heap.size, 0, none⟩), .pointer (some ⟨w2.heap.size, 0, none⟩), .int .u64 (T : Nat), .pointer (some ⟨w2.heap.size + 1, 0, none⟩), .slice (chA bo 7 x.1) L (cb - 7 * x.1), .slice a 8 cap, .int .i64 (c : Nat), .agg (kys .u8 64 (padB W c 0)), .slice (some ⟨w1.heap.size, 0, none⟩) 8 64, .int .u64 (X : Nat), .int .u64 (R : Nat), .slice (some ⟨w1.heap.size, 8, none⟩) 8 56, .int .u64 (Y : Nat), .int .u64 (T : Nat), .slice bo n cb, .func (.func 58) #[] #[.pointer (some ⟨w2.heap.size + 1 + 1, 0, none⟩), .pointer (some ⟨w2.heap.size + 1 + 1 + 1, 0, none⟩)], .slice (chA bo 7 x.1) L (cb - 7 * x.1), undef, .slice (chA bo 7 x.1) L (cb - 7 * x.1), undef, undef, .slice (chA bo 7 x.1) L (cb - 7 * x.1), .int .i64 (L : Nat), undef, undef, undef, undef, undef, undef, undef, undef, undef, undef], defers := [] } := by
        refine (hG _ _ _).2 ?_
        refine wpAnyIn_ready (rs := [0, 2, 6, 9]) (by kernel_rfl) (by simp) ?_
        refine AllReadyIn.cons rfl (fun K hK => ?_) ?_
        · go_simp
          exact hK _ _ ((hG _ _ _).1 gabef)
        refine AllReadyIn.cons rfl (fun K hK => ?_) ?_
        · go_simp
          gi_wp2_with (refine ⟨trivial, ?_⟩; gi_at_call 23; with_reducible refine (CallsIn.inRound l hN).mono ?_; rintro e wx ⟨rfl, hw⟩; have hw := hw.symm; subst hw)
          first | exact hK _ _ ((hG _ _ _).1 gbcef) | exact (hG _ _ _).1 gbcef
        refine AllReadyIn.cons rfl (fun K hK => ?_) ?_
        · go_simp
          exact hK _ _ ((hG _ _ _).1 gbefg)
        refine AllReadyIn.cons rfl (fun K hK => ?_) ?_
        · go_simp
          exact hK _ _ ((hG _ _ _).1 gbefj)
        exact AllReadyIn.nil
      have gbej : G 9 #[false, true, false, false, true, false, false, false, false, true, false, false] { tmps := #[.slice a 8 cap, .int .i64 (c : Nat), .slice bo n cb, undef, undef, undef, .slice none 0 0, .pointer (some ⟨w1.heap.size, 0, none⟩), .pointer (some ⟨w2.heap.size, 0, none⟩), .int .u64 (T : Nat), .pointer (some ⟨w2.heap.size + 1, 0, none⟩), .slice (chA bo 7 x.1) L (cb - 7 * x.1), .slice a 8 cap, .int .i64 (c : Nat), .agg (kys .u8 64 (padB W c 0)), .slice (some ⟨w1.heap.size, 0, none⟩) 8 64, .int .u64 (X : Nat), .int .u64 (R : Nat), .slice (some ⟨w1.heap.size, 8, none⟩) 8 56, .int .u64 (Y : Nat), .int .u64 (T : Nat), .slice bo n cb, .func (.func 58) #[] #[.pointer (some ⟨w2.heap.size + 1 + 1, 0, none⟩), .pointer (some ⟨w2.heap.size + 1 + 1 + 1, 0, none⟩)], .slice (chA bo 7 x.1) L (cb - 7 * x.1), undef, .slice (chA bo 7 x.1) L (cb - 7 * x.1), undef, undef, .slice (chA bo 7 x.1) L (cb - 7 * x.1), undef, undef, undef, undef, .int .u64 (R : Nat), undef, undef, undef, undef, undef, undef], defers := [] } := by
        refine (hG _ _ _).2 ?_
        refine wpAnyIn_ready (rs := [0, 2, 5]) (by kernel_rfl) (by simp) ?_
        refine AllReadyIn.cons rfl (fun K hK => ?_) ?_
        · go_simp
          exact hK _ _ ((hG _ _ _).1 gabej)
        refine AllReadyIn.cons rfl (fun K hK => ?_) ?_
        · go_simp
          gi_wp2_with (refine ⟨trivial, ?_⟩; gi_at_call 23; with_reducible refine (CallsIn.inRound l hN).mono ?_; rintro e wx ⟨rfl, hw⟩; have hw := hw.symm; subst hw)
          first | exact hK _ _ ((hG _ _ _).1 gbcej) | exact (hG _ _ _).1 gbcej
        refine AllReadyIn.cons rfl (fun K hK => ?_) ?_
        · go_simp
          exact hK _ _ ((hG _ _ _).1 gbefj)
        exact AllReadyIn.nil
      have gefg : G 9 #[false, false, false, false, true, true, true, false, false, false, false, false] { tmps := #[.slice a 8 cap, .int .i64 (c : Nat), .slice bo n cb, undef, undef, undef, .slice none 0 0, .pointer (some ⟨w1.heap.size, 0, none⟩), .pointer (some ⟨w2.heap.size, 0, none⟩), .int .u64 (T : Nat), .pointer (some ⟨w2.heap.size + 1, 0, none⟩), .slice (chA bo 7 x.1) L (cb - 7 * x.1), .slice a 8 cap, .int .i64 (c : Nat), .agg (kys .u8 64 (padB W c 0)), .slice (some ⟨w1.heap.size, 0, none⟩) 8 64, .int .u64 (X : Nat), .int .u64 (R : Nat), .slice (some ⟨w1.heap.size, 8, none⟩) 8 56, .int .u64 (Y : Nat), .int .u64 (T : Nat), .slice bo n cb, .func (.func 58) #[] #[.pointer (some ⟨w2.heap.size + 1 + 1, 0, none⟩), .pointer (some ⟨w2.heap.size + 1 + 1 + 1, 0, none⟩)], .slice (chA bo 7 x.1) L (cb - 7 * x.1), undef, undef, undef, undef, .slice (chA bo 7 x.1) L (cb - 7 * x.1), .int .i64 (L : Nat), .int .i64 (q8 : Nat), undef, undef, undef, undef, undef, undef, undef, undef, undef], defers := [] } := by
        refine (hG _ _ _).2 ?_
        refine wpAnyIn_ready (rs := [0, 1, 7, 9]) (by kernel_rfl) (by simp) ?_
        refine AllReadyIn.cons rfl (fun K hK => ?_) ?_
        · go_simp
          exact hK _ _ ((hG _ _ _).1 gaefg)
        refine AllReadyIn.cons rfl (fun K hK => ?_) ?_
        · go_simp
          exact hK _ _ ((hG _ _ _).1 gbefg)
        refine AllReadyIn.cons rfl (fun K hK => ?_) ?_
        · go_simp
          exact hK _ _ ((hG _ _ _).1 gefgh)
        refine AllReadyIn.cons rfl (fun K hK => ?_) ?_
        · go_simp
          exact hK _ _ ((hG _ _ _).1 gefgj)
        exact AllReadyIn.nil
      have gefj : G 9 #[false, false, false, false, true, true, false, false, false, true, false, false] { tmps := #[.slice a 8 cap, .int .i64 (c : Nat), .slice bo n cb, undef, undef, undef, .slice none 0 0, .pointer (some ⟨w1.heap.size, 0, none⟩), .pointer (some ⟨w2.heap.size, 0, none⟩), .int .u64 (T : Nat), .pointer (some ⟨w2.heap.size + 1, 0, none⟩), .slice (chA bo 7 x.1) L (cb - 7 * x.1), .slice a 8 cap, .int .i64 (c : Nat), .agg (kys .u8 64 (padB W c 0)), .slice (some ⟨w1.heap.size, 0, none⟩) 8 64, .int .u64 (X : Nat), .int .u64 (R : Nat), .slice (some ⟨w1.heap.size, 8, none⟩) 8 56, .int .u64 (Y : Nat), .int .u64 (T : Nat), .slice bo n cb, .func (.func 58) #[] #[.pointer (some ⟨w2.heap.size + 1 + 1, 0, none⟩), .pointer (some ⟨w2.heap.size + 1 + 1 + 1, 0, none⟩)], .slice (chA bo 7 x.1) L (cb - 7 * x.1), undef, undef, undef, undef, .slice (chA bo 7 x.1) L (cb - 7 * x.1), .int .i64 (L : Nat), undef, undef, undef, .int .u64 (R : Nat), undef, undef, undef, undef, undef, undef], defers := [] } := by
        refine (hG _ _ _).2 ?_
        refine wpAnyIn_ready (rs := [0, 1, 6]) (by kernel_rfl) (by simp) ?_
        refine AllReadyIn.cons rfl (fun K hK => ?_) ?_
        · go_simp
          exact hK _ _ ((hG _ _ _).1 gaefj)
        refine AllReadyIn.cons rfl (fun K hK => ?_) ?_
        · go_simp
          exact hK _ _ ((hG _ _ _).1 gbefj)
        refine AllReadyIn.cons rfl (fun K hK => ?_) ?_
        · go_simp
          exact hK _ _ ((hG _ _ _).1 gefgj)
        exact AllReadyIn.nil
      have gab : G 10 #[true, true, false, false, false, false, false, false, false, false, false, false] { tmps := #[.slice a 8 cap, .int .i64 (c : Nat), .slice bo n cb, undef, undef, undef, .slice none 0 0, .pointer (some ⟨w1.heap.size, 0, none⟩), .pointer (some ⟨w2.heap.size, 0, none⟩), .int .u64 (T : Nat), .pointer (some ⟨w2.heap.size + 1, 0, none⟩), .slice (chA bo 7 x.1) L (cb - 7 * x.1), .slice a 8 cap, .int .i64 (c : Nat), .agg (kys .u8 64 (padB W c 0)), .slice (some ⟨w1.heap.size, 0, none⟩) 8 64, .int .u64 (X : Nat), .int .u64 (R : Nat), .slice (some ⟨w1.heap.size, 8, none⟩) 8 56, .int .u64 (Y : Nat), .int .u64 (T : Nat), .slice bo n cb, .func (.func 58) #[] #[.pointer (some ⟨w2.heap.size + 1 + 1, 0, none⟩), .pointer (some ⟨w2.heap.size + 1 + 1 + 1, 0, none⟩)], .slice (chA bo 7 x.1) L (cb - 7 * x.1), .int .u64 (s : Nat), .slice (chA bo 7 x.1) L (cb - 7 * x.1), undef, undef, undef, undef, undef, undef, undef, undef, undef, undef, undef, undef, undef, undef], defers := [] } := by
        refine (hG _ _ _).2 ?_
        refine wpAnyIn_ready (rs := [2, 4, 9]) (by kernel_rfl) (by simp) ?_
        refine AllReadyIn.cons rfl (fun K hK => ?_) ?_
        · go_simp
          gi_wp2_with (refine ⟨trivial, ?_⟩; gi_at_call 23; with_reducible refine (CallsIn.inRound l hN).mono ?_; rintro e wx ⟨rfl, hw⟩; have hw := hw.symm; subst hw)
          first | exact hK _ _ ((hG _ _ _).1 gabc) | exact (hG _ _ _).1 gabc
        refine AllReadyIn.cons rfl (fun K hK => ?_) ?_
        · go_simp
          exact hK _ _ ((hG _ _ _).1 gabe)
        refine AllReadyIn.cons rfl (fun K hK => ?_) ?_
        · go_simp
          exact hK _ _ ((hG _ _ _).1 gabj)
        exact AllReadyIn.nil
      have gae : G 10 #[true, false, false, false, true, false, false, false, false, false, false, false] { tmps := #[.slice a 8 cap, .int .i64 (c : Nat), .slice bo n cb, undef, undef, undef, .slice none 0 0, .pointer (some ⟨w1.heap.size, 0, none⟩), .pointer (some ⟨w2.heap.size, 0, none⟩), .int .u64 (T : Nat), .pointer (some ⟨w2.heap.size + 1, 0, none⟩), .slice (chA bo 7 x.1) L (cb - 7 * x.1), .slice a 8 cap, .int .i64 (c : Nat), .agg (kys .u8 64 (padB W c 0)), .slice (some ⟨w1.heap.size, 0, none⟩) 8 64, .int .u64 (X : Nat), .int .u64 (R : Nat), .slice (some ⟨w1.heap.size, 8, none⟩) 8 56, .int .u64 (Y : Nat), .int .u64 (T : Nat), .slice bo n cb, .func (.func 58) #[] #[.pointer (some ⟨w2.heap.size + 1 + 1, 0, none⟩), .pointer (some ⟨w2.heap.size + 1 + 1 + 1, 0, none⟩)], .slice (chA bo 7 x.1) L (cb - 7 * x.1), .int .u64 (s : Nat), undef, undef, undef, .slice (chA bo 7 x.1) L (cb - 7 * x.1), undef, undef, undef, undef, undef, undef, undef, undef, undef, undef, undef], defers := [] } := by
        refine (hG _ _ _).2 ?_
        refine wpAnyIn_ready (rs := [1, 5, 9]) (by kernel_rfl) (by simp) ?_
        refine AllReadyIn.cons rfl (fun K hK => ?_) ?_
        · go_simp
          exact hK _ _ ((hG _ _ _).1 gabe)
        refine AllReadyIn.cons rfl (fun K hK => ?_) ?_
        · go_simp
          exact hK _ _ ((hG _ _ _).1 gaef)
        refine AllReadyIn.cons rfl (fun K hK => ?_) ?_
        · go_simp
          exact hK _ _ ((hG _ _ _).1 gaej)
        exact AllReadyIn.nil
      have gaj : G 10 #[true, false, false, false, false, false, false, false, false, true, false, false] { tmps := #[.slice a 8 cap, .int .i64 (c : Nat), .slice bo n cb, undef, undef, undef, .slice none 0 0, .pointer (some ⟨w1.heap.size, 0, none⟩), .pointer (some ⟨w2.heap.size, 0, none⟩), .int .u64 (T : Nat), .pointer (some ⟨w2.heap.size + 1, 0, none⟩), .slice (chA bo 7 x.1) L (cb - 7 * x.1), .slice a 8 cap, .int .i64 (c : Nat), .agg (kys .u8 64 (padB W c 0)), .slice (some ⟨w1.heap.size, 0, none⟩) 8 64, .int .u64 (X : Nat), .int .u64 (R : Nat), .slice (some ⟨w1.heap.size, 8, none⟩) 8 56, .int .u64 (Y : Nat), .int .u64 (T : Nat), .slice bo n cb, .func (.func 58) #[] #[.pointer (some ⟨w2.heap.size + 1 + 1, 0, none⟩), .pointer (some ⟨w2.heap.size + 1 + 1 + 1, 0, none⟩)], .slice (chA bo 7 x.1) L (cb - 7 * x.1), .int .u64 (s : Nat), undef, undef, undef, undef, undef, undef, undef, undef, .int .u64 (R : Nat), undef, undef, undef, undef, undef, undef], defers := [] } := by
        refine (hG _ _ _).2 ?_
        refine wpAnyIn_ready (rs := [1, 4]) (by kernel_rfl) (by simp) ?_
        refine AllReadyIn.cons rfl (fun K hK => ?_) ?_
        · go_simp
          exact hK _ _ ((hG _ _ _).1 gabj)
        refine AllReadyIn.cons rfl (fun K hK => ?_) ?_
        · go_simp
          exact hK _ _ ((hG _ _ _).1 gaej)
        exact AllReadyIn.nil
      have gbc : G 10 #[false, true, true, false, false, false, false, false, false, false, false, false] { tmps := #[.slice a 8 cap, .int .i64 (c : Nat), .slice bo n cb, undef, undef, undef, .slice none 0 0, .pointer (some ⟨w1.heap.size, 0, none⟩), .pointer (some ⟨w2.heap.size, 0, none⟩), .int .u64 (T : Nat), .pointer (some ⟨w2.heap.size + 1, 0, none⟩), .slice (chA bo 7 x.1) L (cb - 7 * x.1), .slice a 8 cap, .int .i64 (c : Nat), .agg (kys .u8 64 (padB W c 0)), .slice (some ⟨w1.heap.size, 0, none⟩) 8 64, .int .u64 (X : Nat), .int .u64 (R : Nat), .slice (some ⟨w1.heap.size, 8, none⟩) 8 56, .int .u64 (Y : Nat), .int .u64 (T : Nat), .slice bo n cb, .func (.func 58) #[] #[.pointer (some ⟨w2.heap.size + 1 + 1, 0, none⟩), .pointer (some ⟨w2.heap.size + 1 + 1 + 1, 0, none⟩)], .slice (chA bo 7 x.1) L (cb - 7 * x.1), undef, .slice (chA bo 7 x.1) L (cb - 7 * x.1), .int .u64 (v : Nat), undef, undef, undef, undef, undef, undef, undef, undef, undef, undef, undef, undef, undef], defers := [] } := by
        refine (hG _ _ _).2 ?_
        refine wpAnyIn_ready (rs := [0, 4, 9]) (by kernel_rfl) (by simp) ?_
        refine AllReadyIn.cons rfl (fun K hK => ?_) ?_
        · go_simp
          exact hK _ _ ((hG _ _ _).1 gabc)
        refine AllReadyIn.cons rfl (fun K hK => ?_) ?_
        · go_simp
          exact hK _ _ ((hG _ _ _).1 gbce)
        refine AllReadyIn.cons rfl (fun K hK => ?_) ?_
        · go_simp
          exact hK _ _ ((hG _ _ _).1 gbcj)
        exact AllReadyIn.nil
      have gbe : G 10 #[false, true, false, false, true, false, false, false, false, false, false, false] { tmps := #[.slice a 8 cap, .int .i64 (c : Nat), .slice bo n cb, undef, undef, undef, .slice none 0 0, .pointer (some ⟨w1.heap.size, 0, none⟩), .pointer (some ⟨w2.heap.size, 0, none⟩), .int .u64 (T : Nat), .pointer (some ⟨w2.heap.size + 1, 0, none⟩), .slice (chA bo 7 x.1) L (cb - 7 * x.1), .slice a 8 cap, .int .i64 (c : Nat), .agg (kys .u8 64 (padB W c 0)), .slice (some ⟨w1.heap.size, 0, none⟩) 8 64, .int .u64 (X : Nat), .int .u64 (R : Nat), .slice (some ⟨w1.heap.size, 8, none⟩) 8 56, .int .u64 (Y : Nat), .int .u64 (T : Nat), .slice bo n cb, .func (.func 58) #[] #[.pointer (some ⟨w2.heap.size + 1 + 1, 0, none⟩), .pointer (some ⟨w2.heap.size + 1 + 1 + 1, 0, none⟩)], .slice (chA bo 7 x.1) L (cb - 7 * x.1), undef, .slice (chA bo 7 x.1) L (cb - 7 * x.1), undef, undef, .slice (chA bo 7 x.1) L (cb - 7 * x.1), undef, undef, undef, undef, undef, undef, undef, undef, undef, undef, undef], defers := [] } := by
        refine (hG _ _ _).2 ?_
        refine wpAnyIn_ready (rs := [0, 2, 5, 9]) (by kernel_rfl) (by simp) ?_
        refine AllReadyIn.cons rfl (fun K hK => ?_) ?_
        · go_simp
          exact hK _ _ ((hG _ _ _).1 gabe)
        refine AllReadyIn.cons rfl (fun K hK => ?_) ?_
        · go_simp
          gi_wp2_with (refine ⟨trivial, ?_⟩; gi_at_call 23; with_reducible refine (CallsIn.inRound l hN).mono ?_; rintro e wx ⟨rfl, hw⟩; have hw := hw.symm; subst hw)
          first | exact hK _ _ ((hG _ _ _).1 gbce) | exact (hG _ _ _).1 gbce
        refine AllReadyIn.cons rfl (fun K hK => ?_) ?_
        · go_simp
          exact hK _ _ ((hG _ _ _).1 gbef)
        refine AllReadyIn.cons rfl (fun K hK => ?_) ?_
        · go_simp
          exact hK _ _ ((hG _ _ _).1 gbej)
        exact AllReadyIn.nil
      have gbj : G 10 #[false, true, false, false, false, false, false, false, false, true, false, false] { tmps := #[.slice a 8 cap, .int .i64 (c : Nat), .slice bo n cb, undef, undef, undef, .slice none 0 0, .pointer (some ⟨w1.heap.size, 0, none⟩), .pointer (some ⟨w2.heap.size, 0, none⟩), .int .u64 (T : Nat), .pointer (some ⟨w2.heap.size + 1, 0, none⟩), .slice (chA bo 7 x.1) L (cb - 7 * x.1), .slice a 8 cap, .int .i64 (c : Nat), .agg (kys .u8 64 (padB W c 0)), .slice (some ⟨w1.heap.size, 0, none⟩) 8 64, .int .u64 (X : Nat), .int .u64 (R : Nat), .slice (some ⟨w1.heap.size, 8, none⟩) 8 56, .int .u64 (Y : Nat), .int .u64 (T : Nat), .slice bo n cb, .func (.func 58) #[] #[.pointer (some ⟨w2.heap.size + 1 + 1, 0, none⟩), .pointer (some ⟨w2.heap.size + 1 + 1 + 1, 0, none⟩)], .slice (chA bo 7 x.1) L (cb - 7 * x.1), undef, .slice (chA bo 7 x.1) L (cb - 7 * x.1), undef, undef, undef, undef, undef, undef, undef, .int .u64 (R : Nat), undef, undef, undef, undef, undef, undef], defers := [] } := by
        refine (hG _ _ _).2 ?_
        refine wpAnyIn_ready (rs := [0, 2, 4]) (by kernel_rfl) (by simp) ?_
        refine AllReadyIn.cons rfl (fun K hK => ?_) ?_
        · go_simp
          exact hK _ _ ((hG _ _ _).1 gabj)
        refine AllReadyIn.cons rfl (fun K hK => ?_) ?_
        · go_simp
          gi_wp2_with (refine ⟨trivial, ?_⟩; gi_at_call 23; with_reducible refine (CallsIn.inRound l hN).mono ?_; rintro e wx ⟨rfl, hw⟩; have hw := hw.symm; subst hw)
          first | exact hK _ _ ((hG _ _ _).1 gbcj) | exact (hG _ _ _).1 gbcj
        refine AllReadyIn.cons rfl (fun K hK => ?_) ?_
        · go_simp
          exact hK _ _ ((hG _ _ _).1 gbej)
        exact AllReadyIn.nil
      have gef : G 10 #[false, false, false, false, true, true, false, false, false, false, false, false] { tmps := #[.slice a 8 cap, .int .i64 (c : Nat), .slice bo n cb, undef, undef, undef, .slice none 0 0, .pointer (some ⟨w1.heap.size, 0, none⟩), .pointer (some ⟨w2.heap.size, 0, none⟩), .int .u64 (T : Nat), .pointer (some ⟨w2.heap.size + 1, 0, none⟩), .slice (chA bo 7 x.1) L (cb - 7 * x.1), .slice a 8 cap, .int .i64 (c : Nat), .agg (kys .u8 64 (padB W c 0)), .slice (some ⟨w1.heap.size, 0, none⟩) 8 64, .int .u64 (X : Nat), .int .u64 (R : Nat), .slice (some ⟨w1.heap.size, 8, none⟩) 8 56, .int .u64 (Y : Nat), .int .u64 (T : Nat), .slice bo n cb, .func (.func 58) #[] #[.pointer (some ⟨w2.heap.size + 1 + 1, 0, none⟩), .pointer (some ⟨w2.heap.size + 1 + 1 + 1, 0, none⟩)], .slice (chA bo 7 x.1) L (cb - 7 * x.1), undef, undef, undef, undef, .slice (chA bo 7 x.1) L (cb - 7 * x.1), .int .i64 (L : Nat), undef, undef, undef, undef, undef, undef, undef, undef, undef, undef], defers := [] } := by
        refine (hG _ _ _).2 ?_
        refine wpAnyIn_ready (rs := [0, 1, 6, 9]) (by kernel_rfl) (by simp) ?_
        refine AllReadyIn.cons rfl (fun K hK => ?_) ?_
        · go_simp
          exact hK _ _ ((hG _ _ _).1 gaef)
        refine AllReadyIn.cons rfl (fun K hK => ?_) ?_
        · go_simp
          exact hK _ _ ((hG _ _ _).1 gbef)
        refine AllReadyIn.cons rfl (fun K hK => ?_) ?_
        · go_simp
          exact hK _ _ ((hG _ _ _).1 gefg)
        refine AllReadyIn.cons rfl (fun K hK => ?_) ?_
        · go_simp
          exact hK _ _ ((hG _ _ _).1 gefj)
        exact AllReadyIn.nil
      have gej : G 10 #[false, false, false, false, true, false, false, false, false, true, false, false] { tmps := #[.slice a 8 cap, .int .i64 (c : Nat), .slice bo n cb, undef, undef, undef, .slice none 0 0, .pointer (some ⟨w1.heap.size, 0, none⟩), .pointer (some ⟨w2.heap.size, 0, none⟩), .int .u64 (T : Nat), .pointer (some ⟨w2.heap.size + 1, 0, none⟩), .slice (chA bo 7 x.1) L (cb - 7 * x.1), .slice a 8 cap, .int .i64 (c : Nat), .agg (kys .u8 64 (padB W c 0)), .slice (some ⟨w1.heap.size, 0, none⟩) 8 64, .int .u64 (X : Nat), .int .u64 (R : Nat), .slice (some ⟨w1.heap.size, 8, none⟩) 8 56, .int .u64 (Y : Nat), .int .u64 (T : Nat), .slice bo n cb, .func (.func 58) #[] #[.pointer (some ⟨w2.heap.size + 1 + 1, 0, none⟩), .pointer (some ⟨w2.heap.size + 1 + 1 + 1, 0, none⟩)], .slice (chA bo 7 x.1) L (cb - 7 * x.1), undef, undef, undef, undef, .slice (chA bo 7 x.1) L (cb - 7 * x.1), undef, undef, undef, undef, .int .u64 (R : Nat), undef, undef, undef, undef, undef, undef], defers := [] } := by
        refine (hG _ _ _).2 ?_
        refine wpAnyIn_ready (rs := [0, 1, 5]) (by kernel_rfl) (by simp) ?_
        refine AllReadyIn.cons rfl (fun K hK => ?_) ?_
        · go_simp
          exact hK _ _ ((hG _ _ _).1 gaej)
        refine AllReadyIn.cons rfl (fun K hK => ?_) ?_
        · go_simp
          exact hK _ _ ((hG _ _ _).1 gbej)
        refine AllReadyIn.cons rfl (fun K hK => ?_) ?_
        · go_simp
          exact hK _ _ ((hG _ _ _).1 gefj)
        exact AllReadyIn.nil
      have ga : G 11 #[true, false, false, false, false, false, false, false, false, false, false, false] { tmps := #[.slice a 8 cap, .int .i64 (c : Nat), .slice bo n cb, undef, undef, undef, .slice none 0 0, .pointer (some ⟨w1.heap.size, 0, none⟩), .pointer (some ⟨w2.heap.size, 0, none⟩), .int .u64 (T : Nat), .pointer (some ⟨w2.heap.size + 1, 0, none⟩), .slice (chA bo 7 x.1) L (cb - 7 * x.1), .slice a 8 cap, .int .i64 (c : Nat), .agg (kys .u8 64 (padB W c 0)), .slice (some ⟨w1.heap.size, 0, none⟩) 8 64, .int .u64 (X : Nat), .int .u64 (R : Nat), .slice (some ⟨w1.heap.size, 8, none⟩) 8 56, .int .u64 (Y : Nat), .int .u64 (T : Nat), .slice bo n cb, .func (.func 58) #[] #[.pointer (some ⟨w2.heap.size + 1 + 1, 0, none⟩), .pointer (some ⟨w2.heap.size + 1 + 1 + 1, 0, none⟩)], .slice (chA bo 7 x.1) L (cb - 7 * x.1), .int .u64 (s : Nat), undef, undef, undef, undef, undef, undef, undef, undef, undef, undef, undef, undef, undef, undef, undef], defers := [] } := by
        refine (hG _ _ _).2 ?_
        refine wpAnyIn_ready (rs := [1, 4, 9]) (by kernel_rfl) (by simp) ?_
        refine AllReadyIn.cons rfl (fun K hK => ?_) ?_
        · go_simp
          exact hK _ _ ((hG _ _ _).1 gab)
        refine AllReadyIn.cons rfl (fun K hK => ?_) ?_
        · go_simp
          exact hK _ _ ((hG _ _ _).1 gae)
        refine AllReadyIn.cons rfl (fun K hK => ?_) ?_
        · go_simp
          exact hK _ _ ((hG _ _ _).1 gaj)
        exact AllReadyIn.nil
      have gb : G 11 #[false, true, false, false, false, false, false, false, false, false, false, false] { tmps := #[.slice a 8 cap, .int .i64 (c : Nat), .slice bo n cb, undef, undef, undef, .slice none 0 0, .pointer (some ⟨w1.heap.size, 0, none⟩), .pointer (some ⟨w2.heap.size, 0, none⟩), .int .u64 (T : Nat), .pointer (some ⟨w2.heap.size + 1, 0, none⟩), .slice (chA bo 7 x.1) L (cb - 7 * x.1), .slice a 8 cap, .int .i64 (c : Nat), .agg (kys .u8 64 (padB W c 0)), .slice (some ⟨w1.heap.size, 0, none⟩) 8 64, .int .u64 (X : Nat), .int .u64 (R : Nat), .slice (some ⟨w1.heap.size, 8, none⟩) 8 56, .int .u64 (Y : Nat), .int .u64 (T : Nat), .slice bo n cb, .func (.func 58) #[] #[.pointer (some ⟨w2.heap.size + 1 + 1, 0, none⟩), .pointer (some ⟨w2.heap.size + 1 + 1 + 1, 0, none⟩)], .slice (chA bo 7 x.1) L (cb - 7 * x.1), undef, .slice (chA bo 7 x.1) L (cb - 7 * x.1), undef, undef, undef, undef, undef, undef, undef, undef, undef, undef, undef, undef, undef, undef], defers := [] } := by
        refine (hG _ _ _).2 ?_
        refine wpAnyIn_ready (rs := [0, 2, 4, 9]) (by kernel_rfl) (by simp) ?_
        refine AllReadyIn.cons rfl (fun K hK => ?_) ?_
        · go_simp
          exact hK _ _ ((hG _ _ _).1 gab)
        refine AllReadyIn.cons rfl (fun K hK => ?_) ?_
        · go_simp
          gi_wp2_with (refine ⟨trivial, ?_⟩; gi_at_call 23; with_reducible refine (CallsIn.inRound l hN).mono ?_; rintro e wx ⟨rfl, hw⟩; have hw := hw.symm; subst hw)
          first | exact hK _ _ ((hG _ _ _).1 gbc) | exact (hG _ _ _).1 gbc
        refine AllReadyIn.cons rfl (fun K hK => ?_) ?_
        · go_simp
          exact hK _ _ ((hG _ _ _).1 gbe)
        refine AllReadyIn.cons rfl (fun K hK => ?_) ?_
        · go_simp
          exact hK _ _ ((hG _ _ _).1 gbj)
        exact AllReadyIn.nil
      have ge : G 11 #[false, false, false, false, true, false, false, false, false, false, false, false] { tmps := #[.slice a 8 cap, .int .i64 (c : Nat), .slice bo n cb, undef, undef, undef, .slice none 0 0, .pointer (some ⟨w1.heap.size, 0, none⟩), .pointer (some ⟨w2.heap.size, 0, none⟩), .int .u64 (T : Nat), .pointer (some ⟨w2.heap.size + 1, 0, none⟩), .slice (chA bo 7 x.1) L (cb - 7 * x.1), .slice a 8 cap, .int .i64 (c : Nat), .agg (kys .u8 64 (padB W c 0)), .slice (some ⟨w1.heap.size, 0, none⟩) 8 64, .int .u64 (X : Nat), .int .u64 (R : Nat), .slice (some ⟨w1.heap.size, 8, none⟩) 8 56, .int .u64 (Y : Nat), .int .u64 (T : Nat), .slice bo n cb, .func (.func 58) #[] #[.pointer (some ⟨w2.heap.size + 1 + 1, 0, none⟩), .pointer (some ⟨w2.heap.size + 1 + 1 + 1, 0, none⟩)], .slice (chA bo 7 x.1) L (cb - 7 * x.1), undef, undef, undef, undef, .slice (chA bo 7 x.1) L (cb - 7 * x.1), undef, undef, undef, undef, undef, undef, undef, undef, undef, undef, undef], defers := [] } := by
        refine (hG _ _ _).2 ?_
        refine wpAnyIn_ready (rs := [0, 1, 5, 9]) (by kernel_rfl) (by simp) ?_
        refine AllReadyIn.cons rfl (fun K hK => ?_) ?_
        · go_simp
          exact hK _ _ ((hG _ _ _).1 gae)
        refine AllReadyIn.cons rfl (fun K hK => ?_) ?_
        · go_simp
          exact hK _ _ ((hG _ _ _).1 gbe)
        refine AllReadyIn.cons rfl (fun K hK => ?_) ?_
        · go_simp
          exact hK _ _ ((hG _ _ _).1 gef)
        refine AllReadyIn.cons rfl (fun K hK => ?_) ?_
        · go_simp
          exact hK _ _ ((hG _ _ _).1 gej)
        exact AllReadyIn.nil
      have gj : G 11 #[false, false, false, false, false, false, false, false, false, true, false, false] { tmps := #[.slice a 8 cap, .int .i64 (c : Nat), .slice bo n cb, undef, undef, undef, .slice none 0 0, .pointer (some ⟨w1.heap.size, 0, none⟩), .pointer (some ⟨w2.heap.size, 0, none⟩), .int .u64 (T : Nat), .pointer (some ⟨w2.heap.size + 1, 0, none⟩), .slice (chA bo 7 x.1) L (cb - 7 * x.1), .slice a 8 cap, .int .i64 (c : Nat), .agg (kys .u8 64 (padB W c 0)), .slice (some ⟨w1.heap.size, 0, none⟩) 8 64, .int .u64 (X : Nat), .int .u64 (R : Nat), .slice (some ⟨w1.heap.size, 8, none⟩) 8 56, .int .u64 (Y : Nat), .int .u64 (T : Nat), .slice bo n cb, .func (.func 58) #[] #[.pointer (some ⟨w2.heap.size + 1 + 1, 0, none⟩), .pointer (some ⟨w2.heap.size + 1 + 1 + 1, 0, none⟩)], .slice (chA bo 7 x.1) L (cb - 7 * x.1), undef, undef, undef, undef, undef, undef, undef, undef, undef, .int .u64 (R : Nat), undef, undef, undef, undef, undef, undef], defers := [] } := by
        refine (hG _ _ _).2 ?_
        refine wpAnyIn_ready (rs := [0, 1, 4]) (by kernel_rfl) (by simp) ?_
        refine AllReadyIn.cons rfl (fun K hK => ?_) ?_
        · go_simp
          exact hK _ _ ((hG _ _ _).1 gaj)
        refine AllReadyIn.cons rfl (fun K hK => ?_) ?_
        · go_simp
          exact hK _ _ ((hG _ _ _).1 gbj)
        refine AllReadyIn.cons rfl (fun K hK => ?_) ?_
        · go_simp
          exact hK _ _ ((hG _ _ _).1 gej)
        exact AllReadyIn.nil
      have gnil : G 12 #[false, false, false, false, false, false, false, false, false, false, false, false] { tmps := #[.slice a 8 cap, .int .i64 (c : Nat), .slice bo n cb, undef, undef, undef, .slice none 0 0, .pointer (some ⟨w1.heap.size, 0, none⟩), .pointer (some ⟨w2.heap.size, 0, none⟩), .int .u64 (T : Nat), .pointer (some ⟨w2.heap.size + 1, 0, none⟩), .slice (chA bo 7 x.1) L (cb - 7 * x.1), .slice a 8 cap, .int .i64 (c : Nat), .agg (kys .u8 64 (padB W c 0)), .slice (some ⟨w1.heap.size, 0, none⟩) 8 64, .int .u64 (X : Nat), .int .u64 (R : Nat), .slice (some ⟨w1.heap.size, 8, none⟩) 8 56, .int .u64 (Y : Nat), .int .u64 (T : Nat), .slice bo n cb, .func (.func 58) #[] #[.pointer (some ⟨w2.heap.size + 1 + 1, 0, none⟩), .pointer (some ⟨w2.heap.size + 1 + 1 + 1, 0, none⟩)], .slice (chA bo 7 x.1) L (cb - 7 * x.1), undef, undef, undef, undef, undef, undef, undef, undef, undef, undef, undef, undef, undef, undef, undef, undef], defers := [] } := by
        refine (hG _ _ _).2 ?_
        refine wpAnyIn_ready (rs := [0, 1, 4, 9]) (by kernel_rfl) (by simp) ?_
        refine AllReadyIn.cons rfl (fun K hK => ?_) ?_
        · go_simp
          exact hK _ _ ((hG _ _ _).1 ga)
        refine AllReadyIn.cons rfl (fun K hK => ?_) ?_
        · go_simp
          exact hK _ _ ((hG _ _ _).1 gb)
        refine AllReadyIn.cons rfl (fun K hK => ?_) ?_
        · go_simp
          exact hK _ _ ((hG _ _ _).1 ge)
        refine AllReadyIn.cons rfl (fun K hK => ?_) ?_
        · go_simp
          exact hK _ _ ((hG _ _ _).1 gj)
        exact AllReadyIn.nil
      exact gnil
    case done =>
      rintro D ys W' hD hys ⟨bS, bR', bL, b7, hB⟩ hK
      rw [hys, tgF_range] at bS
      have HM : Hid (m = (B.length + 6) / 7) := by rw [HL.out]; exact hm
      have hsl := tgN_lt B R m
      have HV : Hid ((tgN B R m + T) % 2305843009213693951 = tagV W c B) := by unfold tagV; rw [← HM.out, HR'.out, HT'.out]; rfl
      obtain ⟨s, hs⟩ : ∃ s, s = tgN B R m := ⟨_, rfl⟩
      rw [← hs] at bS hsl HV
      have cS := bS.cell
      obtain ⟨V, hV⟩ : ∃ V, V = (s + T) % 2305843009213693951 := ⟨_, rfl⟩
      have f1 : ((s : Int) + (T : Int)) % 2305843009213693951 = (V : Int) := by rw [hV, Int.natCast_emod]; rfl
      have f2 : ((s : Int) + (T : Int)).tmod 2305843009213693951 = (V : Int) := by rw [Int.tmod_eq_emod_of_nonneg (by omega)]; exact f1
      have bV : V < 18446744073709551616 := by rw [hV]; exact Nat.lt_trans (Nat.mod_lt _ (by decide)) (by decide)
      rw [← hV] at HV
      have hP := put_any W' W'.heap.size none 0 0 V 8 [] W' (ans_nil _ _) (Nat.le_refl _) (Nat.le_refl _) (World.grownBy.refl _ _) bV (by decide) (by decide)
      have hsz := hB.size
      clear hs hV hIo hXo hst hput hent hI0 bS bL b7 bR'
      gi_wp2_with (refine ⟨trivial, ?_⟩; gi_at_call 34; refine (callsIn_wide.2 hP).mono ?_; rintro e w5 ⟨a', c', rfl, hA5, g5⟩)
      have hDl : D < W'.heap.size := (Array.getElem?_eq_some_iff.1 hK).1
      have hK' : w5.heap[D]? = some (.deferred (some [])) := by rw [g5.block D hDl (by simp)]; exact hK
      refine ⟨by simp, .inl ⟨_, _, rfl, run_takeDeferred hK', ?_⟩⟩
      refine ⟨_, results_tmp Tryd.results26 _ _ _, a', c', rfl, ?_, ?_⟩
      · unfold tagL
        rw [← HV.out]
        have hA5' := hA5
        simp only [Nat.zero_add, List.nil_append] at hA5'
        exact ⟨ownsRow_putObj hA5'.own _ hK' rfl, hA5'.byte, fun g h => Nat.le_trans hsz (hA5'.new g h)⟩
      · exact grown_of_below ((hB.trans (Below.grown (Below.refl _ _) g5 hsz (fun k hk => by cases hk))).trans (belowK_b (w := w) (Nat.le_refl _) _ D _ _ (by omega) hK' rfl rfl))
    case stop =>
      rintro D c' pre W' hD hpre hF hK
      exact hF.elim
  refine wpIn_mono (Q := Exit.then KK (fun _ _ _ => False)) ?_ (fun e a w h => by cases e <;> first | exact h | exact h.elim)
  have hd1 := (callsIn_wide (n := 4)).2 (hc1 w2.drew (grown_drew _ _))
  have hd2 := (callsIn_wide (n := 4)).2 (hc2 w2.drew (grown_drew _ _))
  have he1 := fun v => (callsIn_wide (n := 4)).2 (hc1 (w2.alloc (.cells #[v] 52)).drew (grown_trans (World.grownBy_alloc _ _ _) (grown_drew _ _)))
  have he2 := fun v => (callsIn_wide (n := 4)).2 (hc2 (w2.alloc (.cells #[v] 52)).drew (grown_trans (World.grownBy_alloc _ _ _) (grown_drew _ _)))
  dsimp only [Act.put]
  gi_region_with (refine ⟨trivial, ?_⟩; gi_at_call 23; first
    | (with_reducible refine hd1.mono ?_; rintro e wx ⟨rfl, hw⟩; have hw := hw.symm; subst hw)
    | (with_reducible refine hd2.mono ?_; rintro e wx ⟨rfl, hw⟩; have hw := hw.symm; subst hw)
    | (with_reducible refine (he1 _).mono ?_; rintro e wx ⟨rfl, hw⟩; have hw := hw.symm; subst hw)
    | (with_reducible refine (he2 _).mono ?_; rintro e wx ⟨rfl, hw⟩; have hw := hw.symm; subst hw)
    | (trace_state; fail))
  all_goals exact hrest
theorem tagOf_any (a bo : Option Addr) (cap c n cb : Nat) (S : List Int) (W : Nat → Nat) (B : List Nat) (w : World) (hL : Lin w) (hp : RdI w a 8 cap S) (hW : ∀ i, i < 8 → nthI S i = (W i : Int) ∧ W i < 4294967296) (hc : c < 281474976710656) (hb : Rd w bo n cb B) (hn : n ≤ 1000000) :
    Calls Tryd.prog 26 #[.slice a 8 cap, .int .i64 c, .slice bo n cb] w fun e w' => ∃ a' c', e = .returned (.slice a' 8 c') ∧ Ans w' w.heap.size a' 8 c' (tagL W c B) ∧ w.grownBy w' none :=
  callsIn_wide.1 (tagOf_in a bo cap c n cb S W B w hL hp hW hc hb hn)
end Go.Proofs.YtaigcjhachkmmaaDoor
