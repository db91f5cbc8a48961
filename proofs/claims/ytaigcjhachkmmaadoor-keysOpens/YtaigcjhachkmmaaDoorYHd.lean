import Derived.Test.YtaigcjhachkmmaaDoorYNC
import Derived.Test.YtaigcjhachkmmaaDoorYTg
import Derived.Test.YtaigcjhachkmmaaDoorYSl
namespace Go.Proofs.YtaigcjhachkmmaaDoor
open Go.RowKit Go.Shelf
set_option maxRecDepth 100000
set_option linter.unusedVariables false
set_option linter.unusedSimpArgs false
attribute [local go_sem] Oper.semAt_some
theorem opIn_append {F : Fence} {n : Nat} {P : Program} (w : World) {o : Oper} {a : Act} {K : Act → World → Prop} {Q : Exit → Act → World → Prop}
    (s x : Operand) (t : TypeId) (hop : o.op = Op.call { callee := Callee.builtin Builtin.append, args := #[s, x], argTypes := #[t, t] })
    (base : Nat) (e : TypeId) (i : TypeInfo) (z : Value) (size bytes : Nat) (h1 : P.underlying t = some (.slice e)) (h2 : P.info? e = some i) (h3 : i.zero = some z) (h4 : i.size = size) (h5 : i.bytes = bytes) (h6 : z.cells.size = size) (h7 : 0 < size)
    (v : Value) (k : Nat) (xs : List Value) (hs : a.eval s = v) (hown : w.ownsRow base e size v k xs) (ad : Addr) (m c : Nat) (news : List Value) (hx : a.eval x = .slice (some ad) m c) (hn : news.length = m * size)
    (hc : ∀ j u, news[j]? = some u → w.cell? (ad.add j) = some u) (h1c : ∀ u ∈ news, u.oneCell' = true) (b1 : k + m ≤ maxLen) (b2 : (k + m) * bytes ≤ 140737488355328) (b3 : base ≤ w.heap.size)
    (hK : ∀ v' w', w'.ownsRow base e size v' (k + m) (xs ++ news) → w.grownBy w' v.ownBlock → (v' = .slice none 0 0 ↔ v = .slice none 0 0 ∧ m = 0) → K (a.put o.dst v') w') : o.wpIn F n P a w K Q := by
  obtain ⟨v', w', hrun, r1, r2, r3⟩ := run_append_own (P := P) w base t o.type e i z size bytes h1 h2 h3 h4 h5 h6 h7 v k xs hown ad m c news hn hc h1c b1 b2 b3
  unfold Oper.wpIn
  refine ⟨?_, ?_⟩
  · simp [Oper.about, hop, resolve, Target.leads, Sem.run_pure]
  · rw [Oper.semAt_plain F _ _ (by rw [hop]; intro c hc'; cases hc')]
    simp [execOp, hop, resolve, invoke, builtin, hs, hx, hrun, Result.andThen]
    exact hK v' w' r1 r2 r3
/-- between two rounds -/
def hdI (W : Nat → Nat) (c : Nat) (B : List Nat) (w : World) (a : Option Addr) (cap n cb : Nat) (bo : Option Addr) (m : Nat) (pre : List (Pc m)) (X : World) : Prop :=
  (∃ v, Boxed X (w.heap.size + 1 + 1) 25 v ∧ X.ownsRow w.heap.size 5 1 v (hdP W c B (pre.map (·.1))).1.length (bys (hdP W c B (pre.map (·.1))).1)) ∧
  Boxed X (w.heap.size + 1 + 1 + 1) 3 (.int .i64 (pre.length : Nat)) ∧ Boxed X w.heap.size 34 (.slice a 8 cap) ∧ Boxed X (w.heap.size + 1) 3 (.int .i64 (c : Nat)) ∧ Boxed X (w.heap.size + 1 + 1 + 1 + 1) 25 (.slice bo n cb) ∧ Boxed X (w.heap.size + 1 + 1 + 1 + 1 + 1) 3 (.int .i64 64) ∧ Below w.heap.size w X
theorem hdI_own (W : Nat → Nat) (c : Nat) (B : List Nat) (w : World) (a : Option Addr) (cap n cb : Nat) (bo : Option Addr) (m k : Nat) (hk : w.heap.size ≤ k) : OwnFrom k (hdI W c B w a cap n cb bo m) := by
  rintro s X Y row ⟨⟨v, h1, h1'⟩, h2, h3, h4, h5, h6, h7⟩ hg hr
  exact ⟨⟨v, boxed_from h1 hg hr, row_from h1' hg hr⟩, boxed_from h2 hg hr, boxed_from h3 hg hr, boxed_from h4 hg hr, boxed_from h5 hg hr, boxed_from h6 hg hr, below_from h7 hg hk hr⟩
theorem own_ne {w : World} {base k : Nat} {v : Value} {xs : List Value} (h : w.ownsRow base 5 1 v k xs) {g : Nat} {ty : TypeId} {cs : Array Value} (hb : w.heap[g]? = some (.cells cs ty)) (hne : ty ≠ 5) : some g ≠ v.ownBlock := by
  rcases h.2 with ⟨rfl, _⟩ | ⟨g', cap', cur, rfl, h2, h3, _⟩
  · intro e; cases e
  · intro e
    have e : g = g' := Option.some.inj e
    subst e
    rw [hb] at h3
    injection h3 with h3
    injection h3 with _ h4
    exact hne h4
theorem row_none {w w' : World} {base k : Nat} {e : TypeId} {size : Nat} {v : Value} {xs : List Value} (h : w.ownsRow base e size v k xs) (hg : w.grownBy w' none) : w'.ownsRow base e size v k xs := h.kept hg (by
  cases h' : v.ownBlock with
  | none => exact .inl rfl
  | some g => exact .inr (by simp))
theorem keepsO_own {w w' : World} {base k : Nat} {v : Value} {xs : List Value} (h : w.ownsRow base 5 1 v k xs) (hg : w.grownBy w' v.ownBlock) : KeepsOthers w w' := by
  refine ⟨hg.size, fun j o hj ho => (hg.block j (Array.getElem?_eq_some_iff.1 hj).1 ?_).trans hj⟩
  rcases h.2 with ⟨rfl, _⟩ | ⟨g', cap', cur, rfl, h2, h3, _⟩
  · intro e; cases e
  · intro e
    have e : j = g' := Option.some.inj e
    subst e
    rw [hj] at h3
    injection h3 with h3
    rw [h3] at ho
    cases ho
theorem keepsO_grown {w w' : World} (hg : w.grownBy w' none) : KeepsOthers w w' := ⟨hg.size, fun j o hj _ => (hg.block j (Array.getElem?_eq_some_iff.1 hj).1 (by simp)).trans hj⟩
theorem keepsO_row {w w' : World} {g : Nat} {cs : Array Value} {ty : TypeId} (hb : w.heap[g]? = some (.cells cs ty)) (hg : w.grownBy w' (some g)) : KeepsOthers w w' := by
  refine ⟨hg.size, fun j o hj ho => (hg.block j (Array.getElem?_eq_some_iff.1 hj).1 ?_).trans hj⟩
  intro e
  have e : j = g := Option.some.inj e
  subst e
  rw [hj] at hb
  injection hb with hb
  rw [hb] at ho
  cases ho
theorem boxed_by {w w' : World} {g : Nat} {t : TypeId} {v : Value} {r : Option Nat} (h : Boxed w g t v) (hg : w.grownBy w' r) (hne : some g ≠ r) : Boxed w' g t v := (hg.block g h.lt hne).trans h
theorem nth_chB (B : List Nat) (s x k : Nat) (hk : k < s) : nth (chB B s x) k = nth B (s * x + k) := by
  unfold nth chB
  rw [List.getD_eq_getElem?_getD, List.getD_eq_getElem?_getD, List.getElem?_take, if_pos hk, List.getElem?_drop]
theorem hdP_le (W : Nat → Nat) (c : Nat) (B : List Nat) (l : List Nat) (m : Nat) (_ : ∀ y ∈ l, y < m) : (hdP W c B l).1.length ≤ 64 * l.length := by
  have : ∀ (l : List Nat) (s : List Nat × Nat), (l.foldl (fun s k => (s.1 ++ hdC W c B k (s.2 + 1), s.2 + 1)) s).1.length ≤ s.1.length + 64 * l.length := by
    intro l
    induction l with
    | nil => intro s; simp
    | cons k l ih =>
      intro s
      refine Nat.le_trans (ih _) ?_
      simp only [List.length_append, List.length_cons]
      have h1 := hdC_len W c B k (s.2 + 1)
      have h2 : chL B.length 64 k ≤ 64 := by unfold chL; omega
      omega
  unfold hdP
  have := this l ([], 0)
  simpa using this
/-- between two bytes of a chunk -/
structure hdK (W : Nat → Nat) (c : Nat) (B : List Nat) (w : World) (a : Option Addr) (cap n cb : Nat) (bo : Option Addr) (x pl : Nat) (L0 : List Nat) (X : World) (g2 k : Nat) (Y : World) : Prop where
  row : ∃ v, Boxed Y (w.heap.size + 1 + 1) 25 v ∧ Y.ownsRow w.heap.size 5 1 v (L0.length + k) (bys (L0 ++ hdJ W c B x (pl + 1) k))
  blk : KRow .u8 Y g2 67 64 (padB W c (pl + 1))
  ix : Boxed Y (w.heap.size + 1 + 1 + 1) 3 (.int .i64 ((pl : Nat) + 1))
  ba : Boxed Y w.heap.size 34 (.slice a 8 cap)
  bc : Boxed Y (w.heap.size + 1) 3 (.int .i64 (c : Nat))
  bl : Boxed Y (w.heap.size + 1 + 1 + 1 + 1) 25 (.slice bo n cb)
  b6 : Boxed Y (w.heap.size + 1 + 1 + 1 + 1 + 1) 3 (.int .i64 64)
  far : w.heap.size + 1 + 1 + 1 + 1 + 1 < g2
  low : Below w.heap.size w Y
  oth : KeepsOthers X Y
theorem hdK_step {W : Nat → Nat} {c : Nat} {B : List Nat} {w : World} {a : Option Addr} {cap n cb : Nat} {bo : Option Addr} {x pl : Nat} {L0 : List Nat} {X : World} {g2 k : Nat} {Y : World} (h : hdK W c B w a cap n cb bo x pl L0 X g2 k Y)
    {v : Value} (hv : Boxed Y (w.heap.size + 1 + 1) 25 v) (hrow : Y.ownsRow w.heap.size 5 1 v (L0.length + k) (bys (L0 ++ hdJ W c B x (pl + 1) k))) (r : Nat) (hr : r = nth B (64 * x + k) ^^^ padB W c (pl + 1) k) (o : Obj) (v2 : Value) (Y3 : World)
    (hr3 : Y3.ownsRow w.heap.size 5 1 v2 (L0.length + k + 1) (bys (L0 ++ hdJ W c B x (pl + 1) k) ++ [.int .u8 (r : Nat)])) (hg : (Y.alloc o).drew.grownBy Y3 v.ownBlock) :
    Boxed Y3 (w.heap.size + 1 + 1) 25 v ∧ hdK W c B w a cap n cb bo x pl L0 X g2 (k + 1) (Y3.setCell ⟨w.heap.size + 1 + 1, 0, none⟩ v2) := by
  have gA : Y.grownBy (Y.alloc o).drew none := grown_trans (World.grownBy_alloc _ o none) (grown_drew _ none)
  have hrA := row_none hrow gA
  have one : ∀ {g : Nat} {t : TypeId} {cs : Array Value}, Y.heap[g]? = some (.cells cs t) → t ≠ 5 → Y3.heap[g]? = some (.cells cs t) := by
    intro g t cs hb hne
    have hA : (Y.alloc o).drew.heap[g]? = some (.cells cs t) := (gA.block g (Array.getElem?_eq_some_iff.1 hb).1 (by simp)).trans hb
    exact (hg.block g (Array.getElem?_eq_some_iff.1 hA).1 (own_ne hrA hA hne)).trans hA
  have two : ∀ {g : Nat} {t : TypeId} {cs : Array Value}, Y.heap[g]? = some (.cells cs t) → t ≠ 5 → g ≠ w.heap.size + 1 + 1 → (Y3.setCell ⟨w.heap.size + 1 + 1, 0, none⟩ v2).heap[g]? = some (.cells cs t) := by
    intro g t cs hb hne hg2
    exact (Below.heap_setCell _ _ _ _ hg2).trans (one hb hne)
  have bO3 : Boxed Y3 (w.heap.size + 1 + 1) 25 v := one hv (by decide)
  have hf := h.far
  refine ⟨bO3, ⟨⟨v2, Boxed.set (W := Y3) _ bO3, ?_⟩, two h.blk (by decide) (by omega), two h.ix (by decide) (by omega), two h.ba (by decide) (by omega), two h.bc (by decide) (by omega), two h.bl (by decide) (by omega), two h.b6 (by decide) (by omega), h.far, ?_, ?_⟩⟩
  · have e : bys (L0 ++ hdJ W c B x (pl + 1) (k + 1)) = bys (L0 ++ hdJ W c B x (pl + 1) k) ++ [.int .u8 (r : Nat)] := by
      rw [hdJ_succ, ← List.append_assoc, hr]; simp [bys]
    rw [e]
    exact hr3.kept (grown_set Y3 _ _ v2) (.inr (fun e => own_ne hr3 bO3 (by decide) e.symm))
  · refine Below.setCell (p := ⟨w.heap.size + 1 + 1, 0, none⟩) ?_ (by simp; omega) _
    refine (h.low.grown gA (Nat.le_of_lt h.ba.lt) (fun _ e => by cases e)).grown hg (Nat.le_trans (Nat.le_of_lt h.ba.lt) gA.size) ?_
    intro j hj
    rcases hrow.2 with ⟨rfl, _⟩ | ⟨g', cap', cur, rfl, h2, _⟩
    · cases hj
    · have e : g' = j := Option.some.inj hj
      omega
  · exact ((h.oth.trans (keepsO_grown gA)).trans (keepsO_own hrA hg)).trans (KeepsOthers.setCell _ _ _)
set_option maxHeartbeats 4000000 in
theorem hide_in (a bo : Option Addr) (cap c n cb : Nat) (S : List Int) (W : Nat → Nat) (B : List Nat) (w : World) (hL : Lin w) (hp : RdI w a 8 cap S) (hW : ∀ i, i < 8 → nthI S i = (W i : Int) ∧ W i < 4294967296) (hc : c < 281474976710656) (hb : Rd w bo n cb B) (hn : n ≤ 1000) :
    CallsIn Fence.wide 5 Tryd.prog 29 #[.slice a 8 cap, .int .i64 c, .slice bo n cb] w fun e w' => ∃ a' c', e = .returned (.slice a' n c') ∧ Ans w' w.heap.size a' n c' (cvL W c B) ∧ w.grownBy w' none := by
  refine callsIn_of_wp_marks Tryd.func29 rfl trivial ?_ rfl
  simp only [Tryd.ntmps29, List.size_toArray, List.length_cons, List.length_nil, Nat.reduceAdd, Nat.reduceSub, Array.replicate_succ, Array.replicate_zero, List.push_toArray, List.append_toArray, List.nil_append, List.cons_append]
  gi_wp2_with (first
    | (refine ⟨trivial, ?_⟩; gi_at_call 43; refine (chunks_in 4 bo n cb 64 _).mono ?_; rintro e w4 ⟨rfl, hw4⟩; have HW4 : Hid _ := hw4; clear hw4))
  have hw4 := HW4.out
  clear HW4
  have b0 : Boxed w4 w.heap.size 34 (.slice a 8 cap) := by rw [hw4]; exact (((((Boxed.new w 34 (.slice a 8 cap)).alloc _).alloc _).alloc _).alloc _).alloc _
  have b1 : Boxed w4 (w.heap.size + 1) 3 (.int .i64 (c : Nat)) := by
    rw [hw4]
    have h := Boxed.new (w.alloc (.cells #[.slice a 8 cap] 34)) 3 (.int .i64 (c : Nat))
    simp only [World.size_alloc] at h
    exact (((h.alloc _).alloc _).alloc _).alloc _
  have b2 : Boxed w4 (w.heap.size + 1 + 1) 25 (.slice none 0 0) := by
    rw [hw4]
    have h := Boxed.new ((w.alloc (.cells #[.slice a 8 cap] 34)).alloc (.cells #[.int .i64 (c : Nat)] 3)) 25 (.slice none 0 0)
    simp only [World.size_alloc] at h
    exact ((h.alloc _).alloc _).alloc _
  have b3 : Boxed w4 (w.heap.size + 1 + 1 + 1) 3 (.int .i64 0) := by
    rw [hw4]
    have h := Boxed.new (((w.alloc (.cells #[.slice a 8 cap] 34)).alloc (.cells #[.int .i64 (c : Nat)] 3)).alloc (.cells #[.slice none 0 0] 25)) 3 (.int .i64 0)
    simp only [World.size_alloc] at h
    exact (h.alloc _).alloc _
  have b4 : Boxed w4 (w.heap.size + 1 + 1 + 1 + 1) 25 (.slice bo n cb) := by
    rw [hw4]
    have h := Boxed.new ((((w.alloc (.cells #[.slice a 8 cap] 34)).alloc (.cells #[.int .i64 (c : Nat)] 3)).alloc (.cells #[.slice none 0 0] 25)).alloc (.cells #[.int .i64 0] 3)) 25 (.slice bo n cb)
    simp only [World.size_alloc] at h
    exact h.alloc _
  have b5 : Boxed w4 (w.heap.size + 1 + 1 + 1 + 1 + 1) 3 (.int .i64 64) := by
    rw [hw4]
    have h := Boxed.new (((((w.alloc (.cells #[.slice a 8 cap] 34)).alloc (.cells #[.int .i64 (c : Nat)] 3)).alloc (.cells #[.slice none 0 0] 25)).alloc (.cells #[.int .i64 0] 3)).alloc (.cells #[.slice bo n cb] 25)) 3 (.int .i64 64)
    simp only [World.size_alloc] at h
    exact h
  have g04 : w.grownBy w4 none := by
    rw [hw4]
    exact grown_trans (grown_trans (grown_trans (grown_trans (grown_trans (World.grownBy_alloc w _ none) (World.grownBy_alloc _ _ none)) (World.grownBy_alloc _ _ none)) (World.grownBy_alloc _ _ none)) (World.grownBy_alloc _ _ none)) (World.grownBy_alloc _ _ none)
  have hs4 : w4.heap.size = w.heap.size + 1 + 1 + 1 + 1 + 1 + 1 := by rw [hw4]; simp
  clear hw4
  have hB4 : Below w.heap.size w w4 := below_of_grown g04
  have HLn : Hid (B.length = n) := hb.len
  obtain ⟨m, hm⟩ : ∃ m, m = (n + 63) / 64 := ⟨_, rfl⟩
  have hm0 : n = 0 → m = 0 := fun h => by omega
  have hm1 : n ≤ 64 * m := by omega
  have hm2 : ∀ k, k < m → 64 * k < n := fun k hk => by omega
  have hI0 : hdI W c B w a cap n cb bo m [] w4 := ⟨⟨_, b2, World.ownsRow_nil _ _ _ _⟩, b3, b0, b1, b4, b5, hB4⟩
  have hIo := hdI_own W c B w a cap n cb bo m w4.heap.size (by omega)
  have hXo := tgX_own m w4.heap.size
  have hst := chunks_stops 4 (w.heap.size + 1 + 1 + 1 + 1) (w.heap.size + 1 + 1 + 1 + 1 + 1) n 64 m cb (fun k => k < w.heap.size ∨ k = w.heap.size + 1 + 1 + 1 + 1 ∨ k = w.heap.size + 1 + 1 + 1 + 1 + 1) bo B w4 (by decide) (hb.keep g04) (by decide) (by decide) hm0 hm1 hm2 (by omega) (.inr (.inl rfl)) (.inr (.inr rfl)) (fun k hk => by omega) b4.cell b5.cell
  have hput := KeepB.put (p := fun k => k < w.heap.size ∨ k = w.heap.size + 1 + 1 + 1 + 1 ∨ k = w.heap.size + 1 + 1 + 1 + 1 + 1) (w := w4) (fun k hk => by omega)
  have hent := enters_of Tryd.func58 (by kernel_rfl) rfl
  clear b0 b1 b2 b3 b4 b5
  refine wpIn_rangeFunc_ownG (n := 5) (F := Fence.wide) rfl (by decide) (gf := 58) (lb := #[.pointer (some ⟨w.heap.size + 1 + 1 + 1 + 1, 0, none⟩), .pointer (some ⟨w.heap.size + 1 + 1 + 1 + 1 + 1, 0, none⟩)]) rfl trivial hent hst KeepB.trans hput (Below.refl _ _) (fun _ => rfl)
    (hdI W c B w a cap n cb bo m) (tgX m) hIo hXo hI0
    (fun x => { tmps := #[.slice a 8 cap, .int .i64 (c : Nat), .slice bo n cb, .pointer (some ⟨w.heap.size, 0, none⟩), .pointer (some ⟨w.heap.size + 1, 0, none⟩), undef, .slice none 0 0, .pointer (some ⟨w.heap.size + 1 + 1, 0, none⟩), .pointer (some ⟨w.heap.size + 1 + 1 + 1, 0, none⟩), .slice (chA bo 64 x.1) (chL n 64 x.1) (cb - 64 * x.1), undef, undef, undef, .slice bo n cb, .func (.func 58) #[] #[.pointer (some ⟨w.heap.size + 1 + 1 + 1 + 1, 0, none⟩), .pointer (some ⟨w.heap.size + 1 + 1 + 1 + 1 + 1, 0, none⟩)], .slice (chA bo 64 x.1) (chL n 64 x.1) (cb - 64 * x.1), undef, undef, undef, undef, undef, undef, undef, undef, undef, undef, undef, undef, undef, undef, undef, undef, undef, undef, undef, undef, undef, undef, undef], defers := [] }) ?assign ?body ?done ?stop
  case assign =>
    intro l x X K hK
    gi_wp2
    exact hK
  case body =>
    rintro l pre x X ⟨⟨v, bO, hrow⟩, bI, bA, bC, bL, b64, hB⟩ hlt
    have cI := bI.cell; have cA := bA.cell; have cC := bC.cell; have cO := bO.cell
    have fI := frozen_of_row _ _ 0 _ _ bI
    have hB1 := hB.setCell (p := ⟨w.heap.size + 1 + 1 + 1, 0, none⟩) (by show w.heap.size ≤ w.heap.size + 1 + 1 + 1; omega) (.int .i64 ((pre.length : Nat) + 1))
    have gB1 := grown_of_below hB1
    have hBk := (callsIn_wide (n := 2)).2 (blockOf_any a cap c (pre.length + 1) S W _ (hL.keep gB1) (hp.keep gB1) hW hc (by have hlm : pre.length < m := hlt; omega))
    gi_wp2_with (first
      | (refine ⟨trivial, ?_⟩; gi_at_call 42; refine hBk.mono ?_; rintro e X2 ⟨rfl, gX2⟩; have z2 := krow_new .u8 X2 67 64 (fun _ => 0))
      | (refine wpListIn_stK .u8 _ rfl (.tmp 10) (.tmp 21) _ 64 rfl Tryd.info_by X2.heap.size _ _ rfl rfl z2 ?_; intro X3 hR3 gX3))
    have gX : w.grownBy X3 none := grown_far (grown_trans (grown_trans gB1 gX2) (World.grownBy_alloc X2 _ none)) gX3 (fun g e => by cases e; exact (grown_trans gB1 gX2).size)
    have hP := ch_rd (s := 64) (hb.keep gX) x.1 (hm2 x.1 x.2)
    have hC0 : 0 < chL n 64 x.1 := by have := hm2 x.1 x.2; unfold chL; omega
    have hC1 : chL n 64 x.1 ≤ 64 := by unfold chL; omega
    obtain ⟨L0, hL0⟩ : ∃ L0, L0 = (hdP W c B (pre.map (·.1))).1 := ⟨_, rfl⟩
    rw [← hL0] at hrow
    have HL0 : Hid (L0 = (hdP W c B (pre.map (·.1))).1) := hL0
    clear hL0
    have hlm : (pre.length : Nat) < m := hlt
    have hne2 : w.heap.size + 1 + 1 + 1 ≠ w.heap.size + 1 + 1 := by omega
    have hS1 : X.heap.size ≤ X2.heap.size := by have := gX2.size; simpa using this
    have hz6 : w.heap.size + 1 + 1 + 1 + 1 + 1 < X.heap.size := b64.lt
    have one : ∀ {g : Nat} {t : TypeId} {cs : Array Value}, X.heap[g]? = some (.cells cs t) → g ≠ w.heap.size + 1 + 1 + 1 → X3.heap[g]? = some (.cells cs t) := by
      intro g t cs hg hne
      have h1 : (X.setCell ⟨w.heap.size + 1 + 1 + 1, 0, none⟩ (.int .i64 ((pre.length : Nat) + 1))).heap[g]? = some (.cells cs t) := (Below.heap_setCell _ _ _ _ hne).trans hg
      have h2 := (gX2.block g (Array.getElem?_eq_some_iff.1 h1).1 (by simp)).trans h1
      have h2l : g < X2.heap.size := (Array.getElem?_eq_some_iff.1 h2).1
      have h3 := ((World.grownBy_alloc X2 (.cells (kys .u8 64 (fun _ => 0)) 67) none).block g h2l (by simp)).trans h2
      exact (gX3.block g (Array.getElem?_eq_some_iff.1 h3).1 (fun e => by have e : g = X2.heap.size := Option.some.inj e; omega)).trans h3
    have hK0 : hdK W c B w a cap n cb bo x.1 pre.length L0 X X2.heap.size 0 X3 := by
      refine ⟨⟨v, one bO (by omega), ?_⟩, hR3, ?_, one bA (by omega), one bC (by omega), one bL (by omega), one b64 (by omega), by omega, below_of_grown gX, ?_⟩
      · have e : L0 ++ hdJ W c B x.1 (pre.length + 1) 0 = L0 := by unfold hdJ; simp
        rw [e, Nat.add_zero]
        have h1 := hrow.kept (grown_set X (w.heap.size + 1 + 1 + 1) 0 (.int .i64 ((pre.length : Nat) + 1))) (.inr (fun e => own_ne hrow bI (by decide) e.symm))
        have h2 := row_none (row_none h1 gX2) (World.grownBy_alloc X2 (.cells (kys .u8 64 (fun _ => 0)) 67) none)
        exact h2.kept gX3 (.inr (fun e => own_ne h2 z2 (by decide) e.symm))
      · have h1 : Boxed (X.setCell ⟨w.heap.size + 1 + 1 + 1, 0, none⟩ (.int .i64 ((pre.length : Nat) + 1))) (w.heap.size + 1 + 1 + 1) 3 (.int .i64 ((pre.length : Nat) + 1)) := Boxed.set (W := X) _ bI
        have h2 := boxed_by (boxed_by h1 gX2 (by simp)) (World.grownBy_alloc X2 (.cells (kys .u8 64 (fun _ => 0)) 67) none) (by simp)
        exact boxed_by h2 gX3 (fun e => by have e : w.heap.size + 1 + 1 + 1 = X2.heap.size := Option.some.inj e; omega)
      · exact (((KeepsOthers.setCell X _ _).trans (keepsO_grown gX2)).trans (keepsO_grown (World.grownBy_alloc X2 _ none))).trans (keepsO_row z2 gX3)
    gi_loopw [24] (fun i Y => ∃ (k : Nat), k ≤ chL n 64 x.1 ∧ i = .int .i64 k ∧ hdK W c B w a cap n cb bo x.1 pre.length L0 X X2.heap.size k Y) (fun i _ => chL n 64 x.1 - (intOf i).toNat)
    case atStart => exact ⟨0, Nat.zero_le _, rfl, hK0⟩
    case round =>
      obtain ⟨k, hk, rfl, hdk⟩ := hrel
      obtain ⟨v', bO', hrow'⟩ := hdk.row
      have hKR := hdk.blk
      have gY : w.grownBy wr none := grown_of_below hdk.low
      have hPY := ch_rd (s := 64) (hb.keep gY) x.1 (hm2 x.1 x.2)
      have cO' := bO'.cell
      by_cases hlk : k < chL n 64 x.1
      · have hki : (k : Int) < (chL n 64 x.1 : Nat) := by omega
        have cK := hKR.cell k (by omega)
        have fO := frozen_of_row _ _ 0 _ _ bO'
        obtain ⟨b, off, hbo, hbl, hcl⟩ := hPY.at' hC0
        rw [hbo]
        have cB := hcl k hlk
        have hs2 := gY.size; have hs5 : w.heap.size + 1 + 1 < wr.heap.size := (Array.getElem?_eq_some_iff.1 bO').1
        have hpn : padB W c (pre.length + 1) k < 256 := padB_lt _ _ _ _
        have hbn : nth (chB B 64 x.1) k < 256 := hPY.byte.nth _
        have hxr : bits .xor .u8 (nth (chB B 64 x.1) k : Nat) (padB W c (pre.length + 1) k : Nat) = ((nth (chB B 64 x.1) k ^^^ padB W c (pre.length + 1) k : Nat) : Int) := u8_xor_nat _ _ hbn hpn
        have hrq : nth (chB B 64 x.1) k ^^^ padB W c (pre.length + 1) k = nth B (64 * x.1 + k) ^^^ padB W c (pre.length + 1) k := by rw [nth_chB _ _ _ _ (by omega)]
        obtain ⟨p, hp'⟩ : ∃ p, p = nth (chB B 64 x.1) k := ⟨_, rfl⟩
        obtain ⟨q, hq'⟩ : ∃ q, q = padB W c (pre.length + 1) k := ⟨_, rfl⟩
        obtain ⟨r, hr'⟩ : ∃ r, r = p ^^^ q := ⟨_, rfl⟩
        rw [← hp', ← hq', ← hr'] at hxr hrq
        rw [← hp'] at cB
        rw [← hq'] at cK
        have hstep := fun v2 Y3 h3 hg3 => hdK_step hdk bO' hrow' r (by rw [hrq]; rw [hq']) (.cells #[.int .u8 (r : Nat)] 5) v2 Y3 h3 hg3
        have aO : ∀ o, (wr.alloc o).cell? ⟨w.heap.size + 1 + 1, 0, none⟩ = some v' := fun o => (World.cell?_of_block ((World.grownBy_alloc wr o none).block _ (show w.heap.size + 1 + 1 < wr.heap.size by omega) (by simp))).trans cO'
        have hk64 : (k : Int) < 64 := by omega
        have hLl : (L0 ++ hdJ W c B x.1 (pre.length + 1) k).length = L0.length + k := by
          have := hrow'.1; rw [bys_length] at this; omega
        obtain ⟨i0, hi0, hz0, hz1, hz2⟩ := info_parts Tryd.info_u8
        have gA : wr.grownBy (wr.alloc (.cells #[.int .u8 (r : Nat)] 5)).drew none := grown_trans (World.grownBy_alloc _ _ none) (grown_drew _ none)
        have hrowA := row_none hrow' gA
        have hcellA : (wr.alloc (.cells #[.int .u8 (r : Nat)] 5)).drew.cell? ⟨wr.heap.size, 0, none⟩ = some (.int .u8 (r : Nat)) := (Boxed.new wr 5 (.int .u8 (r : Nat))).cell
        have hbig0 : L0.length + k + 1 ≤ 1000000 := by
          have h1 := hdP_le W c B (pre.map (·.1)) m (fun y hy => by obtain ⟨z, _, rfl⟩ := List.mem_map.1 hy; exact z.2)
          rw [← HL0.out, List.length_map] at h1
          have : 64 * pre.length ≤ 64 * 16 := by omega
          omega
        have hbig1 : L0.length + k + 1 ≤ maxLen := by unfold maxLen; omega
        have hbig2 : (L0.length + k + 1) * 1 ≤ 140737488355328 := by omega
        clear hp' hq' hr' hPY hcl hrq
        gi_wp2_with fail
        refine wpIn_mono (Q := Exit.then _ (fun _ _ _ => False)) ?_ (fun e a w h => by cases e <;> first | exact h | exact h.elim)
        rename_i Kr hKr
        refine wpIn_region_any (by kernel_rfl) ?_
        try (change wpAnyIn _ _ _ _ _ _ _ _ _ (World.drew _))
        refine share1 ?_
        intro G1 hG1
        have htail : ∀ v2 Y3, Y3.ownsRow w.heap.size 5 1 v2 (L0.length + k + 1) (bys (L0 ++ hdJ W c B x.1 (pre.length + 1) k) ++ [.int .u8 (r : Nat)]) → ((wr.alloc (.cells #[.int .u8 (r : Nat)] 5)).drew).grownBy Y3 v'.ownBlock → G1 Y3 1 #[true, true, true, true, true, true, true, true, false] { tmps := #[.slice a 8 cap, .int .i64 (c : Nat), .slice bo n cb, .pointer (some ⟨w.heap.size, 0, none⟩), .pointer (some ⟨w.heap.size + 1, 0, none⟩), undef, .slice none 0 0, .pointer (some ⟨w.heap.size + 1 + 1, 0, none⟩), .pointer (some ⟨w.heap.size + 1 + 1 + 1, 0, none⟩), .slice (some ⟨b, off, none⟩) (chL n 64 x.1) (cb - 64 * x.1), .pointer (some ⟨X2.heap.size, 0, none⟩), .int .i64 (k : Nat), .int .u8 (p : Nat), .slice bo n cb, .func (.func 58) #[] #[.pointer (some ⟨w.heap.size + 1 + 1 + 1 + 1, 0, none⟩), .pointer (some ⟨w.heap.size + 1 + 1 + 1 + 1 + 1, 0, none⟩)], .slice (some ⟨b, off, none⟩) (chL n 64 x.1) (cb - 64 * x.1), .int .i64 (pre.length : Nat), .int .i64 ((pre.length : Nat) + 1), .slice a 8 cap, .int .i64 (c : Nat), .int .i64 ((pre.length : Nat) + 1), .agg (kys .u8 64 (padB W c (pre.length + 1))), .slice (some ⟨b, off, none⟩) (chL n 64 x.1) (cb - 64 * x.1), .int .i64 (chL n 64 x.1 : Nat), .int .i64 (k : Nat), .bool true, .int .i64 (k : Nat), .pointer (some ⟨b, off + k, none⟩), .int .u8 (p : Nat), v', .int .u8 (p : Nat), .int .i64 (k : Nat), .pointer (some ⟨X2.heap.size, k, none⟩), .int .u8 (q : Nat), .int .u8 (r : Nat), .slice (some ⟨wr.heap.size, 0, none⟩) 1 1, v2, u37, undef], defers := [] } := by
          intro v2 Y3 hr3 hg3
          obtain ⟨bO3, hKs⟩ := hstep v2 Y3 hr3 hg3
          rcases hr3.2 with ⟨_, h0⟩ | ⟨g3, c3, cur, rfl, _⟩
          · omega
          have cO3 := bO3.cell
          have fO3 := bO3.frozen
          refine (hG1 _ _ _ _).2 ?_
          refine wpAnyIn_ready (rs := [8]) (by kernel_rfl) (by simp) ?_
          refine AllReadyIn.cons rfl (fun K hK => ?_) ?_
          · go_simp
            refine hK _ _ ?_
            refine wpAnyIn_done (by kernel_rfl) ?_ _
            refine hKr _ _ ?_
            gi_wp2
            exact ⟨⟨k + 1, by omega, rfl, hKs⟩, by simp only [intOf]; omega⟩
          exact AllReadyIn.nil
        have gabcdefg : G1 ((wr.alloc (.cells #[.int .u8 (r : Nat)] 5)).drew) 2 #[true, true, true, true, true, true, true, false, false] { tmps := #[.slice a 8 cap, .int .i64 (c : Nat), .slice bo n cb, .pointer (some ⟨w.heap.size, 0, none⟩), .pointer (some ⟨w.heap.size + 1, 0, none⟩), undef, .slice none 0 0, .pointer (some ⟨w.heap.size + 1 + 1, 0, none⟩), .pointer (some ⟨w.heap.size + 1 + 1 + 1, 0, none⟩), .slice (some ⟨b, off, none⟩) (chL n 64 x.1) (cb - 64 * x.1), .pointer (some ⟨X2.heap.size, 0, none⟩), .int .i64 (k : Nat), .int .u8 (p : Nat), .slice bo n cb, .func (.func 58) #[] #[.pointer (some ⟨w.heap.size + 1 + 1 + 1 + 1, 0, none⟩), .pointer (some ⟨w.heap.size + 1 + 1 + 1 + 1 + 1, 0, none⟩)], .slice (some ⟨b, off, none⟩) (chL n 64 x.1) (cb - 64 * x.1), .int .i64 (pre.length : Nat), .int .i64 ((pre.length : Nat) + 1), .slice a 8 cap, .int .i64 (c : Nat), .int .i64 ((pre.length : Nat) + 1), .agg (kys .u8 64 (padB W c (pre.length + 1))), .slice (some ⟨b, off, none⟩) (chL n 64 x.1) (cb - 64 * x.1), .int .i64 (chL n 64 x.1 : Nat), .int .i64 (k : Nat), .bool true, .int .i64 (k : Nat), .pointer (some ⟨b, off + k, none⟩), .int .u8 (p : Nat), v', .int .u8 (p : Nat), .int .i64 (k : Nat), .pointer (some ⟨X2.heap.size, k, none⟩), .int .u8 (q : Nat), .int .u8 (r : Nat), .slice (some ⟨wr.heap.size, 0, none⟩) 1 1, u36, u37, undef], defers := [] } := by
          refine (hG1 _ _ _ _).2 ?_
          refine wpAnyIn_ready (rs := [7]) (by kernel_rfl) (by simp) ?_
          refine AllReadyIn.cons rfl (fun K hK => ?_) ?_
          · refine opIn_append _ (.tmp 29) (.tmp 35) 25 rfl w.heap.size 5 i0 (.int .u8 0) 1 1 Tryd.underlying25 hi0 hz0 hz1 hz2 rfl (by decide) v' (L0.length + k) _ rfl hrowA ⟨wr.heap.size, 0, none⟩ 1 1 [.int .u8 (r : Nat)] rfl rfl ?_ (by simp [Value.oneCell']) hbig1 hbig2 (by simp; omega) ?_
            · intro j u hu
              match j, hu with
              | 0, hu => exact (Option.some.inj hu) ▸ hcellA
            · intro v2 Y3 hr3 hg3 _
              exact hK _ _ ((hG1 _ _ _ _).1 (htail v2 Y3 hr3 hg3))
          exact AllReadyIn.nil
        have gabcdef : G1 (wr.drew) 3 #[true, true, true, true, true, true, false, false, false] { tmps := #[.slice a 8 cap, .int .i64 (c : Nat), .slice bo n cb, .pointer (some ⟨w.heap.size, 0, none⟩), .pointer (some ⟨w.heap.size + 1, 0, none⟩), undef, .slice none 0 0, .pointer (some ⟨w.heap.size + 1 + 1, 0, none⟩), .pointer (some ⟨w.heap.size + 1 + 1 + 1, 0, none⟩), .slice (some ⟨b, off, none⟩) (chL n 64 x.1) (cb - 64 * x.1), .pointer (some ⟨X2.heap.size, 0, none⟩), .int .i64 (k : Nat), .int .u8 (p : Nat), .slice bo n cb, .func (.func 58) #[] #[.pointer (some ⟨w.heap.size + 1 + 1 + 1 + 1, 0, none⟩), .pointer (some ⟨w.heap.size + 1 + 1 + 1 + 1 + 1, 0, none⟩)], .slice (some ⟨b, off, none⟩) (chL n 64 x.1) (cb - 64 * x.1), .int .i64 (pre.length : Nat), .int .i64 ((pre.length : Nat) + 1), .slice a 8 cap, .int .i64 (c : Nat), .int .i64 ((pre.length : Nat) + 1), .agg (kys .u8 64 (padB W c (pre.length + 1))), .slice (some ⟨b, off, none⟩) (chL n 64 x.1) (cb - 64 * x.1), .int .i64 (chL n 64 x.1 : Nat), .int .i64 (k : Nat), .bool true, .int .i64 (k : Nat), .pointer (some ⟨b, off + k, none⟩), .int .u8 (p : Nat), v', .int .u8 (p : Nat), .int .i64 (k : Nat), .pointer (some ⟨X2.heap.size, k, none⟩), .int .u8 (q : Nat), .int .u8 (r : Nat), u35, u36, u37, undef], defers := [] } := by
          refine (hG1 _ _ _ _).2 ?_
          refine wpAnyIn_ready (rs := [6]) (by kernel_rfl) (by simp) ?_
          refine AllReadyIn.cons rfl (fun K hK => ?_) ?_
          · go_simp
            exact hK _ _ ((hG1 _ _ _ _).1 gabcdefg)
          exact AllReadyIn.nil
        have gbcdefg : G1 ((wr.alloc (.cells #[.int .u8 (r : Nat)] 5)).drew) 3 #[false, true, true, true, true, true, true, false, false] { tmps := #[.slice a 8 cap, .int .i64 (c : Nat), .slice bo n cb, .pointer (some ⟨w.heap.size, 0, none⟩), .pointer (some ⟨w.heap.size + 1, 0, none⟩), undef, .slice none 0 0, .pointer (some ⟨w.heap.size + 1 + 1, 0, none⟩), .pointer (some ⟨w.heap.size + 1 + 1 + 1, 0, none⟩), .slice (some ⟨b, off, none⟩) (chL n 64 x.1) (cb - 64 * x.1), .pointer (some ⟨X2.heap.size, 0, none⟩), .int .i64 (k : Nat), .int .u8 (p : Nat), .slice bo n cb, .func (.func 58) #[] #[.pointer (some ⟨w.heap.size + 1 + 1 + 1 + 1, 0, none⟩), .pointer (some ⟨w.heap.size + 1 + 1 + 1 + 1 + 1, 0, none⟩)], .slice (some ⟨b, off, none⟩) (chL n 64 x.1) (cb - 64 * x.1), .int .i64 (pre.length : Nat), .int .i64 ((pre.length : Nat) + 1), .slice a 8 cap, .int .i64 (c : Nat), .int .i64 ((pre.length : Nat) + 1), .agg (kys .u8 64 (padB W c (pre.length + 1))), .slice (some ⟨b, off, none⟩) (chL n 64 x.1) (cb - 64 * x.1), .int .i64 (chL n 64 x.1 : Nat), .int .i64 (k : Nat), .bool true, .int .i64 (k : Nat), .pointer (some ⟨b, off + k, none⟩), .int .u8 (p : Nat), u29, .int .u8 (p : Nat), .int .i64 (k : Nat), .pointer (some ⟨X2.heap.size, k, none⟩), .int .u8 (q : Nat), .int .u8 (r : Nat), .slice (some ⟨wr.heap.size, 0, none⟩) 1 1, u36, u37, undef], defers := [] } := by
          refine (hG1 _ _ _ _).2 ?_
          refine wpAnyIn_ready (rs := [0]) (by kernel_rfl) (by simp) ?_
          refine AllReadyIn.cons rfl (fun K hK => ?_) ?_
          · go_simp
            exact hK _ _ ((hG1 _ _ _ _).1 gabcdefg)
          exact AllReadyIn.nil
        have gabcde : G1 (wr.drew) 4 #[true, true, true, true, true, false, false, false, false] { tmps := #[.slice a 8 cap, .int .i64 (c : Nat), .slice bo n cb, .pointer (some ⟨w.heap.size, 0, none⟩), .pointer (some ⟨w.heap.size + 1, 0, none⟩), undef, .slice none 0 0, .pointer (some ⟨w.heap.size + 1 + 1, 0, none⟩), .pointer (some ⟨w.heap.size + 1 + 1 + 1, 0, none⟩), .slice (some ⟨b, off, none⟩) (chL n 64 x.1) (cb - 64 * x.1), .pointer (some ⟨X2.heap.size, 0, none⟩), .int .i64 (k : Nat), .int .u8 (p : Nat), .slice bo n cb, .func (.func 58) #[] #[.pointer (some ⟨w.heap.size + 1 + 1 + 1 + 1, 0, none⟩), .pointer (some ⟨w.heap.size + 1 + 1 + 1 + 1 + 1, 0, none⟩)], .slice (some ⟨b, off, none⟩) (chL n 64 x.1) (cb - 64 * x.1), .int .i64 (pre.length : Nat), .int .i64 ((pre.length : Nat) + 1), .slice a 8 cap, .int .i64 (c : Nat), .int .i64 ((pre.length : Nat) + 1), .agg (kys .u8 64 (padB W c (pre.length + 1))), .slice (some ⟨b, off, none⟩) (chL n 64 x.1) (cb - 64 * x.1), .int .i64 (chL n 64 x.1 : Nat), .int .i64 (k : Nat), .bool true, .int .i64 (k : Nat), .pointer (some ⟨b, off + k, none⟩), .int .u8 (p : Nat), v', .int .u8 (p : Nat), .int .i64 (k : Nat), .pointer (some ⟨X2.heap.size, k, none⟩), .int .u8 (q : Nat), u34, u35, u36, u37, undef], defers := [] } := by
          refine (hG1 _ _ _ _).2 ?_
          refine wpAnyIn_ready (rs := [5]) (by kernel_rfl) (by simp) ?_
          refine AllReadyIn.cons rfl (fun K hK => ?_) ?_
          · go_simp
            exact hK _ _ ((hG1 _ _ _ _).1 gabcdef)
          exact AllReadyIn.nil
        have gbcdef : G1 (wr.drew) 4 #[false, true, true, true, true, true, false, false, false] { tmps := #[.slice a 8 cap, .int .i64 (c : Nat), .slice bo n cb, .pointer (some ⟨w.heap.size, 0, none⟩), .pointer (some ⟨w.heap.size + 1, 0, none⟩), undef, .slice none 0 0, .pointer (some ⟨w.heap.size + 1 + 1, 0, none⟩), .pointer (some ⟨w.heap.size + 1 + 1 + 1, 0, none⟩), .slice (some ⟨b, off, none⟩) (chL n 64 x.1) (cb - 64 * x.1), .pointer (some ⟨X2.heap.size, 0, none⟩), .int .i64 (k : Nat), .int .u8 (p : Nat), .slice bo n cb, .func (.func 58) #[] #[.pointer (some ⟨w.heap.size + 1 + 1 + 1 + 1, 0, none⟩), .pointer (some ⟨w.heap.size + 1 + 1 + 1 + 1 + 1, 0, none⟩)], .slice (some ⟨b, off, none⟩) (chL n 64 x.1) (cb - 64 * x.1), .int .i64 (pre.length : Nat), .int .i64 ((pre.length : Nat) + 1), .slice a 8 cap, .int .i64 (c : Nat), .int .i64 ((pre.length : Nat) + 1), .agg (kys .u8 64 (padB W c (pre.length + 1))), .slice (some ⟨b, off, none⟩) (chL n 64 x.1) (cb - 64 * x.1), .int .i64 (chL n 64 x.1 : Nat), .int .i64 (k : Nat), .bool true, .int .i64 (k : Nat), .pointer (some ⟨b, off + k, none⟩), .int .u8 (p : Nat), u29, .int .u8 (p : Nat), .int .i64 (k : Nat), .pointer (some ⟨X2.heap.size, k, none⟩), .int .u8 (q : Nat), .int .u8 (r : Nat), u35, u36, u37, undef], defers := [] } := by
          refine (hG1 _ _ _ _).2 ?_
          refine wpAnyIn_ready (rs := [0, 6]) (by kernel_rfl) (by simp) ?_
          refine AllReadyIn.cons rfl (fun K hK => ?_) ?_
          · go_simp
            exact hK _ _ ((hG1 _ _ _ _).1 gabcdef)
          refine AllReadyIn.cons rfl (fun K hK => ?_) ?_
          · go_simp
            exact hK _ _ ((hG1 _ _ _ _).1 gbcdefg)
          exact AllReadyIn.nil
        have gabcd : G1 (wr.drew) 5 #[true, true, true, true, false, false, false, false, false] { tmps := #[.slice a 8 cap, .int .i64 (c : Nat), .slice bo n cb, .pointer (some ⟨w.heap.size, 0, none⟩), .pointer (some ⟨w.heap.size + 1, 0, none⟩), undef, .slice none 0 0, .pointer (some ⟨w.heap.size + 1 + 1, 0, none⟩), .pointer (some ⟨w.heap.size + 1 + 1 + 1, 0, none⟩), .slice (some ⟨b, off, none⟩) (chL n 64 x.1) (cb - 64 * x.1), .pointer (some ⟨X2.heap.size, 0, none⟩), .int .i64 (k : Nat), .int .u8 (p : Nat), .slice bo n cb, .func (.func 58) #[] #[.pointer (some ⟨w.heap.size + 1 + 1 + 1 + 1, 0, none⟩), .pointer (some ⟨w.heap.size + 1 + 1 + 1 + 1 + 1, 0, none⟩)], .slice (some ⟨b, off, none⟩) (chL n 64 x.1) (cb - 64 * x.1), .int .i64 (pre.length : Nat), .int .i64 ((pre.length : Nat) + 1), .slice a 8 cap, .int .i64 (c : Nat), .int .i64 ((pre.length : Nat) + 1), .agg (kys .u8 64 (padB W c (pre.length + 1))), .slice (some ⟨b, off, none⟩) (chL n 64 x.1) (cb - 64 * x.1), .int .i64 (chL n 64 x.1 : Nat), .int .i64 (k : Nat), .bool true, .int .i64 (k : Nat), .pointer (some ⟨b, off + k, none⟩), .int .u8 (p : Nat), v', .int .u8 (p : Nat), .int .i64 (k : Nat), .pointer (some ⟨X2.heap.size, k, none⟩), u33, u34, u35, u36, u37, undef], defers := [] } := by
          refine (hG1 _ _ _ _).2 ?_
          refine wpAnyIn_ready (rs := [4]) (by kernel_rfl) (by simp) ?_
          refine AllReadyIn.cons rfl (fun K hK => ?_) ?_
          · go_simp
            exact hK _ _ ((hG1 _ _ _ _).1 gabcde)
          exact AllReadyIn.nil
        have gacde : G1 (wr.drew) 5 #[true, false, true, true, true, false, false, false, false] { tmps := #[.slice a 8 cap, .int .i64 (c : Nat), .slice bo n cb, .pointer (some ⟨w.heap.size, 0, none⟩), .pointer (some ⟨w.heap.size + 1, 0, none⟩), undef, .slice none 0 0, .pointer (some ⟨w.heap.size + 1 + 1, 0, none⟩), .pointer (some ⟨w.heap.size + 1 + 1 + 1, 0, none⟩), .slice (some ⟨b, off, none⟩) (chL n 64 x.1) (cb - 64 * x.1), .pointer (some ⟨X2.heap.size, 0, none⟩), .int .i64 (k : Nat), .int .u8 (p : Nat), .slice bo n cb, .func (.func 58) #[] #[.pointer (some ⟨w.heap.size + 1 + 1 + 1 + 1, 0, none⟩), .pointer (some ⟨w.heap.size + 1 + 1 + 1 + 1 + 1, 0, none⟩)], .slice (some ⟨b, off, none⟩) (chL n 64 x.1) (cb - 64 * x.1), .int .i64 (pre.length : Nat), .int .i64 ((pre.length : Nat) + 1), .slice a 8 cap, .int .i64 (c : Nat), .int .i64 ((pre.length : Nat) + 1), .agg (kys .u8 64 (padB W c (pre.length + 1))), .slice (some ⟨b, off, none⟩) (chL n 64 x.1) (cb - 64 * x.1), .int .i64 (chL n 64 x.1 : Nat), .int .i64 (k : Nat), .bool true, .int .i64 (k : Nat), .pointer (some ⟨b, off + k, none⟩), .int .u8 (p : Nat), v', u30, .int .i64 (k : Nat), .pointer (some ⟨X2.heap.size, k, none⟩), .int .u8 (q : Nat), u34, u35, u36, u37, undef], defers := [] } := by
          refine (hG1 _ _ _ _).2 ?_
          refine wpAnyIn_ready (rs := [1]) (by kernel_rfl) (by simp) ?_
          refine AllReadyIn.cons rfl (fun K hK => ?_) ?_
          · go_simp
            exact hK _ _ ((hG1 _ _ _ _).1 gabcde)
          exact AllReadyIn.nil
        have gbcde : G1 (wr.drew) 5 #[false, true, true, true, true, false, false, false, false] { tmps := #[.slice a 8 cap, .int .i64 (c : Nat), .slice bo n cb, .pointer (some ⟨w.heap.size, 0, none⟩), .pointer (some ⟨w.heap.size + 1, 0, none⟩), undef, .slice none 0 0, .pointer (some ⟨w.heap.size + 1 + 1, 0, none⟩), .pointer (some ⟨w.heap.size + 1 + 1 + 1, 0, none⟩), .slice (some ⟨b, off, none⟩) (chL n 64 x.1) (cb - 64 * x.1), .pointer (some ⟨X2.heap.size, 0, none⟩), .int .i64 (k : Nat), .int .u8 (p : Nat), .slice bo n cb, .func (.func 58) #[] #[.pointer (some ⟨w.heap.size + 1 + 1 + 1 + 1, 0, none⟩), .pointer (some ⟨w.heap.size + 1 + 1 + 1 + 1 + 1, 0, none⟩)], .slice (some ⟨b, off, none⟩) (chL n 64 x.1) (cb - 64 * x.1), .int .i64 (pre.length : Nat), .int .i64 ((pre.length : Nat) + 1), .slice a 8 cap, .int .i64 (c : Nat), .int .i64 ((pre.length : Nat) + 1), .agg (kys .u8 64 (padB W c (pre.length + 1))), .slice (some ⟨b, off, none⟩) (chL n 64 x.1) (cb - 64 * x.1), .int .i64 (chL n 64 x.1 : Nat), .int .i64 (k : Nat), .bool true, .int .i64 (k : Nat), .pointer (some ⟨b, off + k, none⟩), .int .u8 (p : Nat), u29, .int .u8 (p : Nat), .int .i64 (k : Nat), .pointer (some ⟨X2.heap.size, k, none⟩), .int .u8 (q : Nat), u34, u35, u36, u37, undef], defers := [] } := by
          refine (hG1 _ _ _ _).2 ?_
          refine wpAnyIn_ready (rs := [0, 5]) (by kernel_rfl) (by simp) ?_
          refine AllReadyIn.cons rfl (fun K hK => ?_) ?_
          · go_simp
            exact hK _ _ ((hG1 _ _ _ _).1 gabcde)
          refine AllReadyIn.cons rfl (fun K hK => ?_) ?_
          · go_simp
            exact hK _ _ ((hG1 _ _ _ _).1 gbcdef)
          exact AllReadyIn.nil
        have gabc : G1 (wr.drew) 6 #[true, true, true, false, false, false, false, false, false] { tmps := #[.slice a 8 cap, .int .i64 (c : Nat), .slice bo n cb, .pointer (some ⟨w.heap.size, 0, none⟩), .pointer (some ⟨w.heap.size + 1, 0, none⟩), undef, .slice none 0 0, .pointer (some ⟨w.heap.size + 1 + 1, 0, none⟩), .pointer (some ⟨w.heap.size + 1 + 1 + 1, 0, none⟩), .slice (some ⟨b, off, none⟩) (chL n 64 x.1) (cb - 64 * x.1), .pointer (some ⟨X2.heap.size, 0, none⟩), .int .i64 (k : Nat), .int .u8 (p : Nat), .slice bo n cb, .func (.func 58) #[] #[.pointer (some ⟨w.heap.size + 1 + 1 + 1 + 1, 0, none⟩), .pointer (some ⟨w.heap.size + 1 + 1 + 1 + 1 + 1, 0, none⟩)], .slice (some ⟨b, off, none⟩) (chL n 64 x.1) (cb - 64 * x.1), .int .i64 (pre.length : Nat), .int .i64 ((pre.length : Nat) + 1), .slice a 8 cap, .int .i64 (c : Nat), .int .i64 ((pre.length : Nat) + 1), .agg (kys .u8 64 (padB W c (pre.length + 1))), .slice (some ⟨b, off, none⟩) (chL n 64 x.1) (cb - 64 * x.1), .int .i64 (chL n 64 x.1 : Nat), .int .i64 (k : Nat), .bool true, .int .i64 (k : Nat), .pointer (some ⟨b, off + k, none⟩), .int .u8 (p : Nat), v', .int .u8 (p : Nat), .int .i64 (k : Nat), u32, u33, u34, u35, u36, u37, undef], defers := [] } := by
          refine (hG1 _ _ _ _).2 ?_
          refine wpAnyIn_ready (rs := [3]) (by kernel_rfl) (by simp) ?_
          refine AllReadyIn.cons rfl (fun K hK => ?_) ?_
          · go_simp
            exact hK _ _ ((hG1 _ _ _ _).1 gabcd)
          exact AllReadyIn.nil
        have gacd : G1 (wr.drew) 6 #[true, false, true, true, false, false, false, false, false] { tmps := #[.slice a 8 cap, .int .i64 (c : Nat), .slice bo n cb, .pointer (some ⟨w.heap.size, 0, none⟩), .pointer (some ⟨w.heap.size + 1, 0, none⟩), undef, .slice none 0 0, .pointer (some ⟨w.heap.size + 1 + 1, 0, none⟩), .pointer (some ⟨w.heap.size + 1 + 1 + 1, 0, none⟩), .slice (some ⟨b, off, none⟩) (chL n 64 x.1) (cb - 64 * x.1), .pointer (some ⟨X2.heap.size, 0, none⟩), .int .i64 (k : Nat), .int .u8 (p : Nat), .slice bo n cb, .func (.func 58) #[] #[.pointer (some ⟨w.heap.size + 1 + 1 + 1 + 1, 0, none⟩), .pointer (some ⟨w.heap.size + 1 + 1 + 1 + 1 + 1, 0, none⟩)], .slice (some ⟨b, off, none⟩) (chL n 64 x.1) (cb - 64 * x.1), .int .i64 (pre.length : Nat), .int .i64 ((pre.length : Nat) + 1), .slice a 8 cap, .int .i64 (c : Nat), .int .i64 ((pre.length : Nat) + 1), .agg (kys .u8 64 (padB W c (pre.length + 1))), .slice (some ⟨b, off, none⟩) (chL n 64 x.1) (cb - 64 * x.1), .int .i64 (chL n 64 x.1 : Nat), .int .i64 (k : Nat), .bool true, .int .i64 (k : Nat), .pointer (some ⟨b, off + k, none⟩), .int .u8 (p : Nat), v', u30, .int .i64 (k : Nat), .pointer (some ⟨X2.heap.size, k, none⟩), u33, u34, u35, u36, u37, undef], defers := [] } := by
          refine (hG1 _ _ _ _).2 ?_
          refine wpAnyIn_ready (rs := [1, 4]) (by kernel_rfl) (by simp) ?_
          refine AllReadyIn.cons rfl (fun K hK => ?_) ?_
          · go_simp
            exact hK _ _ ((hG1 _ _ _ _).1 gabcd)
          refine AllReadyIn.cons rfl (fun K hK => ?_) ?_
          · go_simp
            exact hK _ _ ((hG1 _ _ _ _).1 gacde)
          exact AllReadyIn.nil
        have gbcd : G1 (wr.drew) 6 #[false, true, true, true, false, false, false, false, false] { tmps := #[.slice a 8 cap, .int .i64 (c : Nat), .slice bo n cb, .pointer (some ⟨w.heap.size, 0, none⟩), .pointer (some ⟨w.heap.size + 1, 0, none⟩), undef, .slice none 0 0, .pointer (some ⟨w.heap.size + 1 + 1, 0, none⟩), .pointer (some ⟨w.heap.size + 1 + 1 + 1, 0, none⟩), .slice (some ⟨b, off, none⟩) (chL n 64 x.1) (cb - 64 * x.1), .pointer (some ⟨X2.heap.size, 0, none⟩), .int .i64 (k : Nat), .int .u8 (p : Nat), .slice bo n cb, .func (.func 58) #[] #[.pointer (some ⟨w.heap.size + 1 + 1 + 1 + 1, 0, none⟩), .pointer (some ⟨w.heap.size + 1 + 1 + 1 + 1 + 1, 0, none⟩)], .slice (some ⟨b, off, none⟩) (chL n 64 x.1) (cb - 64 * x.1), .int .i64 (pre.length : Nat), .int .i64 ((pre.length : Nat) + 1), .slice a 8 cap, .int .i64 (c : Nat), .int .i64 ((pre.length : Nat) + 1), .agg (kys .u8 64 (padB W c (pre.length + 1))), .slice (some ⟨b, off, none⟩) (chL n 64 x.1) (cb - 64 * x.1), .int .i64 (chL n 64 x.1 : Nat), .int .i64 (k : Nat), .bool true, .int .i64 (k : Nat), .pointer (some ⟨b, off + k, none⟩), .int .u8 (p : Nat), u29, .int .u8 (p : Nat), .int .i64 (k : Nat), .pointer (some ⟨X2.heap.size, k, none⟩), u33, u34, u35, u36, u37, undef], defers := [] } := by
          refine (hG1 _ _ _ _).2 ?_
          refine wpAnyIn_ready (rs := [0, 4]) (by kernel_rfl) (by simp) ?_
          refine AllReadyIn.cons rfl (fun K hK => ?_) ?_
          · go_simp
            exact hK _ _ ((hG1 _ _ _ _).1 gabcd)
          refine AllReadyIn.cons rfl (fun K hK => ?_) ?_
          · go_simp
            exact hK _ _ ((hG1 _ _ _ _).1 gbcde)
          exact AllReadyIn.nil
        have gcde : G1 (wr.drew) 6 #[false, false, true, true, true, false, false, false, false] { tmps := #[.slice a 8 cap, .int .i64 (c : Nat), .slice bo n cb, .pointer (some ⟨w.heap.size, 0, none⟩), .pointer (some ⟨w.heap.size + 1, 0, none⟩), undef, .slice none 0 0, .pointer (some ⟨w.heap.size + 1 + 1, 0, none⟩), .pointer (some ⟨w.heap.size + 1 + 1 + 1, 0, none⟩), .slice (some ⟨b, off, none⟩) (chL n 64 x.1) (cb - 64 * x.1), .pointer (some ⟨X2.heap.size, 0, none⟩), .int .i64 (k : Nat), .int .u8 (p : Nat), .slice bo n cb, .func (.func 58) #[] #[.pointer (some ⟨w.heap.size + 1 + 1 + 1 + 1, 0, none⟩), .pointer (some ⟨w.heap.size + 1 + 1 + 1 + 1 + 1, 0, none⟩)], .slice (some ⟨b, off, none⟩) (chL n 64 x.1) (cb - 64 * x.1), .int .i64 (pre.length : Nat), .int .i64 ((pre.length : Nat) + 1), .slice a 8 cap, .int .i64 (c : Nat), .int .i64 ((pre.length : Nat) + 1), .agg (kys .u8 64 (padB W c (pre.length + 1))), .slice (some ⟨b, off, none⟩) (chL n 64 x.1) (cb - 64 * x.1), .int .i64 (chL n 64 x.1 : Nat), .int .i64 (k : Nat), .bool true, .int .i64 (k : Nat), .pointer (some ⟨b, off + k, none⟩), .int .u8 (p : Nat), u29, u30, .int .i64 (k : Nat), .pointer (some ⟨X2.heap.size, k, none⟩), .int .u8 (q : Nat), u34, u35, u36, u37, undef], defers := [] } := by
          refine (hG1 _ _ _ _).2 ?_
          refine wpAnyIn_ready (rs := [0, 1]) (by kernel_rfl) (by simp) ?_
          refine AllReadyIn.cons rfl (fun K hK => ?_) ?_
          · go_simp
            exact hK _ _ ((hG1 _ _ _ _).1 gacde)
          refine AllReadyIn.cons rfl (fun K hK => ?_) ?_
          · go_simp
            exact hK _ _ ((hG1 _ _ _ _).1 gbcde)
          exact AllReadyIn.nil
        have gab : G1 (wr.drew) 7 #[true, true, false, false, false, false, false, false, false] { tmps := #[.slice a 8 cap, .int .i64 (c : Nat), .slice bo n cb, .pointer (some ⟨w.heap.size, 0, none⟩), .pointer (some ⟨w.heap.size + 1, 0, none⟩), undef, .slice none 0 0, .pointer (some ⟨w.heap.size + 1 + 1, 0, none⟩), .pointer (some ⟨w.heap.size + 1 + 1 + 1, 0, none⟩), .slice (some ⟨b, off, none⟩) (chL n 64 x.1) (cb - 64 * x.1), .pointer (some ⟨X2.heap.size, 0, none⟩), .int .i64 (k : Nat), .int .u8 (p : Nat), .slice bo n cb, .func (.func 58) #[] #[.pointer (some ⟨w.heap.size + 1 + 1 + 1 + 1, 0, none⟩), .pointer (some ⟨w.heap.size + 1 + 1 + 1 + 1 + 1, 0, none⟩)], .slice (some ⟨b, off, none⟩) (chL n 64 x.1) (cb - 64 * x.1), .int .i64 (pre.length : Nat), .int .i64 ((pre.length : Nat) + 1), .slice a 8 cap, .int .i64 (c : Nat), .int .i64 ((pre.length : Nat) + 1), .agg (kys .u8 64 (padB W c (pre.length + 1))), .slice (some ⟨b, off, none⟩) (chL n 64 x.1) (cb - 64 * x.1), .int .i64 (chL n 64 x.1 : Nat), .int .i64 (k : Nat), .bool true, .int .i64 (k : Nat), .pointer (some ⟨b, off + k, none⟩), .int .u8 (p : Nat), v', .int .u8 (p : Nat), u31, u32, u33, u34, u35, u36, u37, undef], defers := [] } := by
          refine (hG1 _ _ _ _).2 ?_
          refine wpAnyIn_ready (rs := [2]) (by kernel_rfl) (by simp) ?_
          refine AllReadyIn.cons rfl (fun K hK => ?_) ?_
          · go_simp
            exact hK _ _ ((hG1 _ _ _ _).1 gabc)
          exact AllReadyIn.nil
        have gac : G1 (wr.drew) 7 #[true, false, true, false, false, false, false, false, false] { tmps := #[.slice a 8 cap, .int .i64 (c : Nat), .slice bo n cb, .pointer (some ⟨w.heap.size, 0, none⟩), .pointer (some ⟨w.heap.size + 1, 0, none⟩), undef, .slice none 0 0, .pointer (some ⟨w.heap.size + 1 + 1, 0, none⟩), .pointer (some ⟨w.heap.size + 1 + 1 + 1, 0, none⟩), .slice (some ⟨b, off, none⟩) (chL n 64 x.1) (cb - 64 * x.1), .pointer (some ⟨X2.heap.size, 0, none⟩), .int .i64 (k : Nat), .int .u8 (p : Nat), .slice bo n cb, .func (.func 58) #[] #[.pointer (some ⟨w.heap.size + 1 + 1 + 1 + 1, 0, none⟩), .pointer (some ⟨w.heap.size + 1 + 1 + 1 + 1 + 1, 0, none⟩)], .slice (some ⟨b, off, none⟩) (chL n 64 x.1) (cb - 64 * x.1), .int .i64 (pre.length : Nat), .int .i64 ((pre.length : Nat) + 1), .slice a 8 cap, .int .i64 (c : Nat), .int .i64 ((pre.length : Nat) + 1), .agg (kys .u8 64 (padB W c (pre.length + 1))), .slice (some ⟨b, off, none⟩) (chL n 64 x.1) (cb - 64 * x.1), .int .i64 (chL n 64 x.1 : Nat), .int .i64 (k : Nat), .bool true, .int .i64 (k : Nat), .pointer (some ⟨b, off + k, none⟩), .int .u8 (p : Nat), v', u30, .int .i64 (k : Nat), u32, u33, u34, u35, u36, u37, undef], defers := [] } := by
          refine (hG1 _ _ _ _).2 ?_
          refine wpAnyIn_ready (rs := [1, 3]) (by kernel_rfl) (by simp) ?_
          refine AllReadyIn.cons rfl (fun K hK => ?_) ?_
          · go_simp
            exact hK _ _ ((hG1 _ _ _ _).1 gabc)
          refine AllReadyIn.cons rfl (fun K hK => ?_) ?_
          · go_simp
            exact hK _ _ ((hG1 _ _ _ _).1 gacd)
          exact AllReadyIn.nil
        have gbc : G1 (wr.drew) 7 #[false, true, true, false, false, false, false, false, false] { tmps := #[.slice a 8 cap, .int .i64 (c : Nat), .slice bo n cb, .pointer (some ⟨w.heap.size, 0, none⟩), .pointer (some ⟨w.heap.size + 1, 0, none⟩), undef, .slice none 0 0, .pointer (some ⟨w.heap.size + 1 + 1, 0, none⟩), .pointer (some ⟨w.heap.size + 1 + 1 + 1, 0, none⟩), .slice (some ⟨b, off, none⟩) (chL n 64 x.1) (cb - 64 * x.1), .pointer (some ⟨X2.heap.size, 0, none⟩), .int .i64 (k : Nat), .int .u8 (p : Nat), .slice bo n cb, .func (.func 58) #[] #[.pointer (some ⟨w.heap.size + 1 + 1 + 1 + 1, 0, none⟩), .pointer (some ⟨w.heap.size + 1 + 1 + 1 + 1 + 1, 0, none⟩)], .slice (some ⟨b, off, none⟩) (chL n 64 x.1) (cb - 64 * x.1), .int .i64 (pre.length : Nat), .int .i64 ((pre.length : Nat) + 1), .slice a 8 cap, .int .i64 (c : Nat), .int .i64 ((pre.length : Nat) + 1), .agg (kys .u8 64 (padB W c (pre.length + 1))), .slice (some ⟨b, off, none⟩) (chL n 64 x.1) (cb - 64 * x.1), .int .i64 (chL n 64 x.1 : Nat), .int .i64 (k : Nat), .bool true, .int .i64 (k : Nat), .pointer (some ⟨b, off + k, none⟩), .int .u8 (p : Nat), u29, .int .u8 (p : Nat), .int .i64 (k : Nat), u32, u33, u34, u35, u36, u37, undef], defers := [] } := by
          refine (hG1 _ _ _ _).2 ?_
          refine wpAnyIn_ready (rs := [0, 3]) (by kernel_rfl) (by simp) ?_
          refine AllReadyIn.cons rfl (fun K hK => ?_) ?_
          · go_simp
            exact hK _ _ ((hG1 _ _ _ _).1 gabc)
          refine AllReadyIn.cons rfl (fun K hK => ?_) ?_
          · go_simp
            exact hK _ _ ((hG1 _ _ _ _).1 gbcd)
          exact AllReadyIn.nil
        have gcd : G1 (wr.drew) 7 #[false, false, true, true, false, false, false, false, false] { tmps := #[.slice a 8 cap, .int .i64 (c : Nat), .slice bo n cb, .pointer (some ⟨w.heap.size, 0, none⟩), .pointer (some ⟨w.heap.size + 1, 0, none⟩), undef, .slice none 0 0, .pointer (some ⟨w.heap.size + 1 + 1, 0, none⟩), .pointer (some ⟨w.heap.size + 1 + 1 + 1, 0, none⟩), .slice (some ⟨b, off, none⟩) (chL n 64 x.1) (cb - 64 * x.1), .pointer (some ⟨X2.heap.size, 0, none⟩), .int .i64 (k : Nat), .int .u8 (p : Nat), .slice bo n cb, .func (.func 58) #[] #[.pointer (some ⟨w.heap.size + 1 + 1 + 1 + 1, 0, none⟩), .pointer (some ⟨w.heap.size + 1 + 1 + 1 + 1 + 1, 0, none⟩)], .slice (some ⟨b, off, none⟩) (chL n 64 x.1) (cb - 64 * x.1), .int .i64 (pre.length : Nat), .int .i64 ((pre.length : Nat) + 1), .slice a 8 cap, .int .i64 (c : Nat), .int .i64 ((pre.length : Nat) + 1), .agg (kys .u8 64 (padB W c (pre.length + 1))), .slice (some ⟨b, off, none⟩) (chL n 64 x.1) (cb - 64 * x.1), .int .i64 (chL n 64 x.1 : Nat), .int .i64 (k : Nat), .bool true, .int .i64 (k : Nat), .pointer (some ⟨b, off + k, none⟩), .int .u8 (p : Nat), u29, u30, .int .i64 (k : Nat), .pointer (some ⟨X2.heap.size, k, none⟩), u33, u34, u35, u36, u37, undef], defers := [] } := by
          refine (hG1 _ _ _ _).2 ?_
          refine wpAnyIn_ready (rs := [0, 1, 4]) (by kernel_rfl) (by simp) ?_
          refine AllReadyIn.cons rfl (fun K hK => ?_) ?_
          · go_simp
            exact hK _ _ ((hG1 _ _ _ _).1 gacd)
          refine AllReadyIn.cons rfl (fun K hK => ?_) ?_
          · go_simp
            exact hK _ _ ((hG1 _ _ _ _).1 gbcd)
          refine AllReadyIn.cons rfl (fun K hK => ?_) ?_
          · go_simp
            exact hK _ _ ((hG1 _ _ _ _).1 gcde)
          exact AllReadyIn.nil
        have ga : G1 (wr.drew) 8 #[true, false, false, false, false, false, false, false, false] { tmps := #[.slice a 8 cap, .int .i64 (c : Nat), .slice bo n cb, .pointer (some ⟨w.heap.size, 0, none⟩), .pointer (some ⟨w.heap.size + 1, 0, none⟩), undef, .slice none 0 0, .pointer (some ⟨w.heap.size + 1 + 1, 0, none⟩), .pointer (some ⟨w.heap.size + 1 + 1 + 1, 0, none⟩), .slice (some ⟨b, off, none⟩) (chL n 64 x.1) (cb - 64 * x.1), .pointer (some ⟨X2.heap.size, 0, none⟩), .int .i64 (k : Nat), .int .u8 (p : Nat), .slice bo n cb, .func (.func 58) #[] #[.pointer (some ⟨w.heap.size + 1 + 1 + 1 + 1, 0, none⟩), .pointer (some ⟨w.heap.size + 1 + 1 + 1 + 1 + 1, 0, none⟩)], .slice (some ⟨b, off, none⟩) (chL n 64 x.1) (cb - 64 * x.1), .int .i64 (pre.length : Nat), .int .i64 ((pre.length : Nat) + 1), .slice a 8 cap, .int .i64 (c : Nat), .int .i64 ((pre.length : Nat) + 1), .agg (kys .u8 64 (padB W c (pre.length + 1))), .slice (some ⟨b, off, none⟩) (chL n 64 x.1) (cb - 64 * x.1), .int .i64 (chL n 64 x.1 : Nat), .int .i64 (k : Nat), .bool true, .int .i64 (k : Nat), .pointer (some ⟨b, off + k, none⟩), .int .u8 (p : Nat), v', u30, u31, u32, u33, u34, u35, u36, u37, undef], defers := [] } := by
          refine (hG1 _ _ _ _).2 ?_
          refine wpAnyIn_ready (rs := [1, 2]) (by kernel_rfl) (by simp) ?_
          refine AllReadyIn.cons rfl (fun K hK => ?_) ?_
          · go_simp
            exact hK _ _ ((hG1 _ _ _ _).1 gab)
          refine AllReadyIn.cons rfl (fun K hK => ?_) ?_
          · go_simp
            exact hK _ _ ((hG1 _ _ _ _).1 gac)
          exact AllReadyIn.nil
        have gb : G1 (wr.drew) 8 #[false, true, false, false, false, false, false, false, false] { tmps := #[.slice a 8 cap, .int .i64 (c : Nat), .slice bo n cb, .pointer (some ⟨w.heap.size, 0, none⟩), .pointer (some ⟨w.heap.size + 1, 0, none⟩), undef, .slice none 0 0, .pointer (some ⟨w.heap.size + 1 + 1, 0, none⟩), .pointer (some ⟨w.heap.size + 1 + 1 + 1, 0, none⟩), .slice (some ⟨b, off, none⟩) (chL n 64 x.1) (cb - 64 * x.1), .pointer (some ⟨X2.heap.size, 0, none⟩), .int .i64 (k : Nat), .int .u8 (p : Nat), .slice bo n cb, .func (.func 58) #[] #[.pointer (some ⟨w.heap.size + 1 + 1 + 1 + 1, 0, none⟩), .pointer (some ⟨w.heap.size + 1 + 1 + 1 + 1 + 1, 0, none⟩)], .slice (some ⟨b, off, none⟩) (chL n 64 x.1) (cb - 64 * x.1), .int .i64 (pre.length : Nat), .int .i64 ((pre.length : Nat) + 1), .slice a 8 cap, .int .i64 (c : Nat), .int .i64 ((pre.length : Nat) + 1), .agg (kys .u8 64 (padB W c (pre.length + 1))), .slice (some ⟨b, off, none⟩) (chL n 64 x.1) (cb - 64 * x.1), .int .i64 (chL n 64 x.1 : Nat), .int .i64 (k : Nat), .bool true, .int .i64 (k : Nat), .pointer (some ⟨b, off + k, none⟩), .int .u8 (p : Nat), u29, .int .u8 (p : Nat), u31, u32, u33, u34, u35, u36, u37, undef], defers := [] } := by
          refine (hG1 _ _ _ _).2 ?_
          refine wpAnyIn_ready (rs := [0, 2]) (by kernel_rfl) (by simp) ?_
          refine AllReadyIn.cons rfl (fun K hK => ?_) ?_
          · go_simp
            exact hK _ _ ((hG1 _ _ _ _).1 gab)
          refine AllReadyIn.cons rfl (fun K hK => ?_) ?_
          · go_simp
            exact hK _ _ ((hG1 _ _ _ _).1 gbc)
          exact AllReadyIn.nil
        have gc : G1 (wr.drew) 8 #[false, false, true, false, false, false, false, false, false] { tmps := #[.slice a 8 cap, .int .i64 (c : Nat), .slice bo n cb, .pointer (some ⟨w.heap.size, 0, none⟩), .pointer (some ⟨w.heap.size + 1, 0, none⟩), undef, .slice none 0 0, .pointer (some ⟨w.heap.size + 1 + 1, 0, none⟩), .pointer (some ⟨w.heap.size + 1 + 1 + 1, 0, none⟩), .slice (some ⟨b, off, none⟩) (chL n 64 x.1) (cb - 64 * x.1), .pointer (some ⟨X2.heap.size, 0, none⟩), .int .i64 (k : Nat), .int .u8 (p : Nat), .slice bo n cb, .func (.func 58) #[] #[.pointer (some ⟨w.heap.size + 1 + 1 + 1 + 1, 0, none⟩), .pointer (some ⟨w.heap.size + 1 + 1 + 1 + 1 + 1, 0, none⟩)], .slice (some ⟨b, off, none⟩) (chL n 64 x.1) (cb - 64 * x.1), .int .i64 (pre.length : Nat), .int .i64 ((pre.length : Nat) + 1), .slice a 8 cap, .int .i64 (c : Nat), .int .i64 ((pre.length : Nat) + 1), .agg (kys .u8 64 (padB W c (pre.length + 1))), .slice (some ⟨b, off, none⟩) (chL n 64 x.1) (cb - 64 * x.1), .int .i64 (chL n 64 x.1 : Nat), .int .i64 (k : Nat), .bool true, .int .i64 (k : Nat), .pointer (some ⟨b, off + k, none⟩), .int .u8 (p : Nat), u29, u30, .int .i64 (k : Nat), u32, u33, u34, u35, u36, u37, undef], defers := [] } := by
          refine (hG1 _ _ _ _).2 ?_
          refine wpAnyIn_ready (rs := [0, 1, 3]) (by kernel_rfl) (by simp) ?_
          refine AllReadyIn.cons rfl (fun K hK => ?_) ?_
          · go_simp
            exact hK _ _ ((hG1 _ _ _ _).1 gac)
          refine AllReadyIn.cons rfl (fun K hK => ?_) ?_
          · go_simp
            exact hK _ _ ((hG1 _ _ _ _).1 gbc)
          refine AllReadyIn.cons rfl (fun K hK => ?_) ?_
          · go_simp
            exact hK _ _ ((hG1 _ _ _ _).1 gcd)
          exact AllReadyIn.nil
        have gnil : G1 (wr.drew) 9 #[false, false, false, false, false, false, false, false, false] { tmps := #[.slice a 8 cap, .int .i64 (c : Nat), .slice bo n cb, .pointer (some ⟨w.heap.size, 0, none⟩), .pointer (some ⟨w.heap.size + 1, 0, none⟩), undef, .slice none 0 0, .pointer (some ⟨w.heap.size + 1 + 1, 0, none⟩), .pointer (some ⟨w.heap.size + 1 + 1 + 1, 0, none⟩), .slice (some ⟨b, off, none⟩) (chL n 64 x.1) (cb - 64 * x.1), .pointer (some ⟨X2.heap.size, 0, none⟩), .int .i64 (k : Nat), .int .u8 (p : Nat), .slice bo n cb, .func (.func 58) #[] #[.pointer (some ⟨w.heap.size + 1 + 1 + 1 + 1, 0, none⟩), .pointer (some ⟨w.heap.size + 1 + 1 + 1 + 1 + 1, 0, none⟩)], .slice (some ⟨b, off, none⟩) (chL n 64 x.1) (cb - 64 * x.1), .int .i64 (pre.length : Nat), .int .i64 ((pre.length : Nat) + 1), .slice a 8 cap, .int .i64 (c : Nat), .int .i64 ((pre.length : Nat) + 1), .agg (kys .u8 64 (padB W c (pre.length + 1))), .slice (some ⟨b, off, none⟩) (chL n 64 x.1) (cb - 64 * x.1), .int .i64 (chL n 64 x.1 : Nat), .int .i64 (k : Nat), .bool true, .int .i64 (k : Nat), .pointer (some ⟨b, off + k, none⟩), .int .u8 (p : Nat), u29, u30, u31, u32, u33, u34, u35, u36, u37, undef], defers := [] } := by
          refine (hG1 _ _ _ _).2 ?_
          refine wpAnyIn_ready (rs := [0, 1, 2]) (by kernel_rfl) (by simp) ?_
          refine AllReadyIn.cons rfl (fun K hK => ?_) ?_
          · go_simp
            exact hK _ _ ((hG1 _ _ _ _).1 ga)
          refine AllReadyIn.cons rfl (fun K hK => ?_) ?_
          · go_simp
            exact hK _ _ ((hG1 _ _ _ _).1 gb)
          refine AllReadyIn.cons rfl (fun K hK => ?_) ?_
          · go_simp
            exact hK _ _ ((hG1 _ _ _ _).1 gc)
          exact AllReadyIn.nil
        exact gnil
      · have hki : ¬ (k : Int) < (chL n 64 x.1 : Nat) := by omega
        gi_wp2_with fail
        have ek : k = chL n 64 x.1 := by omega
        have eL : (hdP W c B ((pre ++ [x]).map (·.1))).1 = L0 ++ hdJ W c B x.1 (pre.length + 1) k := by
          rw [List.map_append, List.map_cons, List.map_nil, hdP_snoc, hdP_two, List.length_map, ek, ← HLn.out, hdJ_all, HL0.out]
        have eN : ((pre ++ [x]).length : Nat) = pre.length + 1 := by simp
        refine ⟨hdk.oth.from _, ?_, ⟨v', bO', ?_⟩, ?_, hdk.ba, hdk.bc, hdk.bl, hdk.b6, hdk.low⟩
        · rintro j (hj | rfl | rfl)
          · exact (hdk.low.block j hj).trans (hB.block j hj).symm
          · exact Eq.trans hdk.bl bL.symm
          · exact Eq.trans hdk.b6 b64.symm
        · rw [eL]
          have hl := hrow'.1
          rw [bys_length] at hl
          rw [show (L0 ++ hdJ W c B x.1 (pre.length + 1) k).length = L0.length + k by omega]
          exact hrow'
        · rw [eN]
          exact hdk.ix
  case done =>
    rintro D ys X hD hys ⟨⟨v, bO, hrow⟩, bI, bA, bC, bL, b64, hB⟩ hK
    have HC : Hid ((hdP W c B (List.range m)).1 = cvL W c B) := hdP_all W c B m (by rw [HLn.out]; exact hm1)
    have hBy := hb.byte
    rw [hys, HC.out] at hrow
    have hlen : (cvL W c B).length = n := by rw [cvL_len]; exact HLn.out
    rw [hlen] at hrow
    have hv : ∃ av cv, v = .slice av n cv := by
      rcases hrow.2 with ⟨rfl, h0⟩ | ⟨g, cap', cur, rfl, _⟩
      · exact ⟨none, 0, by rw [h0]⟩
      · exact ⟨_, _, rfl⟩
    obtain ⟨av, cv, rfl⟩ := hv
    have cO := bO.cell
    gi_wp2
    refine ⟨by simp, .inl ⟨_, _, rfl, run_takeDeferred hK, ?_⟩⟩
    refine ⟨_, results_tmp Tryd.results29 _ _ _, av, cv, rfl, ?_, ?_⟩
    · have h2 := ownsRow_putObj hrow (.deferred none) hK rfl
      refine ⟨own_base h2, cvL_isB W c hBy, fun g h => ?_⟩
      rcases h2.2 with ⟨h3, _⟩ | ⟨g', cap', cur, h3, hge, _⟩
      · rw [h3] at h; cases h
      · rw [h3] at h
        have e : g' = g := Option.some.inj h
        omega
    · exact grown_of_below (hB.trans (belowK_b (w := w) (Nat.le_refl _) _ D _ _ (by omega) hK rfl rfl))
  case stop =>
    rintro D c' pre X hD hpre hF hK
    exact hF.elim
/-- what hide answers -/
theorem hide_any : HideOk := fun a bo cap c n cb S W B w hL hp hW hc hb hn => callsIn_wide.1 (hide_in a bo cap c n cb S W B w hL hp hW hc hb hn)
end Go.Proofs.YtaigcjhachkmmaaDoor
