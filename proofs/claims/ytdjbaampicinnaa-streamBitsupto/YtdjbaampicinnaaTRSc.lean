import Derived.Test.YtdjbaampicinnaaTRef
import Derived.Deep.RegionLawGrows
namespace Go.Proofs.Ytdjbaampicinnaa
open Go.RowKit
set_option maxRecDepth 100000
set_option linter.unusedVariables false
set_option linter.unusedSimpArgs false

theorem step_append_fits {P : Program} {ops : Array Oper} {o : Oper} {a : Act} {w : World} {K : Act → World → Prop} {Q : Exit → Act → World → Prop} {E : Prop}
    (hg : o.guard = none) (s x : Operand) (t : TypeId) (hop : o.op = Op.call { callee := Callee.builtin Builtin.append, args := #[s, x], argTypes := #[t, t] })
    (base : Nat) (e : TypeId) (i : TypeInfo) (size : Nat) (h1 : P.underlying t = some (.slice e)) (h2 : P.info? e = some i) (h4 : i.size = size)
    (g k cap : Nat) (xs : List Value) (hs : a.eval s = .slice (some ⟨g, 0, none⟩) k cap) (hown : w.ownsRow base e size (.slice (some ⟨g, 0, none⟩) k cap) k xs) (ad : Addr) (m c : Nat) (news : List Value) (hx : a.eval x = .slice (some ad) m c) (hn : news.length = m * size)
    (hc : ∀ j u, news[j]? = some u → w.cell? (ad.add j) = some u) (h1c : ∀ u ∈ news, u.oneCell' = true) (b1 : k + m ≤ cap)
    (hK : ∀ w', w'.ownsRow base e size (.slice (some ⟨g, 0, none⟩) (k + m) cap) (k + m) (xs ++ news) → w.grownBy w' (some g) → K (a.put o.dst (.slice (some ⟨g, 0, none⟩) (k + m) cap)) w') :
    if Region.wanted o (yielded ops a.tmps) = true then Oper.wp P o a w K Q else E := by
  have hw : Region.wanted o (yielded ops a.tmps) = true := by simp [Region.wanted, hg]
  rw [if_pos hw]
  obtain ⟨w', hrun, r1, r2⟩ := run_append_fits (P := P) w base t o.type e i size h1 h2 h4 g k cap xs hown ad m c news hn hc h1c b1
  unfold Oper.wp
  simp [execOp, hop, resolve, invoke, builtin, hs, hx, hrun, Result.andThen]
  exact hK w' r1 r2
/-- 'append(v, x...)', v the call's own, x not empty, in a region that draws -/
theorem step_apB (w : World) {ops : Array Oper} {o : Oper} {a : Act} {K : Act → World → Prop} {Q : Exit → Act → World → Prop} {E : Prop} (hg : o.guard = none) (s x : Operand)
    (hop : o.op = Op.call { callee := .builtin .append, args := #[s, x], argTypes := #[22, 22] }) (v : Value) (n : Nat) (xs : List Value) (hs : a.eval s = v)
    (hown : w.ownsRow 0 5 1 v n xs) (ad : Addr) (m c : Nat) (news : List Value) (hx : a.eval x = .slice (some ad) m c) (hn : news.length = m)
    (hc : ∀ j u, news[j]? = some u → w.cell? (ad.add j) = some u) (h1 : ∀ u, u ∈ news → u.oneCell' = true) (hm : 0 < m) (hb : n + m ≤ 140737488355328)
    (hK : ∀ g cap w', (v.ownBlock = some g ∨ w.heap.size ≤ g) → w.grownBy w' v.ownBlock → w'.ownsRow 0 5 1 (.slice (some ⟨g, 0, none⟩) (n + m) cap) (n + m) (xs ++ news) → (∀ g0, v.ownBlock = some g0 → ∀ j u, xs[j]? = some u → w'.cell? ⟨g0, j, none⟩ = some u) →
      K (a.put o.dst (.slice (some ⟨g, 0, none⟩) (n + m) cap)) w') :
    if Region.wanted o (yielded ops a.tmps) = true then Oper.wp Try.prog o a w K Q else E := by
  obtain ⟨i0, hi, hz0, hz1, hz2⟩ := info_parts Try.info_u8
  have grow : ∀ (ao : Option Addr) (cap : Nat), v = .slice ao n cap → (ao = none → n = 0 ∧ cap = 0) → (∀ b, ao = some b → ∀ j u, xs[j]? = some u → w.cell? (b.add j) = some u) → (∀ b, ao = some b → b = ⟨b.block, 0, none⟩) → cap < n + m → if Region.wanted o (yielded ops a.tmps) = true then Oper.wp Try.prog o a w K Q else E := by
    intro ao cap hv hnone hcells hfirst hfull
    refine step_append_grows hg s x 22 hop 5 i0 (.int .u8 0) 1 1 Try.underlying22 hi hz0 hz1 hz2 rfl (by decide) ao n cap xs (by rw [hs, hv]) hnone (by rw [hown.1]) hcells ad m c news hx (by rw [hn, Nat.mul_one]) hc h1 hfull (by unfold maxLen; omega) (by omega) ?_
    intro v' w' hown' hgr
    rcases hown'.2 with ⟨_, h0⟩ | ⟨g, cap', cur, rfl, hge, hrest⟩
    · omega
    · refine hK g cap' w' (.inr hge) (grown_weak hgr _) (own_base hown') (fun g0 hg0 j u hu => ?_)
      subst hv
      cases ao with
      | none => simp [Value.ownBlock] at hg0
      | some b =>
        have hb0 : b.block = g0 := by simpa [Value.ownBlock] using hg0
        have hc0 := hcells b rfl j u hu
        have hz := hfirst b rfl
        rw [hb0] at hz
        rw [hz, addr_add, Nat.zero_add] at hc0
        exact (World.cell?_of_block (w := w) (hgr.block _ (World.block_lt_of_cell? w _ hc0) (by simp))).trans hc0
  rcases hown.2 with ⟨rfl, h0⟩ | ⟨g, cap, cur, rfl, hbase, hh, hle, hmax, hsz, htake⟩
  · subst h0
    exact grow none 0 rfl (fun _ => ⟨rfl, rfl⟩) (fun b hb => by cases hb) (fun b hb => by cases hb) (by omega)
  · by_cases hroom : n + m ≤ cap
    · refine step_append_fits hg s x 22 hop 0 5 i0 1 Try.underlying22 hi hz1 g n cap xs hs hown ad m c news hx (by rw [hn, Nat.mul_one]) hc h1 hroom ?_
      intro w' hown' hgr
      refine hK g cap w' (.inl rfl) hgr hown' (fun g0 hg0 j u hu => ?_)
      have e : g = g0 := Option.some.inj hg0
      subst e
      have hj : j < xs.length := (List.getElem?_eq_some_iff.1 hu).1
      have h2 := hown'.cells (g := g) rfl j u (by rw [List.getElem?_append_left hj]; exact hu)
      rw [addr_add, Nat.zero_add] at h2
      exact h2
    · refine grow (some ⟨g, 0, none⟩) cap rfl (fun h => by cases h) ?_ (fun b hb => by cases hb; rfl) (by omega)
      intro b hb j u hu
      cases hb
      exact hown.cells (g := g) rfl j u hu
/-- 'out = append(out, v)' in a region that draws -/
theorem step_push2 (w0 w : World) {ops : Array Oper} {o : Oper} {a : Act} {K : Act → World → Prop} {Q : Exit → Act → World → Prop} {E : Prop} (hg : o.guard = none) (s x : Operand)
    (hop : o.op = Op.call { callee := .builtin .append, args := #[s, x], argTypes := #[22, 22] }) (ao : Option Addr) (m co v lo : Nat) (r : Option Nat) (D : List Nat) (hs : a.eval s = .slice ao m co)
    (hA : Ans w lo ao m co D) (hG : w0.grownBy w r) (hM : Mine w0 r ao m co) (hlo : lo ≤ w0.heap.size) (hv : v < 256) (hx : a.eval x = .slice (some ⟨w.heap.size, 0, none⟩) 1 1) (hb : m + 1 ≤ 140737488355328)
    (hK : ∀ gx cx w', Ans w' lo (some ⟨gx, 0, none⟩) (m + 1) cx (D ++ [v]) → w0.grownBy w' r → Mine w0 r (some ⟨gx, 0, none⟩) (m + 1) cx → (∀ g0, ao = some ⟨g0, 0, none⟩ → ∀ j, j < m → w'.cell? ⟨g0, j, none⟩ = some (.int .u8 (nth D j : Nat))) → K (a.put o.dst (.slice (some ⟨gx, 0, none⟩) (m + 1) cx)) w') :
    if Region.wanted o (yielded ops a.tmps) = true then Oper.wp Try.prog o a (w.alloc (.cells #[.int .u8 (v : Int)] 5)) K Q else E := by
  refine step_apB _ hg s x hop (.slice ao m co) m (bys D) hs (hA.own.alloc _) ⟨w.heap.size, 0, none⟩ 1 1 [.int .u8 (v : Int)] hx rfl (cell_one w _) (by simp [Value.oneCell']) (by decide) hb ?_
  intro gx cx w2 hgx hgr2 hown2 hold2
  rw [bys_add] at hown2
  have gA := grown_trans hG (World.grownBy_alloc w (.cells #[.int .u8 (v : Int)] 5) r)
  have hG2 := grown_mine gA hgr2 hM
  have hsz := gA.size
  refine hK gx cx w2 ⟨hown2, isB_append hA.byte (isB_single v hv), fun g h => ?_⟩ hG2 (fun g h => ?_) (fun g0 hg0 j hj => hold2 g0 (by rw [hg0]; rfl) j _ (nth_bys D j (by rw [hA.len]; exact hj)))
  · have e : gx = g := Option.some.inj h
    subst e
    rcases hgx with h | h
    · exact hA.new gx h
    · exact Nat.le_trans hlo (Nat.le_trans hsz h)
  · have e : gx = g := Option.some.inj h
    subst e
    rcases hgx with h | h
    · exact hM gx h
    · exact .inr (Nat.le_trans hsz h)
theorem sb_xor (j : Nat) (hj : 8 ≤ j) : ((sbN (j - 1) ^^^ sbN (j - 3)) ^^^ sbN (j - 5)) ^^^ sbN (j - 8) = sbN j := by
  rw [xor4 _ _ _ _ (sbN_lt _) (sbN_lt _) (sbN_lt _) (sbN_lt _)]
  obtain ⟨n, rfl⟩ : ∃ n, j = n + 8 := ⟨j - 8, by omega⟩
  rw [sb_next]
  rfl
/-- what of the row's byte k has been laid on behind i bits -/
def mskN (i k : Nat) : Nat := rowN k / 2 ^ (8 - min 8 (i - 8 * k)) * 2 ^ (8 - min 8 (i - 8 * k))
theorem mskN_zero (k : Nat) : mskN 0 k = 0 := by
  unfold mskN
  have := rowN_lt k
  rw [show 8 - min 8 (0 - 8 * k) = 8 from by omega, Nat.div_eq_of_lt this, Nat.zero_mul]
theorem mskN_all (n k : Nat) (h : k < n) : mskN (8 * n) k = rowN k := by
  unfold mskN
  rw [show 8 - min 8 (8 * n - 8 * k) = 0 from by omega, Nat.pow_zero, Nat.div_one, Nat.mul_one]
theorem mskN_other (k t k' : Nat) (ht : t < 8) (h : k' ≠ k) : mskN (8 * k + t + 1) k' = mskN (8 * k + t) k' := by
  unfold mskN
  rw [show 8 - min 8 (8 * k + t + 1 - 8 * k') = 8 - min 8 (8 * k + t - 8 * k') from by omega]
theorem msk_fact : ∀ x : Nat, x < 256 → ∀ t : Nat, t < 8 → (x / 2 ^ (8 - t) * 2 ^ (8 - t)) ^^^ (x / 2 ^ (7 - t) % 2 * 2 ^ (7 - t)) = x / 2 ^ (7 - t) * 2 ^ (7 - t) := by decide +kernel
theorem mskN_step (k t : Nat) (ht : t < 8) : mskN (8 * k + t) k ^^^ (sbN (8 * k + t) * 2 ^ (7 - t)) = mskN (8 * k + t + 1) k := by
  unfold mskN
  rw [show 8 - min 8 (8 * k + t - 8 * k) = 8 - t from by omega, show 8 - min 8 (8 * k + t + 1 - 8 * k) = 7 - t from by omega, ← row_bit k t ht]
  exact msk_fact (rowN k) (rowN_lt k) t ht
theorem mskN_lt (i k : Nat) : mskN i k < 256 := Nat.lt_of_le_of_lt (Nat.div_mul_le_self _ _) (rowN_lt k)
theorem shl_fact : ∀ x : Nat, x < 2 → ∀ p : Nat, p < 8 → IntKind.u8.wrap ((x : Int) * 2 ^ p) = ((x * 2 ^ p : Nat) : Int) := by decide +kernel
theorem shl_lt : ∀ x : Nat, x < 2 → ∀ p : Nat, p < 8 → x * 2 ^ p < 256 := by decide +kernel
theorem eight_ones (w : World) : Ans (w.alloc (.cells #[.int .u8 1, .int .u8 1, .int .u8 1, .int .u8 1, .int .u8 1, .int .u8 1, .int .u8 1, .int .u8 1] 5)) w.heap.size (some ⟨w.heap.size, 0, none⟩) 8 8 (tab 8 sbN) := by
  have e : tab 8 sbN = [1, 1, 1, 1, 1, 1, 1, 1] := by decide +kernel
  rw [e]
  have hB : Blk (w.alloc (.cells #[.int .u8 1, .int .u8 1, .int .u8 1, .int .u8 1, .int .u8 1, .int .u8 1, .int .u8 1, .int .u8 1] 5)) w.heap.size [1, 1, 1, 1, 1, 1, 1, 1] := heap_alloc_new w _
  have h := hB.ans (n := 8) (lo := w.heap.size) (by intro x hx; simp at hx; omega) (by decide) (by decide) (Nat.le_refl _)
  exact h
set_option maxHeartbeats 4000000 in
theorem rscramble_any (a : Option Addr) (n cap : Nat) (L : List Nat) (w : World) (hp : Rd w a n cap L) (hn : n ≤ 17592186044416) :
    Calls Try.prog 10 #[.slice a n cap] w fun e w' => ∃ a' c', e = .returned (.slice a' n c') ∧ Ans w' w.heap.size a' n c' (scrL L) ∧ w.grownBy w' none := by
  have HL : Hid (L.length = n) := hp.len
  have h8 := eight_ones w
  have g8 := World.grownBy_alloc w (.cells #[.int .u8 1, .int .u8 1, .int .u8 1, .int .u8 1, .int .u8 1, .int .u8 1, .int .u8 1, .int .u8 1] 5) none
  go_enter Try.func10, Try.ntmps10
  go_wp2
  go_loopw [3, 4] (fun o i wr => ∃ (j : Nat) (a' : Option Addr) (c' : Nat), 8 ≤ j ∧ (j ≤ 8 * n ∨ j = 8) ∧ i = .int .i64 (j : Nat) ∧ o = .slice a' j c' ∧ w.grownBy wr none ∧ Ans wr w.heap.size a' j c' (tab j sbN)) (fun _ i _ => 8 * n - (intOf i).toNat)
  case atStart => exact ⟨8, _, 8, by omega, .inr rfl, rfl, rfl, g8, h8⟩
  case round =>
    obtain ⟨j, a1, c1, hj8, hj, rfl, rfl, hgr1, hA1⟩ := hrel
    by_cases hjl : j < 8 * n
    · clear hj
      obtain ⟨g1, rfl⟩ : ∃ g, a1 = some ⟨g, 0, none⟩ := (hA1.cases).elim (fun h => absurd h.2.1 (by omega)) (fun h => h.elim fun g hg => ⟨g, hg.1⟩)
      have ce : ∀ m, m < j → wr.cell? ⟨g1, m, none⟩ = some (.int .u8 (sbN m : Nat)) := fun m h1 => by
        rw [← tab_nth j sbN m h1]; exact own_cell hA1.own m h1
      have cw : ∀ d m : Nat, d ≤ 8 → m = j - d → IntKind.i64.wrap ((j : Int) - (d : Int)) = (m : Int) := fun d m h1 h2 => by rw [wrap_i64_in _ (by omega) (by omega)]; omega
      obtain ⟨m1, e1⟩ : ∃ m, m = j - 1 := ⟨_, rfl⟩
      obtain ⟨m3, e3⟩ : ∃ m, m = j - 3 := ⟨_, rfl⟩
      obtain ⟨m5, e5⟩ : ∃ m, m = j - 5 := ⟨_, rfl⟩
      obtain ⟨m8, e8⟩ : ∃ m, m = j - 8 := ⟨_, rfl⟩
      have w1' : IntKind.i64.wrap ((j : Int) - 1) = (m1 : Int) := cw 1 m1 (by decide) e1
      have w3' : IntKind.i64.wrap ((j : Int) - 3) = (m3 : Int) := cw 3 m3 (by decide) e3
      have w5' : IntKind.i64.wrap ((j : Int) - 5) = (m5 : Int) := cw 5 m5 (by decide) e5
      have w8' : IntKind.i64.wrap ((j : Int) - 8) = (m8 : Int) := cw 8 m8 (by decide) e8
      have i1 : m1 < j := by omega
      have i3 : m3 < j := by omega
      have i5 : m5 < j := by omega
      have i8 : m8 < j := by omega
      have c1' := ce m1 i1
      have c3' := ce m3 i3
      have c5' := ce m5 i5
      have c8' := ce m8 i8
      have l1 := sbN_lt m1
      have l3 := sbN_lt m3
      have l5 := sbN_lt m5
      have l8 := sbN_lt m8
      have x1 := u8_xor_nat (sbN m1) (sbN m3) (by omega) (by omega)
      have y1 : sbN m1 ^^^ sbN m3 < 256 := Fld.xor_lt (by omega) (by omega)
      have x2 := u8_xor_nat (sbN m1 ^^^ sbN m3) (sbN m5) y1 (by omega)
      have y2 : (sbN m1 ^^^ sbN m3) ^^^ sbN m5 < 256 := Fld.xor_lt y1 (by omega)
      have x3 := u8_xor_nat ((sbN m1 ^^^ sbN m3) ^^^ sbN m5) (sbN m8) y2 (by omega)
      have e := sb_xor j hj8
      rw [← e1, ← e3, ← e5, ← e8] at e
      rw [e] at x3
      clear e e1 e3 e5 e8
      have hvl : sbN j < 256 := by have := sbN_lt j; omega
      have hAd : Ans wr.drew w.heap.size (some ⟨g1, 0, none⟩) j c1 (tab j sbN) := hA1.keep (grown_drew _ _)
      have hGd := grown_trans hgr1 (grown_drew wr none)
      have hsj : Hid (tab (j + 1) sbN = tab j sbN ++ [sbN j]) := tab_succ _ _
      have hjz : (8 : Int) ≤ (j : Int) := by omega
      clear ce cw
      go_wp2
      go_region_held3 (fun w' => w'.cell? ⟨g1, m1, none⟩ = some (.int .u8 (sbN m1 : Nat)) ∧ w'.cell? ⟨g1, m3, none⟩ = some (.int .u8 (sbN m3 : Nat)) ∧ w'.cell? ⟨g1, m5, none⟩ = some (.int .u8 (sbN m5 : Nat)) ∧ w'.cell? ⟨g1, m8, none⟩ = some (.int .u8 (sbN m8 : Nat))) (go_keep) (first
        | (refine step_push2 w wr.drew rfl (.tmp 15) (.tmp 39) rfl (some ⟨g1, 0, none⟩) j c1 (sbN j) w.heap.size none _ rfl hAd hGd (fun g hg => .inr (hA1.new g hg)) (Nat.le_refl _) hvl rfl (by omega) ?_; intro gx cx w2 hA2 hG2 hM2 hO2; have o1 := hO2 g1 rfl m1 i1; have o3 := hO2 g1 rfl m3 i3; have o5 := hO2 g1 rfl m5 i5; have o8 := hO2 g1 rfl m8 i8; rw [tab_nth j sbN _ i1] at o1; rw [tab_nth j sbN _ i3] at o3; rw [tab_nth j sbN _ i5] at o5; rw [tab_nth j sbN _ i8] at o8; clear hO2))
      all_goals
        go_wp2
        go_roundw
        case rel => exact ⟨j + 1, _, cx, by omega, .inl (by omega), by go_num, rfl, hG2, by rw [hsj.out]; exact hA2⟩
        case measure => simp [intOf]; omega
    · have hjn : 8 * n ≤ j := by omega
      clear hj hj8
      have hp1 := hp.keep hgr1
      go_wp2_with (at_builtin; refine wpList_clB _ rfl _ _ rfl rfl a n cap L rfl hp1 (by omega) ?_; intro ar cr w2 hgr2 hans2)
      have hR2 := hA1.keep hgr2
      have hg12 := grown_trans hgr1 hgr2
      have HM0 : Hid (L = tab n (fun k => nth L k ^^^ mskN 0 k)) := by
        show _ = _
        refine list_ext (by rw [tab_len, HL.out]) fun k hk => ?_
        rw [HL.out] at hk
        rw [tab_nth _ _ _ hk, mskN_zero, Nat.xor_zero]
      rw [HM0.out] at hans2
      have hsz1 := hgr1.size
      have hlo2 : ∀ g, (Value.slice ar n cr).ownBlock = some g → wr.heap.size ≤ g := hans2.new
      have hA1n : ∀ g, (Value.slice a1 j c1).ownBlock = some g → g < wr.heap.size := fun g hg => by
        rcases hA1.cases with ⟨rfl, _, _⟩ | ⟨g', rfl, _, h⟩
        · simp [Value.ownBlock] at hg
        · have e : g' = g := Option.some.inj hg
          omega
      have hR2' := hR2
      clear hgr2 hA1 hp1
      go_loopw [6] (fun i wx => ∃ q : Nat, q ≤ 8 * n ∧ i = .int .i64 (q : Nat) ∧ w.grownBy wx none ∧ Ans wx w.heap.size ar n cr (tab n (fun k => nth L k ^^^ mskN q k)) ∧ Ans wx w.heap.size a1 j c1 (tab j sbN)) (fun i _ => 8 * n - (intOf i).toNat)
      case atStart => exact ⟨0, by omega, rfl, hg12, hans2.wide hsz1, hR2⟩
      case round =>
        obtain ⟨q, hq, rfl, hgq, hOq, hRq⟩ := hrel
        by_cases hqn : q < 8 * n
        · obtain ⟨k, t, hkq, ht⟩ : ∃ k t : Nat, q = 8 * k + t ∧ t < 8 := ⟨q / 8, q % 8, by omega, by omega⟩
          have hkn : k < n := by omega
          obtain ⟨p, hpj⟩ : ∃ p : Nat, p + t = 7 := ⟨7 - t, by omega⟩
          obtain ⟨go, rfl⟩ : ∃ g, ar = some ⟨g, 0, none⟩ := (hOq.cases).elim (fun h => absurd h.2.1 (by omega)) (fun h => h.elim fun g hg => ⟨g, hg.1⟩)
          obtain ⟨gr, rfl⟩ : ∃ g, a1 = some ⟨g, 0, none⟩ := (hRq.cases).elim (fun h => absurd h.2.1 (by omega)) (fun h => h.elim fun g hg => ⟨g, hg.1⟩)
          have hne : gr ≠ go := by
            have h1 := hlo2 go rfl
            have h2 := hA1n gr rfl
            omega
          have co := own_cell hOq.own k hkn
          rw [tab_nth _ _ _ hkn] at co
          have cr' := own_cell hRq.own q (by omega)
          rw [tab_nth _ _ _ (by omega : q < j)] at cr'
          have fo := hOq.own.frozenAt k
          have hd1 : (q : Int) / 8 = (k : Int) := by omega
          have hd2 : (q : Int).tdiv 8 = (k : Int) := by rw [Int.tdiv_eq_ediv_of_nonneg (by omega)]; omega
          have hm1 : (q : Int) % 8 = (t : Int) := by omega
          have hm2 : (q : Int).tmod 8 = (t : Int) := by rw [Int.tmod_eq_emod_of_nonneg (by omega)]; omega
          have hs2 : IntKind.i64.wrap ((7 : Int) - (t : Int)) = (p : Int) := by rw [wrap_i64_in _ (by omega) (by omega)]; omega
          have hs3 : IntKind.i64.wrap (k : Int) = (k : Int) := by rw [wrap_i64_in _ (by omega) (by omega)]
          have hqj : q < j := by omega
          have hp8 : p < 8 := by omega
          have hsb := sbN_lt q
          have hsh : IntKind.u8.wrap ((sbN q : Int) * 2 ^ p) = ((sbN q * 2 ^ p : Nat) : Int) := shl_fact (sbN q) hsb p hp8
          have hsl : sbN q * 2 ^ p < 256 := shl_lt (sbN q) hsb p hp8
          have hml : nth L k ^^^ mskN q k < 256 := Fld.xor_lt (hp.byte.nth k) (mskN_lt q k)
          have hx := u8_xor_nat _ _ hml hsl
          rw [Nat.xor_assoc, show mskN q k ^^^ sbN q * 2 ^ p = mskN (q + 1) k from by rw [hkq, show p = 7 - t from by omega]; exact mskN_step k t ht] at hx
          have hc2 : ((sbN q * 2 ^ p : Nat) : Int) = (sbN q : Int) * 2 ^ p := by rw [Int.natCast_mul, Int.natCast_pow]; rfl
          have hx2 := hx
          rw [hc2] at hx2
          clear hc2
          have hSt := hOq.set k (nth L k ^^^ mskN (q + 1) k) (Fld.xor_lt (hp.byte.nth k) (mskN_lt _ k))
          rw [tab_set n _ (fun k' => nth L k' ^^^ mskN (q + 1) k') k _ hkn rfl (fun k' _ hne' => by rw [hkq, mskN_other k t k' ht hne'])] at hSt
          have hRs := hRq.kept (grown_set wr go k (.int .u8 (nth L k ^^^ mskN (q + 1) k : Nat))) (.inr (by simp [Value.ownBlock, hne]))
          have hgo := hOq.new go rfl
          clear hkq hpj
          go_wp2
          go_region
          all_goals
            go_wp2
            go_roundw
            case rel => exact ⟨q + 1, by omega, by go_num, grown_far hgq (grown_trans (grown_set _ _ _ _) (grown_drew _ _)) (fun g hg => by cases hg; exact hgo), hSt.keep (grown_drew _ none), hRs.keep (grown_drew _ none)⟩
            case measure => simp [intOf]; omega
        · obtain rfl : q = 8 * n := by omega
          have HS : Hid (tab n (fun k => nth L k ^^^ mskN (8 * n) k) = scrL L) := by
            show _ = _
            unfold scrL
            rw [HL.out]
            exact tab_ext n _ _ (fun k hk => by rw [mskN_all n k hk])
          rw [HS.out] at hOq
          go_wp2
          go_ret
          exact ⟨ar, cr, rfl, hOq, hgq⟩
end Go.Proofs.Ytdjbaampicinnaa
