import Derived.Test.YtnjdbbjhplebhaaPs14
import Derived.Deep.CutBlock
import Derived.Lib.MinMax
import Derived.Test.YtnjdbbjhplebhaaPs1
namespace Go.Proofs.Ytnjdbbjhplebhaa
open Go.RowKit
set_option maxRecDepth 100000
set_option linter.unusedVariables false
set_option linter.unusedSimpArgs false

section
/-- numbers in a row of the call's own -/
structure OwI (w : World) (lo : Nat) (a : Option Addr) (n c : Nat) (G : Nat → Int) : Prop where
  own : w.ownsRow 0 3 1 (.slice a n c) n (inL G n)
  new : ∀ g, (Value.slice a 0 c).ownBlock = some g → lo ≤ g
theorem OwI.nil (w : World) (lo : Nat) (G : Nat → Int) : OwI w lo none 0 0 G := ⟨World.ownsRow_nil _ _ _ _, (fun g h => by cases h)⟩
theorem ownB (a : Option Addr) (n m c : Nat) : (Value.slice a n c).ownBlock = (Value.slice a m c).ownBlock := by cases a <;> rfl
theorem OwI.keep {w w' : World} {lo : Nat} {a : Option Addr} {n c : Nat} {G : Nat → Int} {r : Option Nat} (h : OwI w lo a n c G) (hg : w.grownBy w' r) (hr : ∀ g, (Value.slice a 0 c).ownBlock = some g → r ≠ some g) : OwI w' lo a n c G :=
  ⟨h.own.kept hg (by
    rw [ownB a n 0 c]
    cases e : (Value.slice a 0 c).ownBlock with
    | none => exact .inl rfl
    | some g => exact .inr (fun x => hr g e x.symm)), h.new⟩
theorem OwI.at' {w : World} {lo : Nat} {a : Option Addr} {n c i : Nat} {G : Nat → Int} (h : OwI w lo a n c G) (hi : i < n) : ∃ g, a = some ⟨g, 0, none⟩ ∧ g < w.heap.size ∧ lo ≤ g ∧ ∀ j, j < n → w.cell? ⟨g, j, none⟩ = some (.int .i64 (G j)) := by
  rcases h.own.2 with ⟨_, h2⟩ | ⟨g, cap, cur, h1, _, h3, h4, h5, h6, h7⟩
  · omega
  · simp only [Value.slice.injEq] at h1
    obtain ⟨rfl, _, rfl⟩ := h1
    refine ⟨g, rfl, (Array.getElem?_eq_some_iff.1 h3).1, h.new g rfl, fun j hj => ?_⟩
    have := h.own.cells (g := g) rfl j _ (inL_at G n j hj)
    rw [addr_add, Nat.zero_add] at this
    exact this
theorem OwI.set {w w' : World} {lo g : Nat} {n c i : Nat} {G : Nat → Int} {y : Int} (h : OwI w lo (some ⟨g, 0, none⟩) n c G) (hi : i < n) (hB : ∀ A, BxS w g 3 A → i < A.size → BxS w' g 3 (A.setIfInBounds i (.int .i64 y))) : OwI w' lo (some ⟨g, 0, none⟩) n c (atG G i y) := by
  rcases h.own.2 with ⟨h1, _⟩ | ⟨g', cap, cur, h1, _, h3, h4, h5, h6, h7⟩
  · cases h1
  · simp only [Value.slice.injEq, Option.some.injEq, Addr.mk.injEq, and_true] at h1
    obtain ⟨rfl, _, rfl⟩ := h1
    refine ⟨⟨by rw [inL_len, Nat.mul_one], .inr ⟨g, c, _, rfl, Nat.zero_le _, hB cur h3 (by omega), h4, h5, by rw [Array.size_setIfInBounds]; exact h6, ?_⟩⟩, h.new⟩
    rw [Array.toList_setIfInBounds, List.take_set, h7, inL_set G n i y hi]
theorem wpList_stOI {w : World} {ops : Array Oper} {rest : List Oper} {o : Oper} {ac : Act} {Q : Exit → Act → World → Prop} (hg : o.guard = none) (p x : Operand) (hop : o.op = Op.store 3 p x)
    (g lo n c i : Nat) (G : Nat → Int) (y : Int) (hp : ac.eval p = .pointer (some ⟨g, i, none⟩)) (hx : ac.eval x = .int .i64 y) (h : OwI w lo (some ⟨g, 0, none⟩) n c G) (hi : i < n)
    (hK : ∀ w', OwI w' lo (some ⟨g, 0, none⟩) n c (atG G i y) → w.grownBy w' (some g) → wpList Try.prog ops Q rest (ac.put o.dst undef) w') :
    wpList Try.prog ops Q (o :: rest) ac w := by
  rcases h.own.2 with ⟨h1, _⟩ | ⟨g', cap, cur, h1, _, h3, h4, h5, h6, h7⟩
  · cases h1
  · have h1' := h1
    simp only [Value.slice.injEq, Option.some.injEq, Addr.mk.injEq, and_true] at h1'
    obtain ⟨rfl, _, rfl⟩ := h1'
    have hb : BxS w g 3 cur := h3
    refine wpList_stC w hg 3 p x hop g i 3 cur _ (.int .i64 y) hp hx hb (stc_int _ _ _) (by omega) rfl (fun w' hb' hg' => hK w' (h.set hi (fun A hA _ => ?_)) hg')
    have : A = cur := by
      have e : w.heap[g]? = some (.cells A 3) := hA
      have e2 : w.heap[g]? = some (.cells cur 3) := hb
      rw [e] at e2
      simpa using e2
    rw [this]
    exact hb'
theorem wpList_psOI {w : World} {ops : Array Oper} {rest : List Oper} {o : Oper} {ac : Act} {Q : Exit → Act → World → Prop} (hg : o.guard = none) (s x : Operand)
    (hop : o.op = Op.call { callee := .builtin .append, args := #[s, x], argTypes := #[24, 24] }) (a : Option Addr) (n c lo : Nat) (G : Nat → Int) (hs : ac.eval s = .slice a n c)
    (hA : OwI w lo a n c G) (hlo : lo ≤ w.heap.size) (gA : Nat) (hx : ac.eval x = .slice (some ⟨gA, 0, none⟩) 1 1) (bA : BxS w gA 3 #[.int .i64 (G n)]) (hm : n ≤ 100000)
    (hK : ∀ a' c' w', OwI w' lo a' (n + 1) c' G → (∀ g, (Value.slice a' 0 c').ownBlock = some g → (Value.slice a 0 c).ownBlock = some g ∨ w.heap.size ≤ g) → w.grownBy w' (Value.slice a 0 c).ownBlock → wpList Try.prog ops Q rest (ac.put o.dst (.slice a' (n + 1) c')) w') :
    wpList Try.prog ops Q (o :: rest) ac w := by
  obtain ⟨i0, hi, hz0, hz1, hz2⟩ := info_parts Try.elI.inf
  refine wpList_apS w hg s x 24 3 i0 _ 1 8 Try.elI.und hi hz0 hz1 hz2 rfl (by decide) hop (.slice a n c) n (inL G n) hs hA.own ⟨gA, 0, none⟩ 1 1 [.int .i64 (G n)] hx rfl ?_ (by intro u hu; simp at hu; rw [hu]; rfl) (by decide) (by unfold maxLen; omega) (by omega) ?_
  · intro j u hu
    rw [addr_add, cell_of_row _ _ _ _ _ _ bA, Nat.zero_add]
    cases j with
    | zero => exact hu
    | succ j => cases hu
  · intro gx cx w8 hor u8 hO8
    rw [ownB a n 0 c] at u8 hor
    refine hK (some ⟨gx, 0, none⟩) cx w8 ⟨?_, fun g h => ?_⟩ (fun g h => ?_) u8
    · have e : inL G (n + 1) = inL G n ++ [.int .i64 (G n)] := by simp [inL, List.range_succ]
      rw [e]
      exact hO8
    · have e : gx = g := Option.some.inj h
      subst e
      rcases hor with h | h
      · exact hA.new gx h
      · omega
    · have e : gx = g := Option.some.inj h
      subst e
      exact hor
theorem sendJ_none {J : Nat → Jb} {n t R : Nat} {L : Nat → Nat} {G : Nat → Int} (h : nxt J t L n = none) : sendJ J n t R R L G = (L, G) := by
  cases R with
  | zero => rfl
  | succ R => unfold sendJ; rw [if_neg (by omega), h]
theorem sendJ_some {J : Nat → Jb} {n t R k : Nat} {L : Nat → Nat} {G : Nat → Int} (h : nxt J t L n = some k) (hR : 0 < R) (hk : 0 < L k) :
    sendJ J n t R R L G = sendJ J n t (R - min (L k) R) (R - min (L k) R) (less L k (min (L k) R)) (if L k ≤ R then atG G k ((t : Int) + 1) else G) := by
  obtain ⟨r, rfl⟩ : ∃ r, R = r + 1 := ⟨R - 1, by omega⟩
  conv => lhs; unfold sendJ
  rw [if_neg (by omega), h]
  exact sendJ_fuel J n t _ _ _ _ _ (by omega) (Nat.le_refl _)
/-- who goes next, as a number -/
def nxI (o : Option Nat) : Int := match o with
  | none => -1
  | some k => (k : Int)
theorem less_at (L : Nat → Nat) (k m : Nat) (h : m ≤ L k) : atG (fun i => (L i : Int)) k ((L k : Int) - (m : Int)) = fun i => (less L k m i : Int) := by
  funext i
  unfold atG less
  split
  · rename_i e
    subst e
    omega
  · rfl
end

section
set_option maxHeartbeats 32000000 in
theorem ds_t14 {u0 u2 u3 u4 u5 u6 u10 u11 u12 u13 u14 u15 u16 u17 u18 u19 u20 u21 u22 u23 u24 u25 u26 u27 u28 u29 u30 u31 u32 u33 u34 u35 u36 u37 u38 u39 u40 u41 u42 u43 u44 u45 u46 u47 u48 u49 u50 u51 u52 u53 u54 u55 u56 u57 u58 u59 u60 u61 u62 u63 u64 u65 u66 u67 u68 u69 u70 u71 u72 u73 u74 u75 u76 u77 u78 u79 u80 u81 u82 u83 u84 u85 u86 u87 u88 u89 u90 u91 u92 u93 u94 u95 u96 u97 u98 u99 u100 u101 u102 u103 u104 u105 u106 u107 u108 u109 u110 u111 u112 u113 u114 u115 u116 u117 u118 u119 u120 u121 u122 u123 u124 u125 u126 u127 u128 u129 u130 u131 u132 : Value} (P : Ending → World → Prop) (w0 w : World) (ja la ga : Option Addr) (jn jc lc gc lo g7 : Nat) (J : Nat → Jb) (r : Nat → Nat) (hJ : RdT w0 ja jn jc (fun i => tJ (J i))) (hlo : lo = w0.heap.size) (hL : OwI w lo la jn lc (fun i => ((J i).by8 : Int))) (hG : OwI w lo ga jn gc (g0J J)) (hR : InB w g7 20000 (fun t => (r t : Int))) (hne : (∀ g, (Value.slice la 0 lc).ownBlock = some g → (Value.slice ga 0 gc).ownBlock ≠ some g) ∧ (Value.slice la 0 lc).ownBlock ≠ some g7 ∧ (Value.slice ga 0 gc).ownBlock ≠ some g7) (hgr : w0.grownBy w none) (hjn : jn ≤ 100) (hrb : ∀ t, r t ≤ 1000000000) (hb8 : ∀ i, (J i).by8 ≤ 1000000) (hP : ∀ w', OwI w' lo ga jn gc (runJ J jn r 20000).2 → w0.grownBy w' none → P (.returned (.tuple #[.slice ga jn gc, .int .i64 0])) w') :
    Code.wp Try.prog (tailR 14 (Try.f5.body.getD .skip)) (bodyPost Try.prog Try.f5 P) (Act.mk (List.toArray (u0 :: (.slice ja jn jc) :: u2 :: u3 :: u4 :: u5 :: u6 :: (.slice (some ⟨g7, 0, none⟩) 20000 20000) :: (.slice la jn lc) :: (.slice ga jn gc) :: u10 :: u11 :: u12 :: u13 :: u14 :: u15 :: u16 :: u17 :: u18 :: u19 :: u20 :: u21 :: u22 :: u23 :: u24 :: u25 :: u26 :: u27 :: u28 :: u29 :: u30 :: u31 :: u32 :: u33 :: u34 :: u35 :: u36 :: u37 :: u38 :: u39 :: u40 :: u41 :: u42 :: u43 :: u44 :: u45 :: u46 :: u47 :: u48 :: u49 :: u50 :: u51 :: u52 :: u53 :: u54 :: u55 :: u56 :: u57 :: u58 :: u59 :: u60 :: u61 :: u62 :: u63 :: u64 :: u65 :: u66 :: u67 :: u68 :: u69 :: u70 :: u71 :: u72 :: u73 :: u74 :: u75 :: u76 :: u77 :: u78 :: u79 :: u80 :: u81 :: u82 :: u83 :: u84 :: u85 :: u86 :: u87 :: u88 :: u89 :: u90 :: u91 :: u92 :: u93 :: u94 :: u95 :: u96 :: u97 :: u98 :: u99 :: u100 :: u101 :: u102 :: u103 :: u104 :: u105 :: u106 :: u107 :: u108 :: u109 :: u110 :: u111 :: u112 :: u113 :: u114 :: u115 :: u116 :: u117 :: u118 :: u119 :: u120 :: u121 :: u122 :: u123 :: u124 :: u125 :: u126 :: u127 :: u128 :: u129 :: u130 :: u131 :: u132 :: [])) []) w := by
  conv => enter [2]; whnf
  have HP : Hid _ := hP
  have HJ : Hid _ := hJ
  have HL0 : Hid (lo = w0.heap.size) := hlo
  have HNE : Hid _ := hne
  have HRB : Hid _ := hrb
  have HB8 : Hid _ := hb8
  have START : Hid (OwI w lo la jn lc (fun i => ((J i).by8 : Int)) ∧ OwI w lo ga jn gc (g0J J) ∧ InB w g7 20000 (fun t => (r t : Int)) ∧ w0.grownBy w none) := ⟨hL, hG, hR, hgr⟩
  have hj6 : (jn : Int) ≤ 100 := by omega
  clear hP hJ hlo hne hrb hb8 hL hG hR hgr hjn
  refine wp_seq_k fun K0 hK0 => ?_
  have HK0 : Hid _ := hK0
  clear hK0
  go_wp2
  go_loopw [12] (fun v12 wr => ∃ t : Nat, t ≤ 20000 ∧ v12 = .int .i64 (t : Nat) ∧ Hid (OwI wr lo la jn lc (fun i => (lf J jn r t i : Int))) ∧ Hid (OwI wr lo ga jn gc (runJ J jn r t).2) ∧ Hid (InB wr g7 20000 (fun t => (r t : Int))) ∧ Hid (w0.grownBy wr none)) (fun v12 _ => 20000 - (intOf v12).toNat)
  case atStart => exact ⟨0, Nat.zero_le _, rfl, START.out.1, START.out.2.1, START.out.2.2.1, START.out.2.2.2⟩
  case round =>
    clear START
    obtain ⟨t, ht, rfl, hL, hG, hR7, hg⟩ := hrel
    by_cases hlt : t < 20000
    · have lk : (t : Int) < 20000 := by omega
      have y0 := InB.cell hR7.out hlt
      obtain ⟨R0, hR0⟩ : ∃ R0, R0 = r t := ⟨_, rfl⟩
      rw [← hR0] at y0
      have HR0 : Hid (R0 = r t) := hR0
      have HT : Hid (t + 1 ≤ 20000) := hlt
      clear hR0 hlt ht
      go_wp2
      go_loopw [13] (fun v13 wr => ∃ (R : Nat) (L : Nat → Nat) (G : Nat → Int), v13 = .int .i64 (R : Nat) ∧ Hid (OwI wr lo la jn lc (fun i => (L i : Int))) ∧ Hid (OwI wr lo ga jn gc G) ∧ Hid (InB wr g7 20000 (fun t => (r t : Int))) ∧ Hid (w0.grownBy wr none) ∧ Hid (sendJ J jn t R R L G = runJ J jn r (t + 1)) ∧ Hid (∀ i, L i ≤ 1000000) ∧ Hid (R ≤ 1000000000)) (fun v13 _ => (intOf v13).toNat)
      case atStart =>
        refine ⟨R0, lf J jn r t, (runJ J jn r t).2, rfl, hL.out, hG.out, hR7.out, hg.out, ?_, fun i => Nat.le_trans (run_le' J jn r i 0 t (Nat.zero_le _)) (HB8.out i), by rw [HR0.out]; exact HRB.out t⟩
        show sendJ _ _ _ _ _ _ _ = _
        rw [HR0.out]
        rfl
      case round =>
        clear hL hG hR7 hg y0
        obtain ⟨R, L, G, rfl, hL, hG, hR7, hg, hS, hLb, hRb⟩ := hrel
        by_cases hRp : 0 < R
        · have lR : (0 : Int) < (R : Int) := by omega
          have hR6 : (R : Int) ≤ 1000000000 := by have := hRb.out; omega
          have HL1 : Hid _ := hL.out
          have HG1 : Hid _ := hG.out
          have H71 : Hid _ := hR7.out
          have Hg1 : Hid _ := hg.out
          clear hL hG hR7 hg
          go_wp2
          go_loopw [15, 14] (fun v15 v14 wr => ∃ i : Nat, i ≤ jn ∧ v15 = .int .i64 (i : Nat) ∧ v14 = .int .i64 (nxI (nxt J t L i)) ∧ Hid (OwI wr lo la jn lc (fun i => (L i : Int))) ∧ Hid (OwI wr lo ga jn gc G) ∧ Hid (InB wr g7 20000 (fun t => (r t : Int))) ∧ Hid (w0.grownBy wr none)) (fun v15 v14 _ => jn - (intOf v15).toNat)
          case atStart => exact ⟨0, Nat.zero_le _, rfl, rfl, HL1.out, HG1.out, H71.out, Hg1.out⟩
          case round =>
            clear HL1 HG1 H71 Hg1
            obtain ⟨i, hi, rfl, rfl, hL, hG, hR7, hg⟩ := hrel
            have hJ := HJ.out.keep hg.out
            by_cases hlt3 : i < jn
            · have lk3 : (i : Int) < (jn : Int) := by omega
              have hi6 : (i : Int) ≤ 100 := by omega
              obtain ⟨gl, hla, _, _, hcl⟩ := hL.out.at' hlt3
              have d0 : wr.cell? ⟨gl, i, none⟩ = some (.int .i64 ((L i : Nat) : Int)) := hcl i hlt3
              obtain ⟨b, off, hja, hbl, hr⟩ := hJ.at' (by omega)
              have hri := hr i hlt3
              have c0 := hri 0 _ rfl
              have c1 := hri 1 _ rfl
              simp only [Nat.add_zero, tJ] at c0 c1
              have HSU : Hid (nxt J t L (i + 1) = match nxt J t L i with
                | none => if wt J t L i then some i else none
                | some k => if wt J t L i && decide ((J i).by' < (J k).by') then some i else some k) := (rfl : _ = _)
              have HWT : Hid (wt J t L i = (decide (0 < L i) && decide ((J i).fr ≤ t))) := (rfl : _ = _)
              have HIL : Hid (i < jn) := hlt3
              have HLA : Hid (la = some ⟨gl, 0, none⟩) := hla
              have HJA : Hid (ja = some ⟨b, off, none⟩) := hja
              have hnx : ∀ k, nxt J t L i = some k → k < jn := fun k h => by have := (nxt_some h).1; omega
              obtain ⟨x, hx⟩ : ∃ x, x = L i := ⟨_, rfl⟩
              obtain ⟨f, hf⟩ : ∃ f, f = (J i).fr := ⟨_, rfl⟩
              obtain ⟨y, hy⟩ : ∃ y, y = (J i).by' := ⟨_, rfl⟩
              rw [← hx] at d0 HWT
              rw [← hf] at c0 HWT
              rw [← hy] at c1 HSU
              cases hn : nxt J t L i with
              | none =>
                rw [hn] at HSU
                subst hla
                subst hja
                clear hcl hr hri hx hf hy hlt3 hnx hi hJ hbl
                show Code.wp _ _ _ _ _
                simp only [nxI]
                by_cases h1 : 0 < x
                · have l1 : (0 : Int) < (x : Int) := by omega
                  by_cases h2 : f ≤ t
                  · have l2 : (f : Int) ≤ (t : Int) := by omega
                    have HE : Hid (nxt J t L (i + 1) = some i) := by show _ = _; rw [HSU.out]; (try dsimp only); rw [HWT.out, decide_eq_true h1, decide_eq_true h2]; rfl
                    clear hn
                    go_upto_region 23 with fail
                    go_quiet (fail)
                    have GQ := grown_drewN wr nq none
                    generalize wr.drewN nq = w9 at *
                    go_wp2
                    exact ⟨⟨i + 1, HIL.out, by go_num, by first | (rw [HE.out]; done) | (rw [HE.out]; rfl), hL.out.keep GQ (by simp), hG.out.keep GQ (by simp), InB.keep hR7.out GQ (by simp), grown_trans hg.out GQ⟩, by have := HIL.out; simp [intOf] <;> omega⟩
                  · have l2 : ¬ (f : Int) ≤ (t : Int) := by omega
                    have HE : Hid (nxt J t L (i + 1) = none) := by show _ = _; rw [HSU.out]; (try dsimp only); rw [HWT.out, decide_eq_true h1, decide_eq_false h2]; rfl
                    clear hn
                    go_upto_region 23 with fail
                    go_quiet (fail)
                    have GQ := grown_drewN wr nq none
                    generalize wr.drewN nq = w9 at *
                    go_wp2
                    exact ⟨⟨i + 1, HIL.out, by go_num, by first | (rw [HE.out]; done) | (rw [HE.out]; rfl), hL.out.keep GQ (by simp), hG.out.keep GQ (by simp), InB.keep hR7.out GQ (by simp), grown_trans hg.out GQ⟩, by have := HIL.out; simp [intOf] <;> omega⟩
                · have l1 : ¬ (0 : Int) < (x : Int) := by omega
                  have HE : Hid (nxt J t L (i + 1) = none) := by show _ = _; rw [HSU.out]; (try dsimp only); rw [HWT.out, decide_eq_false h1]; rfl
                  clear hn
                  go_upto_region 23 with fail
                  go_quiet (fail)
                  have GQ := grown_drewN wr nq none
                  generalize wr.drewN nq = w9 at *
                  go_wp2
                  exact ⟨⟨i + 1, HIL.out, by go_num, by first | (rw [HE.out]; done) | (rw [HE.out]; rfl), hL.out.keep GQ (by simp), hG.out.keep GQ (by simp), InB.keep hR7.out GQ (by simp), grown_trans hg.out GQ⟩, by have := HIL.out; simp [intOf] <;> omega⟩
              | some k =>
                rw [hn] at HSU
                have HSU : Hid (nxt J t L (i + 1) = if wt J t L i && decide (y < (J k).by') then some i else some k) := HSU
                have hkj := hnx k hn
                have lkk : (k : Int) < (jn : Int) := by omega
                have lk0 : ¬ (k : Int) < 0 := by omega
                have hrk := hr k hkj
                have e1 := hrk 1 _ rfl
                simp only [tJ] at e1
                obtain ⟨z, hz⟩ : ∃ z, z = (J k).by' := ⟨_, rfl⟩
                rw [← hz] at e1 HSU
                subst hla
                subst hja
                clear hcl hr hri hrk hx hf hy hz hlt3 hnx hi hJ hbl hkj
                simp only [nxI]
                by_cases h1 : 0 < x
                · have l1 : (0 : Int) < (x : Int) := by omega
                  by_cases h2 : f ≤ t
                  · have l2 : (f : Int) ≤ (t : Int) := by omega
                    by_cases h3 : y < z
                    · have l3 : (y : Int) < (z : Int) := by omega
                      have HE : Hid (nxt J t L (i + 1) = some i) := by show _ = _; rw [HSU.out]; (try dsimp only); rw [HWT.out, decide_eq_true h1, decide_eq_true h2, decide_eq_true h3]; rfl
                      clear hn
                      go_upto_region 23 with fail
                      go_quiet (fail)
                      have GQ := grown_drewN wr nq none
                      generalize wr.drewN nq = w9 at *
                      go_wp2
                      exact ⟨⟨i + 1, HIL.out, by go_num, by first | (rw [HE.out]; done) | (rw [HE.out]; rfl), hL.out.keep GQ (by simp), hG.out.keep GQ (by simp), InB.keep hR7.out GQ (by simp), grown_trans hg.out GQ⟩, by have := HIL.out; simp [intOf] <;> omega⟩
                    · have l3 : ¬ (y : Int) < (z : Int) := by omega
                      have HE : Hid (nxt J t L (i + 1) = some k) := by show _ = _; rw [HSU.out]; (try dsimp only); rw [HWT.out, decide_eq_true h1, decide_eq_true h2, decide_eq_false h3]; rfl
                      clear hn
                      go_upto_region 23 with fail
                      go_quiet (fail)
                      have GQ := grown_drewN wr nq none
                      generalize wr.drewN nq = w9 at *
                      go_wp2
                      exact ⟨⟨i + 1, HIL.out, by go_num, by first | (rw [HE.out]; done) | (rw [HE.out]; rfl), hL.out.keep GQ (by simp), hG.out.keep GQ (by simp), InB.keep hR7.out GQ (by simp), grown_trans hg.out GQ⟩, by have := HIL.out; simp [intOf] <;> omega⟩
                  · have l2 : ¬ (f : Int) ≤ (t : Int) := by omega
                    have HE : Hid (nxt J t L (i + 1) = some k) := by show _ = _; rw [HSU.out]; (try dsimp only); rw [HWT.out, decide_eq_true h1, decide_eq_false h2]; rfl
                    clear hn
                    go_upto_region 23 with fail
                    go_quiet (fail)
                    have GQ := grown_drewN wr nq none
                    generalize wr.drewN nq = w9 at *
                    go_wp2
                    exact ⟨⟨i + 1, HIL.out, by go_num, by first | (rw [HE.out]; done) | (rw [HE.out]; rfl), hL.out.keep GQ (by simp), hG.out.keep GQ (by simp), InB.keep hR7.out GQ (by simp), grown_trans hg.out GQ⟩, by have := HIL.out; simp [intOf] <;> omega⟩
                · have l1 : ¬ (0 : Int) < (x : Int) := by omega
                  have HE : Hid (nxt J t L (i + 1) = some k) := by show _ = _; rw [HSU.out]; (try dsimp only); rw [HWT.out, decide_eq_false h1]; rfl
                  clear hn
                  go_upto_region 23 with fail
                  go_quiet (fail)
                  have GQ := grown_drewN wr nq none
                  generalize wr.drewN nq = w9 at *
                  go_wp2
                  exact ⟨⟨i + 1, HIL.out, by go_num, by first | (rw [HE.out]; done) | (rw [HE.out]; rfl), hL.out.keep GQ (by simp), hG.out.keep GQ (by simp), InB.keep hR7.out GQ (by simp), grown_trans hg.out GQ⟩, by have := HIL.out; simp [intOf] <;> omega⟩
            · obtain rfl : i = jn := by omega
              have lk3 : ¬ (i : Int) < (i : Int) := by omega
              clear hJ hi hlt3
              cases hn : nxt J t L i with
              | none =>
                have hs := sendJ_none (G := G) (R := R) hn
                have HS2 : Hid (runJ J i r (t + 1) = (L, G)) := by show _ = _; rw [← hs]; exact hS.out.symm
                clear hs hn
                simp only [nxI]
                go_wp2
                refine ⟨⟨t + 1, HT.out, by go_num, ?_, ?_, hR7.out, hg.out⟩, by have := HT.out; simp [intOf] <;> omega⟩
                · show OwI wr lo la i lc (fun j => ((runJ J i r (t + 1)).1 j : Int))
                  rw [HS2.out]
                  exact hL.out
                · show OwI wr lo ga i gc (runJ J i r (t + 1)).2
                  rw [HS2.out]
                  exact hG.out
              | some k =>
                obtain ⟨hk1, hk2, _⟩ := nxt_some hn
                unfold wt at hk2
                rw [Bool.and_eq_true, decide_eq_true_iff, decide_eq_true_iff] at hk2
                have hs := sendJ_some (G := G) hn hRp hk2.1
                have lkk : (k : Int) < (i : Int) := by omega
                have lk0 : ¬ (k : Int) < 0 := by omega
                obtain ⟨gl, hla, _, hlo, hcl⟩ := hL.out.at' hk1
                obtain ⟨gg, hga, _, hlo2, _⟩ := hG.out.at' hk1
                have d0 : wr.cell? ⟨gl, k, none⟩ = some (.int .i64 ((L k : Nat) : Int)) := hcl k hk1
                have HLA : Hid (la = some ⟨gl, 0, none⟩) := hla
                have HGA : Hid (ga = some ⟨gg, 0, none⟩) := hga
                subst hla
                subst hga
                have hne : gl ≠ gg := fun e => HNE.out.1 gl rfl (by rw [e]; rfl)
                have hn7 : gl ≠ g7 := fun e => HNE.out.2.1 (by rw [← e]; rfl)
                have hn8 : gg ≠ g7 := fun e => HNE.out.2.2 (by rw [← e]; rfl)
                have HN : Hid (gl ≠ gg ∧ gl ≠ g7 ∧ gg ≠ g7) := ⟨hne, hn7, hn8⟩
                have HLO : Hid (lo ≤ gl ∧ lo ≤ gg) := ⟨hlo, hlo2⟩
                obtain ⟨x, hx⟩ : ∃ x, x = L k := ⟨_, rfl⟩
                have hxb := hLb.out k
                rw [← hx] at hs hxb
                rw [← hx] at d0
                have hxi : (x : Int) ≤ 1000000 := by omega
                have hx0 : 0 < x := by rw [hx]; exact hk2.1
                have HXK : Hid (x = L k) := hx
                have HKI : Hid (k < i) := hk1
                simp only [nxI]
                have s0 : True := trivial
                by_cases hle : x ≤ R
                · have lle : ¬ (R : Int) < (x : Int) := by omega
                  obtain ⟨r2, hr2⟩ : ∃ r2, r2 = R - x := ⟨_, rfl⟩
                  have d1 : (R : Int) - (x : Int) = (r2 : Int) := by omega
                  rw [show min x R = x by omega, if_pos hle, ← hr2] at hs
                  have hs2 := hs.symm.trans hS.out
                  have HS2 : Hid _ := hs2
                  have hat := less_at L k x (by omega)
                  have HAT : Hid (atG (fun i => (L i : Int)) k 0 = fun i => (less L k x i : Int)) := by
                    show _ = _
                    rw [← hat, ← hx]
                    rw [Int.sub_self]
                  have HQ : Hid (r2 = R - x ∧ x ≤ R ∧ 0 < x ∧ R ≤ 1000000000) := ⟨hr2, hle, hx0, hRb.out⟩
                  clear hcl hs hs2 hat hx hxb hx0 hk1 hk2 hn hr2 hne hn7 hn8 hlo hlo2
                  have HZ : Hid (∀ w4, OwI w4 lo (some ⟨gl, 0, none⟩) i lc (atG (fun i => (L i : Int)) k 0) → w4.cell? ⟨gl, k, none⟩ = some (.int .i64 0)) := by
                    intro w4 h4
                    obtain ⟨g', e', _, _, hc'⟩ := OwI.at' h4 HKI.out
                    cases e'
                    have h5 := hc' k HKI.out
                    rwa [show atG (fun i => (L i : Int)) k 0 k = 0 from (by unfold atG; rw [if_pos rfl])] at h5
                  have HKP : Hid (∀ w4, wr.grownBy w4 (some gl) → OwI w4 lo (some ⟨gg, 0, none⟩) i gc G ∧ InB w4 g7 20000 (fun t => (r t : Int))) := by
                    intro w4 g4
                    exact ⟨OwI.keep hG.out g4 (fun g e x => HN.out.1 ((Option.some.inj x).trans (Option.some.inj e).symm)), InB.keep hR7.out g4 (fun x => HN.out.2.1 (Option.some.inj x).symm)⟩
                  go_wp2_with (first
                    | (have _t := s0; clear s0; refine wpList_stOI rfl _ _ rfl gl lo i lc k (fun i => (L i : Int)) 0 rfl rfl hL.out HKI.out ?_; intro w4 hL4 g4; have z0 := HZ.out w4 hL4; have HL4 : Hid _ := hL4; have HK4 : Hid _ := HKP.out w4 g4; have H4 : Hid _ := g4; clear hL4 g4; have s1 : True := trivial)
                    | (have _t := s1; clear s1; refine wpList_stOI rfl _ _ rfl gg lo i gc k G ((t : Int) + 1) rfl rfl HK4.out.1 HKI.out ?_; intro w6 hG6 g6))
                  refine ⟨⟨r2, rfl, less L k x, ?_, atG G k ((t : Int) + 1), hG6, InB.keep HK4.out.2 g6 (fun x => HN.out.2.2 (Option.some.inj x).symm), ?_, HS2.out, fun j => Nat.le_trans (less_le L k x j) (hLb.out j), by have := HQ.out; show r2 ≤ _; omega⟩, by have := HQ.out; simp [intOf] <;> omega⟩
                  · show OwI w6 lo _ i lc (fun j => (less L k x j : Int))
                    rw [← HAT.out]
                    exact OwI.keep HL4.out g6 (fun g e x => HN.out.1 ((Option.some.inj e).trans (Option.some.inj x).symm))
                  · exact grown_far (grown_far hg.out H4.out (fun q e => by cases e; have := HLO.out; have := HL0.out; omega)) g6 (fun q e => by cases e; have := HLO.out; have := HL0.out; omega)
                · have lle : (R : Int) < (x : Int) := by omega
                  obtain ⟨x2, hx2⟩ : ∃ x2, x2 = x - R := ⟨_, rfl⟩
                  have d1 : (x : Int) - (R : Int) = (x2 : Int) := by omega
                  have hz2 : ((x2 : Int) == 0) = false := by
                    have : ¬ (x2 : Int) = 0 := by omega
                    exact beq_eq_false_iff_ne.2 this
                  rw [show min x R = R by omega, if_neg hle, Nat.sub_self] at hs
                  have hs2 := hs.symm.trans hS.out
                  have HS2 : Hid _ := hs2
                  have hat := less_at L k R (by omega)
                  have HAT : Hid (atG (fun i => (L i : Int)) k (x2 : Int) = fun i => (less L k R i : Int)) := by
                    show _ = _
                    rw [← hat, ← hx, d1]
                  have HQ : Hid (0 < R) := hRp
                  have hR6 : (R : Int) ≤ 1000000000 := by have := hRb.out; omega
                  clear hcl hs hs2 hat hx hxb hx0 hk1 hk2 hn hx2 hne hn7 hn8 hlo hlo2
                  have HZ : Hid (∀ w4, OwI w4 lo (some ⟨gl, 0, none⟩) i lc (atG (fun i => (L i : Int)) k (x2 : Int)) → w4.cell? ⟨gl, k, none⟩ = some (.int .i64 (x2 : Int))) := by
                    intro w4 h4
                    obtain ⟨g', e', _, _, hc'⟩ := OwI.at' h4 HKI.out
                    cases e'
                    have h5 := hc' k HKI.out
                    rwa [show atG (fun i => (L i : Int)) k (x2 : Int) k = (x2 : Int) from (by unfold atG; rw [if_pos rfl])] at h5
                  have HKP : Hid (∀ w4, wr.grownBy w4 (some gl) → OwI w4 lo (some ⟨gg, 0, none⟩) i gc G ∧ InB w4 g7 20000 (fun t => (r t : Int))) := by
                    intro w4 g4
                    exact ⟨OwI.keep hG.out g4 (fun g e x => HN.out.1 ((Option.some.inj x).trans (Option.some.inj e).symm)), InB.keep hR7.out g4 (fun x => HN.out.2.1 (Option.some.inj x).symm)⟩
                  go_wp2_with (first
                    | (have _t := s0; clear s0; refine wpList_stOI rfl _ _ rfl gl lo i lc k (fun i => (L i : Int)) (x2 : Int) rfl rfl hL.out HKI.out ?_; intro w4 hL4 g4; have z0 := HZ.out w4 hL4; have HL4 : Hid _ := hL4; have HK4 : Hid _ := HKP.out w4 g4; have H4 : Hid _ := g4; clear hL4 g4; have s1 : True := trivial))
                  refine ⟨⟨0, less L k R, G, rfl, ?_, HK4.out.1, HK4.out.2, ?_, HS2.out, fun j => Nat.le_trans (less_le L k R j) (hLb.out j), Nat.zero_le _⟩, by have := HQ.out; simp [intOf] <;> omega⟩
                  · show OwI w4 lo _ i lc (fun j => (less L k R j : Int))
                    rw [← HAT.out]
                    exact HL4.out
                  · exact grown_far hg.out H4.out (fun q e => by cases e; have := HLO.out; have := HL0.out; omega)
        · obtain rfl : R = 0 := by omega
          have hs : runJ J jn r (t + 1) = (L, G) := by rw [← hS.out]; rfl
          have HS2 : Hid _ := hs
          clear hs
          go_wp2
          refine ⟨⟨t + 1, HT.out, by go_num, ?_, ?_, hR7.out, hg.out⟩, by have := HT.out; simp [intOf] <;> omega⟩
          · show OwI wr lo la jn lc (fun j => ((runJ J jn r (t + 1)).1 j : Int))
            rw [HS2.out]
            exact hL.out
          · show OwI wr lo ga jn gc (runJ J jn r (t + 1)).2
            rw [HS2.out]
            exact hG.out
    · obtain rfl : t = 20000 := by omega
      go_wp2
      (try simp only [Exit.inBlock, Exit.then])
      refine HK0.out _ _ ?_
      clear HK0
      go_wp2
      (try simp only [Exit.inBlock, Exit.then])
      first | exact HP.out _ hG.out hg.out | (refine bodyPost_ret (results_tmp2 rfl _ _ _) rfl ?_; exact HP.out _ hG.out hg.out)
end
end Go.Proofs.Ytnjdbbjhplebhaa
