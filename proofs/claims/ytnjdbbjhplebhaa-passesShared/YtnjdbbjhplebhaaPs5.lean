import Derived.Lib.MinMax
import Derived.Test.YtnjdbbjhplebhaaPs4
namespace Go.Proofs.Ytnjdbbjhplebhaa
open Go.RowKit
set_option maxRecDepth 100000
set_option linter.unusedVariables false
set_option linter.unusedSimpArgs false

section
/-- a row of numbers told by a function -/
def inL (G : Nat → Int) (n : Nat) : List Value := (List.range n).map fun i => .int .i64 (G i)
theorem inL_len (G : Nat → Int) (n : Nat) : (inL G n).length = n := by simp [inL]
theorem inL_at (G : Nat → Int) (n i : Nat) (h : i < n) : (inL G n)[i]? = some (.int .i64 (G i)) := by simp [inL, h]
theorem inL_set (G : Nat → Int) (n k : Nat) (g : Int) (h : k < n) : (inL G n).set k (.int .i64 g) = inL (atG G k g) n := by
  refine List.ext_getElem? fun i => ?_
  by_cases hi : i < n
  · rw [List.getElem?_set, inL_at (atG G k g) n i hi, inL_at G n i hi]
    unfold atG
    by_cases e : k = i
    · subst e
      rw [if_pos rfl, if_pos (by rw [inL_len]; exact h), if_pos rfl]
    · rw [if_neg e, if_neg (fun x : i = k => e x.symm)]
  · rw [List.getElem?_eq_none (by rw [List.length_set, inL_len]; omega), List.getElem?_eq_none (by rw [inL_len]; omega)]
/-- numbers in a block -/
def InB (w : World) (g n : Nat) (G : Nat → Int) : Prop := BxS w g 3 (inL G n).toArray
theorem InB.cell {w : World} {g n i : Nat} {G : Nat → Int} (h : InB w g n G) (hi : i < n) : w.cell? ⟨g, i, none⟩ = some (.int .i64 (G i)) := by
  have h : BxS w g 3 (inL G n).toArray := h
  rw [cell_of_row _ _ _ _ _ _ h, List.getElem?_toArray, inL_at _ _ _ hi]
theorem InB.keep {w w' : World} {g n : Nat} {G : Nat → Int} {r : Option Nat} (h : InB w g n G) (hg : w.grownBy w' r) (hr : some g ≠ r) : InB w' g n G := BxS.keep h hg hr
theorem InB.fz {w w' : World} {g n : Nat} {G : Nat → Int} {p : Nat → Prop} (h : InB w g n G) (hF : Fz p w w') (hn : ¬ p g) : InB w' g n G := BxS.fz h hF hn
theorem InB.lt {w : World} {g n : Nat} {G : Nat → Int} (h : InB w g n G) : g < w.heap.size := BxS.lt h
theorem wpList_stI {w : World} {ops : Array Oper} {rest : List Oper} {o : Oper} {ac : Act} {Q : Exit → Act → World → Prop} (hg : o.guard = none) (p x : Operand) (hop : o.op = Op.store 3 p x)
    (g n i : Nat) (G : Nat → Int) (y : Int) (hp : ac.eval p = .pointer (some ⟨g, i, none⟩)) (hx : ac.eval x = .int .i64 y) (h : InB w g n G) (hi : i < n)
    (hK : ∀ w', InB w' g n (atG G i y) → w.grownBy w' (some g) → wpList Try.prog ops Q rest (ac.put o.dst undef) w') :
    wpList Try.prog ops Q (o :: rest) ac w := by
  refine wpList_stC w hg 3 p x hop g i 3 _ (inL (atG G i y) n).toArray (.int .i64 y) hp hx h (stc_int _ _ _) (by simp [inL_len]; exact hi) ?_ hK
  rw [← inL_set G n i y hi]
  simp
set_option maxHeartbeats 4000000 in
theorem tell_any (g10 g5 gg n k t : Nat) (G : Nat → Int) (w : World) (h10 : BxS w g10 3 #[.int .i64 (t : Nat)]) (h5 : BxS w g5 24 #[.slice (some ⟨gg, 0, none⟩) n n]) (hg : InB w gg n G) (hk : k < n) (ht : t ≤ 1000000) :
    Calls Try.prog 25 #[.int .i64 (k : Nat), .pointer (some ⟨g10, 0, none⟩), .pointer (some ⟨g5, 0, none⟩)] w fun e w' => e = .returned (.tuple #[]) ∧ InB w' gg n (atG G k ((t : Int) + 1)) ∧ w.grownBy w' (some gg) := by
  have c10 := h10.cell 0 (by simp)
  have c5 := h5.cell 0 (by simp)
  simp at c10 c5
  have hk' : (k : Int) < (n : Int) := by omega
  have ht' : (t : Int) ≤ 1000000 := by omega
  have HG : Hid _ := hg
  have HK : Hid _ := hk
  have s0 : True := trivial
  clear hg h10 h5 ht
  go_enter Try.func25, Try.ntmps25
  go_wp2_with (have _t := s0; clear s0; refine wpList_stI rfl _ _ rfl gg n k G ((t : Int) + 1) rfl rfl HG.out HK.out ?_; intro w1 hi1 g1)
  go_end0
  exact ⟨rfl, hi1, g1⟩

/-- of the first a part goes, all of it: it is taken out -/
theorem QS.popz {J : Nat → Jb} {n : Nat} {rel : Nat → Prop} {L : Nat → Nat} {x y : Ld} {T : List Ld} (h : QS J n rel L (x :: T)) (hp : y.pl = x.pl) (hb : y.by' = x.by') :
    QS J n rel (less L x.pl x.lf) (popH ltQ ld0 (y :: T)) ∧ HpO ltQ ld0 (y :: T) (y :: T).length := by
  have hg : ∀ i, ltQ ((y :: T).getD i ld0) ((y :: T).getD ((i - 1) / 2) ld0) = ltQ ((x :: T).getD i ld0) ((x :: T).getD ((i - 1) / 2) ld0) := by
    intro i
    have e : ∀ k, ((y :: T).getD k ld0).by' = ((x :: T).getD k ld0).by' ∧ ((y :: T).getD k ld0).pl = ((x :: T).getD k ld0).pl := by
      intro k
      cases k with
      | zero => exact ⟨hb, hp⟩
      | succ k => exact ⟨rfl, rfl⟩
    unfold ltQ
    rw [(e i).1, (e i).2, (e ((i - 1) / 2)).1, (e ((i - 1) / 2)).2]
  have hh : HpO ltQ ld0 (y :: T) (y :: T).length := fun i hi hl => by rw [hg]; exact h.heap i hi hl
  refine ⟨?_, hh⟩
  obtain ⟨h1, h2, h3, _⟩ := popH_ok (d := ld0) ltQ_o hh (by simp)
  have h2' : (popH ltQ ld0 (y :: T)).Perm T := List.Perm.cons_inv (show (y :: popH ltQ ld0 (y :: T)).Perm (y :: T) from h2)
  obtain ⟨n1, n2⟩ := List.nodup_cons.1 (show (x.pl :: T.map Ld.pl).Nodup from h.nd)
  obtain ⟨v1, v2, v3, v4, v5, v6⟩ := h.val x (List.mem_cons_self ..)
  refine ⟨h1, (h2'.map Ld.pl).nodup_iff.2 n2, fun z hz => ?_, fun i hi hL hr => ?_⟩
  · have hzT := h2'.mem_iff.1 hz
    obtain ⟨u1, u2, u3, u4, u5, u6⟩ := h.val z (List.mem_cons_of_mem _ hzT)
    have hne : z.pl ≠ x.pl := fun e => n1 (e ▸ List.mem_map.2 ⟨z, hzT, rfl⟩)
    refine ⟨u1, u2, u3, u4, ?_, u6⟩
    unfold less
    rw [if_neg hne]
    exact u5
  · unfold less at hL
    by_cases e : i = x.pl
    · rw [if_pos e, e, v5] at hL
      omega
    · rw [if_neg e] at hL
      obtain ⟨z, hz, ez⟩ := h.all i hi hL hr
      rcases List.mem_cons.1 hz with rfl | hz
      · exact (e ez.symm).elim
      · exact ⟨z, h2'.mem_iff.2 hz, ez⟩
/-- one step of a tick -/
theorem send_step {J : Nat → Jb} {n t R : Nat} {L : Nat → Nat} {G : Nat → Int} {x : Ld} {T : List Ld} (h : QS J n (fun i => (J i).fr ≤ t) L (x :: T)) (hR : 0 < R) :
    sendJ J n t R R L G = sendJ J n t (R - min x.lf R) (R - min x.lf R) (less L x.pl (min x.lf R)) (if x.lf ≤ R then atG G x.pl ((t : Int) + 1) else G) := by
  have hn := h.nxt (by simp)
  have hx : (x :: T).getD 0 ld0 = x := rfl
  rw [hx] at hn
  obtain ⟨v1, v2, v3, v4, v5, v6⟩ := h.val x (List.mem_cons_self ..)
  obtain ⟨r, rfl⟩ : ∃ r, R = r + 1 := ⟨R - 1, by omega⟩
  conv => lhs; unfold sendJ
  rw [if_neg (by omega), hn]
  dsimp only
  rw [← v5]
  exact sendJ_fuel J n t _ _ _ _ _ (by omega) (Nat.le_refl _)
theorem QB.keepR {w w' : World} {gq g cap : Nat} {H : List Ld} {r : Option Nat} (h : QB w gq g cap H) (hg : w.grownBy w' r) (h1 : some gq ≠ r) (h2 : some g ≠ r) : QB w' gq g cap H := ⟨h.box.keep hg h1, h.row.keep hg h2, h.ne⟩
/-- the first one's bytes are written -/
theorem wpList_stF {w : World} {ops : Array Oper} {rest : List Oper} {o : Oper} {ac : Act} {Q : Exit → Act → World → Prop} (hg : o.guard = none) (p y : Operand) (hop : o.op = Op.store 3 p y)
    (gq g cap : Nat) (x : Ld) (T : List Ld) (z : Nat) (hp : ac.eval p = .pointer (some ⟨g, 3, none⟩)) (hx : ac.eval y = .int .i64 (z : Nat)) (h : QB w gq g cap (x :: T))
    (hK : ∀ w', QB w' gq g cap ({ x with lf := z } :: T) → w.grownBy w' (some g) → wpList Try.prog ops Q rest (ac.put o.dst undef) w') :
    wpList Try.prog ops Q (o :: rest) ac w := by
  obtain ⟨r, hb, hl⟩ := h.row.ex
  refine wpList_stC w hg 3 p y hop g 3 55 _ (flD ({ x with lf := z } :: T) ++ r).toArray (.int .i64 (z : Nat)) hp hx hb (stc_int _ _ _) (by simp [flD, Ld.cells]) ?_ ?_
  · simp [flD, Ld.cells]
  · intro w' hb' hg'
    exact hK w' ⟨h.box.keep hg' (by simp; exact h.ne), ⟨r, hb', by rw [← hl]; simp [flD, Ld.cells]⟩, h.ne⟩ hg'

theorem Try.assLd (v : Value) (w : World) : (Instr.typeAssert (.iface 55 v) 20 55 false).run Try.prog w = .ok v w := by
  go_simp
  try rfl
theorem Try.fldLd (a b c d : Value) (w : World) : (Instr.field 55 (.agg #[a, b, c, d]) 0).run Try.prog w = .ok a w := by kernel_rfl
theorem wpList_fld {w : World} {ops : Array Oper} {rest : List Oper} {o : Oper} {a : Act} {Q : Exit → Act → World → Prop} (hg : o.guard = none) (t : TypeId) (x : Operand) (f : Nat) (hop : o.op = Op.field t x f)
    (v u : Value) (hx : a.eval x = v) (hr : (Instr.field t v f).run Try.prog w = .ok u w) (hK : wpList Try.prog ops Q rest (a.put o.dst u) w) :
    wpList Try.prog ops Q (o :: rest) a w := by
  refine wpList_plain hg fun K hK' => ?_
  unfold Oper.wp
  simp [execOp, hop, hx, hr, Result.andThen]
  exact hK' _ _ hK
theorem wpList_ass {w : World} {ops : Array Oper} {rest : List Oper} {o : Oper} {a : Act} {Q : Exit → Act → World → Prop} (hg : o.guard = none) (x : Operand) (t d : TypeId) (hop : o.op = Op.typeAssert x t d false)
    (v u : Value) (hx : a.eval x = v) (hr : (Instr.typeAssert v t d false).run Try.prog w = .ok u w) (hK : wpList Try.prog ops Q rest (a.put o.dst u) w) :
    wpList Try.prog ops Q (o :: rest) a w := by
  refine wpList_plain hg fun K hK' => ?_
  unfold Oper.wp
  simp [execOp, hop, hx, hr, Result.andThen]
  exact hK' _ _ hK

set_option maxHeartbeats 16000000 in
theorem send_any (gq g10 g5 gg n t R c : Nat) (a : Option Addr) (H : List Ld) (J : Nat → Jb) (L : Nat → Nat) (G : Nat → Int) (w : World) (hQ : QV w gq (.slice a H.length c) H) (hS : QS J n (fun i => (J i).fr ≤ t) L H)
    (hH : H.length ≤ 100000) (hR : R ≤ 1000000000) (ht : t ≤ 1000000) (hLb : ∀ i, L i ≤ 1000000000) (h10 : BxS w g10 3 #[.int .i64 (t : Nat)]) (h5 : BxS w g5 24 #[.slice (some ⟨gg, 0, none⟩) n n]) (hg : InB w gg n G)
    (hne : gq ≠ gg ∧ gq ≠ g10 ∧ gq ≠ g5 ∧ gg ≠ g10 ∧ gg ≠ g5) (hna : ∀ g, (Value.slice a 0 c).ownBlock = some g → g ≠ gg ∧ g ≠ g10 ∧ g ≠ g5) :
    Calls Try.prog 24 #[.pointer (some ⟨gq, 0, none⟩), .int .i64 (R : Nat), .func (.func 25) #[] #[.pointer (some ⟨g10, 0, none⟩), .pointer (some ⟨g5, 0, none⟩)]] w fun e w' => e = .returned (.tuple #[]) ∧ (∃ H', QV w' gq (.slice a H'.length c) H' ∧ QS J n (fun i => (J i).fr ≤ t) (sendJ J n t R R L G).1 H' ∧ H'.length ≤ 100000) ∧
      InB w' gg n (sendJ J n t R R L G).2 ∧ Fz (fun b => b = gq ∨ (Value.slice a 0 c).ownBlock = some b ∨ b = gg) w w' := by
  have H10 : Hid _ := h10
  have H5 : Hid _ := h5
  have HNE : Hid _ := hne
  have HNA : Hid _ := hna
  have START : Hid (QV w gq (.slice a H.length c) H ∧ InB w gg n G ∧ QS J n (fun i => (J i).fr ≤ t) L H ∧ H.length ≤ 100000 ∧ R ≤ 1000000000 ∧ t ≤ 1000000 ∧ ∀ i, L i ≤ 1000000000) := ⟨hQ, hg, hS, hH, hR, ht, hLb⟩
  clear h10 h5 hne hna hQ hg hS hH hR ht hLb
  go_enter Try.func24, Try.ntmps24
  go_wp2
  go_loopw [1] (fun v1 wr => ∃ (R' : Nat) (H' : List Ld) (L' : Nat → Nat) (G' : Nat → Int), v1 = .int .i64 (R' : Nat) ∧ QV wr gq (.slice a H'.length c) H' ∧ InB wr gg n G' ∧ Fz (fun b => b = gq ∨ (Value.slice a 0 c).ownBlock = some b ∨ b = gg) w wr ∧ Hid (QS J n (fun i => (J i).fr ≤ t) L' H' ∧ R' ≤ R ∧ sendJ J n t R' R' L' G' = sendJ J n t R R L G ∧ H'.length ≤ 100000 ∧ ∀ i, L' i ≤ 1000000000)) (fun v1 _ => (intOf v1).toNat)
  case atStart =>
    obtain ⟨hQ, hg, hS, hH, hR, ht, hLb⟩ := START.out
    exact ⟨R, H, L, G, rfl, hQ, hg, Fz.refl _ _, hS, Nat.le_refl _, rfl, hH, hLb⟩
  case round =>
    obtain ⟨R', H', L', G', rfl, hQ, hg, hF, hSD⟩ := hrel
    have hb1 : (R' : Int) ≤ 1000000000 := by have := hSD.out.2.1; have := START.out.2.2.2.2.1; omega
    have c0 := hQ.box.cell 0 (by simp)
    simp at c0
    have FF : Hid _ := hF
    have HQQ : Hid _ := hQ
    have HGG : Hid _ := hg
    clear hF hg
    cases H' with
    | nil =>
      clear hQ
      go_wp2
      go_end0
      obtain ⟨s1, s2, s3, s4⟩ := hSD.out
      have e : sendJ J n t R' R' L' G' = (L', G') := by
        cases R' with
        | zero => rfl
        | succ r =>
          unfold sendJ
          rw [if_neg (by omega), s1.none']
      rw [e] at s3
      rw [← s3]
      exact ⟨rfl, ⟨[], HQQ.out, s1, by simp⟩, HGG.out, FF.out⟩
    | cons x T =>
      obtain ⟨g, cap, hsl, hB, hcm⟩ := hQ.qb (by simp)
      clear hQ
      simp only [Value.slice.injEq] at hsl
      obtain ⟨rfl, _, rfl⟩ := hsl
      obtain ⟨N, hN⟩ : ∃ N, N = (x :: T).length := ⟨_, rfl⟩
      have hN0 : 0 < N := by rw [hN]; simp
      rw [← hN] at c0
      have HNN : Hid _ := hN
      clear hN
      by_cases hR0 : R' = 0
      · subst hR0
        clear hB hcm
        go_wp2
        go_end0
        obtain ⟨s1, s2, s3, s4, s5⟩ := hSD.out
        have e : sendJ J n t 0 0 L' G' = (L', G') := rfl
        rw [e] at s3
        rw [← s3]
        exact ⟨rfl, ⟨x :: T, HQQ.out, s1, s4⟩, HGG.out, FF.out⟩
      · have hR1 : 0 < R' := by omega
        have hxl : x.lf ≤ 1000000000 := by obtain ⟨v1, v2, v3, v4, v5, v6⟩ := hSD.out.1.val x (List.mem_cons_self ..); rw [v5]; exact hSD.out.2.2.2.2 _
        have hx0 : 0 < x.lf := (hSD.out.1.val x (List.mem_cons_self ..)).2.2.2.2.2
        have hxn : x.pl < n := (hSD.out.1.val x (List.mem_cons_self ..)).1
        have c3 : wr.cell? ⟨g, 3, none⟩ = some (.int .i64 (x.lf : Int)) := hB.row.cell (i := 0) (by simp) 3 _ rfl
        have HBB : Hid _ := hB
        have HCM : Hid _ := hcm
        clear hB hcm hR0
        have hgg : g ≠ gg ∧ g ≠ g10 ∧ g ≠ g5 := HNA.out g rfl
        have HG3 : Hid _ := hgg
        clear hgg
        have s0 : True := trivial
        by_cases hle : x.lf ≤ R'
        · have hmin : min (R' : Int) (x.lf : Int) = (x.lf : Int) := by omega
          have hmin2 : min x.lf R' = x.lf := by omega
          obtain ⟨r2, hr2⟩ : ∃ r2, r2 = R' - x.lf := ⟨_, rfl⟩
          have d1 : (R' : Int) - (x.lf : Int) = (r2 : Int) := by omega
          have hst := send_step (G := G') hSD.out.1 hR1
          rw [hmin2, if_pos hle, ← hr2] at hst
          have hqs := QS.popz (y := { x with lf := 0 }) hSD.out.1 rfl rfl
          have hpl := popH_ok (d := ld0) ltQ_o hqs.2 (by simp)
          have P0 : ∀ wz, QB wz gq g c ({ x with lf := 0 } :: T) → Calls Try.prog 34 #[.iface 52 (.pointer (some ⟨gq, 0, none⟩))] wz fun e w' => e = .returned (.iface 55 (.agg #[.int .i64 (x.pl : Int), .int .i64 (x.fr : Int), .int .i64 (x.by' : Int), .int .i64 0])) ∧ QB w' gq g c (popH ltQ ld0 ({ x with lf := 0 } :: T)) ∧ Fz (fun b => b = gq ∨ b = g) wz w' := fun wz hz =>
            hpop_any gq g c ({ x with lf := 0 } :: T) wz hz HCM.out (by simp) (by have := hSD.out.2.2.2.1; simpa using this) hqs.2
          have T0 : ∀ wz, InB wz gg n G' → BxS wz g10 3 #[.int .i64 (t : Nat)] → BxS wz g5 24 #[.slice (some ⟨gg, 0, none⟩) n n] → Calls Try.prog 25 #[.int .i64 (x.pl : Nat), .pointer (some ⟨g10, 0, none⟩), .pointer (some ⟨g5, 0, none⟩)] wz fun e w' => e = .returned (.tuple #[]) ∧ InB w' gg n (atG G' x.pl ((t : Int) + 1)) ∧ wz.grownBy w' (some gg) := fun wz k1 k2 k3 => tell_any g10 g5 gg n x.pl t G' wz k2 k3 k1 hxn START.out.2.2.2.2.2.1
          have HST : Hid _ := hst
          have HQS : Hid _ := hqs
          have HPL : Hid _ := hpl
          have HP0 : Hid _ := P0
          have HT0 : Hid _ := T0
          have HR2 : Hid _ := hr2
          have HLE : Hid _ := hle
          clear hst hqs hpl P0 T0 hmin2 hr2 hxn
          have F1 : ∀ w1, wr.grownBy w1 (some g) → Fz (fun b => b = gq ∨ (Value.slice (some ⟨g, 0, none⟩) 0 c).ownBlock = some b ∨ b = gg) w w1 := fun w1 h => Fz.step FF.out h (fun k e _ => .inr (.inl (by cases e; rfl)))
          have F2 : ∀ w1 w2, wr.grownBy w1 (some g) → Fz (fun b => b = gq ∨ b = g) w1 w2 → Fz (fun b => b = gq ∨ (Value.slice (some ⟨g, 0, none⟩) 0 c).ownBlock = some b ∨ b = gg) w w2 := fun w1 w2 h k => Fz.trans (F1 w1 h) k (fun i _ e => by rcases e with rfl | rfl; exact .inl rfl; exact .inr (.inl rfl))
          have B10 : ∀ w2, Fz (fun b => b = gq ∨ (Value.slice (some ⟨g, 0, none⟩) 0 c).ownBlock = some b ∨ b = gg) w w2 → BxS w2 g10 3 #[.int .i64 (t : Nat)] := fun w2 h => BxS.fz H10.out h (fun e => by
            have a := HNE.out
            have b := HG3.out
            rcases e with e | e | e
            · exact a.2.1 e.symm
            · exact b.2.1 (Option.some.inj e)
            · exact a.2.2.2.1 e.symm)
          have B5 : ∀ w2, Fz (fun b => b = gq ∨ (Value.slice (some ⟨g, 0, none⟩) 0 c).ownBlock = some b ∨ b = gg) w w2 → BxS w2 g5 24 #[.slice (some ⟨gg, 0, none⟩) n n] := fun w2 h => BxS.fz H5.out h (fun e => by
            have a := HNE.out
            have b := HG3.out
            rcases e with e | e | e
            · exact a.2.2.1 e.symm
            · exact b.2.2 (Option.some.inj e)
            · exact a.2.2.2.2 e.symm)
          have BG : ∀ w1 w2, wr.grownBy w1 (some g) → Fz (fun b => b = gq ∨ b = g) w1 w2 → InB w2 gg n G' := fun w1 w2 h k => InB.fz (InB.keep HGG.out h (fun e => HG3.out.1 (Option.some.inj e).symm)) k (fun e => by
            rcases e with e | e
            · exact HNE.out.1 e.symm
            · exact HG3.out.1 e.symm)
          have HF2 : Hid _ := F2
          have H0 : Hid _ := B10
          have H55 : Hid _ := B5
          have HBG : Hid _ := BG
          clear F1 F2 B10 B5 BG
          go_wp2_with (first
            | (have _t := s0; clear s0; refine wpList_stF rfl _ _ rfl gq g c x T 0 rfl rfl HBB.out ?_; intro w1 hB1 g1; have c1 : w1.cell? ⟨g, 3, none⟩ = some (.int .i64 0) := hB1.row.cell (i := 0) (by simp) 3 _ rfl; have s1 : True := trivial)
            | (have _t := s1; clear s1; go_at_call 34; refine (HP0.out w1 hB1).mono ?_; rintro e w2 ⟨rfl, hB2, hF2⟩; have T1 := HT0.out w2 (HBG.out w1 w2 g1 hF2) (H0.out w2 (HF2.out w1 w2 g1 hF2)) (H55.out w2 (HF2.out w1 w2 g1 hF2)); have s2 : True := trivial)
            | (have _t := s2; clear s2; refine Hid.out ?_))
          unfold Hid
          apply_assumption
          refine wpList_ass rfl _ _ _ rfl _ _ rfl (Try.assLd _ _) ?_
          refine wpList_fld rfl _ _ _ rfl _ _ rfl (Try.fldLd _ _ _ _ _) ?_
          go_wp2_with (go_at_call 25; refine T1.mono ?_; rintro e w3 ⟨rfl, hi3, g3⟩)
          refine ⟨⟨r2, popH ltQ ld0 ({ x with lf := 0 } :: T), less L' x.pl x.lf, atG G' x.pl ((t : Int) + 1), rfl, ?_, hi3, ?_, ?_⟩, ?_⟩
          · have hB3 := hB2.keepR g3 (by simp; exact HNE.out.1) (by simp; exact HG3.out.1)
            exact hB3.qv HCM.out
          · exact Fz.step (HF2.out w1 w2 g1 hF2) g3 (fun k e _ => .inr (.inr (Option.some.inj e).symm))
          · obtain ⟨s1, s2, s3, s4, s5⟩ := hSD.out
            have hr2 := HR2.out
            refine ⟨HQS.out.1, by omega, HST.out.symm.trans s3, ?_, fun i => Nat.le_trans (less_le _ _ _ _) (s5 i)⟩
            have := HPL.out.2.2.1
            rw [this]
            simp at s4 ⊢
            omega
          · have hr2 := HR2.out
            have := HLE.out
            simp [intOf]
            omega
        · obtain ⟨z, hz⟩ : ∃ z, z = x.lf - R' := ⟨_, rfl⟩
          have hmin : min (R' : Int) (x.lf : Int) = (R' : Int) := by omega
          have hmin2 : min x.lf R' = R' := by omega
          have d1 : (x.lf : Int) - (R' : Int) = (z : Int) := by omega
          have hz0 : ((z : Int) == 0) = false := by
            have : ¬ (z : Int) = 0 := by omega
            exact beq_eq_false_iff_ne.2 this
          have hst := send_step (G := G') hSD.out.1 hR1
          rw [hmin2, if_neg hle, Nat.sub_self] at hst
          have hqs := QS.part (m := R') hSD.out.1 (by omega)
          rw [← hz] at hqs
          have HST : Hid _ := hst
          have HQS : Hid _ := hqs
          clear hst hqs hmin2 hz hle hxn
          go_wp2_with (first
            | (have _t := s0; clear s0; refine wpList_stF rfl _ _ rfl gq g c x T z rfl rfl HBB.out ?_; intro w1 hB1 g1; have c1 : w1.cell? ⟨g, 3, none⟩ = some (.int .i64 (z : Nat)) := hB1.row.cell (i := 0) (by simp) 3 _ rfl))
          refine ⟨⟨0, { x with lf := z } :: T, less L' x.pl R', G', rfl, hB1.qv HCM.out, HGG.out.keep g1 (by simp; exact fun e => HG3.out.1 e.symm), Fz.step FF.out g1 (fun k e _ => .inr (.inl (by cases e; rfl))), ?_⟩, ?_⟩
          · obtain ⟨s1, s2, s3, s4, s5⟩ := hSD.out
            exact ⟨HQS.out, Nat.zero_le _, HST.out.symm.trans s3, s4, fun i => Nat.le_trans (less_le _ _ _ _) (s5 i)⟩
          · simp [intOf]
            omega
end
end Go.Proofs.Ytnjdbbjhplebhaa
