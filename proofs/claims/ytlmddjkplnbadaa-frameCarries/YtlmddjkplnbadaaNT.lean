import Derived.Test.YtlmddjkplnbadaaXSY
import Derived.Test.YtlmddjkplnbadaaNUn3
import Derived.Test.YtlmddjkplnbadaaZSub
import Derived.Test.YtlmddjkplnbadaaPOp
namespace Go.Proofs.Ytlmddjkplnbadaa
open Go.RowKit
set_option maxRecDepth 100000
set_option linter.unusedVariables false
set_option linter.unusedSimpArgs false

theorem beL2 (x : Nat) : beL 2 x = [x / 256 % 256, x % 256] := by
  show [x / 2 ^ 8 % 256, x / 2 ^ 0 % 256] = _
  rw [Nat.pow_zero, Nat.div_one]
theorem beL1 (x : Nat) : beL 1 x = [x % 256] := by
  show [x / 2 ^ 0 % 256] = _
  rw [Nat.pow_zero, Nat.div_one]
theorem beL4 (x : Nat) : beL 4 x = [x / 16777216 % 256, x / 65536 % 256, x / 256 % 256, x % 256] := by
  show [x / 2 ^ 24 % 256, x / 2 ^ 16 % 256, x / 2 ^ 8 % 256, x / 2 ^ 0 % 256] = _
  rw [Nat.pow_zero, Nat.div_one]
/-- what is packed is unpacked -/
theorem un_paL (cr ch ma ow fi st : Nat) (D : List Nat) (h1 : cr ≤ 1023) (h2 : ch ≤ 7) (h3 : ma ≤ 255) (h4 : ow ≤ 255) (h5 : fi ≤ 2047) (h6 : st ≤ 4294967295) (h7 : 1 ≤ D.length ∧ D.length ≤ 2036) :
    unE (paL cr ch ma ow fi st D) = 0 ∧ unV (paL cr ch ma ow fi st D) = heA cr ch ma ow fi ∧ unD (paL cr ch ma ow fi st D) = D ∧ unS (paL cr ch ma ow fi st D) = st ∧ (paL cr ch ma ow fi st D).length = D.length + 12 := by
  have hs : sumB (paA cr ch ma ow fi st D) < 65536 := sumB_lt _
  have eY : paL cr ch ma ow fi st D = paA cr ch ma ow fi st D ++ [sumB (paA cr ch ma ow fi st D) / 256 % 256, sumB (paA cr ch ma ow fi st D) % 256] := by unfold paL; rw [beL2]
  have eA : paA cr ch ma ow fi st D = (paN cr ch / 256 % 256 :: paN cr ch % 256 :: ma % 256 :: ow % 256 :: (6144 + fi) / 256 % 256 :: (6144 + fi) % 256 :: D) ++ [st / 16777216 % 256, st / 65536 % 256, st / 256 % 256, st % 256] := by
    unfold paA; rw [beL2, beL1, beL1, beL2, beL4]; simp
  have lA : (paA cr ch ma ow fi st D).length = D.length + 10 := by rw [eA]; simp
  have eS : sumB (paA cr ch ma ow fi st D) = sumB (paA cr ch ma ow fi st D) := rfl
  generalize hgs : sumB (paA cr ch ma ow fi st D) = s at hs eY
  have hpN : paN cr ch = cr * 16 + ch * 2 + 1 := rfl
  have lY : (paL cr ch ma ow fi st D).length = D.length + 12 := by rw [eY, List.length_append, lA]; rfl
  have eY2 : paL cr ch ma ow fi st D = (paN cr ch / 256 % 256 :: paN cr ch % 256 :: ma % 256 :: ow % 256 :: (6144 + fi) / 256 % 256 :: (6144 + fi) % 256 :: D) ++ ([st / 16777216 % 256, st / 65536 % 256, st / 256 % 256, st % 256] ++ [s / 256 % 256, s % 256]) := by rw [eY, eA, List.append_assoc]
  have hd : (paL cr ch ma ow fi st D).drop (D.length + 10) = [s / 256 % 256, s % 256] := by rw [eY]; exact List.drop_left' lA
  have ht : (paL cr ch ma ow fi st D).take (D.length + 10) = paA cr ch ma ow fi st D := by rw [eY]; exact List.take_left' lA
  have hd6 : (paL cr ch ma ow fi st D).drop 6 = D ++ ([st / 16777216 % 256, st / 65536 % 256, st / 256 % 256, st % 256] ++ [s / 256 % 256, s % 256]) := by rw [eY2]; rfl
  have hds : (paL cr ch ma ow fi st D).drop (D.length + 6) = [st / 16777216 % 256, st / 65536 % 256, st / 256 % 256, st % 256] ++ [s / 256 % 256, s % 256] := by rw [eY2]; exact List.drop_left' (by simp)
  have n0 : nth (paL cr ch ma ow fi st D) 0 = paN cr ch / 256 % 256 := by rw [eY2]; rfl
  have n1 : nth (paL cr ch ma ow fi st D) 1 = paN cr ch % 256 := by rw [eY2]; rfl
  have n2 : nth (paL cr ch ma ow fi st D) 2 = ma % 256 := by rw [eY2]; rfl
  have n3 : nth (paL cr ch ma ow fi st D) 3 = ow % 256 := by rw [eY2]; rfl
  have n4 : nth (paL cr ch ma ow fi st D) 4 = (6144 + fi) / 256 % 256 := by rw [eY2]; rfl
  have n5 : nth (paL cr ch ma ow fi st D) 5 = (6144 + fi) % 256 := by rw [eY2]; rfl
  generalize paL cr ch ma ow fi st D = Y at *
  have hN : unN Y = cr * 16 + ch * 2 + 1 := by unfold unN; rw [n0, n1]; omega
  have hF : unF Y = 6144 + fi := by unfold unF; rw [n4, n5]; omega
  have hOk : unOk Y := by unfold unOk; rw [hN, hF]; omega
  have nm2 : numB [s / 256 % 256, s % 256] = s := by
    show (0 * 256 + s / 256 % 256) * 256 + s % 256 = s
    omega
  have hE : unE Y = 0 := by
    unfold unE
    have hsi : siB ((D.length + 12 : Nat) : Int) = true := decide_eq_true (by omega)
    rw [lY, if_pos hsi, show D.length + 12 - 2 = D.length + 10 by omega, hd, ht, nm2, hgs, if_pos rfl, if_pos hOk]
  refine ⟨hE, ?_, ?_, ?_, lY⟩
  · unfold unV
    rw [if_pos hE, hN, hF, n2, n3, show (cr * 16 + ch * 2 + 1) / 16 = cr by omega, show (cr * 16 + ch * 2 + 1) / 2 % 8 = ch by omega, show ma % 256 = ma by omega, show ow % 256 = ow by omega, show (6144 + fi) % 2048 = fi by omega]
  · unfold unD
    rw [if_pos hE, lY, hd6, show D.length + 12 - 12 = D.length by omega]
    exact List.take_left' rfl
  · unfold unS
    rw [if_pos hE, lY, show D.length + 12 - 6 = D.length + 6 by omega, hds]
    show (((0 * 256 + st / 16777216 % 256) * 256 + st / 65536 % 256) * 256 + st / 256 % 256) * 256 + st % 256 = st
    omega
theorem un_pak {cr ch ma ow fi st : Int} {D : List Nat} (h : paE cr ch ma ow fi st D.length = 0) :
    unE (pakL cr ch ma ow fi st D) = 0 ∧ unV (pakL cr ch ma ow fi st D) = heA cr ch ma ow fi ∧ unD (pakL cr ch ma ow fi st D) = D ∧ ((unS (pakL cr ch ma ow fi st D) : Nat) : Int) = st ∧ (pakL cr ch ma ow fi st D).length = D.length + 12 := by
  obtain ⟨_, _, _, a1, a2, a3, a4, a5, a6, a7⟩ := paE_ok h
  unfold pakL
  rw [if_pos h]
  obtain ⟨cr, rfl⟩ := Int.eq_ofNat_of_zero_le a1.1
  obtain ⟨ch, rfl⟩ := Int.eq_ofNat_of_zero_le a2.1
  obtain ⟨ma, rfl⟩ := Int.eq_ofNat_of_zero_le a3.1
  obtain ⟨ow, rfl⟩ := Int.eq_ofNat_of_zero_le a4.1
  obtain ⟨fi, rfl⟩ := Int.eq_ofNat_of_zero_le a5.1
  obtain ⟨st, rfl⟩ := Int.eq_ofNat_of_zero_le a6.1
  simp only [Int.toNat_natCast]
  obtain ⟨h1, h2, h3, h4, h5⟩ := un_paL cr ch ma ow fi st D (by omega) (by omega) (by omega) (by omega) (by omega) (by omega) a7
  exact ⟨h1, h2, h3, by rw [h4], h5⟩
/-- what is encoded is one packet -/
theorem enc_on (up se : Bool) (ap pt ct : Int) (D : List Nat) (h : mayE ap pt ct D.length = 0) : onP (encP up se ap pt ct D) = true ∧ (encP up se ap pt ct D).length = D.length + 6 := by
  obtain ⟨h1, _, _, _, _, _, h2, _⟩ := dc_enc up se ap pt ct D [] h
  rw [List.append_nil] at h1 h2
  have hl : (encP up se ap pt ct D).length = D.length + 6 := by unfold encP; rw [if_pos h, List.length_append, hdL_len]; omega
  refine ⟨?_, hl⟩
  unfold onP
  rw [h1, h2, hl]
  simp
theorem nxF_on (m : Nat) (hm : m ≤ 60000) : onP (nxF m) = true := by
  unfold nxF filL
  rw [if_pos (by omega)]
  have e : (((max m 7 : Nat) : Int) - 6).toNat = max m 7 - 6 := by omega
  rw [e]
  exact (enc_on false false 2047 3 0 (List.replicate (max m 7 - 6) 0) (by rw [List.length_replicate]; exact mayE_fill _ (by omega) (by omega))).1
theorem nx_on (f : Nat) : ∀ (m : Nat) (P : List (List Nat)) (go : Nat), m ≤ 60000 → (∀ x, x ∈ P → onP x = true) → (∀ x, P[0]? = some x → go < x.length) → (P = [] → go = 0) →
    (∀ x, x ∈ (nx f m P go).2.1 → onP x = true) ∧ (∀ x, (nx f m P go).2.1[0]? = some x → (nx f m P go).2.2 < x.length) ∧ ((nx f m P go).2.1 = [] → (nx f m P go).2.2 = 0) := by
  induction f with
  | zero => intro m P go _ h1 h2 h3; exact ⟨h1, h2, h3⟩
  | succ f ih =>
    intro m P go hm h1 h2 h3
    rw [nx]
    by_cases h0 : m = 0
    · rw [if_pos h0]; exact ⟨h1, h2, h3⟩
    · rw [if_neg h0]
      have hP : (∀ x, x ∈ (if P.length = 0 then [nxF m] else P) → onP x = true) ∧ (∀ x, (if P.length = 0 then [nxF m] else P)[0]? = some x → go < x.length) ∧ (if P.length = 0 then [nxF m] else P) ≠ [] := by
        split
        · rename_i hz
          have hP0 := List.eq_nil_of_length_eq_zero hz
          have hg := h3 hP0
          refine ⟨fun x hx => ?_, fun x hx => ?_, by simp⟩
          · rw [List.mem_singleton.1 hx]; exact nxF_on m hm
          · have hx : some (nxF m) = some x := hx
            rw [← Option.some.inj hx, hg, nxF_len m hm]; omega
        · rename_i hz
          exact ⟨h1, h2, fun e => hz (by rw [e]; rfl)⟩
      generalize (if P.length = 0 then [nxF m] else P) = P' at hP
      obtain ⟨p1, p2, p3⟩ := hP
      obtain ⟨x, T, rfl⟩ : ∃ x T, P' = x :: T := by
        cases P' with
        | nil => exact absurd rfl p3
        | cons x T => exact ⟨x, T, rfl⟩
      have hx0 := p2 x rfl
      by_cases h : x.length - go ≤ m
      · rw [if_pos (show ((x :: T).getD 0 []).length - go ≤ m from h)]
        refine ih (m - (x.length - go)) T 0 (by omega) (fun y hy => p1 y (List.mem_cons_of_mem _ hy)) (fun y hy => ?_) (fun _ => rfl)
        have := (onP_len (p1 y (List.mem_cons_of_mem _ (List.mem_of_getElem? hy)))).1
        omega
      · rw [if_neg (show ¬ ((x :: T).getD 0 []).length - go ≤ m from h)]
        refine ⟨p1, fun y hy => ?_, fun e => by cases e⟩
        have hy : some x = some y := hy
        rw [← Option.some.inj hy]
        show go + m < x.length
        omega
theorem nx_len (f : Nat) : ∀ (m : Nat) (P : List (List Nat)) (go : Nat), m ≤ 60000 → m ≤ f → (∀ x, x ∈ P → 1 ≤ x.length) → (∀ x, P[0]? = some x → go < x.length) → (P = [] → go = 0) → (nx f m P go).1.length = m := by
  induction f with
  | zero => intro m P go _ hm _ _ _; show 0 = m; omega
  | succ f ih =>
    intro m P go hm hf h1 h2 h3
    rw [nx]
    by_cases h0 : m = 0
    · rw [if_pos h0, h0]; rfl
    · rw [if_neg h0]
      have hP : (∀ x, x ∈ (if P.length = 0 then [nxF m] else P) → 1 ≤ x.length) ∧ (∀ x, (if P.length = 0 then [nxF m] else P)[0]? = some x → go < x.length) ∧ (if P.length = 0 then [nxF m] else P) ≠ [] := by
        split
        · rename_i hz
          have hg := h3 (List.eq_nil_of_length_eq_zero hz)
          refine ⟨fun x hx => ?_, fun x hx => ?_, by simp⟩
          · rw [List.mem_singleton.1 hx, nxF_len m hm]; omega
          · have hx : some (nxF m) = some x := hx
            rw [← Option.some.inj hx, hg, nxF_len m hm]; omega
        · rename_i hz
          exact ⟨h1, h2, fun e => hz (by rw [e]; rfl)⟩
      generalize (if P.length = 0 then [nxF m] else P) = P' at hP
      obtain ⟨p1, p2, p3⟩ := hP
      obtain ⟨x, T, rfl⟩ : ∃ x T, P' = x :: T := by
        cases P' with
        | nil => exact absurd rfl p3
        | cons x T => exact ⟨x, T, rfl⟩
      have hx0 := p2 x rfl
      by_cases h : x.length - go ≤ m
      · rw [if_pos (show ((x :: T).getD 0 []).length - go ≤ m from h)]
        have := ih (m - (x.length - go)) T 0 (by omega) (by omega) (fun y hy => p1 y (List.mem_cons_of_mem _ hy)) (fun y hy => p1 y (List.mem_cons_of_mem _ (List.mem_of_getElem? hy))) (fun _ => rfl)
        show (x.drop go ++ (nx f (m - (x.length - go)) T 0).1).length = m
        rw [List.length_append, List.length_drop, this]
        omega
      · rw [if_neg (show ¬ ((x :: T).getD 0 []).length - go ≤ m from h)]
        show ((x.drop go).take m).length = m
        rw [List.length_take, List.length_drop]
        omega
theorem TK.len_eq {room TG g : Nat} {DA : List Nat} {TP P : List (List Nat)} (h : TK room DA TP TG [] P g) (hr : room ≤ 60000) : DA.length = room := by
  obtain ⟨f, hf, e1, _⟩ := h.ex
  have e1 : [] ++ (nx f (room - 0) P g).1 = DA := e1
  have hf : room - 0 ≤ f := hf
  rw [← e1, List.nil_append, nx_len f (room - 0) P g (by omega) hf (fun x hx => (h.ne x hx).1) h.go h.go0]
  rfl
theorem qu_next {q : Qd} {room g TG : Nat} {DA : List Nat} {TP : List (List Nat)} (hq : quD q = true) (hg : q.go = (g : Int)) (hr : room ≤ 60000) (hK : TK room DA TP TG [] q.P g) :
    quD ⟨(q.ow + 1) % 256, (TG : Int), TP⟩ = true ∧ TP.length ≤ max q.P.length 1 ∧ DA.length ≤ room := by
  obtain ⟨f, _, e1, e2⟩ := hK.ex
  unfold quD at hq ⊢
  simp only [Bool.and_eq_true, decide_eq_true_eq, List.all_eq_true] at hq
  obtain ⟨⟨⟨q1, q2⟩, q3⟩, q4⟩ := hq
  obtain ⟨r1, r2, r3⟩ := nx_on f (room - 0) q.P g (by omega) q3 hK.go hK.go0
  obtain ⟨_, s2, s3⟩ := nx_rows f (room - 0) q.P g (by omega)
  have e2 : (nx f (room - 0) q.P g).2 = (TP, TG) := e2
  have e1 : [] ++ (nx f (room - 0) q.P g).1 = DA := e1
  rw [List.nil_append] at e1
  rw [e1] at s3
  rw [e2] at r1 r2 r3 s2
  have r1 : ∀ x, x ∈ TP → onP x = true := r1
  have r2 : ∀ x, TP[0]? = some x → TG < x.length := r2
  have r3 : TP = [] → TG = 0 := r3
  have s2 : TP.length ≤ max q.P.length 1 := s2
  refine ⟨?_, s2, s3⟩
  simp only [Bool.and_eq_true, decide_eq_true_eq, List.all_eq_true]
  refine ⟨⟨⟨wiB_t (by omega), by omega⟩, r1⟩, ?_⟩
  cases TP with
  | nil => rw [if_pos (show ([] : List (List Nat)).length = 0 from rfl), r3 rfl]; rfl
  | cons x T =>
    have := r2 x rfl
    rw [if_neg (by simp)]
    refine wiB_t ⟨by omega, ?_⟩
    show (TG : Int) ≤ ((x.length : Nat) : Int) - 1
    omega
theorem seD_iff {cr sz ma tu : Int} {Qs : List Qd} : seD cr sz ma tu Qs = true ↔ opE cr sz = 0 ∧ (0 ≤ ma ∧ ma ≤ 255) ∧ (0 ≤ tu ∧ tu ≤ 6) ∧ Qs.length = 7 ∧ ∀ q, q ∈ Qs → quD q = true := by
  unfold seD wiB
  simp only [Bool.and_eq_true, decide_eq_true_eq, List.all_eq_true]
  constructor
  · rintro ⟨⟨⟨⟨a, b⟩, c⟩, d⟩, e⟩; exact ⟨a, b, c, d, e⟩
  · rintro ⟨a, b, c, d, e⟩; exact ⟨⟨⟨⟨a, b⟩, c⟩, d⟩, e⟩
theorem mem_setQ {L : List Qd} {i : Nat} {v x : Qd} (h : x ∈ L.set i v) : x ∈ L ∨ x = v := List.mem_or_eq_of_mem_set h
/-- some queue of the first j is not empty -/
def smB (Qs : List Qd) (j : Nat) : Bool := (List.range j).any fun c => decide (0 < (Qs.getD c qd0).P.length)
theorem smB_succ (Qs : List Qd) (j : Nat) : smB Qs (j + 1) = (smB Qs j || decide (0 < (Qs.getD j qd0).P.length)) := by
  unfold smB
  rw [List.range_succ, List.any_append]
  simp
/-- what Put does to a sender that may be -/
theorem pt_ok {cr sz ma tu : Int} {k c : Nat} {Qs : List Qd} {B : List Nat} (hs : seD cr sz ma tu Qs = true) (hk : ∀ q, q ∈ Qs → q.P.length ≤ k) (hk2 : k < 200) (hc : c < 7) (hB : onP B = true) :
    ptE cr sz ma tu Qs (c : Int) B = 0 ∧ (∀ z, ptX cr sz ma tu Qs z = z) ∧ seD cr sz ma tu (ptV cr sz ma tu Qs (c : Int) B) = true ∧ (∀ q, q ∈ ptV cr sz ma tu Qs (c : Int) B → q.P.length ≤ k + 1) ∧ ptV cr sz ma tu Qs (c : Int) B = Qs.set c ⟨(Qs.getD c qd0).ow, (Qs.getD c qd0).go, (Qs.getD c qd0).P ++ [B]⟩ := by
  obtain ⟨o1, o2, o3, o4, o5⟩ := seD_iff.1 hs
  have hcl : c < Qs.length := by omega
  have hqe : Qs.getD c qd0 = Qs[c] := by rw [List.getD_eq_getElem?_getD, List.getElem?_eq_getElem hcl]; rfl
  have hmem : Qs.getD c qd0 ∈ Qs := by rw [hqe]; exact List.getElem_mem hcl
  have hk1 := hk _ hmem
  have hE : ptE cr sz ma tu Qs (c : Int) B = 0 := by
    unfold ptE ptQ
    rw [if_pos hs, if_pos (wiB_t (by omega)), if_pos hB, Int.toNat_natCast, if_neg (by omega)]
  have hV : ptV cr sz ma tu Qs (c : Int) B = Qs.set c ⟨(Qs.getD c qd0).ow, (Qs.getD c qd0).go, (Qs.getD c qd0).P ++ [B]⟩ := by
    unfold ptV
    rw [if_pos hs, if_pos hE]
    unfold ptQ
    rw [Int.toNat_natCast]
  have hq := o5 _ hmem
  refine ⟨hE, fun z => ?_, ?_, ?_, hV⟩
  · unfold ptX; rw [if_pos hs]
  · rw [hV]
    refine seD_iff.2 ⟨o1, o2, o3, by rw [List.length_set]; exact o4, fun x hx => ?_⟩
    rcases mem_setQ hx with hx | rfl
    · exact o5 x hx
    · generalize Qs.getD c qd0 = q at hq hk1
      unfold quD at hq ⊢
      simp only [Bool.and_eq_true, decide_eq_true_eq, List.all_eq_true] at hq ⊢
      obtain ⟨⟨⟨q1, q2⟩, q3⟩, q4⟩ := hq
      refine ⟨⟨⟨q1, by rw [List.length_append]; show q.P.length + 1 ≤ 200; omega⟩, fun x hx => ?_⟩, ?_⟩
      · rcases List.mem_append.1 hx with h | h
        · exact q3 x h
        · rw [List.mem_singleton.1 h]; exact hB
      · rw [if_neg (by rw [List.length_append]; simp)]
        cases hP : q.P with
        | nil =>
          rw [hP] at q4
          rw [if_pos (show ([] : List (List Nat)).length = 0 from rfl)] at q4
          have q4 : q.go = 0 := of_decide_eq_true q4
          have := (onP_len hB).1
          rw [q4]
          refine wiB_t ⟨by omega, ?_⟩
          show (0 : Int) ≤ ((B.length : Nat) : Int) - 1
          omega
        | cons x T =>
          rw [hP] at q4
          rw [if_neg (by simp)] at q4
          exact q4
  · intro x hx
    rw [hV] at hx
    rcases mem_setQ hx with hx | rfl
    · have := hk x hx; omega
    · show ((Qs.getD c qd0).P ++ [B]).length ≤ k + 1
      rw [List.length_append]
      show _ + 1 ≤ _
      omega

theorem pickN_any (n of : Int) (w : World) (h1 : -9223372036854775808 ≤ n) (h2 : n ≤ 9223372036854775807) (ho : 0 < of) (ho2 : of ≤ 9223372036854775807) :
    Calls Try.prog 39 #[.int .i64 n, .int .i64 of] w fun e w' => ∃ v : Nat, (v : Int) < of ∧ e = .returned (.int .i64 v) ∧ w' = w := by
  by_cases hn : n < 0
  · have hnz : ¬ of = 0 := by omega
    go_enter Try.func39, Try.ntmps39
    go_wp2
    go_ret
    have p1 := Int.emod_nonneg (-(n + 1)) (show of ≠ 0 by omega)
    have p2 := Int.emod_lt_of_pos (-(n + 1)) ho
    have e : -((n + 1).tmod of) = (-(n + 1)) % of := by rw [← Int.neg_tmod, Int.tmod_eq_emod_of_nonneg (by omega)]
    refine ⟨((-(n + 1)) % of).toNat, by omega, ?_, rfl⟩
    refine congrArg (fun z => Ending.returned (Value.int .i64 z)) (?_ : -((n + 1).tmod of) = _)
    rw [e]; omega
  · have hnz : ¬ of = 0 := by omega
    go_enter Try.func39, Try.ntmps39
    go_wp2
    go_ret
    have p1 := Int.emod_nonneg n (show of ≠ 0 by omega)
    have p2 := Int.emod_lt_of_pos n ho
    refine ⟨(n % of).toNat, by omega, ?_, rfl⟩
    refine congrArg (fun z => Ending.returned (Value.int .i64 z)) (?_ : n % of = _)
    omega
/-- a job as it lies in memory -/
structure Jb where
  pu : Int
  ch : Int
  lo : Int
  ls : Bool
def Jb.cells (p : Jb) : List Value := [.int .i64 p.pu, .int .i64 p.ch, .int .i64 p.lo, .bool p.ls]
def Jb.ok (p : Jb) : Prop := (-9223372036854775808 ≤ p.pu ∧ p.pu ≤ 9223372036854775807) ∧ (-9223372036854775808 ≤ p.ch ∧ p.ch ≤ 9223372036854775807) ∧ (-9223372036854775808 ≤ p.lo ∧ p.lo ≤ 9223372036854775807)
/-- jobs as they are read -/
structure RdJb (w : World) (a : Option Addr) (n cap : Nat) (F : Nat → Jb) : Prop where
  le : n ≤ cap
  max : cap ≤ maxLen
  at' : 0 < n → ∃ b off, a = some ⟨b, off, none⟩ ∧ b < w.heap.size ∧ ∀ i, i < n → ∀ j, j < 4 → w.cell? ⟨b, off + (i * 4 + j), none⟩ = (F i).cells[j]?
  ok : ∀ i, i < n → (F i).ok
theorem RdJb.keep {w w' : World} {a : Option Addr} {n cap : Nat} {F : Nat → Jb} (h : RdJb w a n cap F) (hg : w.grownBy w' none) : RdJb w' a n cap F :=
  ⟨h.le, h.max, fun h0 => by
    obtain ⟨b, off, e, hb, hc⟩ := h.at' h0
    refine ⟨b, off, e, Nat.lt_of_lt_of_le hb hg.size, fun i hi j hj => ?_⟩
    rw [← hc i hi j hj]
    unfold World.cell?
    rw [hg.block b hb (by simp)], h.ok⟩
/-- how long each channel has waited, as it lies in memory -/
def WtR (w : World) (g : Nat) (L : List Nat) : Prop := BxS w g 3 (L.map fun (n : Nat) => Value.int .i64 (n : Int)).toArray
theorem WtR.cell {w : World} {g : Nat} {L : List Nat} (h : WtR w g L) (i : Nat) (hi : i < L.length) : w.cell? ⟨g, i, none⟩ = some (.int .i64 (nth L i : Nat)) := by
  rw [cell_of_row w g i _ _ _ h]
  unfold nth
  rw [List.getD_eq_getElem?_getD]
  simp [hi]
theorem WtR.free {w : World} {g : Nat} {L : List Nat} (h : WtR w g L) (i : Nat) : w.frozen? ⟨g, i, none⟩ = false := frozen_of_row w g i _ _ h
theorem WtR.set {w : World} {g : Nat} {L : List Nat} (h : WtR w g L) (i x : Nat) : WtR (w.setCell ⟨g, i, none⟩ (.int .i64 (x : Int))) g (L.set i x) := by
  unfold WtR BxS
  rw [heap_setCell_same w g i _ _ _ h]
  simp [List.map_set]
theorem WtR.keep {w w' : World} {g : Nat} {L : List Nat} {r : Option Nat} (h : WtR w g L) (hg : w.grownBy w' r) (hne : some g ≠ r) : WtR w' g L := BxS.keep h hg hne
theorem Try.info_intT : (Try.prog.info? 3).map (fun i => (i.zero, i.size, i.bytes)) = some (some (.int .i64 0), 1, 8) := by kernel_rfl
/-- 'make([]int, 7)' -/
theorem wpList_mk7 (w : World) {ops : Array Oper} {rest : List Oper} {o : Oper} {a : Act} {Q : Exit → Act → World → Prop} (hg : o.guard = none) (l c : Operand)
    (hop : o.op = Op.makeSlice 73 l c) (hl : a.eval l = .int .i64 7) (hc : a.eval c = .int .i64 7)
    (hK : ∀ w', WtR w' w.heap.size (List.replicate 7 0) → w.grownBy w' none → wpList Try.prog ops Q rest (a.put o.dst (.slice (some ⟨w.heap.size, 0, none⟩) 7 7)) w') :
    wpList Try.prog ops Q (o :: rest) a w := by
  obtain ⟨i0, hi, hz0, hz1, hz2⟩ := info_parts Try.info_intT
  refine wpList_make_full w hg l c 73 hop w.heap.size 3 i0 (.int .i64 0) 1 Try.underlying73 hi hz0 hz1 .i64 .i64 7 7 7 hl hc rfl rfl (by rw [hz2]; omega) (by decide) (Nat.le_refl _) ?_
  intro w' hown hgr
  refine hK w' ?_ hgr
  rcases hown.2 with ⟨h, _⟩ | ⟨g, cap, cur, hv, _, hh, h1, _, h3, h4⟩
  · simp at h
  · simp only [Value.slice.injEq, Option.some.injEq, Addr.mk.injEq] at hv
    obtain ⟨⟨hgg, _⟩, _, hcap⟩ := hv
    subst hgg; subst hcap
    unfold WtR BxS
    rw [hh]
    have e1 : cur.toList = (List.replicate 7 0).map (fun (n : Nat) => Value.int .i64 (n : Int)) := by
      have e2 : (madeCells (Value.int .i64 0).cells (7 * 1)).toList = (List.replicate 7 0).map (fun (n : Nat) => Value.int .i64 (n : Int)) := by kernel_rfl
      rw [← e2, ← h4, List.take_of_length_le (by simp; omega)]
    rw [← e1]
set_option maxHeartbeats 4000000 in
/-- a sender at first, in new memory -/
theorem open2_any (cr sz : Int) (w : World) (hE : opE cr sz = 0) : Calls Try.prog 23 #[.int .i64 cr, .int .i64 sz] w fun e w' => ∃ g, e = .returned (.tuple #[.agg #[.int .i64 cr, .int .i64 sz, .int .i64 0, .int .i64 0, .slice (some ⟨g, 0, none⟩) 7 7], .int .i64 0]) ∧ OwS w' w.heap.size (some ⟨g, 0, none⟩) 7 7 (List.replicate 7 qw0) (List.replicate 7 qd0) ∧ w.grownBy w' none := by
  have h0 := fun wz => fwrong_any cr sz wz
  have b0 := BxS.new w 38 #[.int .i64 0, .int .i64 0, .int .i64 0, .int .i64 0, .slice none 0 0]
  have g0 := World.grownBy_alloc w (.cells #[.int .i64 0, .int .i64 0, .int .i64 0, .int .i64 0, .slice none 0 0] 38) none
  have i5 := Try.info_se
  obtain ⟨i0, hi, hq0, hq1, hq2⟩ := info_parts Try.info_qu
  generalize hw0 : w.alloc (.cells #[.int .i64 0, .int .i64 0, .int .i64 0, .int .i64 0, .slice none 0 0] 38) = w0 at b0 g0
  have t1 : True := trivial
  rw [hE] at h0
  go_enter Try.func23, Try.ntmps23
  go_wp2_with (first
    | (go_at_call 51; have _t := t1; clear t1; refine (h0 _).mono ?_; rintro e wx ⟨rfl, hw⟩; have hw := hw.symm; subst hw; have t2 : True := trivial)
    | (at_make; have _t := t2; clear t2; refine wpList_make_full _ rfl _ _ 36 rfl w0.heap.size 83 i0 zq 3 Try.underlying36 hi hq0 hq1 .i64 .i64 7 7 7 rfl rfl rfl rfl (by rw [hq2]; omega) (by decide) (Nat.le_refl _) ?_; intro w2 hown g2; have b2 := b0.keep g2 (by simp); have t3 : True := trivial)
    | (have _t := t3; refine wpList_stX _ rfl _ (.tmp 4) (.tmp 17) rfl w.heap.size _ _ rfl rfl b2 i5 rfl (by simp [Value.oneCell']) ?_; clear t3; intro w9 b9 g9))
  rw [made_qf] at hown
  have l0 := b0.lt
  have hO2 := OwQ.zeros (lo := w0.heap.size) (own_baseG hown) (Nat.le_refl _)
  refine bodyPost_ret (results_cell1t rfl _ _ _ ⟨w.heap.size, 0, none⟩ _ (.int .i64 0) rfl (BxS.load (t := 38) b9 Try.underlying38 Try.info_se) rfl) rfl ?_
  exact ⟨_, rfl, ⟨(hO2.far g9 (by omega)).wide (by omega), by rfl⟩, grown_far (grown_trans g0 g2) g9 (fun q e => by cases e; exact Nat.le_refl _)⟩
/-- a box of another type than a sender's memory -/
theorem WkS.bx {w w' : World} {lo : Nat} {a : Option Addr} {n c g : Nat} {qs : List Qw} {Qs : List Qd} {t : TypeId} {cs : Array Value} (h : WkS w lo a n c qs Qs) (b : BxS w g t cs) (h0 : 83 ≠ t) (h1 : 22 ≠ t) (h2 : 5 ≠ t) (u : w.grownBy w' (some g)) : WkS w' lo a n c qs Qs :=
  h.fz (Fz.of1 u) (fun x hx e => by rw [e] at hx; exact h.o.box b h0 h1 h2 hx)
theorem grown_refl' (w : World) (g : Nat) : w.grownBy w (some g) := World.grownBy.refl _ _

open Go.ChangeShapes Go.WideShapes
theorem met_job {w : World} {full : Bool} {n : Nat} {cs : List Value} (h : (Sh.fcons 1 (.int .i64) (.fcons 1 (.int .i64) (.fcons 1 (.int .i64) (.fcons 1 .bool .fend)))).met w full cs n) : ∃ k : Jb, cs = k.cells ∧ k.ok := by
  obtain ⟨n0, m0, rfl, ⟨_, a, e0, k0⟩, n1, m1, rfl, ⟨_, b, e1, k1⟩, n2, m2, rfl, ⟨_, c, e2, k2⟩, n3, m3, rfl, ⟨_, d, e3⟩, e4, _⟩ := h
  refine ⟨⟨a, b, c, d⟩, ?_, bounds_i64 k0, bounds_i64 k1, bounds_i64 k2⟩
  unfold Jb.cells
  match cs with
  | [] => simp at e0
  | [_] => simp at e1
  | [_, _] => simp at e2
  | [_, _, _] => simp at e3
  | [x0, x1, x2, x3] => simp_all
  | x0 :: x1 :: x2 :: x3 :: x4 :: r => simp at e4

theorem shown_jobs {w : World} {full : Bool} {N : Nat} {v : Value} (h : (Sh.slice 4 32 (Sh.fcons 1 (.int .i64) (.fcons 1 (.int .i64) (.fcons 1 (.int .i64) (.fcons 1 .bool .fend))))).shown w full v N) : ∃ a len cap K, v = .slice a len cap ∧ RdJb w a len cap K := by
  have h : (Sh.slice 4 32 (Sh.fcons 1 (.int .i64) (.fcons 1 (.int .i64) (.fcons 1 (.int .i64) (.fcons 1 .bool .fend))))).met w full [v] N := h
  rcases h with ⟨rfl, e⟩ | ⟨x, len, cap, G, C, e, e', hl, hm, hf, hc⟩
  · cases e
    exact ⟨none, 0, 0, fun _ => ⟨0, 0, 0, false⟩, rfl, ⟨Nat.le_refl _, Nat.zero_le _, (fun h => by omega), (fun i h => by omega)⟩⟩
  · cases e
    have each : ∀ i, i < cap → ∃ k : Jb, (∀ j, j < 4 → w.cell? (x.add (i * 4 + j)) = k.cells[j]?) ∧ k.ok := by
      intro i hi
      obtain ⟨h1, h2, h3⟩ := hc i hi
      obtain ⟨k, e, hk⟩ := met_job h3
      refine ⟨k, fun j hj => ?_, hk⟩
      rw [h2 j hj, e]
    have hI : Inhabited Jb := ⟨⟨0, 0, 0, false⟩⟩
    obtain ⟨K, hK⟩ := Go.Deep.choose_lt each
    refine ⟨some x, len, cap, K, rfl, ⟨hl, hm, fun h0 => ?_, fun i hi => (hK i (by omega)).2⟩⟩
    obtain ⟨b, off, spot⟩ := x
    have hc0 := (hK 0 (by omega)).1 0 (by decide)
    have h0' : w.cell? (⟨b, off, spot⟩ : Addr) = some (.int .i64 (K 0).pu) := by simpa [Addr.add, Jb.cells] using hc0
    have hspot : spot = none := by simpa using World.cell?_spot h0'
    subst hspot
    refine ⟨b, off, rfl, World.block_lt_of_cell? w _ h0', fun i hi j hj => ?_⟩
    rw [← addr_add']
    exact (hK i (by omega)).1 j hj
end Go.Proofs.Ytlmddjkplnbadaa
