import Derived.Test.YtlmddjkplnbadaaXSY
import Derived.Test.YtlmddjkplnbadaaNUn3
import Derived.Test.YtlmddjkplnbadaaZSub
import Derived.Test.YtlmddjkplnbadaaPOp
namespace Go.Proofs.Ytlmddjkplnbadaa
open Go.RowKit
set_option maxRecDepth 100000
set_option linter.unusedVariables false
set_option linter.unusedSimpArgs false

theorem beL2 (x : Nat) : beL 2 x = [x / 256 % 256, x % 256] := by
  show [x / 2 ^ 8 % 256, x / 2 ^ 0 % 256] = _
  rw [Nat.pow_zero, Nat.div_one]
theorem beL1 (x : Nat) : beL 1 x = [x % 256] := by
  show [x / 2 ^ 0 % 256] = _
  rw [Nat.pow_zero, Nat.div_one]
theorem beL4 (x : Nat) : beL 4 x = [x / 16777216 % 256, x / 65536 % 256, x / 256 % 256, x % 256] := by
  show [x / 2 ^ 24 % 256, x / 2 ^ 16 % 256, x / 2 ^ 8 % 256, x / 2 ^ 0 % 256] = _
  rw [Nat.pow_zero, Nat.div_one]
/-- what is packed is unpacked -/
theorem un_paL (cr ch ma ow fi st : Nat) (D : List Nat) (h1 : cr ≤ 1023) (h2 : ch ≤ 7) (h3 : ma ≤ 255) (h4 : ow ≤ 255) (h5 : fi ≤ 2047) (h6 : st ≤ 4294967295) (h7 : 1 ≤ D.length ∧ D.length ≤ 2036) :
    unE (paL cr ch ma ow fi st D) = 0 ∧ unV (paL cr ch ma ow fi st D) = heA cr ch ma ow fi ∧ unD (paL cr ch ma ow fi st D) = D ∧ unS (paL cr ch ma ow fi st D) = st ∧ (paL cr ch ma ow fi st D).length = D.length + 12 := by
  have hs : sumB (paA cr ch ma ow fi st D) < 65536 := sumB_lt _
  have eY : paL cr ch ma ow fi st D = paA cr ch ma ow fi st D ++ [sumB (paA cr ch ma ow fi st D) / 256 % 256, sumB (paA cr ch ma ow fi st D) % 256] := by unfold paL; rw [beL2]
  have eA : paA cr ch ma ow fi st D = (paN cr ch / 256 % 256 :: paN cr ch % 256 :: ma % 256 :: ow % 256 :: (6144 + fi) / 256 % 256 :: (6144 + fi) % 256 :: D) ++ [st / 16777216 % 256, st / 65536 % 256, st / 256 % 256, st % 256] := by
    unfold paA; rw [beL2, beL1, beL1, beL2, beL4]; simp
  have lA : (paA cr ch ma ow fi st D).length = D.length + 10 := by rw [eA]; simp
  have eS : sumB (paA cr ch ma ow fi st D) = sumB (paA cr ch ma ow fi st D) := rfl
  generalize hgs : sumB (paA cr ch ma ow fi st D) = s at hs eY
  have hpN : paN cr ch = cr * 16 + ch * 2 + 1 := rfl
  have lY : (paL cr ch ma ow fi st D).length = D.length + 12 := by rw [eY, List.length_append, lA]; rfl
  have eY2 : paL cr ch ma ow fi st D = (paN cr ch / 256 % 256 :: paN cr ch % 256 :: ma % 256 :: ow % 256 :: (6144 + fi) / 256 % 256 :: (6144 + fi) % 256 :: D) ++ ([st / 16777216 % 256, st / 65536 % 256, st / 256 % 256, st % 256] ++ [s / 256 % 256, s % 256]) := by rw [eY, eA, List.append_assoc]
  have hd : (paL cr ch ma ow fi st D).drop (D.length + 10) = [s / 256 % 256, s % 256] := by rw [eY]; exact List.drop_left' lA
  have ht : (paL cr ch ma ow fi st D).take (D.length + 10) = paA cr ch ma ow fi st D := by rw [eY]; exact List.take_left' lA
  have hd6 : (paL cr ch ma ow fi st D).drop 6 = D ++ ([st / 16777216 % 256, st / 65536 % 256, st / 256 % 256, st % 256] ++ [s / 256 % 256, s % 256]) := by rw [eY2]; rfl
  have hds : (paL cr ch ma ow fi st D).drop (D.length + 6) = [st / 16777216 % 256, st / 65536 % 256, st / 256 % 256, st % 256] ++ [s / 256 % 256, s % 256] := by rw [eY2]; exact List.drop_left' (by simp)
  have n0 : nth (paL cr ch ma ow fi st D) 0 = paN cr ch / 256 % 256 := by rw [eY2]; rfl
  have n1 : nth (paL cr ch ma ow fi st D) 1 = paN cr ch % 256 := by rw [eY2]; rfl
  have n2 : nth (paL cr ch ma ow fi st D) 2 = ma % 256 := by rw [eY2]; rfl
  have n3 : nth (paL cr ch ma ow fi st D) 3 = ow % 256 := by rw [eY2]; rfl
  have n4 : nth (paL cr ch ma ow fi st D) 4 = (6144 + fi) / 256 % 256 := by rw [eY2]; rfl
  have n5 : nth (paL cr ch ma ow fi st D) 5 = (6144 + fi) % 256 := by rw [eY2]; rfl
  generalize paL cr ch ma ow fi st D = Y at *
  have hN : unN Y = cr * 16 + ch * 2 + 1 := by unfold unN; rw [n0, n1]; omega
  have hF : unF Y = 6144 + fi := by unfold unF; rw [n4, n5]; omega
  have hOk : unOk Y := by unfold unOk; rw [hN, hF]; omega
  have nm2 : numB [s / 256 % 256, s % 256] = s := by
    show (0 * 256 + s / 256 % 256) * 256 + s % 256 = s
    omega
  have hE : unE Y = 0 := by
    unfold unE
    have hsi : siB ((D.length + 12 : Nat) : Int) = true := decide_eq_true (by omega)
    rw [lY, if_pos hsi, show D.length + 12 - 2 = D.length + 10 by omega, hd, ht, nm2, hgs, if_pos rfl, if_pos hOk]
  refine ⟨hE, ?_, ?_, ?_, lY⟩
  · unfold unV
    rw [if_pos hE, hN, hF, n2, n3, show (cr * 16 + ch * 2 + 1) / 16 = cr by omega, show (cr * 16 + ch * 2 + 1) / 2 % 8 = ch by omega, show ma % 256 = ma by omega, show ow % 256 = ow by omega, show (6144 + fi) % 2048 = fi by omega]
  · unfold unD
    rw [if_pos hE, lY, hd6, show D.length + 12 - 12 = D.length by omega]
    exact List.take_left' rfl
  · unfold unS
    rw [if_pos hE, lY, show D.length + 12 - 6 = D.length + 6 by omega, hds]
    show (((0 * 256 + st / 16777216 % 256) * 256 + st / 65536 % 256) * 256 + st / 256 % 256) * 256 + st % 256 = st
    omega
theorem un_pak {cr ch ma ow fi st : Int} {D : List Nat} (h : paE cr ch ma ow fi st D.length = 0) :
    unE (pakL cr ch ma ow fi st D) = 0 ∧ unV (pakL cr ch ma ow fi st D) = heA cr ch ma ow fi ∧ unD (pakL cr ch ma ow fi st D) = D ∧ ((unS (pakL cr ch ma ow fi st D) : Nat) : Int) = st ∧ (pakL cr ch ma ow fi st D).length = D.length + 12 := by
  obtain ⟨_, _, _, a1, a2, a3, a4, a5, a6, a7⟩ := paE_ok h
  unfold pakL
  rw [if_pos h]
  obtain ⟨cr, rfl⟩ := Int.eq_ofNat_of_zero_le a1.1
  obtain ⟨ch, rfl⟩ := Int.eq_ofNat_of_zero_le a2.1
  obtain ⟨ma, rfl⟩ := Int.eq_ofNat_of_zero_le a3.1
  obtain ⟨ow, rfl⟩ := Int.eq_ofNat_of_zero_le a4.1
  obtain ⟨fi, rfl⟩ := Int.eq_ofNat_of_zero_le a5.1
  obtain ⟨st, rfl⟩ := Int.eq_ofNat_of_zero_le a6.1
  simp only [Int.toNat_natCast]
  obtain ⟨h1, h2, h3, h4, h5⟩ := un_paL cr ch ma ow fi st D (by omega) (by omega) (by omega) (by omega) (by omega) (by omega) a7
  exact ⟨h1, h2, h3, by rw [h4], h5⟩
/-- what is encoded is one packet -/
theorem enc_on (up se : Bool) (ap pt ct : Int) (D : List Nat) (h : mayE ap pt ct D.length = 0) : onP (encP up se ap pt ct D) = true ∧ (encP up se ap pt ct D).length = D.length + 6 := by
  obtain ⟨h1, _, _, _, _, _, h2, _⟩ := dc_enc up se ap pt ct D [] h
  rw [List.append_nil] at h1 h2
  have hl : (encP up se ap pt ct D).length = D.length + 6 := by unfold encP; rw [if_pos h, List.length_append, hdL_len]; omega
  refine ⟨?_, hl⟩
  unfold onP
  rw [h1, h2, hl]
  simp
theorem nxF_on (m : Nat) (hm : m ≤ 60000) : onP (nxF m) = true := by
  unfold nxF filL
  rw [if_pos (by omega)]
  have e : (((max m 7 : Nat) : Int) - 6).toNat = max m 7 - 6 := by omega
  rw [e]
  exact (enc_on false false 2047 3 0 (List.replicate (max m 7 - 6) 0) (by rw [List.length_replicate]; exact mayE_fill _ (by omega) (by omega))).1
theorem nx_on (f : Nat) : ∀ (m : Nat) (P : List (List Nat)) (go : Nat), m ≤ 60000 → (∀ x, x ∈ P → onP x = true) → (∀ x, P[0]? = some x → go < x.length) → (P = [] → go = 0) →
    (∀ x, x ∈ (nx f m P go).2.1 → onP x = true) ∧ (∀ x, (nx f m P go).2.1[0]? = some x → (nx f m P go).2.2 < x.length) ∧ ((nx f m P go).2.1 = [] → (nx f m P go).2.2 = 0) := by
  induction f with
  | zero => intro m P go _ h1 h2 h3; exact ⟨h1, h2, h3⟩
  | succ f ih =>
    intro m P go hm h1 h2 h3
    rw [nx]
    by_cases h0 : m = 0
    · rw [if_pos h0]; exact ⟨h1, h2, h3⟩
    · rw [if_neg h0]
      have hP : (∀ x, x ∈ (if P.length = 0 then [nxF m] else P) → onP x = true) ∧ (∀ x, (if P.length = 0 then [nxF m] else P)[0]? = some x → go < x.length) ∧ (if P.length = 0 then [nxF m] else P) ≠ [] := by
        split
        · rename_i hz
          have hP0 := List.eq_nil_of_length_eq_zero hz
          have hg := h3 hP0
          refine ⟨fun x hx => ?_, fun x hx => ?_, by simp⟩
          · rw [List.mem_singleton.1 hx]; exact nxF_on m hm
          · have hx : some (nxF m) = some x := hx
            rw [← Option.some.inj hx, hg, nxF_len m hm]; omega
        · rename_i hz
          exact ⟨h1, h2, fun e => hz (by rw [e]; rfl)⟩
      generalize (if P.length = 0 then [nxF m] else P) = P' at hP
      obtain ⟨p1, p2, p3⟩ := hP
      obtain ⟨x, T, rfl⟩ : ∃ x T, P' = x :: T := by
        cases P' with
        | nil => exact absurd rfl p3
        | cons x T => exact ⟨x, T, rfl⟩
      have hx0 := p2 x rfl
      by_cases h : x.length - go ≤ m
      · rw [if_pos (show ((x :: T).getD 0 []).length - go ≤ m from h)]
        refine ih (m - (x.length - go)) T 0 (by omega) (fun y hy => p1 y (List.mem_cons_of_mem _ hy)) (fun y hy => ?_) (fun _ => rfl)
        have := (onP_len (p1 y (List.mem_cons_of_mem _ (List.mem_of_getElem? hy)))).1
        omega
      · rw [if_neg (show ¬ ((x :: T).getD 0 []).length - go ≤ m from h)]
        refine ⟨p1, fun y hy => ?_, fun e => by cases e⟩
        have hy : some x = some y := hy
        rw [← Option.some.inj hy]
        show go + m < x.length
        omega
theorem nx_len (f : Nat) : ∀ (m : Nat) (P : List (List Nat)) (go : Nat), m ≤ 60000 → m ≤ f → (∀ x, x ∈ P → 1 ≤ x.length) → (∀ x, P[0]? = some x → go < x.length) → (P = [] → go = 0) → (nx f m P go).1.length = m := by
  induction f with
  | zero => intro m P go _ hm _ _ _; show 0 = m; omega
  | succ f ih =>
    intro m P go hm hf h1 h2 h3
    rw [nx]
    by_cases h0 : m = 0
    · rw [if_pos h0, h0]; rfl
    · rw [if_neg h0]
      have hP : (∀ x, x ∈ (if P.length = 0 then [nxF m] else P) → 1 ≤ x.length) ∧ (∀ x, (if P.length = 0 then [nxF m] else P)[0]? = some x → go < x.length) ∧ (if P.length = 0 then [nxF m] else P) ≠ [] := by
        split
        · rename_i hz
          have hg := h3 (List.eq_nil_of_length_eq_zero hz)
          refine ⟨fun x hx => ?_, fun x hx => ?_, by simp⟩
          · rw [List.mem_singleton.1 hx, nxF_len m hm]; omega
          · have hx : some (nxF m) = some x := hx
            rw [← Option.some.inj hx, hg, nxF_len m hm]; omega
        · rename_i hz
          exact ⟨h1, h2, fun e => hz (by rw [e]; rfl)⟩
      generalize (if P.length = 0 then [nxF m] else P) = P' at hP
      obtain ⟨p1, p2, p3⟩ := hP
      obtain ⟨x, T, rfl⟩ : ∃ x T, P' = x :: T := by
        cases P' with
        | nil => exact absurd rfl p3
        | cons x T => exact ⟨x, T, rfl⟩
      have hx0 := p2 x rfl
      by_cases h : x.length - go ≤ m
      · rw [if_pos (show ((x :: T).getD 0 []).length - go ≤ m from h)]
        have := ih (m - (x.length - go)) T 0 (by omega) (by omega) (fun y hy => p1 y (List.mem_cons_of_mem _ hy)) (fun y hy => p1 y (List.mem_cons_of_mem _ (List.mem_of_getElem? hy))) (fun _ => rfl)
        show (x.drop go ++ (nx f (m - (x.length - go)) T 0).1).length = m
        rw [List.length_append, List.length_drop, this]
        omega
      · rw [if_neg (show ¬ ((x :: T).getD 0 []).length - go ≤ m from h)]
        show ((x.drop go).take m).length = m
        rw [List.length_take, List.length_drop]
        omega
theorem TK.len_eq {room TG g : Nat} {DA : List Nat} {TP P : List (List Nat)} (h : TK room DA TP TG [] P g) (hr : room ≤ 60000) : DA.length = room := by
  obtain ⟨f, hf, e1, _⟩ := h.ex
  have e1 : [] ++ (nx f (room - 0) P g).1 = DA := e1
  have hf : room - 0 ≤ f := hf
  rw [← e1, List.nil_append, nx_len f (room - 0) P g (by omega) hf (fun x hx => (h.ne x hx).1) h.go h.go0]
  rfl
theorem qu_next {q : Qd} {room g TG : Nat} {DA : List Nat} {TP : List (List Nat)} (hq : quD q = true) (hg : q.go = (g : Int)) (hr : room ≤ 60000) (hK : TK room DA TP TG [] q.P g) :
    quD ⟨(q.ow + 1) % 256, (TG : Int), TP⟩ = true ∧ TP.length ≤ max q.P.length 1 ∧ DA.length ≤ room := by
  obtain ⟨f, _, e1, e2⟩ := hK.ex
  unfold quD at hq ⊢
  simp only [Bool.and_eq_true, decide_eq_true_eq, List.all_eq_true] at hq
  obtain ⟨⟨⟨q1, q2⟩, q3⟩, q4⟩ := hq
  obtain ⟨r1, r2, r3⟩ := nx_on f (room - 0) q.P g (by omega) q3 hK.go hK.go0
  obtain ⟨_, s2, s3⟩ := nx_rows f (room - 0) q.P g (by omega)
  have e2 : (nx f (room - 0) q.P g).2 = (TP, TG) := e2
  have e1 : [] ++ (nx f (room - 0) q.P g).1 = DA := e1
  rw [List.nil_append] at e1
  rw [e1] at s3
  rw [e2] at r1 r2 r3 s2
  have r1 : ∀ x, x ∈ TP → onP x = true := r1
  have r2 : ∀ x, TP[0]? = some x → TG < x.length := r2
  have r3 : TP = [] → TG = 0 := r3
  have s2 : TP.length ≤ max q.P.length 1 := s2
  refine ⟨?_, s2, s3⟩
  simp only [Bool.and_eq_true, decide_eq_true_eq, List.all_eq_true]
  refine ⟨⟨⟨wiB_t (by omega), by omega⟩, r1⟩, ?_⟩
  cases TP with
  | nil => rw [if_pos (show ([] : List (List Nat)).length = 0 from rfl), r3 rfl]; rfl
  | cons x T =>
    have := r2 x rfl
    rw [if_neg (by simp)]
    refine wiB_t ⟨by omega, ?_⟩
    show (TG : Int) ≤ ((x.length : Nat) : Int) - 1
    omega
theorem seD_iff {cr sz ma tu : Int} {Qs : List Qd} : seD cr sz ma tu Qs = true ↔ opE cr sz = 0 ∧ (0 ≤ ma ∧ ma ≤ 255) ∧ (0 ≤ tu ∧ tu ≤ 6) ∧ Qs.length = 7 ∧ ∀ q, q ∈ Qs → quD q = true := by
  unfold seD wiB
  simp only [Bool.and_eq_true, decide_eq_true_eq, List.all_eq_true]
  constructor
  · rintro ⟨⟨⟨⟨a, b⟩, c⟩, d⟩, e⟩; exact ⟨a, b, c, d, e⟩
  · rintro ⟨a, b, c, d, e⟩; exact ⟨⟨⟨⟨a, b⟩, c⟩, d⟩, e⟩
theorem mem_setQ {L : List Qd} {i : Nat} {v x : Qd} (h : x ∈ L.set i v) : x ∈ L ∨ x = v := List.mem_or_eq_of_mem_set h
/-- what the next frame does to a sender that may be -/
theorem nx_turn {cr n ma st : Int} {t k : Nat} {Qs : List Qd} (hs : seD cr n ma (t : Int) Qs = true) (hst : wiB st 4294967295 = true) (hk : ∀ q, q ∈ Qs → q.P.length ≤ k) :
    ∃ (MA : Int) (TU : Nat) (Q' : List Qd) (Y : List Nat) (ow fi : Int), NX cr n ma (t : Int) Qs st cr n MA (TU : Int) Q' Y 0 ∧ seD cr n MA (TU : Int) Q' = true ∧ (∀ q, q ∈ Q' → q.P.length ≤ k + 1) ∧ unE Y = 0 ∧ unV Y = heA cr ((chF t Qs 7 : Nat) : Int) ma ow fi ∧ TU = (if chF t Qs 7 = 7 then t else (chF t Qs 7 + 1) % 7) ∧ (Y.length : Int) = n := by
  obtain ⟨r0, r1, r2, r3, Q', Y, Er, hN⟩ := nx_ex cr n ma (t : Int) Qs st
  rcases hN.inv with ⟨h, _⟩ | ⟨_, h, _⟩ | ⟨_, _, room, t', CH, OW, FI, MA, TU, DA, V, hr, hsz, hma, htu, ht, hT, e0, e1, e2, e3, e4, e5, e6⟩
  · rw [hs] at h; cases h
  · rw [hst] at h; cases h
  · have et : t' = t := by omega
    subst et
    have hpa := nx_pa hs hst hsz hma hT
    have hs' := seD_iff.1 hs
    obtain ⟨o1, o2, o3, o4, o5⟩ := hs'
    rw [hpa] at e6
    rcases hT.inv with ⟨h, rfl, rfl, rfl, rfl, rfl, rfl, rfl⟩ | ⟨ch, g, TG, q, TP, h, hch, hq, hg, h0, hne, hK, rfl, rfl, rfl, rfl, rfl, rfl⟩
    · have hlD : (List.replicate room 0).length = room := List.length_replicate
      rw [← hlD] at hpa
      obtain ⟨u1, u2, _, _, u5⟩ := un_pak hpa
      rw [hlD] at u5
      rw [e5] at u1 u2 u5
      subst e0 e1 e2 e3 e4 e6
      refine ⟨_, t', Qs, Y, 0, 2046, hN, seD_iff.2 ⟨o1, by omega, by omega, o4, o5⟩, fun q hq => by have := hk q hq; omega, u1, ?_, ?_, by omega⟩
      · rw [u2, h]; rfl
      · rw [if_pos h]
    · obtain ⟨y1, y2, y3⟩ := qu_next (o5 q (List.mem_of_getElem? hq)) hg hr.2 hK
      have hlD : DA.length = room := hK.len_eq hr.2
      have hpa2 : paE cr (ch : Int) ma q.ow ((fiT q.P g room : Nat) : Int) st DA.length = 0 := by rw [hlD]; exact hpa
      obtain ⟨u1, u2, _, _, u5⟩ := un_pak hpa2
      rw [hlD] at u5
      rw [e5] at u1 u2 u5
      subst e0 e1 e2 e3 e4 e6
      refine ⟨_, (ch + 1) % 7, _, Y, q.ow, ((fiT q.P g room : Nat) : Int), hN, seD_iff.2 ⟨o1, by omega, by omega, by rw [List.length_set]; exact o4, fun x hx => ?_⟩, fun x hx => ?_, u1, ?_, ?_, by omega⟩
      · rcases mem_setQ hx with hx | rfl
        · exact o5 x hx
        · exact y1
      · rcases mem_setQ hx with hx | rfl
        · have := hk x hx; omega
        · have := hk q (List.mem_of_getElem? hq)
          show TP.length ≤ k + 1
          omega
      · rw [u2, h]
      · rw [h, if_neg (by omega)]
/-- the first of those asked: what chF answers -/
theorem chF_all (tu : Nat) (Qs : List Qd) (r : Nat) (hr : r ≤ 7) : (chF tu Qs r = 7 ∧ ∀ j, 7 - r ≤ j → j < 7 → (Qs.getD ((tu + j) % 7) qd0).P.length = 0) ∨
    ∃ j, 7 - r ≤ j ∧ j < 7 ∧ chF tu Qs r = (tu + j) % 7 ∧ 0 < (Qs.getD ((tu + j) % 7) qd0).P.length ∧ ∀ i, 7 - r ≤ i → i < j → (Qs.getD ((tu + i) % 7) qd0).P.length = 0 := by
  induction r with
  | zero => exact .inl ⟨rfl, fun j h1 h2 => by omega⟩
  | succ r ih =>
    have e67 : 7 - (r + 1) = 6 - r := by omega
    rw [e67]
    by_cases hc : 0 < (Qs.getD ((tu + (6 - r)) % 7) qd0).P.length
    · have e : chF tu Qs (r + 1) = (tu + (6 - r)) % 7 := if_pos hc
      exact .inr ⟨6 - r, Nat.le_refl _, by omega, e, hc, fun i h1 h2 => by omega⟩
    · have e : chF tu Qs (r + 1) = chF tu Qs r := if_neg hc
      rw [e]
      rcases ih (by omega) with ⟨h1, h2⟩ | ⟨j, j1, j2, j3, j4, j5⟩
      · refine .inl ⟨h1, fun j a b => ?_⟩
        by_cases ej : j = 6 - r
        · subst ej; omega
        · exact h2 j (by omega) b
      · refine .inr ⟨j, by omega, j2, j3, j4, fun i a b => ?_⟩
        by_cases ei : i = 6 - r
        · subst ei; omega
        · exact j5 i (by omega) b
/-- how long each has waited -/
def WOK (tu : Nat) (W : List Nat) : Prop := W.length = 7 ∧ ∀ c, c < 7 → nth W c + (c + 7 - tu) % 7 ≤ 6
/-- some queue of the first j is not empty -/
def smB (Qs : List Qd) (j : Nat) : Bool := (List.range j).any fun c => decide (0 < (Qs.getD c qd0).P.length)
theorem smB_succ (Qs : List Qd) (j : Nat) : smB Qs (j + 1) = (smB Qs j || decide (0 < (Qs.getD j qd0).P.length)) := by
  unfold smB
  rw [List.range_succ, List.any_append]
  simp
theorem smB_iff (Qs : List Qd) (j : Nat) : smB Qs j = true ↔ ∃ c, c < j ∧ 0 < (Qs.getD c qd0).P.length := by
  unfold smB
  rw [List.any_eq_true]
  constructor
  · rintro ⟨c, h1, h2⟩; exact ⟨c, List.mem_range.1 h1, of_decide_eq_true h2⟩
  · rintro ⟨c, h1, h2⟩; exact ⟨c, List.mem_range.2 h1, decide_eq_true h2⟩
theorem ch_some (tu : Nat) (Qs : List Qd) (ht : tu ≤ 6) : (chF tu Qs 7 = 7 ∧ smB Qs 7 = false) ∨ (chF tu Qs 7 < 7 ∧ smB Qs 7 = true) := by
  rcases chF_all tu Qs 7 (Nat.le_refl _) with ⟨h1, h2⟩ | ⟨j, j1, j2, j3, j4, j5⟩
  · refine .inl ⟨h1, ?_⟩
    cases hs : smB Qs 7 with
    | false => rfl
    | true =>
      obtain ⟨c, c1, c2⟩ := (smB_iff Qs 7).1 hs
      have := h2 ((c + 7 - tu) % 7) (by omega) (by omega)
      rw [show (tu + (c + 7 - tu) % 7) % 7 = c by omega] at this
      omega
  · refine .inr ⟨by omega, (smB_iff Qs 7).2 ⟨(tu + j) % 7, by omega, j4⟩⟩
theorem nthS_set (W : List Nat) (i j v : Nat) (h : i < W.length) : nth (W.set i v) j = if i = j then v else nth W j := nth_set W i v j h
theorem wok_next {tu : Nat} {W W' : List Nat} {Qs : List Qd} (ht : tu ≤ 6) (hW : WOK tu W) (hl : W'.length = 7) (hW' : ∀ c, c < 7 → nth W' c = if 0 < (Qs.getD c qd0).P.length then nth W c + 1 else 0) :
    (chF tu Qs 7 = 7 → WOK tu W') ∧ (chF tu Qs 7 < 7 → WOK ((chF tu Qs 7 + 1) % 7) (W'.set (chF tu Qs 7) 0)) := by
  rcases chF_all tu Qs 7 (Nat.le_refl _) with ⟨h1, h2⟩ | ⟨j, j1, j2, j3, j4, j5⟩
  · refine ⟨fun _ => ⟨hl, fun c hc => ?_⟩, fun h => by omega⟩
    have := h2 ((c + 7 - tu) % 7) (by omega) (by omega)
    rw [show (tu + (c + 7 - tu) % 7) % 7 = c by omega] at this
    rw [hW' c hc, if_neg (by omega)]
    omega
  · refine ⟨fun h => by omega, fun _ => ⟨by rw [List.length_set]; exact hl, fun c hc => ?_⟩⟩
    rw [nthS_set _ _ _ _ (by omega)]
    have hw := hW.2 c hc
    rw [hW' c hc, j3]
    by_cases ec : (tu + j) % 7 = c
    · rw [if_pos ec]; omega
    · rw [if_neg ec]
      by_cases hp : 0 < (Qs.getD c qd0).P.length
      · rw [if_pos hp]
        have hji : j < (c + 7 - tu) % 7 := by
          rcases Nat.lt_or_ge j ((c + 7 - tu) % 7) with h | h
          · exact h
          · exfalso
            have hne : (c + 7 - tu) % 7 ≠ j := fun e => by omega
            have := j5 ((c + 7 - tu) % 7) (by omega) (by omega)
            rw [show (tu + (c + 7 - tu) % 7) % 7 = c by omega] at this
            omega
        omega
      · rw [if_neg hp]; omega
/-- what Put does to a sender that may be -/
theorem pt_ok {cr sz ma tu : Int} {k c : Nat} {Qs : List Qd} {B : List Nat} (hs : seD cr sz ma tu Qs = true) (hk : ∀ q, q ∈ Qs → q.P.length ≤ k) (hk2 : k < 200) (hc : c < 7) (hB : onP B = true) :
    ptE cr sz ma tu Qs (c : Int) B = 0 ∧ (∀ z, ptX cr sz ma tu Qs z = z) ∧ seD cr sz ma tu (ptV cr sz ma tu Qs (c : Int) B) = true ∧ (∀ q, q ∈ ptV cr sz ma tu Qs (c : Int) B → q.P.length ≤ k + 1) ∧ ptV cr sz ma tu Qs (c : Int) B = Qs.set c ⟨(Qs.getD c qd0).ow, (Qs.getD c qd0).go, (Qs.getD c qd0).P ++ [B]⟩ := by
  obtain ⟨o1, o2, o3, o4, o5⟩ := seD_iff.1 hs
  have hcl : c < Qs.length := by omega
  have hqe : Qs.getD c qd0 = Qs[c] := by rw [List.getD_eq_getElem?_getD, List.getElem?_eq_getElem hcl]; rfl
  have hmem : Qs.getD c qd0 ∈ Qs := by rw [hqe]; exact List.getElem_mem hcl
  have hk1 := hk _ hmem
  have hE : ptE cr sz ma tu Qs (c : Int) B = 0 := by
    unfold ptE ptQ
    rw [if_pos hs, if_pos (wiB_t (by omega)), if_pos hB, Int.toNat_natCast, if_neg (by omega)]
  have hV : ptV cr sz ma tu Qs (c : Int) B = Qs.set c ⟨(Qs.getD c qd0).ow, (Qs.getD c qd0).go, (Qs.getD c qd0).P ++ [B]⟩ := by
    unfold ptV
    rw [if_pos hs, if_pos hE]
    unfold ptQ
    rw [Int.toNat_natCast]
  have hq := o5 _ hmem
  refine ⟨hE, fun z => ?_, ?_, ?_, hV⟩
  · unfold ptX; rw [if_pos hs]
  · rw [hV]
    refine seD_iff.2 ⟨o1, o2, o3, by rw [List.length_set]; exact o4, fun x hx => ?_⟩
    rcases mem_setQ hx with hx | rfl
    · exact o5 x hx
    · generalize Qs.getD c qd0 = q at hq hk1
      unfold quD at hq ⊢
      simp only [Bool.and_eq_true, decide_eq_true_eq, List.all_eq_true] at hq ⊢
      obtain ⟨⟨⟨q1, q2⟩, q3⟩, q4⟩ := hq
      refine ⟨⟨⟨q1, by rw [List.length_append]; show q.P.length + 1 ≤ 200; omega⟩, fun x hx => ?_⟩, ?_⟩
      · rcases List.mem_append.1 hx with h | h
        · exact q3 x h
        · rw [List.mem_singleton.1 h]; exact hB
      · rw [if_neg (by rw [List.length_append]; simp)]
        cases hP : q.P with
        | nil =>
          rw [hP] at q4
          rw [if_pos (show ([] : List (List Nat)).length = 0 from rfl)] at q4
          have q4 : q.go = 0 := of_decide_eq_true q4
          have := (onP_len hB).1
          rw [q4]
          refine wiB_t ⟨by omega, ?_⟩
          show (0 : Int) ≤ ((B.length : Nat) : Int) - 1
          omega
        | cons x T =>
          rw [hP] at q4
          rw [if_neg (by simp)] at q4
          exact q4
  · intro x hx
    rw [hV] at hx
    rcases mem_setQ hx with hx | rfl
    · have := hk x hx; omega
    · show ((Qs.getD c qd0).P ++ [B]).length ≤ k + 1
      rw [List.length_append]
      show _ + 1 ≤ _
      omega

theorem pickN_any (n of : Int) (w : World) (h1 : -9223372036854775808 ≤ n) (h2 : n ≤ 9223372036854775807) (ho : 0 < of) (ho2 : of ≤ 9223372036854775807) :
    Calls Try.prog 39 #[.int .i64 n, .int .i64 of] w fun e w' => ∃ v : Nat, (v : Int) < of ∧ e = .returned (.int .i64 v) ∧ w' = w := by
  by_cases hn : n < 0
  · have hnz : ¬ of = 0 := by omega
    go_enter Try.func39, Try.ntmps39
    go_wp2
    go_ret
    have p1 := Int.emod_nonneg (-(n + 1)) (show of ≠ 0 by omega)
    have p2 := Int.emod_lt_of_pos (-(n + 1)) ho
    have e : -((n + 1).tmod of) = (-(n + 1)) % of := by rw [← Int.neg_tmod, Int.tmod_eq_emod_of_nonneg (by omega)]
    refine ⟨((-(n + 1)) % of).toNat, by omega, ?_, rfl⟩
    refine congrArg (fun z => Ending.returned (Value.int .i64 z)) (?_ : -((n + 1).tmod of) = _)
    rw [e]; omega
  · have hnz : ¬ of = 0 := by omega
    go_enter Try.func39, Try.ntmps39
    go_wp2
    go_ret
    have p1 := Int.emod_nonneg n (show of ≠ 0 by omega)
    have p2 := Int.emod_lt_of_pos n ho
    refine ⟨(n % of).toNat, by omega, ?_, rfl⟩
    refine congrArg (fun z => Ending.returned (Value.int .i64 z)) (?_ : n % of = _)
    omega
/-- a job as it lies in memory -/
structure Jb where
  pu : Int
  ch : Int
  lo : Int
  ls : Bool
def Jb.cells (p : Jb) : List Value := [.int .i64 p.pu, .int .i64 p.ch, .int .i64 p.lo, .bool p.ls]
def Jb.ok (p : Jb) : Prop := (-9223372036854775808 ≤ p.pu ∧ p.pu ≤ 9223372036854775807) ∧ (-9223372036854775808 ≤ p.ch ∧ p.ch ≤ 9223372036854775807) ∧ (-9223372036854775808 ≤ p.lo ∧ p.lo ≤ 9223372036854775807)
/-- jobs as they are read -/
structure RdJb (w : World) (a : Option Addr) (n cap : Nat) (F : Nat → Jb) : Prop where
  le : n ≤ cap
  max : cap ≤ maxLen
  at' : 0 < n → ∃ b off, a = some ⟨b, off, none⟩ ∧ b < w.heap.size ∧ ∀ i, i < n → ∀ j, j < 4 → w.cell? ⟨b, off + (i * 4 + j), none⟩ = (F i).cells[j]?
  ok : ∀ i, i < n → (F i).ok
theorem RdJb.keep {w w' : World} {a : Option Addr} {n cap : Nat} {F : Nat → Jb} (h : RdJb w a n cap F) (hg : w.grownBy w' none) : RdJb w' a n cap F :=
  ⟨h.le, h.max, fun h0 => by
    obtain ⟨b, off, e, hb, hc⟩ := h.at' h0
    refine ⟨b, off, e, Nat.lt_of_lt_of_le hb hg.size, fun i hi j hj => ?_⟩
    rw [← hc i hi j hj]
    unfold World.cell?
    rw [hg.block b hb (by simp)], h.ok⟩
/-- how long each channel has waited, as it lies in memory -/
def WtR (w : World) (g : Nat) (L : List Nat) : Prop := BxS w g 3 (L.map fun (n : Nat) => Value.int .i64 (n : Int)).toArray
theorem WtR.cell {w : World} {g : Nat} {L : List Nat} (h : WtR w g L) (i : Nat) (hi : i < L.length) : w.cell? ⟨g, i, none⟩ = some (.int .i64 (nth L i : Nat)) := by
  rw [cell_of_row w g i _ _ _ h]
  unfold nth
  rw [List.getD_eq_getElem?_getD]
  simp [hi]
theorem WtR.free {w : World} {g : Nat} {L : List Nat} (h : WtR w g L) (i : Nat) : w.frozen? ⟨g, i, none⟩ = false := frozen_of_row w g i _ _ h
theorem WtR.set {w : World} {g : Nat} {L : List Nat} (h : WtR w g L) (i x : Nat) : WtR (w.setCell ⟨g, i, none⟩ (.int .i64 (x : Int))) g (L.set i x) := by
  unfold WtR BxS
  rw [heap_setCell_same w g i _ _ _ h]
  simp [List.map_set]
theorem WtR.keep {w w' : World} {g : Nat} {L : List Nat} {r : Option Nat} (h : WtR w g L) (hg : w.grownBy w' r) (hne : some g ≠ r) : WtR w' g L := BxS.keep h hg hne
theorem Try.info_intT : (Try.prog.info? 3).map (fun i => (i.zero, i.size, i.bytes)) = some (some (.int .i64 0), 1, 8) := by kernel_rfl
/-- 'make([]int, 7)' -/
theorem wpList_mk7 (w : World) {ops : Array Oper} {rest : List Oper} {o : Oper} {a : Act} {Q : Exit → Act → World → Prop} (hg : o.guard = none) (l c : Operand)
    (hop : o.op = Op.makeSlice 73 l c) (hl : a.eval l = .int .i64 7) (hc : a.eval c = .int .i64 7)
    (hK : ∀ w', WtR w' w.heap.size (List.replicate 7 0) → w.grownBy w' none → wpList Try.prog ops Q rest (a.put o.dst (.slice (some ⟨w.heap.size, 0, none⟩) 7 7)) w') :
    wpList Try.prog ops Q (o :: rest) a w := by
  obtain ⟨i0, hi, hz0, hz1, hz2⟩ := info_parts Try.info_intT
  refine wpList_make_full w hg l c 73 hop w.heap.size 3 i0 (.int .i64 0) 1 Try.underlying73 hi hz0 hz1 .i64 .i64 7 7 7 hl hc rfl rfl (by rw [hz2]; omega) (by decide) (Nat.le_refl _) ?_
  intro w' hown hgr
  refine hK w' ?_ hgr
  rcases hown.2 with ⟨h, _⟩ | ⟨g, cap, cur, hv, _, hh, h1, _, h3, h4⟩
  · simp at h
  · simp only [Value.slice.injEq, Option.some.injEq, Addr.mk.injEq] at hv
    obtain ⟨⟨hgg, _⟩, _, hcap⟩ := hv
    subst hgg; subst hcap
    unfold WtR BxS
    rw [hh]
    have e1 : cur.toList = (List.replicate 7 0).map (fun (n : Nat) => Value.int .i64 (n : Int)) := by
      have e2 : (madeCells (Value.int .i64 0).cells (7 * 1)).toList = (List.replicate 7 0).map (fun (n : Nat) => Value.int .i64 (n : Int)) := by kernel_rfl
      rw [← e2, ← h4, List.take_of_length_le (by simp; omega)]
    rw [← e1]
set_option maxHeartbeats 4000000 in
/-- a sender at first, in new memory -/
theorem open2_any (cr sz : Int) (w : World) (hE : opE cr sz = 0) : Calls Try.prog 23 #[.int .i64 cr, .int .i64 sz] w fun e w' => ∃ g, e = .returned (.tuple #[.agg #[.int .i64 cr, .int .i64 sz, .int .i64 0, .int .i64 0, .slice (some ⟨g, 0, none⟩) 7 7], .int .i64 0]) ∧ OwS w' w.heap.size (some ⟨g, 0, none⟩) 7 7 (List.replicate 7 qw0) (List.replicate 7 qd0) ∧ w.grownBy w' none := by
  have h0 := fun wz => fwrong_any cr sz wz
  have b0 := BxS.new w 38 #[.int .i64 0, .int .i64 0, .int .i64 0, .int .i64 0, .slice none 0 0]
  have g0 := World.grownBy_alloc w (.cells #[.int .i64 0, .int .i64 0, .int .i64 0, .int .i64 0, .slice none 0 0] 38) none
  have i5 := Try.info_se
  obtain ⟨i0, hi, hq0, hq1, hq2⟩ := info_parts Try.info_qu
  generalize hw0 : w.alloc (.cells #[.int .i64 0, .int .i64 0, .int .i64 0, .int .i64 0, .slice none 0 0] 38) = w0 at b0 g0
  have t1 : True := trivial
  rw [hE] at h0
  go_enter Try.func23, Try.ntmps23
  go_wp2_with (first
    | (go_at_call 51; have _t := t1; clear t1; refine (h0 _).mono ?_; rintro e wx ⟨rfl, hw⟩; have hw := hw.symm; subst hw; have t2 : True := trivial)
    | (at_make; have _t := t2; clear t2; refine wpList_make_full _ rfl _ _ 36 rfl w0.heap.size 83 i0 zq 3 Try.underlying36 hi hq0 hq1 .i64 .i64 7 7 7 rfl rfl rfl rfl (by rw [hq2]; omega) (by decide) (Nat.le_refl _) ?_; intro w2 hown g2; have b2 := b0.keep g2 (by simp); have t3 : True := trivial)
    | (have _t := t3; refine wpList_stX _ rfl _ (.tmp 4) (.tmp 17) rfl w.heap.size _ _ rfl rfl b2 i5 rfl (by simp [Value.oneCell']) ?_; clear t3; intro w9 b9 g9))
  rw [made_qf] at hown
  have l0 := b0.lt
  have hO2 := OwQ.zeros (lo := w0.heap.size) (own_baseG hown) (Nat.le_refl _)
  refine bodyPost_ret (results_cell1t rfl _ _ _ ⟨w.heap.size, 0, none⟩ _ (.int .i64 0) rfl (BxS.load (t := 38) b9 Try.underlying38 Try.info_se) rfl) rfl ?_
  exact ⟨_, rfl, ⟨(hO2.far g9 (by omega)).wide (by omega), by rfl⟩, grown_far (grown_trans g0 g2) g9 (fun q e => by cases e; exact Nat.le_refl _)⟩
/-- a box of another type than a sender's memory -/
theorem WkS.bx {w w' : World} {lo : Nat} {a : Option Addr} {n c g : Nat} {qs : List Qw} {Qs : List Qd} {t : TypeId} {cs : Array Value} (h : WkS w lo a n c qs Qs) (b : BxS w g t cs) (h0 : 83 ≠ t) (h1 : 22 ≠ t) (h2 : 5 ≠ t) (u : w.grownBy w' (some g)) : WkS w' lo a n c qs Qs :=
  h.fz (Fz.of1 u) (fun x hx e => by rw [e] at hx; exact h.o.box b h0 h1 h2 hx)
/-- a sender and the waits, between two jobs -/
structure TuS (w : World) (g6 g8 : Nat) (N : Int) (k : Nat) : Prop where
  ex : ∃ (ma : Int) (t : Nat) (a : Option Addr) (c lo : Nat) (qs : List Qw) (Qs : List Qd) (W : List Nat), BxS w g6 38 #[.int .i64 3, .int .i64 N, .int .i64 ma, .int .i64 (t : Int), .slice a 7 c] ∧ WkS w lo a 7 c qs Qs ∧ seD 3 N ma (t : Int) Qs = true ∧ (∀ q, q ∈ Qs → q.P.length ≤ k) ∧ WtR w g8 W ∧ WOK t W
theorem grown_refl' (w : World) (g : Nat) : w.grownBy w (some g) := World.grownBy.refl _ _

set_option maxHeartbeats 16000000 in
/-- from 'if h.Channel < 7' on -/
theorem tu_t34 {u0 u1 u2 u3 u4 u5 u6 u7 u9 u10 u11 u12 u13 u14 u15 u17 u18 u19 u20 u21 u22 u23 u24 u25 u26 u27 u28 u29 u30 u31 u32 u33 u34 u35 u36 u37 u38 u39 u40 u41 u42 u43 u44 u45 u46 u47 u48 u49 u50 u51 u52 u53 u54 u55 u56 u57 u58 u59 u60 u61 u62 u63 u64 u65 u66 u67 u68 u69 u70 u71 u72 u73 u74 u75 u76 u77 u78 u79 u80 u81 u82 u83 u84 u85 u86 u87 u88 u89 u90 u91 u92 u93 u94 u95 u96 u97 u98 u99 u100 u101 u102 u103 u104 u105 u106 u107 u108 u109 u110 u111 u112 u113 u114 u115 u116 u117 u118 u119 u120 u121 u122 u123 u124 u125 u126 u127 u128 u129 u130 u131 u132 u133 u134 u135 u136 u137 u138 u139 u140 u141 u142 u143 u144 u145 u146 u147 u148 u149 u150 u151 u152 u153 u154 u155 u156 u157 u158 u159 u160 u161 u162 u163 u164 u165 u166 u167 u168 u169 u170 u171 u172 u173 u174 u175 u176 u177 u178 u179 u180 : Value} (Q : Exit → Act → World → Prop) (w : World) (g8 g16 ch : Nat) (cr ma ow fi : Int) (W W2 : List Nat) (hW : WtR w g8 W) (b16 : BxS w g16 28 (heA cr (ch : Int) ma ow fi)) (hch : ch ≤ 7) (hl : W.length = 7) (hW2 : W2 = if ch < 7 then W.set ch 0 else W) (hok : ∀ c, c < 7 → nth W2 c ≤ 6)
    (hQ : ∀ {z4 z20 z157 z158 z159 z160 z161 z162 z163 z164 z165 z166 z167 z168 z169 z170 z171 z172 : Value} w', WtR w' g8 W2 → w.grownBy w' (some g8) → Q .normal (Act.mk (List.toArray (u0 :: u1 :: u2 :: u3 :: z4 :: u5 :: u6 :: u7 :: (.slice (some ⟨g8, 0, none⟩) 7 7) :: u9 :: u10 :: u11 :: u12 :: u13 :: u14 :: u15 :: (.pointer (some ⟨g16, 0, none⟩)) :: u17 :: u18 :: u19 :: z20 :: u21 :: u22 :: u23 :: u24 :: u25 :: u26 :: u27 :: u28 :: u29 :: u30 :: u31 :: u32 :: u33 :: u34 :: u35 :: u36 :: u37 :: u38 :: u39 :: u40 :: u41 :: u42 :: u43 :: u44 :: u45 :: u46 :: u47 :: u48 :: u49 :: u50 :: u51 :: u52 :: u53 :: u54 :: u55 :: u56 :: u57 :: u58 :: u59 :: u60 :: u61 :: u62 :: u63 :: u64 :: u65 :: u66 :: u67 :: u68 :: u69 :: u70 :: u71 :: u72 :: u73 :: u74 :: u75 :: u76 :: u77 :: u78 :: u79 :: u80 :: u81 :: u82 :: u83 :: u84 :: u85 :: u86 :: u87 :: u88 :: u89 :: u90 :: u91 :: u92 :: u93 :: u94 :: u95 :: u96 :: u97 :: u98 :: u99 :: u100 :: u101 :: u102 :: u103 :: u104 :: u105 :: u106 :: u107 :: u108 :: u109 :: u110 :: u111 :: u112 :: u113 :: u114 :: u115 :: u116 :: u117 :: u118 :: u119 :: u120 :: u121 :: u122 :: u123 :: u124 :: u125 :: u126 :: u127 :: u128 :: u129 :: u130 :: u131 :: u132 :: u133 :: u134 :: u135 :: u136 :: u137 :: u138 :: u139 :: u140 :: u141 :: u142 :: u143 :: u144 :: u145 :: u146 :: u147 :: u148 :: u149 :: u150 :: u151 :: u152 :: u153 :: u154 :: u155 :: u156 :: z157 :: z158 :: z159 :: z160 :: z161 :: z162 :: z163 :: z164 :: z165 :: z166 :: z167 :: z168 :: z169 :: z170 :: z171 :: z172 :: u173 :: u174 :: u175 :: u176 :: u177 :: u178 :: u179 :: u180 :: [])) []) w') :
    Code.wp Try.prog (tailR 34 (Try.f11.body.getD .skip)) Q (Act.mk (List.toArray (u0 :: u1 :: u2 :: u3 :: u4 :: u5 :: u6 :: u7 :: (.slice (some ⟨g8, 0, none⟩) 7 7) :: u9 :: u10 :: u11 :: u12 :: u13 :: u14 :: u15 :: (.pointer (some ⟨g16, 0, none⟩)) :: u17 :: u18 :: u19 :: u20 :: u21 :: u22 :: u23 :: u24 :: u25 :: u26 :: u27 :: u28 :: u29 :: u30 :: u31 :: u32 :: u33 :: u34 :: u35 :: u36 :: u37 :: u38 :: u39 :: u40 :: u41 :: u42 :: u43 :: u44 :: u45 :: u46 :: u47 :: u48 :: u49 :: u50 :: u51 :: u52 :: u53 :: u54 :: u55 :: u56 :: u57 :: u58 :: u59 :: u60 :: u61 :: u62 :: u63 :: u64 :: u65 :: u66 :: u67 :: u68 :: u69 :: u70 :: u71 :: u72 :: u73 :: u74 :: u75 :: u76 :: u77 :: u78 :: u79 :: u80 :: u81 :: u82 :: u83 :: u84 :: u85 :: u86 :: u87 :: u88 :: u89 :: u90 :: u91 :: u92 :: u93 :: u94 :: u95 :: u96 :: u97 :: u98 :: u99 :: u100 :: u101 :: u102 :: u103 :: u104 :: u105 :: u106 :: u107 :: u108 :: u109 :: u110 :: u111 :: u112 :: u113 :: u114 :: u115 :: u116 :: u117 :: u118 :: u119 :: u120 :: u121 :: u122 :: u123 :: u124 :: u125 :: u126 :: u127 :: u128 :: u129 :: u130 :: u131 :: u132 :: u133 :: u134 :: u135 :: u136 :: u137 :: u138 :: u139 :: u140 :: u141 :: u142 :: u143 :: u144 :: u145 :: u146 :: u147 :: u148 :: u149 :: u150 :: u151 :: u152 :: u153 :: u154 :: u155 :: u156 :: u157 :: u158 :: u159 :: u160 :: u161 :: u162 :: u163 :: u164 :: u165 :: u166 :: u167 :: u168 :: u169 :: u170 :: u171 :: u172 :: u173 :: u174 :: u175 :: u176 :: u177 :: u178 :: u179 :: u180 :: [])) []) w := by
  let pq : Exit → Act → World → Prop := bodyPost Try.prog Try.f11 (fun _ _ => True)
  conv => enter [2]; whnf
  have HQ : Hid _ := @hQ
  clear hQ
  have HO : Hid _ := hok
  clear hok
  have b16c : w.cell? ⟨g16, 1, none⟩ = some (.int .i64 (ch : Int)) := b16.cell 1 (by show 1 < 5; decide)
  have key : ∀ (wz : World) (uu : Value → Value), True := fun _ _ => trivial
  by_cases h7 : ch < 7
  · rw [if_pos h7] at hW2
    have hc := hW.cell ch (by omega)
    have hf := hW.free ch
    have hs : WtR (w.setCell ⟨g8, ch, none⟩ (.int .i64 0)) g8 (W.set ch 0) := hW.set ch 0
    have hg := grown_set w g8 ch (.int .i64 0)
    have d7 : decide ((ch : Int) < 7) = true := decide_eq_true (by omega)
    have l7 : (ch : Int) < 7 := by omega
    have hl2 : W2.length = 7 := by rw [hW2, List.length_set]; exact hl
    rw [← hW2] at hs
    clear hW2
    generalize hw1 : w.setCell ⟨g8, ch, none⟩ (.int .i64 0) = w1 at hs hg
    refine wp_seq_k fun K1 hK1 => ?_
    have HK1 : Hid _ := hK1
    clear hK1
    go_wp2
    refine HK1.out _ _ ?_
    clear HK1
    clear hc hf b16c hw1
    go_wp2
    go_loopw [20] (fun i wr => ∃ j : Nat, j ≤ 7 ∧ i = .int .i64 j ∧ Hid (wr = w1)) (fun i _ => 7 - (intOf i).toNat)
    case atStart => exact ⟨0, by omega, rfl, by first | exact (show _ = _ from rfl) | exact HW1.out.symm⟩
    case round =>
      obtain ⟨j, hj, rfl, hwr⟩ := hrel
      have hwr := hwr.out
      subst hwr
      by_cases hlt : j < 7
      · have hcj := hs.cell j (by omega)
        have hle := HO.out j hlt
        have dj : decide (((nth W2 j : Nat) : Int) ≥ 7) = false := decide_eq_false (by omega)
        have dl : decide ((7 : Int) ≤ ((nth W2 j : Nat) : Int)) = false := decide_eq_false (by omega)
        have lj : (j : Int) < 7 := by omega
        generalize nth W2 j = x at *
        go_wp2
        go_roundw
        case rel => exact ⟨j + 1, by omega, by go_num, by first | exact (show _ = _ from rfl) | exact trivial⟩
        case measure => simp [intOf]; omega
      · obtain rfl : j = 7 := by omega
        go_wp2
        exact HQ.out _ hs hg
  · rw [if_neg h7] at hW2
    subst hW2
    have d7 : decide ((ch : Int) < 7) = false := decide_eq_false (by omega)
    obtain ⟨w1, hw1⟩ : ∃ w1, w1 = w := ⟨_, rfl⟩
    have hs : WtR w1 g8 W2 := by rw [hw1]; exact hW
    have hg : w.grownBy w1 (some g8) := by rw [hw1]; exact grown_refl' w g8
    have hl2 := hl
    have HW1 : Hid _ := hw1
    clear hw1
    refine wp_seq_k fun K1 hK1 => ?_
    have HK1 : Hid _ := hK1
    clear hK1
    go_wp2
    refine HK1.out _ _ ?_
    clear HK1
    clear b16c
    go_wp2
    go_loopw [20] (fun i wr => ∃ j : Nat, j ≤ 7 ∧ i = .int .i64 j ∧ Hid (wr = w1)) (fun i _ => 7 - (intOf i).toNat)
    case atStart => exact ⟨0, by omega, rfl, by first | exact (show _ = _ from rfl) | exact HW1.out.symm⟩
    case round =>
      obtain ⟨j, hj, rfl, hwr⟩ := hrel
      have hwr := hwr.out
      subst hwr
      by_cases hlt : j < 7
      · have hcj := hs.cell j (by omega)
        have hle := HO.out j hlt
        have dj : decide (((nth W2 j : Nat) : Int) ≥ 7) = false := decide_eq_false (by omega)
        have dl : decide ((7 : Int) ≤ ((nth W2 j : Nat) : Int)) = false := decide_eq_false (by omega)
        have lj : (j : Int) < 7 := by omega
        generalize nth W2 j = x at *
        go_wp2
        go_roundw
        case rel => exact ⟨j + 1, by omega, by go_num, by first | exact (show _ = _ from rfl) | exact trivial⟩
        case measure => simp [intOf]; omega
      · obtain rfl : j = 7 := by omega
        go_wp2
        exact HQ.out _ hs hg

set_option maxHeartbeats 32000000 in
/-- from 'var x []byte' on -/
theorem tu_t27 {u0 u1 u2 u3 u4 u5 u7 u9 u10 u11 u12 u14 u15 u16 u17 u18 u19 u20 u21 u22 u23 u24 u25 u26 u27 u28 u29 u30 u31 u32 u33 u34 u35 u36 u37 u38 u39 u40 u41 u42 u43 u44 u45 u46 u47 u48 u49 u50 u51 u52 u53 u54 u55 u56 u57 u58 u59 u60 u61 u62 u63 u64 u65 u66 u67 u68 u69 u70 u71 u72 u73 u74 u75 u76 u77 u78 u79 u80 u81 u82 u83 u84 u85 u86 u87 u88 u89 u90 u91 u92 u93 u94 u95 u96 u97 u98 u99 u100 u101 u102 u103 u104 u105 u106 u107 u108 u109 u110 u111 u112 u113 u114 u115 u116 u117 u118 u119 u120 u121 u122 u123 u124 u125 u126 u127 u128 u129 u130 u131 u132 u133 u134 u135 u136 u137 u138 u139 u140 u141 u142 u143 u144 u145 u146 u147 u148 u149 u150 u151 u152 u153 u154 u155 u156 u157 u158 u159 u160 u161 u162 u163 u164 u165 u166 u167 u168 u169 u170 u171 u172 u173 u174 u175 u176 u177 u178 u179 u180 : Value} (Q : Exit → Act → World → Prop) (w0 w : World) (g6 g8 k t c lo : Nat) (N ma : Int) (a : Option Addr) (qs : List Qw) (Qs : List Qd) (W W1 : List Nat) (sm : Bool) (b6 : BxS w g6 38 #[.int .i64 3, .int .i64 N, .int .i64 ma, .int .i64 (t : Int), .slice a 7 c]) (hS : WkS w lo a 7 c qs Qs) (hs : seD 3 N ma (t : Int) Qs = true) (hk : ∀ q, q ∈ Qs → q.P.length ≤ k) (hW : WtR w g8 W1) (hl1 : W1.length = 7) (hO : WOK t W) (hW1 : ∀ c, c < 7 → nth W1 c = if 0 < (Qs.getD c qd0).P.length then nth W c + 1 else 0) (hsm : sm = smB Qs 7) (h6 : w0.heap.size ≤ g6) (h8 : w0.heap.size ≤ g8) (G : w0.grownBy w none)
    (hQ : ∀ {z4 z15 z16 z17 z18 z19 z20 z122 z123 z124 z125 z126 z127 z128 z129 z130 z131 z132 z133 z134 z135 z136 z137 z138 z139 z140 z141 z142 z143 z144 z145 z146 z147 z148 z149 z150 z151 z152 z153 z154 z155 z156 z157 z158 z159 z160 z161 z162 z163 z164 z165 z166 z167 z168 z169 z170 z171 z172 : Value} w', TuS w' g6 g8 N (k + 1) → w0.grownBy w' none → Q .normal (Act.mk (List.toArray (u0 :: u1 :: u2 :: u3 :: z4 :: u5 :: (.pointer (some ⟨g6, 0, none⟩)) :: (.int .i64 0) :: (.slice (some ⟨g8, 0, none⟩) 7 7) :: u9 :: u10 :: u11 :: u12 :: (.bool sm) :: u14 :: z15 :: z16 :: z17 :: z18 :: z19 :: z20 :: u21 :: u22 :: u23 :: u24 :: u25 :: u26 :: u27 :: u28 :: u29 :: u30 :: u31 :: u32 :: u33 :: u34 :: u35 :: u36 :: u37 :: u38 :: u39 :: u40 :: u41 :: u42 :: u43 :: u44 :: u45 :: u46 :: u47 :: u48 :: u49 :: u50 :: u51 :: u52 :: u53 :: u54 :: u55 :: u56 :: u57 :: u58 :: u59 :: u60 :: u61 :: u62 :: u63 :: u64 :: u65 :: u66 :: u67 :: u68 :: u69 :: u70 :: u71 :: u72 :: u73 :: u74 :: u75 :: u76 :: u77 :: u78 :: u79 :: u80 :: u81 :: u82 :: u83 :: u84 :: u85 :: u86 :: u87 :: u88 :: u89 :: u90 :: u91 :: u92 :: u93 :: u94 :: u95 :: u96 :: u97 :: u98 :: u99 :: u100 :: u101 :: u102 :: u103 :: u104 :: u105 :: u106 :: u107 :: u108 :: u109 :: u110 :: u111 :: u112 :: u113 :: u114 :: u115 :: u116 :: u117 :: u118 :: u119 :: u120 :: u121 :: z122 :: z123 :: z124 :: z125 :: z126 :: z127 :: z128 :: z129 :: z130 :: z131 :: z132 :: z133 :: z134 :: z135 :: z136 :: z137 :: z138 :: z139 :: z140 :: z141 :: z142 :: z143 :: z144 :: z145 :: z146 :: z147 :: z148 :: z149 :: z150 :: z151 :: z152 :: z153 :: z154 :: z155 :: z156 :: z157 :: z158 :: z159 :: z160 :: z161 :: z162 :: z163 :: z164 :: z165 :: z166 :: z167 :: z168 :: z169 :: z170 :: z171 :: z172 :: u173 :: u174 :: u175 :: u176 :: u177 :: u178 :: u179 :: u180 :: [])) []) w') :
    Code.wp Try.prog (tailR 27 (Try.f11.body.getD .skip)) Q (Act.mk (List.toArray (u0 :: u1 :: u2 :: u3 :: u4 :: u5 :: (.pointer (some ⟨g6, 0, none⟩)) :: u7 :: (.slice (some ⟨g8, 0, none⟩) 7 7) :: u9 :: u10 :: u11 :: u12 :: (.bool sm) :: u14 :: u15 :: u16 :: u17 :: u18 :: u19 :: u20 :: u21 :: u22 :: u23 :: u24 :: u25 :: u26 :: u27 :: u28 :: u29 :: u30 :: u31 :: u32 :: u33 :: u34 :: u35 :: u36 :: u37 :: u38 :: u39 :: u40 :: u41 :: u42 :: u43 :: u44 :: u45 :: u46 :: u47 :: u48 :: u49 :: u50 :: u51 :: u52 :: u53 :: u54 :: u55 :: u56 :: u57 :: u58 :: u59 :: u60 :: u61 :: u62 :: u63 :: u64 :: u65 :: u66 :: u67 :: u68 :: u69 :: u70 :: u71 :: u72 :: u73 :: u74 :: u75 :: u76 :: u77 :: u78 :: u79 :: u80 :: u81 :: u82 :: u83 :: u84 :: u85 :: u86 :: u87 :: u88 :: u89 :: u90 :: u91 :: u92 :: u93 :: u94 :: u95 :: u96 :: u97 :: u98 :: u99 :: u100 :: u101 :: u102 :: u103 :: u104 :: u105 :: u106 :: u107 :: u108 :: u109 :: u110 :: u111 :: u112 :: u113 :: u114 :: u115 :: u116 :: u117 :: u118 :: u119 :: u120 :: u121 :: u122 :: u123 :: u124 :: u125 :: u126 :: u127 :: u128 :: u129 :: u130 :: u131 :: u132 :: u133 :: u134 :: u135 :: u136 :: u137 :: u138 :: u139 :: u140 :: u141 :: u142 :: u143 :: u144 :: u145 :: u146 :: u147 :: u148 :: u149 :: u150 :: u151 :: u152 :: u153 :: u154 :: u155 :: u156 :: u157 :: u158 :: u159 :: u160 :: u161 :: u162 :: u163 :: u164 :: u165 :: u166 :: u167 :: u168 :: u169 :: u170 :: u171 :: u172 :: u173 :: u174 :: u175 :: u176 :: u177 :: u178 :: u179 :: u180 :: [])) []) w := by
  let pq : Exit → Act → World → Prop := bodyPost Try.prog Try.f11 (fun _ _ => True)
  conv => enter [2]; whnf
  have HQ : Hid _ := @hQ
  clear hQ
  obtain ⟨o1, o2, o3, o4, o5⟩ := seD_iff.1 hs
  have ht : t ≤ 6 := by omega
  obtain ⟨MA, TU, Q', Y, ow, fi, hN, hs', hk', hE, hV, hTU, hYl⟩ := nx_turn (st := 0) hs (wiB_t (by decide)) hk
  obtain ⟨ch, hch⟩ : ∃ ch, chF t Qs 7 = ch := ⟨_, rfl⟩
  have hcs := ch_some t Qs ht
  have hwk := wok_next ht hO hl1 hW1
  rw [hch] at hV hTU hcs hwk
  rw [← hsm] at hcs
  have hch7 : ch ≤ 7 := by rcases hcs with h | h <;> omega
  have HW : Hid _ := hwk
  have HT : Hid _ := hTU
  have HC : Hid _ := hch
  clear hwk hTU hch hsm hW1 hO o1 o2 o3 o4 o5 hYl
  have i5 := Try.info_se
  have ih := Try.info_hd
  refine wp_seq_k fun K1 hK1 => ?_
  have HK1 : Hid _ := hK1
  clear hK1
  go_wp2
  refine HK1.out _ _ ?_
  clear HK1
  refine wp_seq_k fun K2 hK2 => ?_
  have HK2 : Hid _ := hK2
  clear hK2
  have s0 : True := trivial
  go_wp2_with (first
    | (have _t := s0; clear s0; refine wpList_ldX _ rfl _ (.tmp 6) rfl g6 _ rfl b6 Try.underlying38 i5 ?_; have s1 : True := trivial)
    | (go_at_call 34; have _t := s1; clear s1; refine (next_any 3 N ma (t : Int) 0 3 N MA (TU : Int) Q' Y 0 a 7 c Qs _ hS.rd hN).mono ?_; rintro e w2 ⟨a', n', c', qs', ya, yn, yc, rfl, hK2, ⟨hA2, _⟩, g2⟩; have b62 := b6.keep g2 (by simp); have s2 : True := trivial)
    | (have _t := s2; clear s2; refine wpList_stX _ rfl _ (.tmp 6) (.tmp 125) rfl g6 _ _ rfl rfl b62 i5 rfl (by simp [Value.oneCell']) ?_; intro w3 b63 u3))
  have hlQ := hK2.len
  have hl7 := (seD_iff.1 hs').2.2.2.1
  obtain rfl : n' = 7 := by omega
  have hK3 := hK2.bx b62 (by decide) (by decide) (by decide) u3
  have hne68 : some g8 ≠ some g6 := fun e => BxS.apart hW b6 (by decide) (Option.some.inj e)
  have hW2 := (hW.keep g2 (by simp)).keep u3 hne68
  have hA3 : Ans w3 w.heap.size ya yn yc Y := hA2.kept u3 (by
    cases hown : (Value.slice ya yn yc).ownBlock with
    | none => exact .inl rfl
    | some z => exact .inr (fun e => by
        have h1 := hA2.new z hown
        have h2 := b6.lt
        have e := Option.some.inj e
        omega))
  have G3 := grown_far (grown_trans G g2) u3 (fun q e => by have e := Option.some.inj e; omega)
  have l6 := b63.lt
  clear hlQ hl7 hN b62 u3 hW hS b6 hs hk
  refine HK2.out _ _ ?_
  clear HK2
  refine wp_seq_k fun K3 hK3 => ?_
  have HK3 : Hid _ := hK3
  clear hK3
  have x4 : w3.cell? ⟨g6, 4, none⟩ = some (.slice a' 7 c') := b63.cell 4 (by show 4 < 5; decide)
  go_wp2
  clear x4
  refine HK3.out _ _ ?_
  clear HK3
  refine wp_seq_k fun K4 hK4 => ?_
  have HK4 : Hid _ := hK4
  clear hK4
  have s0 : True := trivial
  go_wp2_with (first
    | (go_at_call 20; have _t := s0; clear s0; refine (unpack_any _ _ _ _ w3 hA3.rd).mono ?_; rintro e w4 ⟨da, dn, dc, rfl, hA4, g4⟩; rw [hV, hE]; have b64 := b63.keep g4 (by simp); have bn := BxS.new w4 28 (heA 0 0 0 0 0); have gn := World.grownBy_alloc w4 (.cells (heA 0 0 0 0 0) 28) none; unfold heA at bn gn; generalize hw5 : w4.alloc (.cells #[.int .i64 0, .int .i64 0, .int .i64 0, .int .i64 0, .int .i64 0] 28) = w5 at bn gn; have s1 : True := trivial)
    | (have _t := s1; clear s1; unfold heA; refine wpList_stX _ rfl _ (.tmp 16) (.tmp 139) rfl w4.heap.size _ _ rfl rfl bn ih rfl (by simp [Value.oneCell']) ?_; intro w6 b16 u6))
  have z4 := g4.size
  have hne : some g6 ≠ some w4.heap.size := by simp; omega
  have hne8 : some g8 ≠ some w4.heap.size := fun e => by have e := Option.some.inj e; have := BxS.lt (hW2.keep g4 (by simp)); omega
  have b66 := (b64.keep gn (by simp)).keep u6 hne
  have hK6 := ((hK3.keep g4).keep gn).bx bn (by decide) (by decide) (by decide) u6
  have hW6 := ((hW2.keep g4 (by simp)).keep gn (by simp)).keep u6 hne8
  have G6 := grown_far (grown_trans (grown_trans G3 g4) gn) u6 (fun q e => by have e := Option.some.inj e; have := G3.size; omega)
  clear hw5 bn gn u6 b64 b63 hK3 hW2 G3 hA3 hA4 hA2 hK2
  refine HK4.out _ _ ?_
  clear HK4
  refine wp_seq_k fun K5 hK5 => ?_
  have HK5 : Hid _ := hK5
  clear hK5
  have x1 : w6.cell? ⟨w4.heap.size, 1, none⟩ = some (.int .i64 (ch : Int)) := b16.cell 1 (by show 1 < 5; decide)
  have d0 : decide ((ch : Int) < 0) = false := decide_eq_false (by omega)
  have dc7 : (((ch : Int) == 7) : Bool) = !sm := by
    rcases hcs with ⟨h1, h2⟩ | ⟨h1, h2⟩
    · rw [h1, h2]; rfl
    · rw [h2]
      have : ¬ ((ch : Int) = 7) := by omega
      simpa using this
  cases sm
  all_goals
    simp only [Bool.not_false, Bool.not_true] at dc7
    go_wp2
    clear x1 d0 dc7
    refine HK5.out _ _ ?_
    clear HK5
    refine tu_t34 _ w6 g8 w4.heap.size ch 3 ma ow fi W1 (if ch < 7 then W1.set ch 0 else W1) hW6 b16 hch7 hl1 rfl ?_ ?_
    · intro c hc
      by_cases h7 : ch < 7
      · rw [if_pos h7]; have := (HW.out.2 h7).2 c hc; omega
      · rw [if_neg h7]; have := (HW.out.1 (by omega)).2 c hc; omega
    · intros
      rename_i w7 hW7 u7
      refine HQ.out _ ⟨MA, TU, a', c', _, qs', Q', _, b66.keep u7 (fun e => hne68 e.symm), hK6.bx hW6 (by decide) (by decide) (by decide) u7, hs', hk', hW7, ?_⟩ (grown_far G6 u7 (fun q e => by have e := Option.some.inj e; omega))
      rw [HT.out]
      by_cases h7 : ch < 7
      · rw [if_pos h7, if_neg (by omega)]; exact HW.out.2 h7
      · rw [if_neg h7, if_pos (by omega)]; exact HW.out.1 (by omega)

theorem cw_step (W W' : List Nat) (Qs : List Qd) (j : Nat) (hj : j < 7) (hl : W'.length = 7) (h : ∀ c, c < 7 → nth W' c = if c < j then (if 0 < (Qs.getD c qd0).P.length then nth W c + 1 else 0) else nth W c) (x : Nat) (hx : x = if 0 < (Qs.getD j qd0).P.length then nth W j + 1 else 0) :
    ∀ c, c < 7 → nth (W'.set j x) c = if c < j + 1 then (if 0 < (Qs.getD c qd0).P.length then nth W c + 1 else 0) else nth W c := by
  intro c hc
  rw [nthS_set _ _ _ _ (by omega)]
  by_cases e : j = c
  · subst e; rw [if_pos rfl, if_pos (show j < j + 1 from by omega), hx]
  · rw [if_neg e, h c hc]
    by_cases e2 : c < j
    · rw [if_pos e2, if_pos (show c < j + 1 from by omega)]
    · rw [if_neg e2, if_neg (show ¬ c < j + 1 from by omega)]
set_option maxHeartbeats 32000000 in
/-- from 'some := false' on -/
theorem tu_t19 {u0 u1 u2 u3 u4 u5 u7 u9 u10 u11 u12 u13 u14 u15 u16 u17 u18 u19 u20 u21 u22 u23 u24 u25 u26 u27 u28 u29 u30 u31 u32 u33 u34 u35 u36 u37 u38 u39 u40 u41 u42 u43 u44 u45 u46 u47 u48 u49 u50 u51 u52 u53 u54 u55 u56 u57 u58 u59 u60 u61 u62 u63 u64 u65 u66 u67 u68 u69 u70 u71 u72 u73 u74 u75 u76 u77 u78 u79 u80 u81 u82 u83 u84 u85 u86 u87 u88 u89 u90 u91 u92 u93 u94 u95 u96 u97 u98 u99 u100 u101 u102 u103 u104 u105 u106 u107 u108 u109 u110 u111 u112 u113 u114 u115 u116 u117 u118 u119 u120 u121 u122 u123 u124 u125 u126 u127 u128 u129 u130 u131 u132 u133 u134 u135 u136 u137 u138 u139 u140 u141 u142 u143 u144 u145 u146 u147 u148 u149 u150 u151 u152 u153 u154 u155 u156 u157 u158 u159 u160 u161 u162 u163 u164 u165 u166 u167 u168 u169 u170 u171 u172 u173 u174 u175 u176 u177 u178 u179 u180 : Value} (Q : Exit → Act → World → Prop) (w0 w : World) (g6 g8 k : Nat) (N : Int) (hT : TuS w g6 g8 N k) (h6 : w0.heap.size ≤ g6) (h8 : w0.heap.size ≤ g8) (G : w0.grownBy w none)
    (hQ : ∀ {z4 z13 z14 z15 z16 z17 z18 z19 z20 z101 z102 z103 z104 z105 z106 z107 z108 z109 z110 z111 z112 z113 z114 z115 z116 z117 z118 z119 z120 z121 z122 z123 z124 z125 z126 z127 z128 z129 z130 z131 z132 z133 z134 z135 z136 z137 z138 z139 z140 z141 z142 z143 z144 z145 z146 z147 z148 z149 z150 z151 z152 z153 z154 z155 z156 z157 z158 z159 z160 z161 z162 z163 z164 z165 z166 z167 z168 z169 z170 z171 z172 : Value} w', TuS w' g6 g8 N (k + 1) → w0.grownBy w' none → Q .normal (Act.mk (List.toArray (u0 :: u1 :: u2 :: u3 :: z4 :: u5 :: (.pointer (some ⟨g6, 0, none⟩)) :: (.int .i64 0) :: (.slice (some ⟨g8, 0, none⟩) 7 7) :: u9 :: u10 :: u11 :: u12 :: z13 :: z14 :: z15 :: z16 :: z17 :: z18 :: z19 :: z20 :: u21 :: u22 :: u23 :: u24 :: u25 :: u26 :: u27 :: u28 :: u29 :: u30 :: u31 :: u32 :: u33 :: u34 :: u35 :: u36 :: u37 :: u38 :: u39 :: u40 :: u41 :: u42 :: u43 :: u44 :: u45 :: u46 :: u47 :: u48 :: u49 :: u50 :: u51 :: u52 :: u53 :: u54 :: u55 :: u56 :: u57 :: u58 :: u59 :: u60 :: u61 :: u62 :: u63 :: u64 :: u65 :: u66 :: u67 :: u68 :: u69 :: u70 :: u71 :: u72 :: u73 :: u74 :: u75 :: u76 :: u77 :: u78 :: u79 :: u80 :: u81 :: u82 :: u83 :: u84 :: u85 :: u86 :: u87 :: u88 :: u89 :: u90 :: u91 :: u92 :: u93 :: u94 :: u95 :: u96 :: u97 :: u98 :: u99 :: u100 :: z101 :: z102 :: z103 :: z104 :: z105 :: z106 :: z107 :: z108 :: z109 :: z110 :: z111 :: z112 :: z113 :: z114 :: z115 :: z116 :: z117 :: z118 :: z119 :: z120 :: z121 :: z122 :: z123 :: z124 :: z125 :: z126 :: z127 :: z128 :: z129 :: z130 :: z131 :: z132 :: z133 :: z134 :: z135 :: z136 :: z137 :: z138 :: z139 :: z140 :: z141 :: z142 :: z143 :: z144 :: z145 :: z146 :: z147 :: z148 :: z149 :: z150 :: z151 :: z152 :: z153 :: z154 :: z155 :: z156 :: z157 :: z158 :: z159 :: z160 :: z161 :: z162 :: z163 :: z164 :: z165 :: z166 :: z167 :: z168 :: z169 :: z170 :: z171 :: z172 :: u173 :: u174 :: u175 :: u176 :: u177 :: u178 :: u179 :: u180 :: [])) []) w') :
    Code.wp Try.prog (tailR 19 (Try.f11.body.getD .skip)) Q (Act.mk (List.toArray (u0 :: u1 :: u2 :: u3 :: u4 :: u5 :: (.pointer (some ⟨g6, 0, none⟩)) :: u7 :: (.slice (some ⟨g8, 0, none⟩) 7 7) :: u9 :: u10 :: u11 :: u12 :: u13 :: u14 :: u15 :: u16 :: u17 :: u18 :: u19 :: u20 :: u21 :: u22 :: u23 :: u24 :: u25 :: u26 :: u27 :: u28 :: u29 :: u30 :: u31 :: u32 :: u33 :: u34 :: u35 :: u36 :: u37 :: u38 :: u39 :: u40 :: u41 :: u42 :: u43 :: u44 :: u45 :: u46 :: u47 :: u48 :: u49 :: u50 :: u51 :: u52 :: u53 :: u54 :: u55 :: u56 :: u57 :: u58 :: u59 :: u60 :: u61 :: u62 :: u63 :: u64 :: u65 :: u66 :: u67 :: u68 :: u69 :: u70 :: u71 :: u72 :: u73 :: u74 :: u75 :: u76 :: u77 :: u78 :: u79 :: u80 :: u81 :: u82 :: u83 :: u84 :: u85 :: u86 :: u87 :: u88 :: u89 :: u90 :: u91 :: u92 :: u93 :: u94 :: u95 :: u96 :: u97 :: u98 :: u99 :: u100 :: u101 :: u102 :: u103 :: u104 :: u105 :: u106 :: u107 :: u108 :: u109 :: u110 :: u111 :: u112 :: u113 :: u114 :: u115 :: u116 :: u117 :: u118 :: u119 :: u120 :: u121 :: u122 :: u123 :: u124 :: u125 :: u126 :: u127 :: u128 :: u129 :: u130 :: u131 :: u132 :: u133 :: u134 :: u135 :: u136 :: u137 :: u138 :: u139 :: u140 :: u141 :: u142 :: u143 :: u144 :: u145 :: u146 :: u147 :: u148 :: u149 :: u150 :: u151 :: u152 :: u153 :: u154 :: u155 :: u156 :: u157 :: u158 :: u159 :: u160 :: u161 :: u162 :: u163 :: u164 :: u165 :: u166 :: u167 :: u168 :: u169 :: u170 :: u171 :: u172 :: u173 :: u174 :: u175 :: u176 :: u177 :: u178 :: u179 :: u180 :: [])) []) w := by
  let pq : Exit → Act → World → Prop := bodyPost Try.prog Try.f11 (fun _ _ => True)
  conv => enter [2]; whnf
  have HQ : Hid _ := @hQ
  clear hQ
  obtain ⟨ma, t, a, c, lo, qs, Qs, W, b6, hS, hs, hk, hW, hO⟩ := hT
  have hne68 : some g6 ≠ some g8 := fun e => BxS.apart hW b6 (by decide) (Option.some.inj e).symm
  have hlQ := hS.len
  have hOl := hO.1
  refine wp_seq_k fun K1 hK1 => ?_
  have HK1 : Hid _ := hK1
  clear hK1
  go_wp2
  refine HK1.out _ _ ?_
  clear HK1
  refine wp_seq_k fun K2 hK2 => ?_
  have HK2 : Hid _ := hK2
  clear hK2
  go_wp2
  go_loopw [13, 14] (fun sv iv wr => ∃ (j : Nat) (W' : List Nat), j ≤ 7 ∧ iv = .int .i64 j ∧ sv = .bool (smB Qs j) ∧ WtR wr g8 W' ∧ W'.length = 7 ∧ (∀ c, c < 7 → nth W' c = if c < j then (if 0 < (Qs.getD c qd0).P.length then nth W c + 1 else 0) else nth W c) ∧ w.grownBy wr (some g8)) (fun _ iv _ => 7 - (intOf iv).toNat)
  case atStart => exact ⟨0, W, by omega, rfl, rfl, hW, hOl, fun c hc => by rw [if_neg (by omega)], grown_refl' _ _⟩
  case round =>
    obtain ⟨j, W', hj, rfl, rfl, hWr, hlr, hfr, ur⟩ := hrel
    have b6r := b6.keep ur hne68
    have hSr := hS.bx hW (by decide) (by decide) (by decide) ur
    have x4 : wr.cell? ⟨g6, 4, none⟩ = some (.slice a 7 c) := b6r.cell 4 (by show 4 < 5; decide)
    by_cases hlt : j < 7
    · obtain ⟨F, hF1, hF2⟩ := hSr.rd.ex
      obtain ⟨ba, oa, rfl, hba, ca⟩ := hF1.at' (by decide)
      obtain ⟨_, y1, _⟩ := ca j hlt
      have hn := (hF2 j hlt).2.2.1
      have lj : (j : Int) < 7 := by omega
      have hcj := hWr.cell j (by omega)
      have hfj := hWr.free j
      have hb := hfr j hlt
      rw [if_neg (Nat.lt_irrefl j)] at hb
      have hw7 := hO.2 j hlt
      clear hF2 ca
      have HS := smB_succ Qs j
      have HF := cw_step W W' Qs j hlt hlr hfr
      rw [← hn] at HS
      by_cases hp : 0 < (F j).n
      · rw [decide_eq_true hp, Bool.or_true] at HS
        have hx := HF (nth W j + 1) (by rw [← hn, if_pos hp])
        have hst : WtR (wr.setCell ⟨g8, j, none⟩ (.int .i64 ((nth W' j : Nat) + 1))) g8 (W'.set j (nth W j + 1)) := by rw [hb]; exact hWr.set j (nth W j + 1)
        have hgt := grown_set wr g8 j (.int .i64 ((nth W' j : Nat) + 1))
        have dp : decide (((F j).n : Int) > 0) = true := decide_eq_true (by omega)
        have dq : decide ((0 : Int) < ((F j).n : Int)) = true := decide_eq_true (by omega)
        have HS : Hid _ := HS
        have HX : Hid _ := hx
        have hbx : nth W' j ≤ 6 := by omega
        clear HF hx hb hw7 hn hfr
        generalize hwn : wr.setCell ⟨g8, j, none⟩ (.int .i64 ((nth W' j : Nat) + 1)) = wn at hst hgt
        generalize nth W' j = xx at *
        generalize (F j).n = fn at *
        generalize (F j).a = fa at *
        generalize (F j).c = fc at *
        go_wp2
        go_roundw
        case rel => exact ⟨j + 1, _, by omega, by go_num, by rw [HS.out], hst, by rw [List.length_set]; exact hlr, HX.out, grown_trans ur hgt⟩
        case measure => simp [intOf]; omega
      · rw [decide_eq_false hp, Bool.or_false] at HS
        have hx := HF 0 (by rw [← hn, if_neg hp])
        have hst : WtR (wr.setCell ⟨g8, j, none⟩ (.int .i64 0)) g8 (W'.set j 0) := hWr.set j 0
        have hgt := grown_set wr g8 j (.int .i64 0)
        have dp : decide (((F j).n : Int) > 0) = false := decide_eq_false (by omega)
        have dq : decide ((0 : Int) < ((F j).n : Int)) = false := decide_eq_false (by omega)
        have HS : Hid _ := HS
        have HX : Hid _ := hx
        clear HF hx hb hw7 hn hfr
        generalize hwn : wr.setCell ⟨g8, j, none⟩ (.int .i64 0) = wn at hst hgt
        generalize nth W' j = xx at *
        generalize (F j).n = fn at *
        generalize (F j).a = fa at *
        generalize (F j).c = fc at *
        go_wp2
        go_roundw
        case rel => exact ⟨j + 1, _, by omega, by go_num, by rw [HS.out], hst, by rw [List.length_set]; exact hlr, HX.out, grown_trans ur hgt⟩
        case measure => simp [intOf]; omega
    · obtain rfl : j = 7 := by omega
      clear x4
      go_wp2
      refine HK2.out _ _ ?_
      refine tu_t27 _ w0 wr g6 g8 k t c lo N ma a qs Qs W W' (smB Qs 7) b6r hSr hs hk hWr hlr hO (fun c hc => by rw [hfr c hc, if_pos hc]) rfl h6 h8 (grown_far G ur (fun q e => by have e := Option.some.inj e; omega)) ?_
      intros
      rename_i w7 hT7 G7
      exact HQ.out _ hT7 G7

theorem mayT (c v : Nat) (hc : c < 7) (hv : v < 90) : mayE (c : Int) 3 0 (1 + v) = 0 := by
  unfold mayE
  rw [if_pos ⟨⟨by omega, by omega⟩, ⟨by decide, by decide⟩, ⟨by decide, by decide⟩⟩, if_neg (by omega)]
set_option maxHeartbeats 32000000 in
/-- a packet is put -/
theorem tu_t12 {u0 u2 u3 u4 u5 u7 u8 u10 u11 u12 u13 u14 u15 u16 u17 u18 u19 u20 u21 u22 u23 u24 u25 u26 u27 u28 u29 u30 u31 u32 u33 u34 u35 u36 u37 u38 u39 u40 u41 u42 u43 u44 u45 u46 u47 u48 u49 u50 u51 u52 u53 u54 u55 u56 u57 u58 u59 u60 u61 u62 u63 u64 u65 u66 u67 u68 u69 u70 u71 u72 u73 u74 u75 u76 u77 u78 u79 u80 u81 u82 u83 u84 u85 u86 u87 u88 u89 u90 u91 u92 u93 u94 u95 u96 u97 u98 u99 u100 u101 u102 u103 u104 u105 u106 u107 u108 u109 u110 u111 u112 u113 u114 u115 u116 u117 u118 u119 u120 u121 u122 u123 u124 u125 u126 u127 u128 u129 u130 u131 u132 u133 u134 u135 u136 u137 u138 u139 u140 u141 u142 u143 u144 u145 u146 u147 u148 u149 u150 u151 u152 u153 u154 u155 u156 u157 u158 u159 u160 u161 u162 u163 u164 u165 u166 u167 u168 u169 u170 u171 u172 u173 u174 u175 u176 u177 u178 u179 u180 : Value} (Q : Exit → Act → World → Prop) (w0 w : World) (g6 g8 k jb jo jn jc : Nat) (N x1 x2 : Int) (hk200 : k < 200) (hkn : k < jn) (hjn : jn ≤ 200) (c1 : w.cell? ⟨jb, jo + k * 4 + 1, none⟩ = some (.int .i64 x1)) (c2 : w.cell? ⟨jb, jo + k * 4 + 2, none⟩ = some (.int .i64 x2)) (hx1 : -9223372036854775808 ≤ x1 ∧ x1 ≤ 9223372036854775807) (hx2 : -9223372036854775808 ≤ x2 ∧ x2 ≤ 9223372036854775807) (hT : TuS w g6 g8 N k) (h6 : w0.heap.size ≤ g6) (h8 : w0.heap.size ≤ g8) (G : w0.grownBy w none)
    (hQ : ∀ {z10 z11 z12 z54 z55 z56 z57 z58 z59 z60 z61 z62 z63 z64 z65 z66 z67 z68 z69 z70 z71 z72 z73 z74 z75 z76 z77 z78 z79 z80 z81 z82 z83 z84 z85 z86 z87 z88 z89 z90 z91 z92 z93 z94 z95 z96 z97 z98 z99 z100 : Value} w', TuS w' g6 g8 N (k + 1) → w0.grownBy w' none → Q (.exit 1) (Act.mk (List.toArray (u0 :: (.slice (some ⟨jb, jo, none⟩) jn jc) :: u2 :: u3 :: u4 :: u5 :: (.pointer (some ⟨g6, 0, none⟩)) :: u7 :: u8 :: (.int .i64 (k : Int)) :: z10 :: z11 :: z12 :: u13 :: u14 :: u15 :: u16 :: u17 :: u18 :: u19 :: u20 :: u21 :: u22 :: u23 :: u24 :: u25 :: u26 :: u27 :: u28 :: u29 :: u30 :: u31 :: u32 :: u33 :: u34 :: u35 :: u36 :: u37 :: u38 :: u39 :: u40 :: u41 :: u42 :: u43 :: u44 :: u45 :: u46 :: u47 :: u48 :: u49 :: u50 :: u51 :: u52 :: u53 :: z54 :: z55 :: z56 :: z57 :: z58 :: z59 :: z60 :: z61 :: z62 :: z63 :: z64 :: z65 :: z66 :: z67 :: z68 :: z69 :: z70 :: z71 :: z72 :: z73 :: z74 :: z75 :: z76 :: z77 :: z78 :: z79 :: z80 :: z81 :: z82 :: z83 :: z84 :: z85 :: z86 :: z87 :: z88 :: z89 :: z90 :: z91 :: z92 :: z93 :: z94 :: z95 :: z96 :: z97 :: z98 :: z99 :: z100 :: u101 :: u102 :: u103 :: u104 :: u105 :: u106 :: u107 :: u108 :: u109 :: u110 :: u111 :: u112 :: u113 :: u114 :: u115 :: u116 :: u117 :: u118 :: u119 :: u120 :: u121 :: u122 :: u123 :: u124 :: u125 :: u126 :: u127 :: u128 :: u129 :: u130 :: u131 :: u132 :: u133 :: u134 :: u135 :: u136 :: u137 :: u138 :: u139 :: u140 :: u141 :: u142 :: u143 :: u144 :: u145 :: u146 :: u147 :: u148 :: u149 :: u150 :: u151 :: u152 :: u153 :: u154 :: u155 :: u156 :: u157 :: u158 :: u159 :: u160 :: u161 :: u162 :: u163 :: u164 :: u165 :: u166 :: u167 :: u168 :: u169 :: u170 :: u171 :: u172 :: u173 :: u174 :: u175 :: u176 :: u177 :: u178 :: u179 :: u180 :: [])) []) w') :
    Code.wp Try.prog (tailR 12 (Try.f11.body.getD .skip)) Q (Act.mk (List.toArray (u0 :: (.slice (some ⟨jb, jo, none⟩) jn jc) :: u2 :: u3 :: u4 :: u5 :: (.pointer (some ⟨g6, 0, none⟩)) :: u7 :: u8 :: (.int .i64 (k : Int)) :: u10 :: u11 :: u12 :: u13 :: u14 :: u15 :: u16 :: u17 :: u18 :: u19 :: u20 :: u21 :: u22 :: u23 :: u24 :: u25 :: u26 :: u27 :: u28 :: u29 :: u30 :: u31 :: u32 :: u33 :: u34 :: u35 :: u36 :: u37 :: u38 :: u39 :: u40 :: u41 :: u42 :: u43 :: u44 :: u45 :: u46 :: u47 :: u48 :: u49 :: u50 :: u51 :: u52 :: u53 :: u54 :: u55 :: u56 :: u57 :: u58 :: u59 :: u60 :: u61 :: u62 :: u63 :: u64 :: u65 :: u66 :: u67 :: u68 :: u69 :: u70 :: u71 :: u72 :: u73 :: u74 :: u75 :: u76 :: u77 :: u78 :: u79 :: u80 :: u81 :: u82 :: u83 :: u84 :: u85 :: u86 :: u87 :: u88 :: u89 :: u90 :: u91 :: u92 :: u93 :: u94 :: u95 :: u96 :: u97 :: u98 :: u99 :: u100 :: u101 :: u102 :: u103 :: u104 :: u105 :: u106 :: u107 :: u108 :: u109 :: u110 :: u111 :: u112 :: u113 :: u114 :: u115 :: u116 :: u117 :: u118 :: u119 :: u120 :: u121 :: u122 :: u123 :: u124 :: u125 :: u126 :: u127 :: u128 :: u129 :: u130 :: u131 :: u132 :: u133 :: u134 :: u135 :: u136 :: u137 :: u138 :: u139 :: u140 :: u141 :: u142 :: u143 :: u144 :: u145 :: u146 :: u147 :: u148 :: u149 :: u150 :: u151 :: u152 :: u153 :: u154 :: u155 :: u156 :: u157 :: u158 :: u159 :: u160 :: u161 :: u162 :: u163 :: u164 :: u165 :: u166 :: u167 :: u168 :: u169 :: u170 :: u171 :: u172 :: u173 :: u174 :: u175 :: u176 :: u177 :: u178 :: u179 :: u180 :: [])) []) w := by
  let pq : Exit → Act → World → Prop := bodyPost Try.prog Try.f11 (fun _ _ => True)
  conv => enter [2]; whnf
  have HQ : Hid _ := @hQ
  clear hQ
  obtain ⟨ma, t, a, c, lo, qs, Qs, W, b6, hS, hs, hk, hW, hO⟩ := hT
  have i5 := Try.info_se
  have i6 := Try.info_pk
  have lk : (k : Int) < (jn : Int) := by omega
  refine wp_seq_k fun K1 hK1 => ?_
  have HK1 : Hid _ := hK1
  clear hK1
  have s0 : True := trivial
  go_wp2_with (go_at_call 39; have _t := s0; clear s0; refine (pickN_any x1 7 w hx1.1 hx1.2 (by decide) (by decide)).mono ?_; rintro e wx ⟨v, hv, rfl, hw⟩; have hw := hw.symm; subst hw)
  refine HK1.out _ _ ?_
  clear HK1
  refine wp_seq_k fun K2 hK2 => ?_
  have HK2 : Hid _ := hK2
  clear hK2
  have hv7 : v < 7 := by omega
  have s0 : True := trivial
  go_wp2_with (first
    | (go_at_call 39; have _t := s0; clear s0; refine (pickN_any x2 90 w hx2.1 hx2.2 (by decide) (by decide)).mono ?_; rintro e wx ⟨y, hy, rfl, hw⟩; have hw := hw.symm; subst hw; have s1 : True := trivial)
    | (at_make; have _t := s1; clear s1; refine wpList_mkB _ rfl _ _ rfl _ _ (1 + y) rfl rfl (by omega) (by omega) (by omega) ?_; intro w1 hB1 g1; have hR1 := hB1.rd (isB_zeros _) (List.length_replicate) (by unfold maxLen; omega); have s2 : True := trivial)
    | (go_at_call 40; have _t := s2; clear s2; refine (encode_any false false (v : Int) 3 0 _ (1 + y) (1 + y) _ w1 hR1).mono ?_; rintro e w2 ⟨ea, en, ec, rfl, hA2, g2⟩; rw [mayT v y hv7 (by omega)]))
  obtain ⟨hon, hlen⟩ := enc_on false false (v : Int) 3 0 (List.replicate (1 + y) 0) (by rw [List.length_replicate]; exact mayT v y hv7 (by omega))
  have b62 := (b6.keep g1 (by simp)).keep g2 (by simp)
  have hS2 := (hS.keep g1).keep g2
  have hW2 := (hW.keep g1 (by simp)).keep g2 (by simp)
  have G2 := grown_trans (grown_trans G g1) g2
  generalize encP false false (v : Int) 3 0 (List.replicate (1 + y) 0) = B at hA2 hon hlen
  clear c1 c2 b6 hS hW G g1 hB1 hR1 g2 hlen hy
  obtain ⟨pE, pX, pS, pK, pV⟩ := pt_ok hs hk hk200 hv7 hon
  refine HK2.out _ _ ?_
  clear HK2
  refine wp_seq_k fun K3 hK3 => ?_
  have HK3 : Hid _ := hK3
  clear hK3
  go_wp2
  refine HK3.out _ _ ?_
  clear HK3
  refine wp_seq_k fun K4 hK4 => ?_
  have HK4 : Hid _ := hK4
  clear hK4
  have s0 : True := trivial
  have kP := sput_any 3 N ma (t : Int) a 7 c Qs (v : Int) ea en ec B w2 hS2.rd hA2.rd
  rw [pX, pX, pX, pX, pE] at kP
  go_wp2_with (first
    | (have _t := s0; clear s0; refine wpList_ldX _ rfl _ (.tmp 6) rfl g6 _ rfl b62 Try.underlying38 i5 ?_; have s1 : True := trivial)
    | (go_at_call 29; have _t := s1; clear s1; refine kP.mono ?_; rintro e w3 ⟨a', n', c', qs', rfl, hO3, g3⟩; have b63 := b62.keep g3 (by simp); have s2 : True := trivial)
    | (have _t := s2; clear s2; refine wpList_stX _ rfl _ (.tmp 6) (.tmp 81) rfl g6 _ _ rfl rfl b63 i5 rfl (by simp [Value.oneCell']) ?_; intro w4 b64 u4))
  have hl3 := hO3.len
  rw [pV, List.length_set, hS2.len] at hl3
  subst hl3
  have hne68 : some g8 ≠ some g6 := fun e => BxS.apart hW2 b62 (by decide) (Option.some.inj e)
  have hK4 := hO3.wk.bx b63 (by decide) (by decide) (by decide) u4
  have hW4 := (hW2.keep g3 (by simp)).keep u4 hne68
  have G4 := grown_far (grown_trans G2 g3) u4 (fun q e => by have e := Option.some.inj e; omega)
  have hRd := hK4.rd
  rw [pV] at hRd
  obtain ⟨F, hF1, hF2⟩ := hRd.ex
  obtain ⟨ba, oa, rfl, hba, ca⟩ := hF1.at' (by decide)
  obtain ⟨_, y1, _⟩ := ca v hv7
  have hn := (hF2 v hv7).2.2.1
  have hnv : 0 < (F v).n := by
    rw [hn, List.getD_eq_getElem?_getD, List.getElem?_set_self (by rw [hS2.len]; exact hv7)]
    show 0 < ((Qs.getD v qd0).P ++ [B]).length
    rw [List.length_append]
    exact Nat.succ_pos _
  have x4 : w4.cell? ⟨g6, 4, none⟩ = some (.slice (some ⟨ba, oa, none⟩) 7 c') := b64.cell 4 (by show 4 < 5; decide)
  clear hF2 ca hn hF1 hRd kP b62 b63 hO3 hS2 hW2 G2 g3 u4 hA2
  refine HK4.out _ _ ?_
  clear HK4
  refine wp_seq_k fun K5 hK5 => ?_
  have HK5 : Hid _ := hK5
  clear hK5
  have dn : (((((F v).n : Nat) : Int) == 0) : Bool) = false := by simp; omega
  have lv : (v : Int) < 7 := by omega
  generalize (F v).n = fn at *
  generalize (F v).a = fa at *
  generalize (F v).c = fc at *
  go_wp2
  refine HK5.out _ _ ?_
  clear HK5
  refine wp_exit ?_
  exact HQ.out _ ⟨ma, t, _, c', _, qs', _, W, b64, hK4, pS, pK, hW4, hO⟩ G4

theorem opE_ok (v : Nat) (hv : v < 60) : opE 3 (13 + (v : Int)) = 0 := by
  unfold opE
  have h : siB (13 + (v : Int)) = true := decide_eq_true (by omega)
  rw [if_pos (wiB_t (by decide)), if_pos h]
theorem seD_first (v : Nat) (hv : v < 60) : seD 3 (13 + (v : Int)) 0 0 (List.replicate 7 qd0) = true := by
  refine seD_iff.2 ⟨opE_ok v hv, by omega, by omega, rfl, fun q hq => ?_⟩
  rw [List.eq_of_mem_replicate hq]
  rfl
set_option maxHeartbeats 32000000 in
theorem turns_walk (sz : Int) (ja : Option Addr) (jn jc : Nat) (F : Nat → Jb) (w : World) (hz : -9223372036854775808 ≤ sz ∧ sz ≤ 9223372036854775807) (hJ : RdJb w ja jn jc F) :
    Calls Try.prog 11 #[.int .i64 sz, .slice ja jn jc] w fun e w' => e = .returned (.bool true) ∧ w.grownBy w' none := by
  have hle := hJ.le
  have hmx := hJ.max
  unfold maxLen at hmx
  by_cases hbig : 200 < jn
  · have db : decide ((jn : Int) > 200) = true := decide_eq_true (by omega)
    have db2 : decide ((200 : Int) < (jn : Int)) = true := decide_eq_true (by omega)
    go_enter Try.func11, Try.ntmps11
    go_wp2
    go_ret
    exact ⟨rfl, World.grownBy.refl _ _⟩
  · have db : decide ((jn : Int) > 200) = false := decide_eq_false (by omega)
    have db2 : decide ((200 : Int) < (jn : Int)) = false := decide_eq_false (by omega)
    clear hmx hle
    have i5 := Try.info_se
    go_enter Try.func11, Try.ntmps11
    refine wp_seq_k fun K1 hK1 => ?_
    have HK1 : Hid _ := hK1
    clear hK1
    go_wp2
    refine HK1.out _ _ ?_
    clear HK1
    refine wp_seq_k fun K2 hK2 => ?_
    have HK2 : Hid _ := hK2
    clear hK2
    go_wp2
    refine HK2.out _ _ ?_
    clear HK2
    clear db db2
    refine wp_seq_k fun K3 hK3 => ?_
    have HK3 : Hid _ := hK3
    clear hK3
    have s0 : True := trivial
    go_wp2_with (go_at_call 39; have _t := s0; clear s0; refine (pickN_any sz 60 w hz.1 hz.2 (by decide) (by decide)).mono ?_; rintro e wx ⟨v, hv, rfl, hw⟩; have hw := hw.symm; subst hw)
    refine HK3.out _ _ ?_
    clear HK3
    have hv60 : v < 60 := by omega
    have hopE := opE_ok v hv60
    have hsD := seD_first v hv60
    generalize (13 + (v : Int)) = N at hopE hsD
    refine wp_seq_k fun K4 hK4 => ?_
    have HK4 : Hid _ := hK4
    clear hK4
    have s0 : True := trivial
    go_wp2_with (first
      | (go_at_call 23; have _t := s0; clear s0; refine (open2_any 3 N w hopE).mono ?_; rintro e w1 ⟨gq, rfl, hO1, g1⟩; have bn := BxS.new w1 38 #[.int .i64 0, .int .i64 0, .int .i64 0, .int .i64 0, .slice none 0 0]; have gn := World.grownBy_alloc w1 (.cells #[.int .i64 0, .int .i64 0, .int .i64 0, .int .i64 0, .slice none 0 0] 38) none; generalize hw2 : w1.alloc (.cells #[.int .i64 0, .int .i64 0, .int .i64 0, .int .i64 0, .slice none 0 0] 38) = w2 at bn gn; have s1 : True := trivial)
      | (have _t := s1; clear s1; refine wpList_stX _ rfl _ (.tmp 6) (.tmp 30) rfl w1.heap.size _ _ rfl rfl bn i5 rfl (by simp [Value.oneCell']) ?_; intro w3 b3 u3))
    have z1 := g1.size
    have hK3 := (hO1.wk.keep gn).bx bn (by decide) (by decide) (by decide) u3
    have G3 := grown_far (grown_trans g1 gn) u3 (fun q e => by have e := Option.some.inj e; omega)
    obtain ⟨g6, hg6⟩ : ∃ g6, w1.heap.size = g6 := ⟨_, rfl⟩
    rw [hg6] at b3
    have h6 : w.heap.size ≤ g6 := by omega
    rw [hg6]
    clear hg6 u3 bn gn hw2 hO1 g1 z1
    refine HK4.out _ _ ?_
    clear HK4
    refine wp_seq_k fun K5 hK5 => ?_
    have HK5 : Hid _ := hK5
    clear hK5
    have x4 : w3.cell? ⟨g6, 4, none⟩ = some (.slice (some ⟨gq, 0, none⟩) 7 7) := b3.cell 4 (by show 4 < 5; decide)
    go_wp2
    clear x4
    refine HK5.out _ _ ?_
    clear HK5
    refine wp_seq_k fun K6 hK6 => ?_
    have HK6 : Hid _ := hK6
    clear hK6
    have s0 : True := trivial
    go_wp2_with (at_make; have _t := s0; clear s0; refine wpList_mk7 _ rfl _ _ rfl rfl rfl ?_; intro w4 hW4 g4)
    have hT4 : TuS w4 g6 w3.heap.size N 0 := ⟨0, 0, _, _, _, _, _, _, b3.keep g4 (by simp), hK3.keep g4, hsD, (fun q hq => by rw [List.eq_of_mem_replicate hq]; exact Nat.le_refl _), hW4, ⟨rfl, fun c hc => by rw [nth_zeros]; omega⟩⟩
    have G4 := grown_trans G3 g4
    obtain ⟨g8, hg8⟩ : ∃ g8, w3.heap.size = g8 := ⟨_, rfl⟩
    have h8 : w.heap.size ≤ g8 := by have := G3.size; omega
    rw [hg8] at hT4 ⊢
    clear hg8 b3 hK3 hsD hW4 g4 G3
    refine HK6.out _ _ ?_
    clear HK6
    refine wp_seq_k fun K7 hK7 => ?_
    have HK7 : Hid _ := hK7
    clear hK7
    go_wp2
    go_loopw [7, 9] (fun ev iv wr => ∃ k : Nat, k ≤ jn ∧ iv = .int .i64 k ∧ ev = .int .i64 0 ∧ TuS wr g6 g8 N k ∧ w.grownBy wr none) (fun _ iv _ => jn - (intOf iv).toNat)
    case atStart => exact ⟨0, by omega, rfl, rfl, hT4, G4⟩
    case round =>
      obtain ⟨k, hk, rfl, rfl, hTr, Gr⟩ := hrel
      by_cases hlt : k < jn
      · obtain ⟨jb, jo, rfl, hjb, cj⟩ := (hJ.keep Gr).at' (by omega)
        have c0 : wr.cell? ⟨jb, jo + k * 4, none⟩ = some (.int .i64 (F k).pu) := cj k hlt 0 (by decide)
        have c1 : wr.cell? ⟨jb, jo + k * 4 + 1, none⟩ = some (.int .i64 (F k).ch) := cj k hlt 1 (by decide)
        have c2 : wr.cell? ⟨jb, jo + k * 4 + 2, none⟩ = some (.int .i64 (F k).lo) := cj k hlt 2 (by decide)
        obtain ⟨y0, y1, y2⟩ := hJ.ok k hlt
        generalize (F k).pu = p0 at *
        generalize (F k).ch = p1 at *
        generalize (F k).lo = p2 at *
        have lk : (k : Int) < (jn : Int) := by omega
        clear cj
        refine wp_seq_k fun K8 hK8 => ?_
        have HK8 : Hid _ := hK8
        clear hK8
        go_wp2
        refine HK8.out _ _ ?_
        clear HK8
        refine wp_seq_k fun K9 hK9 => ?_
        have HK9 : Hid _ := hK9
        clear hK9
        refine wp_block ?_
        refine wp_seq_k fun K10 hK10 => ?_
        have HK10 : Hid _ := hK10
        clear hK10
        refine wp_seq_k fun K11 hK11 => ?_
        have HK11 : Hid _ := hK11
        clear hK11
        have s0 : True := trivial
        go_wp2_with (go_at_call 39; have _t := s0; clear s0; refine (pickN_any p0 2 wr y0.1 y0.2 (by decide) (by decide)).mono ?_; rintro e wx ⟨x, hx, rfl, hw⟩; have hw := hw.symm; subst hw)
        refine HK11.out _ _ ?_
        clear HK11
        by_cases hx0 : x = 0
        · subst hx0
          refine wp_cond_true rfl ?_
          refine tu_t12 _ w wr g6 g8 k jb jo jn jc N p1 p2 (by omega) hlt (by omega) c1 c2 y1 y2 hTr h6 h8 Gr ?_
          intros
          rename_i w5 hT5 G5
          simp only [Exit.inBlock, Exit.then]
          refine HK9.out _ _ ?_
          clear HK9
          go_wp2
          go_roundw
          case rel => exact ⟨k + 1, by omega, by go_num, rfl, hT5, G5⟩
          case measure => simp [intOf]; omega
        · have dx : (((x : Int) == 0) : Bool) = false := by simpa using hx0
          refine wp_cond_false (by show Value.bool ((x : Int) == 0) = _; rw [dx]) ?_
          refine wp_skip ?_
          refine HK10.out _ _ ?_
          clear HK10
          refine tu_t19 _ w wr g6 g8 k N hTr h6 h8 Gr ?_
          intros
          rename_i w5 hT5 G5
          simp only [Exit.inBlock, Exit.then]
          refine HK9.out _ _ ?_
          clear HK9
          go_wp2
          go_roundw
          case rel => exact ⟨k + 1, by omega, by go_num, rfl, hT5, G5⟩
          case measure => simp [intOf]; omega
      · obtain rfl : k = jn := by omega
        go_wp2
        refine HK7.out _ _ ?_
        clear HK7
        obtain ⟨ma, t, a, c, lo, qs, Qs, W, b6, _⟩ := hTr
        have x4 : wr.cell? ⟨g6, 4, none⟩ = some (.slice a 7 c) := b6.cell 4 (by show 4 < 5; decide)
        go_wp2
        go_ret
        exact ⟨rfl, Gr⟩
open Go.ChangeShapes Go.WideShapes
theorem met_job {w : World} {full : Bool} {n : Nat} {cs : List Value} (h : (Sh.fcons 1 (.int .i64) (.fcons 1 (.int .i64) (.fcons 1 (.int .i64) (.fcons 1 .bool .fend)))).met w full cs n) : ∃ k : Jb, cs = k.cells ∧ k.ok := by
  obtain ⟨n0, m0, rfl, ⟨_, a, e0, k0⟩, n1, m1, rfl, ⟨_, b, e1, k1⟩, n2, m2, rfl, ⟨_, c, e2, k2⟩, n3, m3, rfl, ⟨_, d, e3⟩, e4, _⟩ := h
  refine ⟨⟨a, b, c, d⟩, ?_, bounds_i64 k0, bounds_i64 k1, bounds_i64 k2⟩
  unfold Jb.cells
  match cs with
  | [] => simp at e0
  | [_] => simp at e1
  | [_, _] => simp at e2
  | [_, _, _] => simp at e3
  | [x0, x1, x2, x3] => simp_all
  | x0 :: x1 :: x2 :: x3 :: x4 :: r => simp at e4

theorem shown_jobs {w : World} {full : Bool} {N : Nat} {v : Value} (h : (Sh.slice 4 32 (Sh.fcons 1 (.int .i64) (.fcons 1 (.int .i64) (.fcons 1 (.int .i64) (.fcons 1 .bool .fend))))).shown w full v N) : ∃ a len cap K, v = .slice a len cap ∧ RdJb w a len cap K := by
  have h : (Sh.slice 4 32 (Sh.fcons 1 (.int .i64) (.fcons 1 (.int .i64) (.fcons 1 (.int .i64) (.fcons 1 .bool .fend))))).met w full [v] N := h
  rcases h with ⟨rfl, e⟩ | ⟨x, len, cap, G, C, e, e', hl, hm, hf, hc⟩
  · cases e
    exact ⟨none, 0, 0, fun _ => ⟨0, 0, 0, false⟩, rfl, ⟨Nat.le_refl _, Nat.zero_le _, (fun h => by omega), (fun i h => by omega)⟩⟩
  · cases e
    have each : ∀ i, i < cap → ∃ k : Jb, (∀ j, j < 4 → w.cell? (x.add (i * 4 + j)) = k.cells[j]?) ∧ k.ok := by
      intro i hi
      obtain ⟨h1, h2, h3⟩ := hc i hi
      obtain ⟨k, e, hk⟩ := met_job h3
      refine ⟨k, fun j hj => ?_, hk⟩
      rw [h2 j hj, e]
    have hI : Inhabited Jb := ⟨⟨0, 0, 0, false⟩⟩
    obtain ⟨K, hK⟩ := Go.Deep.choose_lt each
    refine ⟨some x, len, cap, K, rfl, ⟨hl, hm, fun h0 => ?_, fun i hi => (hK i (by omega)).2⟩⟩
    obtain ⟨b, off, spot⟩ := x
    have hc0 := (hK 0 (by omega)).1 0 (by decide)
    have h0' : w.cell? (⟨b, off, spot⟩ : Addr) = some (.int .i64 (K 0).pu) := by simpa [Addr.add, Jb.cells] using hc0
    have hspot : spot = none := by simpa using World.cell?_spot h0'
    subst hspot
    refine ⟨b, off, rfl, World.block_lt_of_cell? w _ h0', fun i hi j hj => ?_⟩
    rw [← addr_add']
    exact (hK i (by omega)).1 j hj
end Go.Proofs.Ytlmddjkplnbadaa
