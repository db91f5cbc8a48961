import Derived.Test.YthdjpbfknbafgaaTSyD
import Derived.Test.YthdjpbfknbafgaaTSyC
import Derived.Test.YthdjpbfknbafgaaTWrM
namespace Go.Proofs.Ythdjpbfknbafgaa
set_option linter.unusedVariables false
set_option linter.unusedSimpArgs false

/-- how many of the 32 bits from q on are not the mark's -/
def wrB (B : List Nat) (q : Nat) (t : Bool) : Nat := pop32 ((if t then 4294967295 - vB B q 32 else vB B q 32) ^^^ 449838109)
theorem wrX_B (B : List Nat) (s : Mx) (n q : Nat) (t : Bool) (hl : s.la = laX B n) (hn : s.tk = n) (h1 : q + 32 ≤ n) (h2 : n ≤ q + 64) : wrX s q t = wrB B q t := by
  unfold wrX wrV wrB
  rw [hl, hn]
  have h := la_part B q (n - q - 32) (by omega)
  rw [show q + (32 + (n - q - 32)) = n from by omega] at h
  rw [h]
/-- gathering: k bits behind the mark at q -/
def Gk (B : List Nat) (q : Nat) (t : Bool) (m k : Nat) : Mx := ⟨1, q + 32 + k, laX B (q + 32 + k), q, t, m, tab (k / 8) (fun i => vB B (q + 32 + 8 * i) 8)⟩
/-- a frame's bytes, as they came -/
def dtB (B : List Nat) (q L : Nat) : List Nat := tab L (fun i => vB B (q + 32 + 8 * i) 8)
theorem inX_la (B : List Nat) (s : Mx) (n : Nat) (hl : s.la = laX B n) : (inX s (nth B n)).la = laX B (n + 1) := by
  show (s.la * 2 + nth B n % 2) % 18446744073709551616 = _
  rw [hl]; rfl
theorem gk_step (r : Rx) (B : List Nat) (q : Nat) (t : Bool) (m k : Nat) (hk : k + 1 < 8 * r.L) : stX r (inX (Gk B q t m k) (nth B (q + 32 + k))) = (Gk B q t m (k + 1), []) := by
  have hla := inX_la B (Gk B q t m k) (q + 32 + k) rfl
  have e : inX (Gk B q t m k) (nth B (q + 32 + k)) = ⟨1, q + 32 + k + 1, laX B (q + 32 + k + 1), q, t, m, tab (k / 8) (fun i => vB B (q + 32 + 8 * i) 8)⟩ := by
    show Mx.mk _ _ _ _ _ _ _ = _
    rw [← hla]; rfl
  rw [e]
  show (if (1 : Nat) = 0 then _ else if (1 : Nat) = 1 then gaX r _ else _) = _
  rw [if_neg (by decide), if_pos rfl]
  unfold gaX
  by_cases h8 : (k + 1) % 8 = 0
  · rw [if_neg (by show ¬ ((q + 32 + k + 1 - q) % 8 ≠ 0); omega)]
    have hd : (k + 1) / 8 = k / 8 + 1 := by omega
    rw [if_neg (by show ¬ ((tab (k / 8) _).length + 1 = r.L); rw [tab_len]; omega)]
    show (Mx.mk _ _ _ _ _ _ _, _) = (Mx.mk _ _ _ _ _ _ _, _)
    have hv : laX B (q + 32 + k + 1) % 256 = vB B (q + 32 + 8 * (k / 8)) 8 := by
      have := la_mod B (q + 32 + 8 * (k / 8)) 8 (by decide)
      rw [show q + 32 + 8 * (k / 8) + 8 = q + 32 + k + 1 from by omega] at this
      exact this
    rw [hd, tab_succ]
    show (Mx.mk _ _ _ _ _ _ (tab (k / 8) _ ++ [laX B (q + 32 + k + 1) % 256]), _) = _
    rw [hv]; rfl
  · rw [if_pos (by show (q + 32 + k + 1 - q) % 8 ≠ 0; omega)]
    show (Mx.mk _ _ _ _ _ _ _, _) = (Mx.mk _ _ _ _ _ _ _, _)
    rw [show (k + 1) / 8 = k / 8 from by omega]; rfl
theorem gk_last (r : Rx) (B : List Nat) (q : Nat) (t : Bool) (m k : Nat) (hk : k + 1 = 8 * r.L) : stX r (inX (Gk B q t m k) (nth B (q + 32 + k))) = (⟨2, q + 32 + 8 * r.L, laX B (q + 32 + 8 * r.L), q + 32 + 8 * r.L, t, m, []⟩, [(q, t, m, scrL (tuD t (dtB B q r.L)))]) := by
  have hla := inX_la B (Gk B q t m k) (q + 32 + k) rfl
  have e : inX (Gk B q t m k) (nth B (q + 32 + k)) = ⟨1, q + 32 + k + 1, laX B (q + 32 + k + 1), q, t, m, tab (k / 8) (fun i => vB B (q + 32 + 8 * i) 8)⟩ := by
    show Mx.mk _ _ _ _ _ _ _ = _
    rw [← hla]; rfl
  rw [e]
  show (if (1 : Nat) = 0 then _ else if (1 : Nat) = 1 then gaX r _ else _) = _
  rw [if_neg (by decide), if_pos rfl]
  unfold gaX
  rw [if_neg (by show ¬ ((q + 32 + k + 1 - q) % 8 ≠ 0); omega)]
  rw [if_pos (by show (tab (k / 8) _).length + 1 = r.L; rw [tab_len]; omega)]
  have hv : laX B (q + 32 + k + 1) % 256 = vB B (q + 32 + 8 * (k / 8)) 8 := by
    have := la_mod B (q + 32 + 8 * (k / 8)) 8 (by decide)
    rw [show q + 32 + 8 * (k / 8) + 8 = q + 32 + k + 1 from by omega] at this
    exact this
  show (Mx.mk _ _ _ _ _ _ _, [(q, t, m, scrL (tuD t (tab (k / 8) _ ++ [laX B (q + 32 + k + 1) % 256])))]) = _
  rw [hv]
  unfold dtB
  rw [show r.L = k / 8 + 1 from by omega, tab_succ, show q + 32 + 8 * (k / 8 + 1) = q + 32 + k + 1 from by omega]
/-- a frame is gathered, from whatever bit behind its mark on -/
theorem gk_all (r : Rx) (B : List Nat) (q : Nat) (t : Bool) (m x : Nat) (T : List Fa) (hL : 1 ≤ r.L) (hx : x < 8) (h : tkX r s0X B (q + 32 + x) = (Gk B q t m x, T)) : tkX r s0X B (q + 32 + 8 * r.L) = (⟨2, q + 32 + 8 * r.L, laX B (q + 32 + 8 * r.L), q + 32 + 8 * r.L, t, m, []⟩, T ++ [(q, t, m, scrL (tuD t (dtB B q r.L)))]) := by
  have key : ∀ k, x ≤ k → k + 1 ≤ 8 * r.L → tkX r s0X B (q + 32 + k) = (Gk B q t m k, T) := by
    intro k
    induction k with
    | zero => intro h1 _; have e : x = 0 := by omega
              rw [e] at h; exact h
    | succ k ih =>
      intro h1 h2
      by_cases hk : x = k + 1
      · rw [← hk]; exact h
      · have hi := ih (by omega) (by omega)
        show ((stX r (inX (tkX r s0X B (q + 32 + k)).1 (nth B (q + 32 + k)))).1, (tkX r s0X B (q + 32 + k)).2 ++ (stX r (inX (tkX r s0X B (q + 32 + k)).1 (nth B (q + 32 + k)))).2) = _
        rw [hi]
        show ((stX r (inX (Gk B q t m k) (nth B (q + 32 + k)))).1, T ++ (stX r (inX (Gk B q t m k) (nth B (q + 32 + k)))).2) = _
        rw [gk_step r B q t m k (by omega)]
        simp
  have hl := key (8 * r.L - 1) (by omega) (by omega)
  rw [show q + 32 + 8 * r.L = (q + 32 + (8 * r.L - 1)) + 1 from by omega]
  show ((stX r (inX (tkX r s0X B (q + 32 + (8 * r.L - 1))).1 (nth B (q + 32 + (8 * r.L - 1))))).1, (tkX r s0X B (q + 32 + (8 * r.L - 1))).2 ++ (stX r (inX (tkX r s0X B (q + 32 + (8 * r.L - 1))).1 (nth B (q + 32 + (8 * r.L - 1))))).2) = _
  rw [hl]
  show ((stX r (inX (Gk B q t m (8 * r.L - 1)) (nth B (q + 32 + (8 * r.L - 1))))).1, T ++ (stX r (inX (Gk B q t m (8 * r.L - 1)) (nth B (q + 32 + (8 * r.L - 1))))).2) = _
  rw [gk_last r B q t m (8 * r.L - 1) (by omega), show q + 32 + (8 * r.L - 1) + 1 = q + 32 + 8 * r.L from by omega]
/-- a mark is expected: nothing is done till enough bits are there -/
theorem ex_wait (r : Rx) (B : List Nat) (q : Nat) (t : Bool) (m : Nat) (T : List Fa) (h : tkX r s0X B q = (⟨2, q, laX B q, q, t, m, []⟩, T)) : ∀ k, k ≤ 31 → tkX r s0X B (q + k) = (⟨2, q + k, laX B (q + k), q, t, m, []⟩, T) := by
  intro k
  induction k with
  | zero => intro _; exact h
  | succ k ih =>
    intro hk
    have hi := ih (by omega)
    show ((stX r (inX (tkX r s0X B (q + k)).1 (nth B (q + k)))).1, (tkX r s0X B (q + k)).2 ++ (stX r (inX (tkX r s0X B (q + k)).1 (nth B (q + k)))).2) = _
    rw [hi]
    show ((exX r (Mx.mk 2 (q + k + 1) (laX B (q + k + 1)) q t m [])), T ++ []) = _
    unfold exX
    rw [if_neg (by show ¬ q + k + 1 = q + 32; omega), if_neg (by show ¬ q + k + 1 = q + 33; omega), List.append_nil]
    rfl
theorem ex_here (r : Rx) (B : List Nat) (q : Nat) (t : Bool) (m : Nat) (T : List Fa) (h : tkX r s0X B q = (⟨2, q, laX B q, q, t, m, []⟩, T)) (hw : wrB B q t ≤ r.H) : tkX r s0X B (q + 32 + 0) = (Gk B q t 0 0, T) := by
  have hi := ex_wait r B q t m T h 31 (by decide)
  show ((stX r (inX (tkX r s0X B (q + 31)).1 (nth B (q + 31)))).1, (tkX r s0X B (q + 31)).2 ++ (stX r (inX (tkX r s0X B (q + 31)).1 (nth B (q + 31)))).2) = _
  rw [hi]
  show ((exX r (Mx.mk 2 (q + 32) (laX B (q + 32)) q t m [])), T ++ []) = _
  unfold exX
  have e := wrX_B B (Mx.mk 2 (q + 32) (laX B (q + 32)) q t m []) (q + 32) q t rfl rfl (by omega) (by omega)
  rw [if_pos (by show q + 32 = q + 32; rfl), if_pos (by show wrX _ q t ≤ r.H; rw [e]; exact hw), List.append_nil]
  rfl
theorem ex_more (r : Rx) (B : List Nat) (q : Nat) (t : Bool) (m : Nat) (T : List Fa) (h : tkX r s0X B q = (⟨2, q, laX B q, q, t, m, []⟩, T)) (hw : ¬ wrB B q t ≤ r.H) : tkX r s0X B (q + 33) = (deX r (Mx.mk 2 (q + 33) (laX B (q + 33)) q t m []), T) := by
  have hi := ex_wait r B q t m T h 31 (by decide)
  have hj : tkX r s0X B (q + 32) = (⟨2, q + 32, laX B (q + 32), q, t, m, []⟩, T) := by
    show ((stX r (inX (tkX r s0X B (q + 31)).1 (nth B (q + 31)))).1, (tkX r s0X B (q + 31)).2 ++ (stX r (inX (tkX r s0X B (q + 31)).1 (nth B (q + 31)))).2) = _
    rw [hi]
    show ((exX r (Mx.mk 2 (q + 32) (laX B (q + 32)) q t m [])), T ++ []) = _
    unfold exX
    have e := wrX_B B (Mx.mk 2 (q + 32) (laX B (q + 32)) q t m []) (q + 32) q t rfl rfl (by omega) (by omega)
    rw [if_pos (by show q + 32 = q + 32; rfl), if_neg (by show ¬ wrX _ q t ≤ r.H; rw [e]; exact hw), List.append_nil]
  show ((stX r (inX (tkX r s0X B (q + 32)).1 (nth B (q + 32)))).1, (tkX r s0X B (q + 32)).2 ++ (stX r (inX (tkX r s0X B (q + 32)).1 (nth B (q + 32)))).2) = _
  rw [hj]
  show ((exX r (Mx.mk 2 (q + 33) (laX B (q + 33)) q t m [])), T ++ []) = _
  unfold exX
  rw [if_neg (by show ¬ q + 33 = q + 32; omega), if_pos (by show q + 33 = q + 33; rfl), List.append_nil]
/-- a bit was lost: the mark lies one bit ahead -/
theorem ex_lost (r : Rx) (B : List Nat) (q : Nat) (t : Bool) (m : Nat) (T : List Fa) (hq : 1 ≤ q) (hL : 1 ≤ r.L) (h : tkX r s0X B q = (⟨2, q, laX B q, q, t, m, []⟩, T)) (hw : ¬ wrB B q t ≤ r.H) (h1 : wrB B (q - 1) t ≤ r.F) : tkX r s0X B (q - 1 + 32 + 2) = (Gk B (q - 1) t 0 2, T) := by
  rw [show q - 1 + 32 + 2 = q + 33 from by omega, ex_more r B q t m T h hw]
  unfold deX
  have e := wrX_B B (Mx.mk 2 (q + 33) (laX B (q + 33)) q t m []) (q + 33) (q - 1) t rfl rfl (by omega) (by omega)
  rw [if_pos (by show wrX _ (q - 1) t ≤ r.F; rw [e]; exact h1)]
  unfold Gk
  rw [show q - 1 + 32 + 2 = q + 33 from by omega]
  rfl
/-- a bit came too many: it lies one bit behind -/
theorem ex_many (r : Rx) (B : List Nat) (q : Nat) (t : Bool) (m : Nat) (T : List Fa) (hq : 1 ≤ q) (h : tkX r s0X B q = (⟨2, q, laX B q, q, t, m, []⟩, T)) (hw : ¬ wrB B q t ≤ r.H) (h1 : ¬ wrB B (q - 1) t ≤ r.F) (h2 : wrB B (q + 1) t ≤ r.F) : tkX r s0X B (q + 1 + 32 + 0) = (Gk B (q + 1) t 0 0, T) := by
  rw [show q + 1 + 32 + 0 = q + 33 from by omega, ex_more r B q t m T h hw]
  unfold deX
  have e := wrX_B B (Mx.mk 2 (q + 33) (laX B (q + 33)) q t m []) (q + 33) (q - 1) t rfl rfl (by omega) (by omega)
  have e2 := wrX_B B (Mx.mk 2 (q + 33) (laX B (q + 33)) q t m []) (q + 33) (q + 1) t rfl rfl (by omega) (by omega)
  rw [if_neg (by show ¬ wrX _ (q - 1) t ≤ r.F; rw [e]; exact h1), if_pos (by show wrX _ (q + 1) t ≤ r.F; rw [e2]; exact h2)]
  unfold Gk
  rw [show q + 1 + 32 + 0 = q + 33 from by omega]
  rfl
/-- at the beginning one searches at the first bit -/
theorem s0_wait (r : Rx) (B : List Nat) : ∀ k, k ≤ 31 → tkX r s0X B k = (⟨0, k, laX B k, 0, false, 0, []⟩, []) := by
  intro k
  induction k with
  | zero => intro _; rfl
  | succ k ih =>
    intro hk
    have hi := ih (by omega)
    show ((stX r (inX (tkX r s0X B k).1 (nth B k))).1, (tkX r s0X B k).2 ++ (stX r (inX (tkX r s0X B k).1 (nth B k))).2) = _
    rw [hi]
    show (sgX r (Mx.mk 0 (k + 1) (laX B (k + 1)) 0 false 0 []), [] ++ []) = _
    rw [sgX_lt r _ (by show k + 1 < 0 + 32; omega)]
    rfl
theorem s0_first (r : Rx) (B : List Nat) (t : Bool) (h1 : t = true → ¬ wrB B 0 false ≤ r.F) (h2 : wrB B 0 t ≤ r.F) : tkX r s0X B (0 + 32 + 0) = (Gk B 0 t 0 0, []) := by
  have hi := s0_wait r B 31 (by decide)
  show ((stX r (inX (tkX r s0X B 31).1 (nth B 31))).1, (tkX r s0X B 31).2 ++ (stX r (inX (tkX r s0X B 31).1 (nth B 31))).2) = _
  rw [hi]
  show (sgX r (Mx.mk 0 32 (laX B 32) 0 false 0 []), [] ++ []) = _
  have e := fun t => wrX_B B (Mx.mk 0 32 (laX B 32) 0 false 0 []) 32 0 t rfl rfl (by omega) (by omega)
  cases t with
  | false =>
    rw [sgX_f r _ (by show ¬ 32 < 0 + 32; omega) (by show wrX _ 0 false ≤ r.F; rw [e]; exact h2)]
    rfl
  | true =>
    rw [sgX_t r _ (by show ¬ 32 < 0 + 32; omega) (by show ¬ wrX _ 0 false ≤ r.F; rw [e]; exact h1 rfl) (by show wrX _ 0 true ≤ r.F; rw [e]; exact h2)]
    rfl
end Go.Proofs.Ythdjpbfknbafgaa
