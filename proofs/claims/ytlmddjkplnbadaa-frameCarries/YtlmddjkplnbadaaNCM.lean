import Derived.Test.YtlmddjkplnbadaaNT
import Derived.Test.YtlmddjkplnbadaaHAI
namespace Go.Proofs.Ytlmddjkplnbadaa
open Go.RowKit
set_option maxRecDepth 100000
set_option linter.unusedVariables false
set_option linter.unusedSimpArgs false

theorem hdV_app (A R : List Nat) (k : Nat) (hk : k ≤ A.length) : hdV (A ++ R) k = hdV A k := by
  induction k with
  | zero => rfl
  | succ k ih =>
    show hdV (A ++ R) k * 256 + nth (A ++ R) k = hdV A k * 256 + nth A k
    rw [ih (by omega), nth_app_left A R k (by omega)]
theorem on_parts {x : List Nat} (h : onP x = true) : dcE x = 0 ∧ hdV x 6 / 2 ^ 45 = 0 ∧ x.length = 7 + hdV x 6 % 65536 := by
  unfold onP at h
  rw [Bool.and_eq_true, decide_eq_true_eq, decide_eq_true_eq] at h
  obtain ⟨h1, h2⟩ := h
  unfold dcK at h2
  rw [if_pos h1] at h2
  refine ⟨h1, ?_, h2.symm⟩
  unfold dcE at h1
  split at h1
  · cases h1
  · split at h1
    · cases h1
    · rename_i _ h; omega
/-- a packet is decoded, whatever stands behind it -/
theorem on_app {x : List Nat} (h : onP x = true) (R : List Nat) : dcE (x ++ R) = 0 ∧ dcK (x ++ R) = x.length ∧ pdB (x ++ R) = pdB x := by
  obtain ⟨h1, h2, h3⟩ := on_parts h
  have hH := hdV_app x R 6 (by omega)
  have hE : dcE (x ++ R) = 0 := by
    unfold dcE
    rw [hH, List.length_append, if_neg (by omega), if_neg (by omega), if_neg (by omega)]
  refine ⟨hE, ?_, ?_⟩
  · unfold dcK
    rw [if_pos hE, hH]
    exact h3.symm
  · unfold pdB dcU dcS dcA dcP dcC dcD
    rw [if_pos hE, if_pos hE, if_pos hE, if_pos hE, if_pos hE, if_pos hE, if_pos h1, if_pos h1, if_pos h1, if_pos h1, if_pos h1, if_pos h1, hH]
    have e : ((x ++ R).drop 6).take (hdV x 6 % 65536 + 1) = (x.drop 6).take (hdV x 6 % 65536 + 1) := by
      rw [List.drop_append_of_le_length (by omega), List.take_append_of_le_length (by rw [List.length_drop]; omega)]
    rw [e]
/-- a beginning of a packet is none yet -/
theorem pre_more {x : List Nat} (h : onP x = true) (k : Nat) (hk : k < x.length) : dcE (x.take k) = 7 := by
  obtain ⟨h1, h2, h3⟩ := on_parts h
  unfold dcE
  rw [List.length_take, Nat.min_eq_left (by omega)]
  by_cases h6 : k < 6
  · rw [if_pos h6]
  · have hH : hdV (x.take k) 6 = hdV x 6 := by
      have := hdV_app (x.take k) (x.drop k) 6 (by rw [List.length_take]; omega)
      rw [List.take_append_drop] at this
      exact this.symm
    rw [if_neg h6, hH, if_neg (by omega), if_pos (by omega)]
/-- a row of packets and a beginning of one: what it splits into -/
theorem sp_row (X : List (List Nat)) : (∀ x, x ∈ X → onP x = true) → ∀ (Y : List Nat), dcE Y = 7 → ∀ f, (X.flatten ++ Y).length ≤ f → (spS f (X.flatten ++ Y)).map pdB = X.map pdB ∧ spR f (X.flatten ++ Y) = Y := by
  induction X with
  | nil =>
    intro _ Y hY f _
    have h := sp_end (B := Y) (by rw [hY]; decide) f
    rw [List.flatten_nil, List.nil_append, h.1, h.2]
    exact ⟨rfl, rfl⟩
  | cons x X ih =>
    intro hX Y hY f hf
    have hx := hX x List.mem_cons_self
    have hl := (onP_len hx).1
    rw [List.flatten_cons, List.append_assoc] at hf ⊢
    obtain ⟨a1, a2, a3⟩ := on_app hx (X.flatten ++ Y)
    rw [List.length_append] at hf
    obtain ⟨f, rfl⟩ : ∃ f', f = f' + 1 := ⟨f - 1, by omega⟩
    have e1 : spS (f + 1) (x ++ (X.flatten ++ Y)) = (x ++ (X.flatten ++ Y)) :: spS f ((x ++ (X.flatten ++ Y)).drop (dcK (x ++ (X.flatten ++ Y)))) := if_pos a1
    have e2 : spR (f + 1) (x ++ (X.flatten ++ Y)) = spR f ((x ++ (X.flatten ++ Y)).drop (dcK (x ++ (X.flatten ++ Y)))) := if_pos a1
    rw [e1, e2, a2, List.drop_left' rfl, List.map_cons, List.map_cons, a3]
    obtain ⟨i1, i2⟩ := ih (fun y hy => hX y (List.mem_cons_of_mem _ hy)) Y hY f (by omega)
    rw [i1, i2]
    exact ⟨rfl, rfl⟩
theorem wh_one {x : List Nat} (h : onP x = true) : whB x = true := by
  have := (sp_row [x] (fun y hy => by rw [List.mem_singleton.1 hy]; exact h) [] rfl x.length (by simp)).2
  have e : [x].flatten ++ [] = x := by simp
  rw [e] at this
  unfold whB
  rw [this]
  rfl
/-- a packet that fills -/
def FilP (x : List Nat) : Prop := onP x = true ∧ (pdB x).ap = 2047
theorem nxF_fil (m : Nat) (hm : m ≤ 60000) : FilP (nxF m) := by
  refine ⟨nxF_on m hm, ?_⟩
  unfold nxF filL
  rw [if_pos (by omega)]
  have e : (((max m 7 : Nat) : Int) - 6).toNat = max m 7 - 6 := by omega
  rw [e]
  obtain ⟨_, _, _, h, _⟩ := dc_enc false false 2047 3 0 (List.replicate (max m 7 - 6) 0) [] (by rw [List.length_replicate]; exact mayE_fill _ (by omega) (by omega))
  rw [List.append_nil] at h
  exact h
/-- what a frame takes: X is done, of what is left the first has begun -/
theorem nx_row (f : Nat) : ∀ (m : Nat) (P : List (List Nat)) (go : Nat), m ≤ 60000 → m ≤ f → (∀ x, x ∈ P → onP x = true) → (∀ x, P[0]? = some x → go < x.length) → (P = [] → go = 0) →
    ∃ X F : List (List Nat), P ++ F = X ++ (nx f m P go).2.1 ∧ (∀ x, x ∈ F → FilP x) ∧ (P.getD 0 []).take go ++ (nx f m P go).1 = X.flatten ++ ((nx f m P go).2.1.getD 0 []).take (nx f m P go).2.2 ∧ (X = [] → 0 < m → P ≠ [] → (nx f m P go).2.1 = P ∧ (nx f m P go).2.2 = go + m) := by
  induction f with
  | zero => intro m P go _ hm _ _ _; exact ⟨[], [], by simp [nx], (fun x h => by cases h), by simp [nx], fun _ h => by omega⟩
  | succ f ih =>
    intro m P go hm hf h1 h2 h3
    rw [nx]
    by_cases h0 : m = 0
    · rw [if_pos h0]
      exact ⟨[], [], by simp, (fun x h => by cases h), by simp, fun _ h => by omega⟩
    · rw [if_neg h0]
      have hP : ∃ F0, P ++ F0 = (if P.length = 0 then [nxF m] else P) ∧ (∀ x, x ∈ F0 → FilP x) ∧ (P.getD 0 []).take go = ((if P.length = 0 then [nxF m] else P).getD 0 []).take go ∧ (P ≠ [] → F0 = []) := by
        split
        · rename_i hz
          have hP0 := List.eq_nil_of_length_eq_zero hz
          subst hP0
          exact ⟨[nxF m], rfl, (fun x hx => by rw [List.mem_singleton.1 hx]; exact nxF_fil m hm), by rw [h3 rfl, List.take_zero, List.take_zero], fun h => absurd rfl h⟩
        · exact ⟨[], List.append_nil _, (fun x h => by cases h), rfl, fun _ => rfl⟩
      have hP2 : (∀ x, x ∈ (if P.length = 0 then [nxF m] else P) → onP x = true) ∧ (∀ x, (if P.length = 0 then [nxF m] else P)[0]? = some x → go < x.length) ∧ (if P.length = 0 then [nxF m] else P) ≠ [] := by
        split
        · rename_i hz
          have hg := h3 (List.eq_nil_of_length_eq_zero hz)
          refine ⟨fun x hx => ?_, fun x hx => ?_, by simp⟩
          · rw [List.mem_singleton.1 hx]; exact nxF_on m hm
          · have hx : some (nxF m) = some x := hx
            rw [← Option.some.inj hx, hg, nxF_len m hm]; omega
        · rename_i hz
          exact ⟨h1, h2, fun e => hz (by rw [e]; rfl)⟩
      generalize (if P.length = 0 then [nxF m] else P) = P' at hP hP2
      obtain ⟨F0, q1, q2, q3, q4⟩ := hP
      obtain ⟨p1, p2, p3⟩ := hP2
      obtain ⟨x, T, rfl⟩ : ∃ x T, P' = x :: T := by
        cases P' with
        | nil => exact absurd rfl p3
        | cons x T => exact ⟨x, T, rfl⟩
      have hx0 := p2 x rfl
      have q3 : (P.getD 0 []).take go = x.take go := q3
      by_cases h : x.length - go ≤ m
      · rw [if_pos (show ((x :: T).getD 0 []).length - go ≤ m from h)]
        obtain ⟨X1, F1, i1, i2, i3, _⟩ := ih (m - (x.length - go)) T 0 (by omega) (by omega) (fun y hy => p1 y (List.mem_cons_of_mem _ hy)) (fun y hy => by have := (onP_len (p1 y (List.mem_cons_of_mem _ (List.mem_of_getElem? hy)))).1; omega) (fun _ => rfl)
        rw [List.take_zero, List.nil_append] at i3
        refine ⟨x :: X1, F0 ++ F1, ?_, fun y hy => ?_, ?_, fun e => by cases e⟩
        · rw [← List.append_assoc, q1]
          show x :: (T ++ F1) = x :: (X1 ++ _)
          rw [i1]
          rfl
        · rcases List.mem_append.1 hy with hy | hy
          · exact q2 y hy
          · exact i2 y hy
        · rw [q3]
          show x.take go ++ (x.drop go ++ (nx f (m - (x.length - go)) T 0).1) = (x ++ X1.flatten) ++ _
          rw [← List.append_assoc, List.take_append_drop, i3, List.append_assoc]
          rfl
      · rw [if_neg (show ¬ ((x :: T).getD 0 []).length - go ≤ m from h)]
        refine ⟨[], F0, q1, q2, ?_, fun _ _ hne => ?_⟩
        · rw [q3]
          show x.take go ++ (x.drop go).take m = [].flatten ++ x.take (go + m)
          rw [List.flatten_nil, List.nil_append, List.take_add]
        · rw [← q1, q4 hne, List.append_nil]
          exact ⟨rfl, rfl⟩
/-- what a frame of a channel takes -/
theorem fr_split {room go TG : Nat} {P TP : List (List Nat)} {DA : List Nat} (hr : 1 ≤ room ∧ room ≤ 2036) (hP : ∀ x, x ∈ P → onP x = true) (hne : P ≠ []) (hK : TK room DA TP TG [] P go) :
    ∃ X F : List (List Nat), P ++ F = X ++ TP ∧ (∀ x, x ∈ F → FilP x) ∧ (P.getD 0 []).take go ++ DA = X.flatten ++ (TP.getD 0 []).take TG ∧ (X = [] → TP = P ∧ TG = go + room) ∧ (∀ x, x ∈ X → onP x = true) ∧ dcE ((TP.getD 0 []).take TG) = 7 ∧ DA.length = room ∧ (X = [] → go + room < (P.getD 0 []).length) ∧ (∀ y Z, X = y :: Z → y = P.getD 0 [] ∧ y.length ≤ go + room) := by
  obtain ⟨f, hf, e1, e2⟩ := hK.ex
  have hf : room ≤ f := hf
  have e1 : [] ++ (nx f room P go).1 = DA := e1
  have e2 : (nx f room P go).2 = (TP, TG) := e2
  rw [List.nil_append] at e1
  have hDA := hK.len_eq (by omega)
  obtain ⟨X, F, x1, x2, x3, x4⟩ := nx_row f room P go (by omega) hf hP hK.go hK.go0
  obtain ⟨o1, o2, o3⟩ := nx_on f room P go (by omega) hP hK.go hK.go0
  rw [e2] at x1 x3 x4 o1 o2 o3
  rw [e1] at x3
  have x1 : P ++ F = X ++ TP := x1
  have x3 : (P.getD 0 []).take go ++ DA = X.flatten ++ (TP.getD 0 []).take TG := x3
  have x4 : X = [] → 0 < room → P ≠ [] → TP = P ∧ TG = go + room := x4
  have o1 : ∀ x, x ∈ TP → onP x = true := o1
  have o2 : ∀ x, TP[0]? = some x → TG < x.length := o2
  have hX : ∀ x, x ∈ X → onP x = true := fun x hx => by
    have : x ∈ P ++ F := by rw [x1]; exact List.mem_append_left _ hx
    rcases List.mem_append.1 this with h | h
    · exact hP x h
    · exact (x2 x h).1
  obtain ⟨p0, T, hPe⟩ : ∃ p0 T, P = p0 :: T := by
    cases P with
    | nil => exact absurd rfl hne
    | cons p0 T => exact ⟨p0, T, rfl⟩
  have hg0 := hK.go p0 (by rw [hPe]; rfl)
  refine ⟨X, F, x1, x2, x3, fun h => x4 h (by omega) hne, hX, ?_, hDA, fun h => ?_, fun y Z h => ?_⟩
  · cases hTP : TP with
    | nil => rw [List.getD_nil, List.take_nil]; rfl
    | cons y Z =>
      have hy : y ∈ TP := by rw [hTP]; exact List.mem_cons_self
      exact pre_more (o1 y hy) TG (o2 y (by rw [hTP]; rfl))
  · obtain ⟨h1, h2⟩ := x4 h (by omega) hne
    have := o2 p0 (by rw [h1, hPe]; rfl)
    rw [hPe]
    show go + room < p0.length
    omega
  · subst h
    rw [hPe] at x1 x3 ⊢
    have x1 : p0 :: (T ++ F) = y :: (Z ++ TP) := x1
    have e : p0 = y := (List.cons.inj x1).1
    refine ⟨e.symm, ?_⟩
    have hl := congrArg List.length x3
    rw [List.length_append, List.length_append, List.length_take, List.flatten_cons, List.length_append, hDA] at hl
    have : (List.getD (p0 :: T) 0 []).length = p0.length := rfl
    omega
/-- what one who has heard all hears of it, and what one hears who begins anew -/
theorem fr_hear {room go TG : Nat} {P TP : List (List Nat)} {DA : List Nat} (hr : 1 ≤ room ∧ room ≤ 2036) (hP : ∀ x, x ∈ P → onP x = true) (hne : P ≠ []) (hK : TK room DA TP TG [] P go) :
    ∃ X F : List (List Nat), P ++ F = X ++ TP ∧ (∀ x, x ∈ F → FilP x) ∧ (∀ x, x ∈ X → onP x = true) ∧ (X = [] → TP = P ∧ TG = go + room) ∧ (∀ y Z, X = y :: Z → y = P.getD 0 [] ∧ y.length ≤ go + room) ∧
      (spS (goL ((P.getD 0 []).take go) DA (fiT P go room)).length (goL ((P.getD 0 []).take go) DA (fiT P go room))).map pdB = X.map pdB ∧ keL (goL ((P.getD 0 []).take go) DA (fiT P go room)) = (TP.getD 0 []).take TG ∧
      (spS (goL [] DA (fiT P go room)).length (goL [] DA (fiT P go room))).map pdB = (if go = 0 then X else X.tail).map pdB ∧ keL (goL [] DA (fiT P go room)) = if go = 0 ∨ X ≠ [] then (TP.getD 0 []).take TG else [] := by
  obtain ⟨X, F, x1, x2, x3, x4, x5, x6, x7, x8, x9⟩ := fr_split hr hP hne hK
  obtain ⟨p0, T, hPe⟩ : ∃ p0 T, P = p0 :: T := by
    cases P with
    | nil => exact absurd rfl hne
    | cons p0 T => exact ⟨p0, T, rfl⟩
  have hg0 := hK.go p0 (by rw [hPe]; rfl)
  have hp0 : P.getD 0 [] = p0 := by rw [hPe]; rfl
  have hon0 := hP p0 (by rw [hPe]; exact List.mem_cons_self)
  have hfi : fiT P go room = if go = 0 then 0 else (if p0.length - go < room then p0.length - go else 2047) := by unfold fiT; rw [hp0]
  rw [hp0] at x3 x8 x9 ⊢
  have hRl : (p0.take go).length = go := by rw [List.length_take]; omega
  -- the bytes of one who has heard all
  have hA : goL (p0.take go) DA (fiT P go room) = p0.take go ++ DA := by
    unfold goL
    rw [hfi, hRl, x7]
    by_cases h0 : go = 0
    · rw [if_pos h0, if_neg (by omega), if_neg (by omega), if_neg (by omega), h0]
      rfl
    · rw [if_neg h0]
      by_cases h1 : p0.length - go < room
      · rw [if_pos h1, if_neg (by omega), if_neg (by omega)]
        have hX : ∃ Z, X = p0 :: Z := by
          cases X with
          | nil => have := x8 rfl; omega
          | cons y Z => exact ⟨Z, by rw [(x9 y Z rfl).1]⟩
        obtain ⟨Z, rfl⟩ := hX
        have hw : p0.take go ++ DA.take (p0.length - go) = p0 := by
          have e : (p0.take go ++ DA).take p0.length = p0 := by rw [x3, List.flatten_cons, List.append_assoc]; exact List.take_left' rfl
          rw [List.take_append, hRl, List.take_of_length_le (by rw [hRl]; omega)] at e
          exact e
        rw [hw, if_pos ⟨by omega, wh_one hon0⟩]
      · rw [if_neg h1, if_pos rfl, if_neg h0]
  have hY := x6
  have two : ∀ (X : List (List Nat)), (∀ x, x ∈ X → onP x = true) → ∀ G, G = X.flatten ++ (TP.getD 0 []).take TG → (spS G.length G).map pdB = X.map pdB ∧ keL G = (TP.getD 0 []).take TG := by
    intro X hX G hG
    obtain ⟨s1, s2⟩ := sp_row X hX _ hY G.length (by rw [← hG]; exact Nat.le_refl _)
    rw [← hG] at s1 s2
    refine ⟨s1, ?_⟩
    unfold keL
    rw [s2, hY]
    rfl
  obtain ⟨a1, a2⟩ := two X x5 _ (hA.trans x3)
  refine ⟨X, F, x1, x2, x5, x4, x9, a1, a2, ?_⟩
  by_cases h0 : go = 0
  · have e : p0.take go = [] := by rw [h0]; rfl
    rw [e] at a1 a2
    rw [if_pos h0, if_pos (Or.inl h0)]
    exact ⟨a1, a2⟩
  · rw [if_neg h0]
    have hN : goL [] DA (fiT P go room) = DA.drop (p0.length - go) := by
      unfold goL
      rw [hfi, if_neg h0, x7]
      by_cases h1 : p0.length - go < room
      · rw [if_pos h1, if_neg (by omega), if_neg (by omega), if_neg (by rintro ⟨h, _⟩; simp at h)]
      · rw [if_neg h1, if_pos rfl, if_pos (by rfl), List.drop_eq_nil_of_le (by omega)]
    rw [hN]
    cases hX : X with
    | nil =>
      have := x8 hX
      rw [List.drop_eq_nil_of_le (by omega), if_neg (by rintro (h | h) <;> simp_all)]
      exact ⟨rfl, rfl⟩
    | cons y Z =>
      obtain ⟨e, _⟩ := x9 y Z hX
      subst e
      rw [if_pos (Or.inr (by simp))]
      refine two Z (fun x hx => x5 x (by rw [hX]; exact List.mem_cons_of_mem _ hx)) _ ?_
      have e : (y.take go ++ DA).drop y.length = Z.flatten ++ (TP.getD 0 []).take TG := by rw [x3, hX, List.flatten_cons, List.append_assoc]; exact List.drop_left' rfl
      rw [List.drop_append, hRl, List.drop_eq_nil_of_le (by rw [hRl]; omega), List.nil_append] at e
      exact e

/-- of the first m frames, the last n of a channel: is none of them lost? -/
def lw (chs : List Nat) (gn : List Bool) (c : Nat) : Nat → Nat → Bool
  | 0, _ => true
  | m + 1, n => if n = 0 then true else if chs.getD m 8 = c then (!(gn.getD m false)) && lw chs gn c m (n - 1) else lw chs gn c m n
theorem lw_z (chs : List Nat) (gn : List Bool) (c m : Nat) : lw chs gn c m 0 = true := by cases m <;> rfl
theorem lw_mono (chs : List Nat) (gn : List Bool) (c : Nat) : ∀ (m n n' : Nat), n' ≤ n → lw chs gn c m n = true → lw chs gn c m n' = true := by
  intro m
  induction m with
  | zero => intro n n' _ _; rfl
  | succ m ih =>
    intro n n' hn h
    by_cases h0 : n' = 0
    · rw [h0]; exact lw_z _ _ _ _
    · have e1 : lw chs gn c (m + 1) n = if chs.getD m 8 = c then (!(gn.getD m false)) && lw chs gn c m (n - 1) else lw chs gn c m n := if_neg (by omega)
      have e2 : lw chs gn c (m + 1) n' = if chs.getD m 8 = c then (!(gn.getD m false)) && lw chs gn c m (n' - 1) else lw chs gn c m n' := if_neg h0
      rw [e1] at h
      rw [e2]
      by_cases hc : chs.getD m 8 = c
      · rw [if_pos hc] at h ⊢
        rw [Bool.and_eq_true] at h ⊢
        exact ⟨h.1, ih _ _ (by omega) h.2⟩
      · rw [if_neg hc] at h ⊢
        exact ih _ _ hn h
theorem getD_app {α : Type} (L : List α) (x d : α) (i : Nat) (h : i < L.length) : (L ++ [x]).getD i d = L.getD i d := by
  rw [List.getD_eq_getElem?_getD, List.getElem?_append_left h, ← List.getD_eq_getElem?_getD]
theorem getD_end {α : Type} (L : List α) (x d : α) (k : Nat) (hk : L.length = k) : (L ++ [x]).getD k d = x := by
  subst hk
  rw [List.getD_eq_getElem?_getD, List.getElem?_append_right (Nat.le_refl _), Nat.sub_self]
  rfl
theorem lw_app (chs : List Nat) (gn : List Bool) (x : Nat) (y : Bool) (c : Nat) (hl : gn.length = chs.length) : ∀ (m n : Nat), m ≤ chs.length → lw (chs ++ [x]) (gn ++ [y]) c m n = lw chs gn c m n := by
  intro m
  induction m with
  | zero => intro n _; rfl
  | succ m ih =>
    intro n hm
    show (if n = 0 then true else if (chs ++ [x]).getD m 8 = c then (!((gn ++ [y]).getD m false)) && lw (chs ++ [x]) (gn ++ [y]) c m (n - 1) else lw (chs ++ [x]) (gn ++ [y]) c m n) = (if n = 0 then true else if chs.getD m 8 = c then (!(gn.getD m false)) && lw chs gn c m (n - 1) else lw chs gn c m n)
    rw [getD_app chs x 8 m (by omega), getD_app gn y false m (by omega), ih _ (by omega), ih _ (by omega)]
theorem lw_same (chs : List Nat) (gn : List Bool) (c n : Nat) (y : Bool) (hl : gn.length = chs.length) : lw (chs ++ [c]) (gn ++ [y]) c (chs.length + 1) (n + 1) = (!y && lw chs gn c chs.length n) := by
  show (if n + 1 = 0 then true else if (chs ++ [c]).getD chs.length 8 = c then (!((gn ++ [y]).getD chs.length false)) && lw (chs ++ [c]) (gn ++ [y]) c chs.length (n + 1 - 1) else _) = _
  rw [if_neg (by omega), getD_end chs c 8 _ rfl, if_pos rfl, getD_end gn y false _ hl, lw_app chs gn c y c hl _ _ (Nat.le_refl _), Nat.add_sub_cancel]
theorem lw_other (chs : List Nat) (gn : List Bool) (c x n : Nat) (y : Bool) (hl : gn.length = chs.length) (hne : x ≠ c) : lw (chs ++ [x]) (gn ++ [y]) c (chs.length + 1) n = lw chs gn c chs.length n := by
  by_cases h0 : n = 0
  · rw [h0, lw_z, lw_z]
  · show (if n = 0 then true else if (chs ++ [x]).getD chs.length 8 = c then _ else lw (chs ++ [x]) (gn ++ [y]) c chs.length n) = _
    rw [if_neg h0, getD_end chs x 8 _ rfl, if_neg hne, lw_app chs gn x y c hl _ _ (Nat.le_refl _)]
/-- a packet that was heard: the frame that it ended in, its channel -/
structure Tl where
  fr : Nat
  ch : Nat
  p : Pd
def needN (room : Nat) (p : Pd) : Nat := (p.D.length + 6 + room - 2) / room + 1
def wOK (chs : List Nat) (gn : List Bool) (room : Nat) (x : Tl) : Bool := !(gn.getD x.fr false) && lw chs gn x.ch (x.fr + 1) (needN room x.p)
def FlI (chs : List Nat) (gn : List Bool) (room : Nat) (x : Tl) (f : Bool) : Prop := (f = true → gn.getD x.fr false = false) ∧ (wOK chs gn room x = true → f = true)
/-- those that are marked -/
def sel : List Tl → List Bool → List Tl
  | x :: a, f :: fs => if f = true then x :: sel a fs else sel a fs
  | _, _ => []
theorem sel_app (a : List Tl) : ∀ (f : List Bool), f.length = a.length → ∀ a' f', sel (a ++ a') (f ++ f') = sel a f ++ sel a' f' := by
  induction a with
  | nil => intro f h a' f'; cases f with
    | nil => rfl
    | cons x f => cases h
  | cons x a ih => intro f h a' f'; cases f with
    | nil => cases h
    | cons y f =>
      have h : f.length = a.length := by simpa using h
      show (if y = true then x :: sel (a ++ a') (f ++ f') else sel (a ++ a') (f ++ f')) = (if y = true then x :: sel a f else sel a f) ++ sel a' f'
      rw [ih f h a' f']
      split <;> rfl
theorem sel_all (a : List Tl) : sel a (List.replicate a.length true) = a := by
  induction a with
  | nil => rfl
  | cons x a ih => show (if true = true then x :: sel a (List.replicate a.length true) else _) = _; rw [if_pos rfl, ih]
theorem sel_none (a : List Tl) : sel a (List.replicate a.length false) = [] := by
  induction a with
  | nil => rfl
  | cons x a ih => show (if false = true then _ else sel a (List.replicate a.length false)) = _; rw [if_neg (by decide), ih]
/-- what of a queue's first packet has gone -/
def Rc (q : Qd) : List Nat := (q.P.getD 0 []).take q.go.toNat
/-- what a listener of craft 77 hears of a frame -/
theorem pak_head {ch ma ow fi st : Int} {D : List Nat} (h : paE 77 ch ma ow fi st D.length = 0) :
    unE (pakL 77 ch ma ow fi st D) = 0 ∧ ((hrC (pakL 77 ch ma ow fi st D) : Nat) : Int) = 77 ∧ ((hrH (pakL 77 ch ma ow fi st D) : Nat) : Int) = ch ∧ ((hrM (pakL 77 ch ma ow fi st D) : Nat) : Int) = ma ∧ ((hrO (pakL 77 ch ma ow fi st D) : Nat) : Int) = ow ∧ ((hrF (pakL 77 ch ma ow fi st D) : Nat) : Int) = fi ∧ unD (pakL 77 ch ma ow fi st D) = D ∧ ((unS (pakL 77 ch ma ow fi st D) : Nat) : Int) = st ∧ (pakL 77 ch ma ow fi st D).length = D.length + 12 := by
  obtain ⟨u1, u2, u3, u4, u5⟩ := un_pak h
  rw [un_head u1] at u2
  unfold heA at u2
  have e := congrArg Array.toList u2
  simp only [List.cons.injEq, Value.int.injEq, true_and, and_true] at e
  obtain ⟨a1, a2, a3, a4, a5⟩ := e
  exact ⟨u1, a1, a2, a3, a4, a5, u3, u4, u5⟩
theorem hr_fill {N MA ma ow fi st : Int} {EA : List Ed} {D : List Nat} (hle : leD 77 N MA EA = true) (h : paE 77 7 ma ow fi st D.length = 0) (hN : N = (D.length : Int) + 12) (ch : Int) (s : Nat) (hs : st = (s : Int)) :
    HR 77 N MA EA (pakL 77 7 ma ow fi st D) 77 N ((ma + 1) % 256) EA ch [] (loN MA ma) s 0 := by
  obtain ⟨u1, u2, u3, u4, u5, u6, u7, u8, u9⟩ := pak_head h
  have he : erN 77 N (pakL 77 7 ma ow fi st D) = 0 := by
    unfold erN
    rw [if_pos u1, if_pos (by rw [u9, hN]; omega), if_pos u2]
  exact ⟨.inr (.inr (.inl ⟨hle, he, by omega, rfl, rfl, by rw [u4], rfl, rfl, by rw [u4], by omega, rfl⟩))⟩
theorem hr_take {N MA ma ow fi st : Int} {EA : List Ed} {D : List Nat} {c f : Nat} (hle : leD 77 N MA EA = true) (hc : c < 7) (hfi : fi = (f : Int)) (h : paE 77 (c : Int) ma ow fi st D.length = 0) (hN : N = (D.length : Int) + 12) (s : Nat) (hs : st = (s : Int)) (R : List Nat) (hR : R = if (EA.getD c ed0).x = ow then (EA.getD c ed0).D else []) :
    HR 77 N MA EA (pakL 77 (c : Int) ma ow fi st D) 77 N ((ma + 1) % 256) (EA.set c ⟨(ow + 1) % 256, keL (goL R D f)⟩) (c : Int) (((spS (goL R D f).length (goL R D f)).map pdB).filter (fun p => p.ap != 2047)) (loN MA ma) s 0 := by
  obtain ⟨u1, u2, u3, u4, u5, u6, u7, u8, u9⟩ := pak_head h
  have he : erN 77 N (pakL 77 (c : Int) ma ow fi st D) = 0 := by
    unfold erN
    rw [if_pos u1, if_pos (by rw [u9, hN]; omega), if_pos u2]
  have h3 : hrH (pakL 77 (c : Int) ma ow fi st D) = c := by omega
  have h6 : hrF (pakL 77 (c : Int) ma ow fi st D) = f := by omega
  have hG : heG EA (pakL 77 (c : Int) ma ow fi st D) = goL R D f := by
    unfold heG
    rw [h3, h6, u7, u5, ← hR]
  refine ⟨.inr (.inr (.inr ⟨hle, he, by omega, rfl, rfl, by rw [u4], ?_, ?_, by rw [u4], by omega, rfl, u3⟩))⟩
  · rw [h3, u5, hG]
  · rw [hG]
theorem leD_of {N MA : Int} {EA : List Ed} (hN : 13 ≤ N ∧ N ≤ 2048) (hM : -1 ≤ MA ∧ MA ≤ 255) (hl : EA.length = 7) (hE : ∀ e, e ∈ EA → (-1 ≤ e.x ∧ e.x ≤ 255) ∧ e.D.length ≤ 65541 ∧ (e.x = -1 → e.D = [])) : leD 77 N MA EA = true := by
  unfold leD exB
  simp only [Bool.and_eq_true, decide_eq_true_eq, List.all_eq_true]
  refine ⟨⟨⟨?_, hM⟩, hl⟩, fun e he => ?_⟩
  · unfold opE
    have h1 : siB N = true := decide_eq_true hN
    rw [if_pos (wiB_t (by decide)), if_pos h1]
  · obtain ⟨h1, h2, h3⟩ := hE e he
    unfold erD exB
    simp only [Bool.and_eq_true, decide_eq_true_eq, Bool.not_eq_true', Bool.and_eq_false_iff, decide_eq_false_iff_not]
    refine ⟨⟨h1, h2⟩, ?_⟩
    by_cases hx : e.x = -1
    · exact .inr (by rw [h3 hx]; simp)
    · exact .inl hx

def real (p : Pd) : Bool := p.ap != 2047
/-- what holds between two jobs -/
structure CI (room i : Nat) (ma : Int) (t : Nat) (Qs : List Qd) (MA : Int) (EA : List Ed) (MB : Int) (EB : List Ed) (put : List (Nat × Pd)) (a : List Tl) (fl : List Bool) (chs : List Nat) (gn : List Bool) (mi : Nat) : Prop where
  rm : 1 ≤ room ∧ room ≤ 60
  se : seD 77 ((room : Int) + 12) ma (t : Int) Qs = true
  cn : ∀ q, q ∈ Qs → q.P.length ≤ i
  lc : gn.length = chs.length ∧ chs.length ≤ i
  mil : mi ≤ chs.length
  ea : EA.length = 7 ∧ ∀ c, c < 7 → EA.getD c ed0 = ⟨(Qs.getD c qd0).ow, Rc (Qs.getD c qd0)⟩ ∨ (EA.getD c ed0 = ⟨-1, []⟩ ∧ (Qs.getD c qd0).go = 0)
  mA : MA = -1 ∨ MA = ma
  eb : EB.length = 7 ∧ ∀ c, c < 7 → EB.getD c ed0 = ⟨-1, []⟩ ∨ ∃ j : Nat, j ≤ chs.length ∧ (EB.getD c ed0).x = ((Qs.getD c qd0).ow - (j : Int)) % 256 ∧ (EB.getD c ed0).D.length ≤ 65541 ∧ (j = 0 → (EB.getD c ed0).D = Rc (Qs.getD c qd0) ∨ (EB.getD c ed0).D = [])
  mB : (MB = -1 ∧ sel a fl = []) ∨ MB = (ma - (mi : Int)) % 256
  sy : ∀ c, c < 7 → 0 < (Qs.getD c qd0).go → ∃ s : Nat, 1 + s * room ≤ (Qs.getD c qd0).go.toNat ∧ (lw chs gn c chs.length (s + 1) = true → EB.getD c ed0 = ⟨(Qs.getD c qd0).ow, Rc (Qs.getD c qd0)⟩)
  pu : ∀ c, c < 7 → ((a.filter (fun x => x.ch == c)).map Tl.p) ++ (((Qs.getD c qd0).P.map pdB).filter real) = (put.filter (fun x => x.1 == c)).map (·.2)
  p2 : put.Pairwise (fun x y => x.2.ct < y.2.ct)
  p3 : ∀ x, x ∈ put → x.2.ap = (x.1 : Int) ∧ x.1 < 7 ∧ x.2.ct < (i : Int)
  a2 : ∀ x, x ∈ a → x.ch < 7 ∧ x.fr < chs.length
  fz : fl.length = a.length
  fI : ∀ (k : Nat) (x : Tl) (f : Bool), a[k]? = some x → fl[k]? = some f → FlI chs gn room x f
theorem getQ_set {L : List Qd} {c d : Nat} {v : Qd} (h : c < L.length) : (L.set c v).getD d qd0 = if d = c then v else L.getD d qd0 := by
  rw [List.getD_eq_getElem?_getD]
  by_cases e : d = c
  · subst e; rw [if_pos rfl, List.getElem?_set_self h]; rfl
  · rw [if_neg e, List.getElem?_set_ne (fun e' => e e'.symm), ← List.getD_eq_getElem?_getD]
theorem getE_set {L : List Ed} {c d : Nat} {v : Ed} (h : c < L.length) : (L.set c v).getD d ed0 = if d = c then v else L.getD d ed0 := by
  rw [List.getD_eq_getElem?_getD]
  by_cases e : d = c
  · subst e; rw [if_pos rfl, List.getElem?_set_self h]; rfl
  · rw [if_neg e, List.getElem?_set_ne (fun e' => e e'.symm), ← List.getD_eq_getElem?_getD]
theorem qu_parts {q : Qd} (h : quD q = true) : (0 ≤ q.ow ∧ q.ow ≤ 255) ∧ (∀ x, x ∈ q.P → onP x = true) ∧ 0 ≤ q.go ∧ (q.P = [] → q.go = 0) ∧ (∀ x, q.P[0]? = some x → q.go.toNat < x.length) := by
  unfold quD at h
  simp only [Bool.and_eq_true, decide_eq_true_eq, List.all_eq_true] at h
  obtain ⟨⟨⟨h1, _⟩, h3⟩, h4⟩ := h
  have h1 : 0 ≤ q.ow ∧ q.ow ≤ 255 := of_decide_eq_true h1
  cases hP : q.P with
  | nil =>
    rw [hP] at h4
    rw [if_pos (show ([] : List (List Nat)).length = 0 from rfl)] at h4
    have h4 : q.go = 0 := of_decide_eq_true h4
    exact ⟨h1, (fun x hx => by cases hx), by omega, fun _ => h4, (fun x hx => by cases hx)⟩
  | cons y T =>
    rw [hP] at h4 h3
    rw [if_neg (by simp)] at h4
    have h4 : 0 ≤ q.go ∧ q.go ≤ (y.length : Int) - 1 := of_decide_eq_true h4
    refine ⟨h1, h3, h4.1, (fun e => by cases e), fun x hx => ?_⟩
    have hx : some y = some x := hx
    rw [← Option.some.inj hx]
    omega
theorem CI.q {room i : Nat} {ma : Int} {t : Nat} {Qs : List Qd} {MA : Int} {EA : List Ed} {MB : Int} {EB : List Ed} {put : List (Nat × Pd)} {a : List Tl} {fl : List Bool} {chs : List Nat} {gn : List Bool} {mi : Nat} (h : CI room i ma t Qs MA EA MB EB put a fl chs gn mi) {c : Nat} (hc : c < 7) : Qs.length = 7 ∧ quD (Qs.getD c qd0) = true ∧ Qs[c]? = some (Qs.getD c qd0) := by
  obtain ⟨_, _, _, o4, o5⟩ := seD_iff.1 h.se
  have e : Qs[c]? = some (Qs.getD c qd0) := by rw [List.getD_eq_getElem?_getD, List.getElem?_eq_getElem (by omega)]; rfl
  exact ⟨o4, o5 _ (List.mem_of_getElem? e), e⟩
/-- at first -/
theorem CI.first (room : Nat) (hr : 1 ≤ room ∧ room ≤ 60) : CI room 0 0 0 (List.replicate 7 qd0) (-1) (List.replicate 7 ⟨-1, []⟩) (-1) (List.replicate 7 ⟨-1, []⟩) [] [] [] [] [] 0 := by
  have hq : ∀ c, (List.replicate 7 qd0).getD c qd0 = qd0 := fun c => by rw [List.getD_eq_getElem?_getD, List.getElem?_replicate]; split <;> rfl
  have he : ∀ c, c < 7 → (List.replicate 7 (⟨-1, []⟩ : Ed)).getD c ed0 = ⟨-1, []⟩ := fun c hc => by rw [List.getD_eq_getElem?_getD, List.getElem?_replicate, if_pos hc]; rfl
  refine ⟨hr, ?_, (fun q h => by rw [List.eq_of_mem_replicate h]; exact Nat.le_refl _), ⟨rfl, Nat.le_refl _⟩, Nat.le_refl _, ⟨rfl, fun c hc => .inr ⟨he c hc, by rw [hq]; rfl⟩⟩, .inl rfl, ⟨rfl, fun c hc => .inl (he c hc)⟩, .inl ⟨rfl, rfl⟩, (fun c hc h => by rw [hq] at h; exact absurd h (by decide)), (fun c hc => by rw [hq]; rfl), List.Pairwise.nil, (fun x h => by cases h), (fun x h => by cases h), rfl, (fun k x f h => by simp at h)⟩
  refine seD_iff.2 ⟨?_, by omega, by omega, rfl, fun q h => by rw [List.eq_of_mem_replicate h]; rfl⟩
  unfold opE
  have h1 : siB ((room : Int) + 12) = true := decide_eq_true (by omega)
  rw [if_pos (wiB_t (by decide)), if_pos h1]
/-- which listeners may be -/
theorem CI.leA {room i : Nat} {ma : Int} {t : Nat} {Qs : List Qd} {MA : Int} {EA : List Ed} {MB : Int} {EB : List Ed} {put : List (Nat × Pd)} {a : List Tl} {fl : List Bool} {chs : List Nat} {gn : List Bool} {mi : Nat} (h : CI room i ma t Qs MA EA MB EB put a fl chs gn mi) : leD 77 ((room : Int) + 12) MA EA = true ∧ leD 77 ((room : Int) + 12) MB EB = true := by
  have hrm := h.rm
  obtain ⟨_, o2, _, o4, o5⟩ := seD_iff.1 h.se
  have hmem : ∀ (E : List Ed), E.length = 7 → ∀ e, e ∈ E → ∃ c, c < 7 ∧ E.getD c ed0 = e := fun E hl e he => by
    obtain ⟨c, hc, rfl⟩ := List.mem_iff_getElem.1 he
    exact ⟨c, by omega, by rw [List.getD_eq_getElem?_getD, List.getElem?_eq_getElem hc]; rfl⟩
  have hRl : ∀ c, c < 7 → (Rc (Qs.getD c qd0)).length ≤ 65541 := fun c hc => by
    obtain ⟨_, p2, p3, p4, p5⟩ := qu_parts (h.q hc).2.1
    unfold Rc
    cases hP : (Qs.getD c qd0).P with
    | nil => rw [List.getD_nil, List.take_nil]; exact Nat.zero_le _
    | cons y T =>
      have h1 := p5 y (by rw [hP]; rfl)
      have h2 := (onP_len (p2 y (by rw [hP]; exact List.mem_cons_self))).2
      show (y.take _).length ≤ _
      rw [List.length_take]
      omega
  refine ⟨leD_of (by omega) (by rcases h.mA with e | e <;> omega) h.ea.1 (fun e he => ?_), leD_of (by omega) (by rcases h.mB with ⟨e, _⟩ | e <;> omega) h.eb.1 (fun e he => ?_)⟩
  · obtain ⟨c, hc, rfl⟩ := hmem EA h.ea.1 e he
    rcases h.ea.2 c hc with e | ⟨e, _⟩
    · rw [e]
      have := (qu_parts (h.q hc).2.1).1
      exact ⟨⟨by show -1 ≤ (Qs.getD c qd0).ow; omega, this.2⟩, hRl c hc, fun e => by have e : (Qs.getD c qd0).ow = -1 := e; omega⟩
    · rw [e]; exact ⟨⟨by decide, by decide⟩, Nat.zero_le _, fun _ => rfl⟩
  · obtain ⟨c, hc, rfl⟩ := hmem EB h.eb.1 e he
    rcases h.eb.2 c hc with e | ⟨j, _, e2, e3, _⟩
    · rw [e]; exact ⟨⟨by decide, by decide⟩, Nat.zero_le _, fun _ => rfl⟩
    · exact ⟨by omega, e3, fun e => by omega⟩
theorem Rc_put (q : Qd) (B : List Nat) (hq : quD q = true) : Rc ⟨q.ow, q.go, q.P ++ [B]⟩ = Rc q := by
  obtain ⟨_, _, _, p4, _⟩ := qu_parts hq
  unfold Rc
  show ((q.P ++ [B]).getD 0 []).take q.go.toNat = _
  cases hP : q.P with
  | nil =>
    rw [p4 hP]
    show List.take 0 _ = List.take 0 _
    rw [List.take_zero, List.take_zero]
  | cons y T => rfl
/-- a packet is put -/
theorem CI.put {room i : Nat} {ma : Int} {t : Nat} {Qs : List Qd} {MA : Int} {EA : List Ed} {MB : Int} {EB : List Ed} {put : List (Nat × Pd)} {a : List Tl} {fl : List Bool} {chs : List Nat} {gn : List Bool} {mi : Nat} (h : CI room i ma t Qs MA EA MB EB put a fl chs gn mi) (hi : i < 200) {c : Nat} (hc : c < 7) (D : List Nat) (hD : 1 ≤ D.length ∧ D.length ≤ 90) :
    ptE 77 ((room : Int) + 12) ma (t : Int) Qs (c : Int) (encP false false (c : Int) 3 (i : Int) D) = 0 ∧ (∀ z, ptX 77 ((room : Int) + 12) ma (t : Int) Qs z = z) ∧ mayE (c : Int) 3 (i : Int) D.length = 0 ∧
    CI room (i + 1) ma t (ptV 77 ((room : Int) + 12) ma (t : Int) Qs (c : Int) (encP false false (c : Int) 3 (i : Int) D)) MA EA MB EB (put ++ [(c, ⟨false, false, (c : Int), 3, (i : Int), D⟩)]) a fl chs gn mi := by
  have hmay : mayE (c : Int) 3 (i : Int) D.length = 0 := by
    unfold mayE
    rw [if_pos ⟨⟨by omega, by omega⟩, ⟨by decide, by decide⟩, ⟨by omega, by omega⟩⟩, if_neg (by omega)]
  obtain ⟨hon, _⟩ := enc_on false false (c : Int) 3 (i : Int) D hmay
  obtain ⟨pE, pX, pS, pK, pV⟩ := pt_ok h.se h.cn hi hc hon
  have hpd : pdB (encP false false (c : Int) 3 (i : Int) D) = ⟨false, false, (c : Int), 3, (i : Int), D⟩ := by
    obtain ⟨_, d2, d3, d4, d5, d6, _, d8⟩ := dc_enc false false (c : Int) 3 (i : Int) D [] hmay
    rw [List.append_nil] at d2 d3 d4 d5 d6 d8
    unfold pdB
    rw [d2, d3, d4, d5, d6, d8]
  refine ⟨pE, pX, hmay, ?_⟩
  obtain ⟨hl7, hq, _⟩ := h.q hc
  rw [pV] at pS pK ⊢
  have hg : ∀ d, (Qs.set c ⟨(Qs.getD c qd0).ow, (Qs.getD c qd0).go, (Qs.getD c qd0).P ++ [encP false false (c : Int) 3 (i : Int) D]⟩).getD d qd0 = if d = c then ⟨(Qs.getD c qd0).ow, (Qs.getD c qd0).go, (Qs.getD c qd0).P ++ [encP false false (c : Int) 3 (i : Int) D]⟩ else Qs.getD d qd0 := fun d => getQ_set (by omega)
  have gow : ∀ d, ((Qs.set c ⟨(Qs.getD c qd0).ow, (Qs.getD c qd0).go, (Qs.getD c qd0).P ++ [encP false false (c : Int) 3 (i : Int) D]⟩).getD d qd0).ow = (Qs.getD d qd0).ow := fun d => by
    rw [hg]; by_cases e : d = c
    · rw [if_pos e, e]
    · rw [if_neg e]
  have ggo : ∀ d, ((Qs.set c ⟨(Qs.getD c qd0).ow, (Qs.getD c qd0).go, (Qs.getD c qd0).P ++ [encP false false (c : Int) 3 (i : Int) D]⟩).getD d qd0).go = (Qs.getD d qd0).go := fun d => by
    rw [hg]; by_cases e : d = c
    · rw [if_pos e, e]
    · rw [if_neg e]
  have gRc : ∀ d, Rc ((Qs.set c ⟨(Qs.getD c qd0).ow, (Qs.getD c qd0).go, (Qs.getD c qd0).P ++ [encP false false (c : Int) 3 (i : Int) D]⟩).getD d qd0) = Rc (Qs.getD d qd0) := fun d => by
    rw [hg]; by_cases e : d = c
    · rw [if_pos e, e]; exact Rc_put _ _ hq
    · rw [if_neg e]
  refine ⟨h.rm, pS, pK, ⟨h.lc.1, by have := h.lc.2; omega⟩, h.mil, ⟨h.ea.1, fun d hd => by rw [gow, ggo, gRc]; exact h.ea.2 d hd⟩, h.mA, ⟨h.eb.1, fun d hd => by rw [gow, gRc]; exact h.eb.2 d hd⟩, h.mB, fun d hd hgo => by rw [ggo] at hgo ⊢; rw [gow, gRc]; exact h.sy d hd hgo, fun d hd => ?_, ?_, fun x hx => ?_, h.a2, h.fz, h.fI⟩
  · rw [hg, List.filter_append, List.map_append, ← h.pu d hd]
    by_cases e : d = c
    · subst e
      rw [if_pos rfl]
      show _ ++ List.filter real (((Qs.getD d qd0).P ++ [encP false false (d : Int) 3 (i : Int) D]).map pdB) = _
      rw [List.map_append, List.filter_append, ← List.append_assoc]
      congr 1
      show List.filter real [pdB (encP false false (d : Int) 3 (i : Int) D)] = _
      rw [hpd]
      have hr : real ⟨false, false, (d : Int), 3, (i : Int), D⟩ = true := by
        unfold real
        have : ¬ ((d : Int) = 2047) := by omega
        simpa using this
      rw [List.filter_cons, hr]
      simp
    · rw [if_neg e]
      have : ((c == d) : Bool) = false := by simp; omega
      rw [List.filter_cons]
      simp [this]
  · refine List.pairwise_append.2 ⟨h.p2, List.pairwise_singleton _ _, fun x hx y hy => ?_⟩
    rw [List.mem_singleton.1 hy]
    exact (h.p3 x hx).2.2
  · rcases List.mem_append.1 hx with hx | hx
    · obtain ⟨q1, q2, q3⟩ := h.p3 x hx
      exact ⟨q1, q2, by omega⟩
    · rw [List.mem_singleton.1 hx]
      exact ⟨rfl, hc, by show (i : Int) < _; omega⟩

theorem FlI.app {chs : List Nat} {gn : List Bool} {room : Nat} {x : Tl} {f : Bool} (h : FlI chs gn room x f) (hl : gn.length = chs.length) (hx : x.fr < chs.length) (c : Nat) (d : Bool) : FlI (chs ++ [c]) (gn ++ [d]) room x f := by
  obtain ⟨h1, h2⟩ := h
  have e : (gn ++ [d]).getD x.fr false = gn.getD x.fr false := getD_app gn d false x.fr (by omega)
  refine ⟨fun hf => by rw [e]; exact h1 hf, fun hw => h2 ?_⟩
  unfold wOK at hw ⊢
  rw [e, lw_app chs gn c d x.ch hl _ _ (by omega)] at hw
  exact hw
theorem flag_app {chs : List Nat} {gn : List Bool} {room : Nat} {a a' : List Tl} {fl fs : List Bool} (hz : fl.length = a.length) (h1 : ∀ (k : Nat) (x : Tl) (f : Bool), a[k]? = some x → fl[k]? = some f → FlI chs gn room x f) (h2 : ∀ (k : Nat) (x : Tl) (f : Bool), a'[k]? = some x → fs[k]? = some f → FlI chs gn room x f) : ∀ (k : Nat) (x : Tl) (f : Bool), (a ++ a')[k]? = some x → (fl ++ fs)[k]? = some f → FlI chs gn room x f := by
  intro k x f hx hf
  by_cases hk : k < a.length
  · rw [List.getElem?_append_left hk] at hx
    rw [List.getElem?_append_left (by omega)] at hf
    exact h1 k x f hx hf
  · rw [List.getElem?_append_right (by omega)] at hx
    rw [List.getElem?_append_right (by omega), hz] at hf
    exact h2 _ x f hx hf
def tlk (k c : Nat) (p : Pd) : Tl := ⟨k, c, p⟩
theorem filt_ch (k c d : Nat) (L : List Pd) : ((L.map (tlk k c)).filter (fun x => x.ch == d)).map Tl.p = if c = d then L else [] := by
  rw [List.filter_map]
  have hf : ((fun x : Tl => x.ch == d) ∘ tlk k c) = fun _ => (c == d) := rfl
  rw [hf, List.map_map]
  have hm : (Tl.p ∘ tlk k c) = fun p => p := rfl
  rw [hm, List.map_id']
  by_cases e : c = d
  · rw [if_pos e, List.filter_eq_self.2 (fun _ _ => by simpa using e)]
  · rw [if_neg e, List.filter_eq_nil_iff.2 (fun _ _ => by simpa using e)]
section
variable {room i : Nat} {ma : Int} {t : Nat} {Qs : List Qd} {MA : Int} {EA : List Ed} {MB : Int} {EB : List Ed} {put : List (Nat × Pd)} {a : List Tl} {fl : List Bool} {chs : List Nat} {gn : List Bool} {mi : Nat}
/-- what of numbers goes on with each frame -/
theorem CI.nums (h : CI room i ma t Qs MA EA MB EB put a fl chs gn mi) (hi : i < 250) (d : Bool) (fs : List Bool) (Ps : List Pd) (c : Nat) (hs : d = true → sel (Ps.map (tlk chs.length c)) fs = []) :
    ((if d = true then MB else (ma + 1) % 256) = -1 ∧ sel (a ++ Ps.map (tlk chs.length c)) (fl ++ fs) = []) ∨ (if d = true then MB else (ma + 1) % 256) = ((ma + 1) % 256 - ((if d = true then mi + 1 else 0 : Nat) : Int)) % 256 := by
  obtain ⟨_, o2, _⟩ := seD_iff.1 h.se
  have hm := h.mil
  have hl := h.lc.2
  cases d with
  | false => refine .inr ?_; simp only [Bool.false_eq_true, if_false]; omega
  | true =>
    rcases h.mB with ⟨e1, e2⟩ | e
    · refine .inl ⟨?_, ?_⟩
      · rw [if_pos rfl]; exact e1
      · rw [sel_app a fl h.fz, e2, hs rfl]; rfl
    · refine .inr ?_
      rw [if_pos rfl, if_pos rfl, e]
      omega
theorem CI.lostB (h : CI room i ma t Qs MA EA MB EB put a fl chs gn mi) (hi : i < 250) : sel a fl ≠ [] → loN MB ma = (mi : Int) := by
  intro hne
  obtain ⟨_, o2, _⟩ := seD_iff.1 h.se
  have hm := h.mil
  have hl := h.lc.2
  rcases h.mB with ⟨_, e2⟩ | e
  · exact absurd e2 hne
  · unfold loN
    rw [if_neg (by omega), e]
    omega
theorem CI.lostA (h : CI room i ma t Qs MA EA MB EB put a fl chs gn mi) : loN MA ma = 0 := by
  obtain ⟨_, o2, _⟩ := seD_iff.1 h.se
  unfold loN
  rcases h.mA with e | e
  · rw [if_pos e]
  · rw [e, if_neg (by omega)]; omega
/-- a frame that fills -/
theorem CI.fill (h : CI room i ma t Qs MA EA MB EB put a fl chs gn mi) (hi : i < 250) (d : Bool) :
    CI room (i + 1) ((ma + 1) % 256) t Qs ((ma + 1) % 256) EA (if d = true then MB else (ma + 1) % 256) EB put (a ++ ([] : List Pd).map (tlk chs.length 7)) (fl ++ []) (chs ++ [7]) (gn ++ [d]) (if d = true then mi + 1 else 0) := by
  obtain ⟨o1, o2, o3, o4, o5⟩ := seD_iff.1 h.se
  have hl := h.lc
  have hnum := h.nums hi d [] [] 7 (fun _ => rfl)
  have hm := h.mil
  have hcl : (chs ++ [7]).length = chs.length + 1 := by rw [List.length_append]; rfl
  refine ⟨h.rm, seD_iff.2 ⟨o1, by omega, o3, o4, o5⟩, fun q hq => by have := h.cn q hq; omega, ⟨by rw [hcl, List.length_append, hl.1]; rfl, by omega⟩, by rw [hcl]; split <;> omega, h.ea, .inr rfl, ⟨h.eb.1, fun c hc => ?_⟩, hnum, fun c hc hgo => ?_, fun c hc => ?_, h.p2, fun x hx => ?_, fun x hx => ?_, ?_, ?_⟩
  · rcases h.eb.2 c hc with e | ⟨j, e1, e2⟩
    · exact .inl e
    · exact .inr ⟨j, by omega, e2⟩
  · obtain ⟨s, s1, s2⟩ := h.sy c hc hgo
    refine ⟨s, s1, fun hw => s2 ?_⟩
    rw [hcl, lw_other chs gn c 7 (s + 1) d hl.1 (by omega)] at hw
    exact hw
  · rw [List.map_nil, List.append_nil]; exact h.pu c hc
  · obtain ⟨q1, q2, q3⟩ := h.p3 x hx
    exact ⟨q1, q2, by omega⟩
  · rw [List.map_nil, List.append_nil] at hx
    obtain ⟨q1, q2⟩ := h.a2 x hx
    exact ⟨q1, by omega⟩
  · rw [List.map_nil, List.append_nil, List.append_nil]; exact h.fz
  · rw [List.map_nil, List.append_nil, List.append_nil]
    intro k x f hx hf
    exact (h.fI k x f hx hf).app hl.1 (h.a2 x (List.mem_of_getElem? hx)).2 7 d
theorem dcD_on {x : List Nat} (h : onP x = true) : (pdB x).D.length + 6 = x.length := by
  obtain ⟨h1, _, h3⟩ := on_parts h
  show (dcD x).length + 6 = _
  unfold dcD
  rw [if_pos h1, List.length_take, List.length_drop]
  omega
theorem filt_fil {F : List (List Nat)} (h : ∀ x, x ∈ F → FilP x) : (F.map pdB).filter real = [] := by
  refine List.filter_eq_nil_iff.2 (fun p hp => ?_)
  obtain ⟨x, hx, rfl⟩ := List.mem_map.1 hp
  unfold real
  rw [(h x hx).2]
  decide
/-- a frame of a channel -/
theorem CI.take (h : CI room i ma t Qs MA EA MB EB put a fl chs gn mi) (hi : i < 250) (d : Bool) {c TG : Nat} {TP : List (List Nat)} {DA : List Nat} (hc : c < 7) (hne : (Qs.getD c qd0).P ≠ []) (hK : TK room DA TP TG [] (Qs.getD c qd0).P (Qs.getD c qd0).go.toNat) :
    ∃ (RA RB : List Nat) (fs : List Bool), RA = (if (EA.getD c ed0).x = (Qs.getD c qd0).ow then (EA.getD c ed0).D else []) ∧ RB = (if (EB.getD c ed0).x = (Qs.getD c qd0).ow then (EB.getD c ed0).D else []) ∧
      (∀ (GA GB : List Nat) (Ps PB : List Pd), GA = goL RA DA (fiT (Qs.getD c qd0).P (Qs.getD c qd0).go.toNat room) → GB = goL RB DA (fiT (Qs.getD c qd0).P (Qs.getD c qd0).go.toNat room) → Ps = ((spS GA.length GA).map pdB).filter real → PB = ((spS GB.length GB).map pdB).filter real →
        CI room (i + 1) ((ma + 1) % 256) ((c + 1) % 7) (Qs.set c ⟨((Qs.getD c qd0).ow + 1) % 256, (TG : Int), TP⟩) ((ma + 1) % 256) (EA.set c ⟨((Qs.getD c qd0).ow + 1) % 256, keL GA⟩) (if d = true then MB else (ma + 1) % 256) (if d = true then EB else EB.set c ⟨((Qs.getD c qd0).ow + 1) % 256, keL GB⟩) put (a ++ Ps.map (tlk chs.length c)) (fl ++ fs) (chs ++ [c]) (gn ++ [d]) (if d = true then mi + 1 else 0) ∧
        sel (Ps.map (tlk chs.length c)) fs = (if d = true then [] else PB.map (tlk chs.length c)) ∧ fs.length = Ps.length) := by
  obtain ⟨o1, o2, o3, o4, o5⟩ := seD_iff.1 h.se
  obtain ⟨hl7, hq, hqe⟩ := h.q hc
  obtain ⟨p1, p2, p3, p4, p5⟩ := qu_parts hq
  have hrm := h.rm
  have hl := h.lc
  have hEAl := h.ea.1
  have hEBl := h.eb.1
  obtain ⟨X, F, x1, x2, x3, x4, x5, a1, a2, n1, n2⟩ := fr_hear (by omega) p2 hne hK
  have hRcD : ((Qs.getD c qd0).P.getD 0 []).take (Qs.getD c qd0).go.toNat = Rc (Qs.getD c qd0) := rfl
  rw [hRcD] at a1 a2
  obtain ⟨y1, y2, _⟩ := qu_next hq (show (Qs.getD c qd0).go = (((Qs.getD c qd0).go.toNat : Nat) : Int) by omega) (by omega) hK
  have hYp := qu_parts y1
  have hcn := h.cn _ (List.mem_of_getElem? hqe)
  -- the rests
  have hRA : (if (EA.getD c ed0).x = (Qs.getD c qd0).ow then (EA.getD c ed0).D else []) = Rc (Qs.getD c qd0) := by
    rcases h.ea.2 c hc with e | ⟨e, e0⟩
    · rw [e]; exact if_pos rfl
    · rw [e]
      rw [if_neg (by show ¬ (-1 = (Qs.getD c qd0).ow); omega)]
      unfold Rc
      rw [e0]
      rfl
  have hRB : (if (EB.getD c ed0).x = (Qs.getD c qd0).ow then (EB.getD c ed0).D else []) = Rc (Qs.getD c qd0) ∨ (if (EB.getD c ed0).x = (Qs.getD c qd0).ow then (EB.getD c ed0).D else []) = [] := by
    rcases h.eb.2 c hc with e | ⟨j, j1, j2, j3, j4⟩
    · rw [e, if_neg (by show ¬ (-1 = (Qs.getD c qd0).ow); omega)]; exact .inr rfl
    · by_cases hj : j = 0
      · have : (EB.getD c ed0).x = (Qs.getD c qd0).ow := by rw [j2, hj]; omega
        rw [if_pos this]
        exact j4 hj
      · rw [if_neg (by omega)]; exact .inr rfl
  have hsync : EB.getD c ed0 = ⟨(Qs.getD c qd0).ow, Rc (Qs.getD c qd0)⟩ → (if (EB.getD c ed0).x = (Qs.getD c qd0).ow then (EB.getD c ed0).D else []) = Rc (Qs.getD c qd0) := fun e => by rw [e]; exact if_pos rfl
  generalize hRBg : (if (EB.getD c ed0).x = (Qs.getD c qd0).ow then (EB.getD c ed0).D else []) = RB at hRB hsync
  generalize hqg : Qs.getD c qd0 = q at *
  generalize hgg : q.go.toNat = g at *
  -- what one who has heard some hears
  have hkey : ((spS (goL RB DA (fiT q.P g room)).length (goL RB DA (fiT q.P g room))).map pdB = X.map pdB ∧ keL (goL RB DA (fiT q.P g room)) = (TP.getD 0 []).take TG) ∨
      (RB ≠ Rc q ∧ 0 < g ∧ (spS (goL RB DA (fiT q.P g room)).length (goL RB DA (fiT q.P g room))).map pdB = X.tail.map pdB ∧ keL (goL RB DA (fiT q.P g room)) = if X ≠ [] then (TP.getD 0 []).take TG else []) := by
    by_cases hR : RB = Rc q
    · rw [hR]; exact .inl ⟨a1, a2⟩
    · have hR0 : RB = [] := by rcases hRB with e | e; exact absurd e hR; exact e
      rw [hR0]
      by_cases hg0 : g = 0
      · rw [if_pos hg0] at n1
        rw [if_pos (Or.inl hg0)] at n2
        exact .inl ⟨n1, n2⟩
      · rw [if_neg hg0] at n1
        refine .inr ⟨by rw [← hR0]; exact hR, by omega, n1, ?_⟩
        rw [n2]
        by_cases hX : X = []
        · rw [if_neg (by rintro (e | e); exact hg0 e; exact e hX), if_neg (fun e => e hX)]
        · rw [if_pos (Or.inr hX), if_pos hX]
  have hYl : ((TP.getD 0 []).take TG).length ≤ 65541 := by
    cases hTP : TP with
    | nil => rw [List.getD_nil, List.take_nil]; exact Nat.zero_le _
    | cons y T =>
      have h1 := hYp.2.2.2.2 y (by show TP[0]? = some y; rw [hTP]; rfl)
      have h1 : (TG : Int).toNat < y.length := h1
      have h2 := (onP_len (hYp.2.1 y (by show y ∈ TP; rw [hTP]; exact List.mem_cons_self))).2
      show (y.take TG).length ≤ _
      rw [List.length_take]
      omega
  have hRq' : Rc ⟨(q.ow + 1) % 256, (TG : Int), TP⟩ = (TP.getD 0 []).take TG := by unfold Rc; rfl
  -- the marks of those that are heard
  have hfs : ∃ fs : List Bool, fs.length = ((X.map pdB).filter real).length ∧ sel (((X.map pdB).filter real).map (tlk chs.length c)) fs = (if d = true then [] else (((spS (goL RB DA (fiT q.P g room)).length (goL RB DA (fiT q.P g room))).map pdB).filter real).map (tlk chs.length c)) ∧
      ∀ (k : Nat) (x : Tl) (f : Bool), (((X.map pdB).filter real).map (tlk chs.length c))[k]? = some x → fs[k]? = some f → FlI (chs ++ [c]) (gn ++ [d]) room x f := by
    have hgk : (gn ++ [d]).getD chs.length false = d := getD_end gn d false _ hl.1
    cases d with
    | true =>
      refine ⟨List.replicate ((X.map pdB).filter real).length false, List.length_replicate, ?_, fun k x f hx hf => ?_⟩
      · have := sel_none (((X.map pdB).filter real).map (tlk chs.length c))
        rw [List.length_map] at this
        rw [this, if_pos rfl]
      · rw [List.getElem?_replicate] at hf
        split at hf
        · have hf := Option.some.inj hf
          subst hf
          rw [List.getElem?_map] at hx
          obtain ⟨p, _, rfl⟩ := Option.map_eq_some_iff.1 hx
          refine ⟨fun e => (by cases e), fun hw => ?_⟩
          unfold wOK at hw
          have e : (tlk chs.length c p).fr = chs.length := rfl
          rw [e, hgk] at hw
          simp at hw
        · cases hf
    | false =>
      have good : ∀ (L : List Pd) (k : Nat) (x : Tl) (f : Bool), (L.map (tlk chs.length c))[k]? = some x → (List.replicate L.length true)[k]? = some f → FlI (chs ++ [c]) (gn ++ [false]) room x f := fun L k x f hx hf => by
        rw [List.getElem?_replicate] at hf
        split at hf
        · have hf := Option.some.inj hf
          subst hf
          rw [List.getElem?_map] at hx
          obtain ⟨p, _, rfl⟩ := Option.map_eq_some_iff.1 hx
          exact ⟨fun _ => hgk, fun _ => rfl⟩
        · cases hf
      have selT : ∀ (L : List Pd), sel (L.map (tlk chs.length c)) (List.replicate L.length true) = L.map (tlk chs.length c) := fun L => by
        have := sel_all (L.map (tlk chs.length c))
        rw [List.length_map] at this
        exact this
      simp only [Bool.false_eq_true, if_false]
      rcases hkey with ⟨k1, _⟩ | ⟨k0, kg, k1, _⟩
      · rw [k1]
        exact ⟨List.replicate ((X.map pdB).filter real).length true, List.length_replicate, selT _, good _⟩
      · rw [k1]
        cases hX : X with
        | nil => exact ⟨[], rfl, rfl, fun k x f hx => by simp at hx⟩
        | cons y Z =>
          obtain ⟨ey, hyl⟩ := x5 y Z hX
          have hyo := x3 y (by rw [hX]; exact List.mem_cons_self)
          rw [List.map_cons, List.filter_cons]
          show ∃ fs, _ ∧ _ = ((Z.map pdB).filter real).map _ ∧ _
          cases hr : real (pdB y) with
          | false => rw [if_neg (by decide)]; exact ⟨List.replicate ((Z.map pdB).filter real).length true, List.length_replicate, selT _, good _⟩
          | true =>
            rw [if_pos rfl]
            refine ⟨false :: List.replicate ((Z.map pdB).filter real).length true, by rw [List.length_cons, List.length_cons, List.length_replicate], ?_, fun k x f hx hf => ?_⟩
            · rw [List.map_cons]
              show (if false = true then _ else sel _ _) = _
              rw [if_neg (by decide)]
              exact selT _
            · cases k with
              | succ k => exact good _ k x f hx hf
              | zero =>
                have hx : some (tlk chs.length c (pdB y)) = some x := hx
                have hf : some false = some f := hf
                rw [← Option.some.inj hx, ← Option.some.inj hf]
                refine ⟨fun e => (by cases e), fun hw => ?_⟩
                exfalso
                unfold wOK at hw
                rw [Bool.and_eq_true] at hw
                obtain ⟨s, s1, s2⟩ := h.sy c hc (by rw [hqg]; omega)
                rw [hqg, hgg] at s1
                rw [hqg] at s2
                have hneed : s + 1 + 1 ≤ needN room (pdB y) := by
                  unfold needN
                  have hd := dcD_on hyo
                  have hgl := p5 y (by rw [ey]; cases hP : q.P with
                    | nil => exact absurd hP hne
                    | cons z T => rfl)
                  have h2 : (s + 1) * room ≤ (pdB y).D.length + 6 + room - 2 := by rw [Nat.succ_mul]; omega
                  have := (Nat.le_div_iff_mul_le (by omega : 0 < room)).2 h2
                  omega
                have hw2 := lw_mono _ _ _ _ _ _ hneed hw.2
                have hw2 : lw (chs ++ [c]) (gn ++ [false]) c (chs.length + 1) (s + 1 + 1) = true := hw2
                rw [lw_same chs gn c (s + 1) false hl.1, Bool.and_eq_true] at hw2
                exact k0 (hsync (s2 hw2.2))
  obtain ⟨fs, f1, f2, f3⟩ := hfs
  refine ⟨_, RB, fs, rfl, rfl, ?_⟩
  intro GA GB Ps PB eGA eGB ePs ePB
  rw [hRA] at eGA
  subst eGA eGB
  rw [a1] at ePs
  subst ePs ePB
  refine ⟨?_, f2, f1⟩
  have hnum := h.nums hi d fs ((X.map pdB).filter real) c (fun e => by rw [f2, if_pos e])
  have hcl : (chs ++ [c]).length = chs.length + 1 := by rw [List.length_append]; rfl
  have gq : ∀ e, (Qs.set c ⟨(q.ow + 1) % 256, (TG : Int), TP⟩).getD e qd0 = if e = c then ⟨(q.ow + 1) % 256, (TG : Int), TP⟩ else Qs.getD e qd0 := fun e => getQ_set (by omega)
  have gA : ∀ e, (EA.set c ⟨(q.ow + 1) % 256, keL (goL (Rc q) DA (fiT q.P g room))⟩).getD e ed0 = if e = c then ⟨(q.ow + 1) % 256, keL (goL (Rc q) DA (fiT q.P g room))⟩ else EA.getD e ed0 := fun e => getE_set (by omega)
  have gB : ∀ e, (EB.set c ⟨(q.ow + 1) % 256, keL (goL RB DA (fiT q.P g room))⟩).getD e ed0 = if e = c then ⟨(q.ow + 1) % 256, keL (goL RB DA (fiT q.P g room))⟩ else EB.getD e ed0 := fun e => getE_set (by omega)
  have hkeB : keL (goL RB DA (fiT q.P g room)) = (TP.getD 0 []).take TG ∨ keL (goL RB DA (fiT q.P g room)) = [] := by
    rcases hkey with ⟨_, e⟩ | ⟨_, _, _, e⟩
    · exact .inl e
    · rw [e]; split
      · exact .inl rfl
      · exact .inr rfl
  refine ⟨hrm, ?_, fun x hx => ?_, ⟨by rw [hcl, List.length_append, hl.1]; rfl, by omega⟩, by have := h.mil; rw [hcl]; split <;> omega, ⟨by rw [List.length_set]; exact hEAl, fun e he => ?_⟩, .inr rfl, ⟨by split; exact hEBl; rw [List.length_set]; exact hEBl, fun e he => ?_⟩, hnum, fun e he hgo => ?_, fun e he => ?_, h.p2, fun x hx => ?_, fun x hx => ?_, ?_, ?_⟩
  · refine seD_iff.2 ⟨o1, by omega, by omega, by rw [List.length_set]; exact o4, fun x hx => ?_⟩
    rcases mem_setQ hx with hx | rfl
    · exact o5 x hx
    · exact y1
  · rcases mem_setQ hx with hx | rfl
    · have := h.cn x hx; omega
    · show TP.length ≤ i + 1; omega
  · rw [gq, gA]
    by_cases ec : e = c
    · rw [if_pos ec, if_pos ec, hRq', a2]; exact .inl rfl
    · rw [if_neg ec, if_neg ec]; exact h.ea.2 e he
  · rw [gq]
    by_cases ec : e = c
    · rw [if_pos ec, hRq', ec, hcl]
      cases d with
      | true =>
        rw [if_pos rfl]
        rcases h.eb.2 c hc with e1 | ⟨j, j1, j2, j3, j4⟩
        · exact .inl e1
        · rw [hqg] at j2
          exact .inr ⟨j + 1, by omega, by rw [j2]; show _ = ((q.ow + 1) % 256 - ((j + 1 : Nat) : Int)) % 256; omega, j3, fun e => by omega⟩
      | false =>
        rw [if_neg (by decide), gB, if_pos rfl]
        refine .inr ⟨0, Nat.zero_le _, by show (q.ow + 1) % 256 = ((q.ow + 1) % 256 - ((0 : Nat) : Int)) % 256; omega, ?_, fun _ => hkeB⟩
        show (keL _).length ≤ _
        rcases hkeB with e | e
        · rw [e]; exact hYl
        · rw [e]; exact Nat.zero_le _
    · rw [if_neg ec, hcl]
      have hB' : (if d = true then EB else EB.set c ⟨(q.ow + 1) % 256, keL (goL RB DA (fiT q.P g room))⟩).getD e ed0 = EB.getD e ed0 := by
        split
        · rfl
        · rw [gB, if_neg ec]
      rw [hB']
      rcases h.eb.2 e he with e1 | ⟨j, j1, j2⟩
      · exact .inl e1
      · exact .inr ⟨j, by omega, j2⟩
  · rw [gq] at hgo ⊢
    by_cases ec : e = c
    · rw [if_pos ec] at hgo ⊢
      rw [hRq', ec]
      have hgo : 0 < (TG : Int) := hgo
      have htg : ((⟨(q.ow + 1) % 256, (TG : Int), TP⟩ : Qd).go).toNat = TG := rfl
      rw [htg, hcl]
      have fin : ∀ n, lw (chs ++ [c]) (gn ++ [d]) c (chs.length + 1) (n + 1) = true → d = false ∧ lw chs gn c chs.length n = true := fun n hw => by
        rw [lw_same chs gn c n d hl.1, Bool.and_eq_true] at hw
        exact ⟨by simpa using hw.1, hw.2⟩
      have setY : d = false → keL (goL RB DA (fiT q.P g room)) = (TP.getD 0 []).take TG → (if d = true then EB else EB.set c ⟨(q.ow + 1) % 256, keL (goL RB DA (fiT q.P g room))⟩).getD c ed0 = ⟨(q.ow + 1) % 256, (TP.getD 0 []).take TG⟩ := fun hd hk => by
        rw [hd, if_neg (by decide), gB, if_pos rfl, hk]
      by_cases hX : X = []
      · obtain ⟨_, t2⟩ := x4 hX
        by_cases hg0 : g = 0
        · refine ⟨0, by omega, fun hw => ?_⟩
          obtain ⟨hd, _⟩ := fin 0 hw
          refine setY hd ?_
          rcases hkey with ⟨_, e⟩ | ⟨_, kg, _⟩
          · exact e
          · omega
        · obtain ⟨s, s1, s2⟩ := h.sy c hc (by rw [hqg]; omega)
          rw [hqg, hgg] at s1
          rw [hqg] at s2
          refine ⟨s + 1, by rw [Nat.succ_mul]; omega, fun hw => ?_⟩
          obtain ⟨hd, hw2⟩ := fin (s + 1) hw
          refine setY hd ?_
          rcases hkey with ⟨_, e⟩ | ⟨k0, _⟩
          · exact e
          · exact absurd (hsync (s2 hw2)) k0
      · refine ⟨0, by omega, fun hw => ?_⟩
        obtain ⟨hd, _⟩ := fin 0 hw
        refine setY hd ?_
        rcases hkey with ⟨_, e⟩ | ⟨_, _, _, e⟩
        · exact e
        · rw [e, if_pos hX]
    · rw [if_neg ec] at hgo ⊢
      obtain ⟨s, s1, s2⟩ := h.sy e he hgo
      refine ⟨s, s1, fun hw => ?_⟩
      rw [hcl, lw_other chs gn e c (s + 1) d hl.1 (fun e' => ec e'.symm)] at hw
      have hB' : (if d = true then EB else EB.set c ⟨(q.ow + 1) % 256, keL (goL RB DA (fiT q.P g room))⟩).getD e ed0 = EB.getD e ed0 := by
        split
        · rfl
        · rw [gB, if_neg ec]
      rw [hB']
      exact s2 hw
  · rw [gq, List.filter_append, List.map_append, filt_ch, ← h.pu e he]
    by_cases ec : e = c
    · subst ec
      rw [if_pos rfl, if_pos rfl, List.append_assoc]
      congr 1
      rw [hqg]
      show (X.map pdB).filter real ++ (TP.map pdB).filter real = _
      have e1 := congrArg (fun L => (List.map pdB L).filter real) x1
      simp only [List.map_append, List.filter_append] at e1
      rw [filt_fil x2, List.append_nil] at e1
      exact e1.symm
    · rw [if_neg ec, if_neg (fun e' => ec e'.symm), List.append_nil]
  · obtain ⟨q1, q2, q3⟩ := h.p3 x hx
    exact ⟨q1, q2, by omega⟩
  · rw [hcl]
    rcases List.mem_append.1 hx with hx | hx
    · obtain ⟨q1, q2⟩ := h.a2 x hx
      exact ⟨q1, by omega⟩
    · obtain ⟨p, _, rfl⟩ := List.mem_map.1 hx
      exact ⟨hc, Nat.lt_succ_self _⟩
  · rw [List.length_append, List.length_append, List.length_map, h.fz, f1]
  · exact flag_app h.fz (fun k x f hx hf => (h.fI k x f hx hf).app hl.1 (h.a2 x (List.mem_of_getElem? hx)).2 c d) f3
end
end Go.Proofs.Ytlmddjkplnbadaa
