import Derived.Test.YtnimehkfnpepfaaWh39
import Derived.Test.YtnimehkfnpepfaaWh37
import Derived.Test.YtnimehkfnpepfaaWh38
import Derived.Test.YtnimehkfnpepfaaWh13
import Derived.Stop.Asserts
import Derived.Lib.IfaceEq
import Derived.Test.YtnimehkfnpepfaaWh22
namespace Go.Proofs.Ytnimehkfnpepfaa
open Go.RowKit
set_option maxRecDepth 100000
set_option linter.unusedVariables false
set_option linter.unusedSimpArgs false

section
/-- what is given, and how -/
structure Kc where
  X : List Nat
  nm : ByteArray
  mo : Int
  bu : Int
  pa : Int
structure Kc.ok (K : Kc) : Prop where
  n : K.X.length ≤ 120
  nm : 1 ≤ K.nm.size ∧ K.nm.size ≤ 32
  mo : 1 ≤ K.mo ∧ K.mo ≤ 1024
  bu : 1 ≤ K.bu ∧ K.bu ≤ 9
  pa : 1 ≤ K.pa ∧ K.pa ≤ 9
/-- the notes of a file -/
def kM (K : Kc) : Nt := ⟨1, 7, K.nm, (K.X.length : Int), 0, 0, [], [], 0, 0⟩
def kE (K : Kc) : Nt := ⟨3, 7, ⟨#[]⟩, (K.X.length : Int), smI K.X, 0, [], [], 0, 0⟩
def kP (K : Kc) (x e : Nat) : Nt := ⟨2, 7, ⟨#[]⟩, 0, 0, (x : Int), (K.X.drop x).take (e - x), [], 0, 0⟩
def kS : Nt := (xSeen 7).dt
/-- a note on its way down -/
def DnK (K : Kc) (n : Nt) : Prop := n = kM K ∨ n = kE K ∨ n = kS ∨ ∃ x e, x < e ∧ e ≤ K.X.length ∧ n = kP K x e
/-- a note on its way up -/
def UpK (K : Kc) (n : Nt) : Prop := n = ntSeen 7 ∨ n = ntDone 7 0 ∨ ∃ M : List (Int × Int), n = ntGaps 7 M ∧ 1 ≤ M.length ∧ M.length ≤ 20 ∧ ∀ p, p ∈ M → (p.1 = 0 ∧ p.2 = 0) ∨ (0 ≤ p.1 ∧ p.1 < p.2 ∧ p.2 ≤ (K.X.length : Int))
/-- one who gives -/
structure GS (K : Kc) (g : Gv) : Prop where
  id : g.id = 7
  nm : g.nm = K.nm
  mo : g.mo = K.mo
  bu : g.bu = K.bu
  pa : g.pa = K.pa
  li : g.li = 100
  L : g.L = K.X
  o : GvO g
  st : g.st = 0 ∨ g.st = 1 ∨ g.st = 2 ∨ g.st = 3
  go : g.st ≠ 0 → g.at' = (K.X.length : Int) ∧ g.fi = false
theorem GS.meta {K : Kc} {g : Gv} (h : GS K g) : ntMeta g = kM K := by unfold ntMeta kM; rw [h.id, h.nm, h.L]
theorem GS.end' {K : Kc} {g : Gv} (h : GS K g) : ntEnd g = kE K := by unfold ntEnd kE smI; rw [h.id, h.L]
theorem GS.pie {K : Kc} {g : Gv} (h : GS K g) (x e : Nat) : ntPie g x e = kP K x e := by unfold ntPie kP; rw [h.id, h.L]
/-- what went: an End only of one who is no longer Going -/
def OutG (K : Kc) (g : Gv) (T : List Nt) : Prop := ∀ n, n ∈ T → DnK K n ∧ (n.kd = 3 → g.st ≠ 0)
theorem OutG.nil {K : Kc} {g : Gv} : OutG K g [] := fun n h => by cases h
theorem OutG.one {K : Kc} {g : Gv} {n : Nt} (h : DnK K n) (k : n.kd = 3 → g.st ≠ 0) : OutG K g [n] := fun m hm => by rw [List.mem_singleton.1 hm]; exact ⟨h, k⟩
theorem OutG.app {K : Kc} {g : Gv} {T U : List Nt} (h : OutG K g T) (k : OutG K g U) : OutG K g (T ++ U) := fun n hn => by
  rcases List.mem_append.1 hn with hn | hn
  · exact h n hn
  · exact k n hn
theorem OutG.st {K : Kc} {g g' : Gv} {T : List Nt} (h : OutG K g T) (k : g.st ≠ 0 → g'.st ≠ 0) : OutG K g' T := fun n hn => ⟨(h n hn).1, fun e => k ((h n hn).2 e)⟩
theorem kM_kd (K : Kc) : (kM K).kd ≠ 3 := by show (1 : Int) ≠ 3; omega
theorem kP_kd (K : Kc) (x e : Nat) : (kP K x e).kd ≠ 3 := by show (2 : Int) ≠ 3; omega
/-- a note of a giver -/
theorem gs_sn {K : Kc} {g : Gv} (h : GS K g) (h3 : g.st ≠ 3) : GS K (snV g).1 ∧ OutG K (snV g).1 (snV g).2.1 ∧ (g.st ≠ 0 → (snV g).1.st = g.st) ∧ (snV g).1.st ≠ 3 ∧ (g.st ≠ 0 → (snV g).1.ti = g.ti ∧ (snV g).1.tr = g.tr) ∧ ((snV g).1.st = 1 → g.st = 0 → (snV g).1.ti = 0 ∧ (snV g).1.tr = 0) := by
  have ho := (snV_ok h.o).1
  unfold snV at ho ⊢
  by_cases e : g.fi = true
  · rw [if_pos e] at ho ⊢
    have h0 : g.st = 0 := by
      by_cases h0 : g.st = 0
      · exact h0
      · have := (h.go h0).2; rw [this] at e; cases e
    refine ⟨⟨h.id, h.nm, h.mo, h.bu, h.pa, h.li, h.L, ho, h.st, fun k => absurd h0 k⟩, ?_, fun _ => rfl, h3, fun _ => ⟨rfl, rfl⟩, fun k _ => ?_⟩
    · show OutG K _ [ntMeta g]
      rw [h.meta]
      exact OutG.one (.inl rfl) (fun k => absurd k (kM_kd K))
    · have k : g.st = 1 := k
      omega
  · rw [if_neg e] at ho ⊢
    cases hG : g.G with
    | cons p G =>
      rw [hG] at ho
      dsimp only at ho ⊢
      have hp := h.o.gp p (by rw [hG]; exact List.mem_cons_self ..)
      unfold agD at ho ⊢
      by_cases e1 : p.1 = 0 ∧ p.2 = 0
      · rw [if_pos e1] at ho ⊢
        refine ⟨⟨h.id, h.nm, h.mo, h.bu, h.pa, h.li, h.L, ho, h.st, h.go⟩, ?_, fun _ => rfl, h3, fun _ => ⟨rfl, rfl⟩, fun k k0 => ?_⟩
        · show OutG K _ [ntMeta g]
          rw [h.meta]
          exact OutG.one (.inl rfl) (fun k => absurd k (kM_kd K))
        · have k : g.st = 1 := k
          omega
      · rw [if_neg e1] at ho ⊢
        refine ⟨⟨h.id, h.nm, h.mo, h.bu, h.pa, h.li, h.L, ho, h.st, h.go⟩, ?_, fun _ => rfl, h3, fun _ => ⟨rfl, rfl⟩, fun k k0 => ?_⟩
        · show OutG K _ [ntPie g _ _]
          have h4 : 0 ≤ p.1 ∧ p.1 < p.2 ∧ p.2 ≤ (g.L.length : Int) := hp.resolve_left e1
          have he := enN_le g p.1.toNat p.2.toNat (by omega) h.o.mo.1
          rw [h.pie]
          refine OutG.one (.inr (.inr (.inr ⟨_, _, he.1, ?_, rfl⟩))) (fun k => absurd k (kP_kd K _ _))
          rw [← h.L]; omega
        · have k : g.st = 1 := k
          omega
    | nil =>
      rw [hG] at ho
      dsimp only at ho ⊢
      by_cases e1 : g.st ≠ 0
      · rw [if_pos e1] at ho ⊢
        exact ⟨h, OutG.nil, fun _ => rfl, h3, fun _ => ⟨rfl, rfl⟩, fun _ k => absurd k e1⟩
      · rw [if_neg e1] at ho ⊢
        have e0 : g.st = 0 := by omega
        by_cases e2 : g.at' < (g.L.length : Int)
        · rw [if_pos e2] at ho ⊢
          refine ⟨⟨h.id, h.nm, h.mo, h.bu, h.pa, h.li, h.L, ho, h.st, fun k => absurd e0 k⟩, ?_, fun _ => rfl, h3, fun _ => ⟨rfl, rfl⟩, fun k k0 => ?_⟩
          · show OutG K _ [ntPie g _ _]
            have h4 := h.o.at0
            have he := enN_le g g.at'.toNat g.L.length (by omega) h.o.mo.1
            rw [h.pie]
            refine OutG.one (.inr (.inr (.inr ⟨_, _, he.1, ?_, rfl⟩))) (fun k => absurd k (kP_kd K _ _))
            rw [← h.L]; exact he.2
          · have k : g.st = 1 := k
            omega
        · rw [if_neg e2] at ho ⊢
          have h4 := h.o.at0
          refine ⟨⟨h.id, h.nm, h.mo, h.bu, h.pa, h.li, h.L, ho, .inr (.inl rfl), fun _ => ⟨?_, ?_⟩⟩, ?_, fun k => absurd e0 k, by show (1 : Int) ≠ 3; omega, fun k => absurd e0 k, fun _ _ => ⟨rfl, rfl⟩⟩
          · show g.at' = _
            rw [← h.L]; omega
          · show g.fi = false
            cases hf : g.fi with
            | false => rfl
            | true => exact absurd hf e
          · show OutG K _ [ntEnd g]
            rw [h.end']
            exact OutG.one (.inr (.inl rfl)) (fun _ => by show (1 : Int) ≠ 0; omega)
/-- the notes of a tick -/
theorem gs_gv {K : Kc} : ∀ (k : Nat) (g : Gv) (T : List Nt), GS K g → g.st ≠ 3 → OutG K g T → GS K (gvL k g T).1 ∧ OutG K (gvL k g T).1 (gvL k g T).2 ∧ (g.st ≠ 0 → (gvL k g T).1.st = g.st ∧ (gvL k g T).1.ti = g.ti ∧ (gvL k g T).1.tr = g.tr) ∧ (gvL k g T).1.st ≠ 3 ∧ (g.st = 0 → (gvL k g T).1.st ≠ 0 → (gvL k g T).1.tr = 0) := by
  intro k
  induction k with
  | zero => intro g T h h3 hT; exact ⟨h, hT, fun _ => ⟨rfl, rfl, rfl⟩, h3, fun k0 k1 => absurd k0 k1⟩
  | succ k ih =>
    intro g T h h3 hT
    obtain ⟨s1, s2, s3, s4, s5, s6⟩ := gs_sn h h3
    have hT2 : OutG K (snV g).1 (T ++ (snV g).2.1) := (hT.st (fun e => by rw [s3 e]; exact e)).app s2
    unfold gvL
    by_cases e : (snV g).2.2 = true
    · rw [if_pos e]
      obtain ⟨r1, r2, r3, r4, r5⟩ := ih (snV g).1 _ s1 s4 hT2
      refine ⟨r1, r2, fun e0 => ?_, r4, fun e0 e1 => ?_⟩
      · obtain ⟨q1, q2, q3⟩ := r3 (by rw [s3 e0]; exact e0)
        exact ⟨by rw [q1, s3 e0], by rw [q2, (s5 e0).1], by rw [q3, (s5 e0).2]⟩
      · by_cases e2 : (snV g).1.st = 0
        · exact r5 e2 e1
        · have hst := s1.st
          have e3 : (snV g).1.st = 1 := by
            rcases hst with h9 | h9 | h9 | h9
            · exact absurd h9 e2
            · exact h9
            · exfalso
              revert e h9
              unfold snV
              by_cases f : g.fi = true
              · rw [if_pos f]; intro _ h9; have : g.st = 2 := h9; omega
              · rw [if_neg f]
                cases hG : g.G with
                | cons p G =>
                  dsimp only
                  unfold agD
                  by_cases f1 : p.1 = 0 ∧ p.2 = 0
                  · rw [if_pos f1]; intro _ h9; have : g.st = 2 := h9; omega
                  · rw [if_neg f1]; intro _ h9; have : g.st = 2 := h9; omega
                | nil =>
                  dsimp only
                  rw [if_neg (fun f => f e0)]
                  by_cases f1 : g.at' < (g.L.length : Int)
                  · rw [if_pos f1]; intro _ h9; have : g.st = 2 := h9; omega
                  · rw [if_neg f1]; intro _ h9; have : (1 : Int) = 2 := h9; omega
            · exact absurd h9 s4
          rw [(r3 e2).2.2]
          exact (s6 e3 e0).2
    · rw [if_neg e]
      refine ⟨s1, hT2, fun e0 => ⟨s3 e0, (s5 e0).1, (s5 e0).2⟩, s4, fun e0 e1 => ?_⟩
      have hst := s1.st
      have e3 : (snV g).1.st = 1 := by
        revert e e1
        unfold snV
        by_cases f : g.fi = true
        · rw [if_pos f]; intro _ h9; exact absurd e0 h9
        · rw [if_neg f]
          cases hG : g.G with
          | cons p G =>
            dsimp only
            intro e
            exact absurd rfl e
          | nil =>
            dsimp only
            rw [if_neg (fun f => f e0)]
            by_cases f1 : g.at' < (g.L.length : Int)
            · rw [if_pos f1]; intro _ h9; exact absurd e0 h9
            · rw [if_neg f1]; intro _ _; rfl
      exact (s6 e3 e0).2
theorem sn_st0 (g : Gv) (h : (snV g).1.st = 0) : g.st = 0 := by
  revert h
  unfold snV
  by_cases f : g.fi = true
  · rw [if_pos f]; exact id
  · rw [if_neg f]
    cases hG : g.G with
    | cons p G =>
      dsimp only
      unfold agD
      by_cases f1 : p.1 = 0 ∧ p.2 = 0
      · rw [if_pos f1]; exact id
      · rw [if_neg f1]; exact id
    | nil =>
      dsimp only
      by_cases f0 : g.st ≠ 0
      · rw [if_pos f0]; exact id
      · rw [if_neg f0]; intro _; omega
theorem gvL_st0 : ∀ (k : Nat) (g : Gv) (T : List Nt), (gvL k g T).1.st = 0 → g.st = 0 := by
  intro k
  induction k with
  | zero => intro g T h; exact h
  | succ k ih =>
    intro g T
    unfold gvL
    by_cases e : (snV g).2.2 = true
    · rw [if_pos e]
      intro h
      exact sn_st0 g (ih _ _ h)
    · rw [if_neg e]
      exact sn_st0 g
theorem sn_tr0 (g : Gv) (h : (snV g).1.st = 0) : (snV g).1.tr = g.tr := by
  revert h
  unfold snV
  by_cases f : g.fi = true
  · rw [if_pos f]; intro _; rfl
  · rw [if_neg f]
    cases hG : g.G with
    | cons p G =>
      dsimp only
      unfold agD
      by_cases f1 : p.1 = 0 ∧ p.2 = 0
      · rw [if_pos f1]; intro _; rfl
      · rw [if_neg f1]; intro _; rfl
    | nil =>
      dsimp only
      by_cases f0 : g.st ≠ 0
      · rw [if_pos f0]; intro _; rfl
      · rw [if_neg f0]
        by_cases f1 : g.at' < (g.L.length : Int)
        · rw [if_pos f1]; intro _; rfl
        · rw [if_neg f1]; intro h; have : (1 : Int) = 0 := h; omega
theorem gvL_tr0 : ∀ (k : Nat) (g : Gv) (T : List Nt), (gvL k g T).1.st = 0 → (gvL k g T).1.tr = g.tr := by
  intro k
  induction k with
  | zero => intro g T _; rfl
  | succ k ih =>
    intro g T
    unfold gvL
    by_cases e : (snV g).2.2 = true
    · rw [if_pos e]
      intro h
      rw [ih _ _ h]
      refine sn_tr0 g ?_
      exact gvL_st0 k _ _ h
    · rw [if_neg e]
      exact sn_tr0 g
/-- A TICK OF A GIVER -/
theorem gs_ti {K : Kc} {g : Gv} (h : GS K g) (ht : g.tr < 100) : GS K (tiG g).1 ∧ OutG K (tiG g).1 (tiG g).2 ∧ ((tiG g).1.st = 3 ↔ g.st = 3) ∧ (tiG g).1.tr ≤ g.tr + 1 ∧ (g.st ≠ 0 → (tiG g).1.st = g.st) ∧ (tiG g).2.length ≤ g.bu.toNat + 1 := by
  have htr := h.o.tr
  have hli := h.li
  unfold tiG
  by_cases e : g.st = 3 ∨ g.st = 4
  · rw [if_pos e]
    exact ⟨h, OutG.nil, Iff.rfl, by show g.tr ≤ _; omega, fun _ => rfl, Nat.zero_le _⟩
  · rw [if_neg e]
    have h3 : g.st ≠ 3 := fun k => e (.inl k)
    obtain ⟨r1, r2, r3, r4, r5⟩ := gs_gv g.bu.toNat g [] h h3 OutG.nil
    have hl := gvL_len g.bu.toNat g [] h.o
    have hl : (gvL g.bu.toNat g []).2.length ≤ 0 + g.bu.toNat := hl
    by_cases e1 : g.st ≠ 0
    · rw [if_pos e1]
      dsimp only
      obtain ⟨q1, q2, q3⟩ := r3 e1
      have hw : GS K (wtV (gvL g.bu.toNat g []).1).1 ∧ (wtV (gvL g.bu.toNat g []).1).1.st = g.st ∧ (wtV (gvL g.bu.toNat g []).1).1.tr ≤ g.tr + 1 ∧ (∀ n, n ∈ (wtV (gvL g.bu.toNat g []).1).2 → n = kE K) ∧ (wtV (gvL g.bu.toNat g []).1).2.length ≤ 1 := by
        generalize (gvL g.bu.toNat g []).1 = V at r1 r4 q1 q2 q3
        have hV := r1.o.ti
        unfold wtV
        by_cases f : V.ti + 1 < V.pa
        · rw [if_pos f]
          refine ⟨⟨r1.id, r1.nm, r1.mo, r1.bu, r1.pa, r1.li, r1.L, ⟨r1.o.mo, r1.o.n9, r1.o.at0, r1.o.gp, r1.o.gl, ⟨by show 0 ≤ V.ti + 1; omega, f, hV.2.2⟩, r1.o.tr⟩, r1.st, r1.go⟩, q1, by show V.tr ≤ _; omega, (fun n hn => by cases hn), Nat.zero_le _⟩
        · rw [if_neg f, if_neg (by rw [q3, r1.li]; omega)]
          have hVt := r1.o.tr
          have hVl := r1.li
          refine ⟨⟨r1.id, r1.nm, r1.mo, r1.bu, r1.pa, r1.li, r1.L, ⟨r1.o.mo, r1.o.n9, r1.o.at0, r1.o.gp, r1.o.gl, ⟨by show (0 : Int) ≤ 0; omega, by show (0 : Int) < V.pa; omega, hV.2.2⟩, ⟨by show 0 ≤ V.tr + 1; omega, by show V.tr + 1 ≤ V.li; omega, hVt.2.2⟩⟩, r1.st, r1.go⟩, q1, by show V.tr + 1 ≤ _; omega, fun n hn => ?_, Nat.le_refl _⟩
          rw [List.mem_singleton.1 hn]; exact r1.end'
      obtain ⟨w1, w2, w3, w4, w5⟩ := hw
      refine ⟨w1, ?_, ?_, w3, fun _ => w2, ?_⟩
      · refine (r2.st (fun _ => by rw [w2]; exact e1)).app (fun n hn => ?_)
        rw [w4 n hn]
        exact ⟨.inr (.inl rfl), fun _ => by rw [w2]; exact e1⟩
      · rw [w2]
      · rw [List.length_append]; omega
    · rw [if_neg e1]
      have e0 : g.st = 0 := by omega
      refine ⟨r1, r2, ⟨fun k => absurd k r4, fun k => absurd k h3⟩, ?_, fun k => absurd k e1, by omega⟩
      by_cases e2 : (gvL g.bu.toNat g []).1.st = 0
      · have := gvL_tr0 g.bu.toNat g [] e2
        omega
      · rw [r5 e0 e2]; omega
end

section
/-- a note comes to a giver -/
def reN (g : Gv) (n : Nt) : Gv × List Nt := ((rpX g n.kd n.o n.co (giF n.ga) n.ga.length).1, (rpX g n.kd n.o n.co (giF n.ga) n.ga.length).2.1.map Nx.dt)
theorem agP_ok {n : Nat} {G : List (Int × Int)} {p : Int × Int} (hl : G.length ≤ 1000) (hG : ∀ r, r ∈ G → (r.1 = 0 ∧ r.2 = 0) ∨ (0 ≤ r.1 ∧ r.1 < r.2 ∧ r.2 ≤ (n : Int))) (hp : (p.1 = 0 ∧ p.2 = 0) ∨ (0 ≤ p.1 ∧ p.1 < p.2 ∧ p.2 ≤ (n : Int))) : agP n G p = (if G.length < 1000 then G ++ [p] else G) := by
  have e : (if p.2 ≤ (n : Int) then p.2 else (n : Int)) = p.2 := if_pos (by omega)
  unfold agP
  rw [e]
  by_cases h : G.length < 1000
  · rw [if_pos h, if_pos ⟨h, by omega⟩]
  · rw [if_neg h, if_neg (fun k => h k.1)]
/-- what gaps ask for is kept while there is room -/
theorem agN_ok {n : Nat} {M : List (Int × Int)} (hM : ∀ p, p ∈ M → (p.1 = 0 ∧ p.2 = 0) ∨ (0 ≤ p.1 ∧ p.1 < p.2 ∧ p.2 ≤ (n : Int))) {G : List (Int × Int)} (hl : G.length ≤ 1000) (hG : ∀ r, r ∈ G → (r.1 = 0 ∧ r.2 = 0) ∨ (0 ≤ r.1 ∧ r.1 < r.2 ∧ r.2 ≤ (n : Int))) : ∀ k, k ≤ M.length → agN n G (giF M) k = G ++ M.take (min k (1000 - G.length)) := by
  intro k
  induction k with
  | zero => intro _; rw [Nat.zero_min, List.take_zero, List.append_nil]; rfl
  | succ k ih =>
    intro hk
    have i := ih (by omega)
    have hin : ∀ r, r ∈ G ++ M.take (min k (1000 - G.length)) → (r.1 = 0 ∧ r.2 = 0) ∨ (0 ≤ r.1 ∧ r.1 < r.2 ∧ r.2 ≤ (n : Int)) := fun r hr => by
      rcases List.mem_append.1 hr with hr | hr
      · exact hG r hr
      · exact hM r (List.mem_of_mem_take hr)
    have hln : (G ++ M.take (min k (1000 - G.length))).length = G.length + min k (1000 - G.length) := by
      rw [List.length_append, List.length_take]; omega
    show agP n (agN n G (giF M) k) (giF M k) = _
    rw [i, agP_ok (by rw [hln]; omega) hin (hM _ (by rw [giF_at (by omega)]; exact List.getElem_mem _)), hln]
    by_cases e : G.length + min k (1000 - G.length) < 1000
    · rw [if_pos e, List.append_assoc]
      congr 1
      rw [show min k (1000 - G.length) = k from by omega, show min (k + 1) (1000 - G.length) = k + 1 from by omega, List.take_add_one, List.getElem?_eq_getElem (by omega), giF_at (by omega)]
      rfl
    · rw [if_neg e]
      rw [show min (k + 1) (1000 - G.length) = min k (1000 - G.length) from by omega]
theorem re_seen {g : Gv} (h3 : g.st ≠ 3) (h4 : g.st ≠ 4) : reN g (ntSeen 7) = ({ g with st := if g.st = 1 then 2 else g.st, ti := 0, tr := 0 }, []) ∧ (rpX g (ntSeen 7).kd (ntSeen 7).o (ntSeen 7).co (giF (ntSeen 7).ga) (ntSeen 7).ga.length).2.2 = 0 := by
  have e : rpX g (ntSeen 7).kd (ntSeen 7).o (ntSeen 7).co (giF (ntSeen 7).ga) (ntSeen 7).ga.length = ({ g with st := if g.st = 1 then 2 else g.st, ti := 0, tr := 0 }, [], 0) := by
    unfold rpX
    rw [if_neg (by show ¬ ((6 : Int) ≠ 4 ∧ (6 : Int) ≠ 5 ∧ (6 : Int) ≠ 6); omega), if_neg h4, if_neg (by show ¬ ((6 : Int) = 5); omega), if_neg h3]
    have : (if (ntSeen 7).o = 3 ∧ g.st = 1 then (2 : Int) else g.st) = (if g.st = 1 then 2 else g.st) := by
      by_cases k : g.st = 1
      · rw [if_pos k, if_pos ⟨rfl, k⟩]
      · rw [if_neg k, if_neg (fun q => k q.2)]
    rw [this]
    rfl
  unfold reN
  rw [e]
  exact ⟨rfl, rfl⟩
theorem re_done {g : Gv} (h3 : g.st ≠ 3) (h4 : g.st ≠ 4) : reN g (ntDone 7 0) = ({ g with st := 3, fi := false, at' := (g.L.length : Int), G := [] }, [(xSeen g.id).dt]) ∧ (rpX g (ntDone 7 0).kd (ntDone 7 0).o (ntDone 7 0).co (giF (ntDone 7 0).ga) (ntDone 7 0).ga.length).2.2 = 0 := by
  have e : rpX g (ntDone 7 0).kd (ntDone 7 0).o (ntDone 7 0).co (giF (ntDone 7 0).ga) (ntDone 7 0).ga.length = ({ g with st := 3, fi := false, at' := (g.L.length : Int), G := [] }, [xSeen g.id], 0) := by
    unfold rpX
    rw [if_neg (by show ¬ ((5 : Int) ≠ 4 ∧ (5 : Int) ≠ 5 ∧ (5 : Int) ≠ 6); omega), if_neg h4, if_pos (by show ((5 : Int) = 5); rfl), if_neg h3, if_pos (by show ((0 : Int) = 0); rfl)]
  unfold reN
  rw [e]
  exact ⟨rfl, rfl⟩
theorem re_gaps {g : Gv} (h3 : g.st ≠ 3) (h4 : g.st ≠ 4) (M : List (Int × Int)) : reN g (ntGaps 7 M) = ({ g with ti := 0, tr := 0, G := agN g.L.length g.G (giF M) M.length }, []) ∧ (rpX g (ntGaps 7 M).kd (ntGaps 7 M).o (ntGaps 7 M).co (giF (ntGaps 7 M).ga) (ntGaps 7 M).ga.length).2.2 = 0 := by
  have e : rpX g (ntGaps 7 M).kd (ntGaps 7 M).o (ntGaps 7 M).co (giF (ntGaps 7 M).ga) (ntGaps 7 M).ga.length = ({ g with ti := 0, tr := 0, G := agN g.L.length g.G (giF M) M.length }, [], 0) := by
    unfold rpX
    rw [if_neg (by show ¬ ((4 : Int) ≠ 4 ∧ (4 : Int) ≠ 5 ∧ (4 : Int) ≠ 6); omega), if_neg h4, if_neg (by show ¬ ((4 : Int) = 5); omega), if_neg h3]
    rw [if_neg (by show ¬ ((0 : Int) = 3 ∧ g.st = 1); omega)]
    rfl
  unfold reN
  rw [e]
  exact ⟨rfl, rfl⟩
theorem re_over {g : Gv} (h3 : g.st = 3) (n : Nt) (hn : n.kd = 4 ∨ n.kd = 5 ∨ n.kd = 6) : reN g n = (g, if n.kd = 5 then [(xSeen g.id).dt] else []) ∧ (rpX g n.kd n.o n.co (giF n.ga) n.ga.length).2.2 = 0 := by
  have e : rpX g n.kd n.o n.co (giF n.ga) n.ga.length = (g, if n.kd = 5 then [xSeen g.id] else [], 0) := by
    unfold rpX
    rw [if_neg (by omega), if_neg (by omega)]
    by_cases k : n.kd = 5
    · rw [if_pos k, if_pos h3, if_pos k]
    · rw [if_neg k, if_pos h3, if_neg k]
  unfold reN
  rw [e]
  refine ⟨?_, rfl⟩
  by_cases k : n.kd = 5
  · rw [if_pos k, if_pos k]; rfl
  · rw [if_neg k, if_neg k]; rfl
theorem UpK.kd {K : Kc} {n : Nt} (h : UpK K n) : (n.kd = 4 ∨ n.kd = 5 ∨ n.kd = 6) ∧ (n.kd = 5 → n = ntDone 7 0) := by
  rcases h with e | e | ⟨M, e, _⟩
  · subst e; exact ⟨.inr (.inr rfl), fun k => by have : (6 : Int) = 5 := k; omega⟩
  · subst e; exact ⟨.inr (.inl rfl), fun _ => rfl⟩
  · subst e; exact ⟨.inl rfl, fun k => by have : (4 : Int) = 5 := k; omega⟩
/-- A NOTE COMES TO A GIVER -/
theorem gs_re {K : Kc} {g : Gv} (h : GS K g) {n : Nt} (hn : UpK K n) : GS K (reN g n).1 ∧ (∀ m, m ∈ (reN g n).2 → m = kS) ∧ (reN g n).2.length ≤ 1 ∧ ((reN g n).1.st = 3 → g.st = 3 ∨ n = ntDone 7 0) ∧ (g.st ≠ 0 → (reN g n).1.st ≠ 0) ∧ (reN g n).1.tr ≤ g.tr ∧ (rpX g n.kd n.o n.co (giF n.ga) n.ga.length).2.2 = 0 ∧ (n.kd ≠ 5 → (reN g n).2 = []) := by
  have htr := h.o.tr
  have hti := h.o.ti
  have h4 : g.st ≠ 4 := by have := h.st; omega
  have hS : (xSeen g.id).dt = kS := by rw [h.id]; rfl
  by_cases e3 : g.st = 3
  · obtain ⟨r1, r2⟩ := re_over e3 n hn.kd.1
    rw [r1, r2]
    refine ⟨h, ?_, ?_, fun _ => .inl e3, id, Int.le_refl _, rfl, fun k => if_neg k⟩
    · intro m hm
      dsimp only at hm
      split at hm
      · rw [List.mem_singleton.1 hm, hS]
      · cases hm
    · dsimp only
      split
      · exact Nat.le_refl _
      · exact Nat.zero_le _
  · rcases hn with e | e | ⟨M, e, m1, m2, m3⟩
    · subst e
      obtain ⟨r1, r2⟩ := re_seen e3 h4
      rw [r1, r2]
      have hs := h.st
      refine ⟨⟨h.id, h.nm, h.mo, h.bu, h.pa, h.li, h.L, ⟨h.o.mo, h.o.n9, h.o.at0, h.o.gp, h.o.gl, ⟨by show (0 : Int) ≤ 0; omega, by show (0 : Int) < g.pa; omega, hti.2.2⟩, ⟨by show (0 : Int) ≤ 0; omega, by show (0 : Int) ≤ g.li; omega, htr.2.2⟩⟩, ?_, ?_⟩, (fun m hm => by cases hm), Nat.zero_le _, ?_, ?_, htr.1, rfl, fun _ => rfl⟩
      · show (if g.st = 1 then (2 : Int) else g.st) = 0 ∨ (if g.st = 1 then (2 : Int) else g.st) = 1 ∨ (if g.st = 1 then (2 : Int) else g.st) = 2 ∨ (if g.st = 1 then (2 : Int) else g.st) = 3
        split <;> omega
      · show (if g.st = 1 then (2 : Int) else g.st) ≠ 0 → _
        intro k
        refine h.go ?_
        split at k <;> omega
      · show (if g.st = 1 then (2 : Int) else g.st) = 3 → _
        intro k
        left
        split at k <;> omega
      · show g.st ≠ 0 → (if g.st = 1 then (2 : Int) else g.st) ≠ 0
        intro k
        split <;> omega
    · subst e
      obtain ⟨r1, r2⟩ := re_done e3 h4
      rw [r1, r2]
      refine ⟨⟨h.id, h.nm, h.mo, h.bu, h.pa, h.li, h.L, ⟨h.o.mo, h.o.n9, ⟨by show (0 : Int) ≤ (g.L.length : Int); omega, Int.le_refl _⟩, (fun p hp => by cases hp), Nat.zero_le _, hti, htr⟩, .inr (.inr (.inr rfl)), fun _ => ⟨by show (g.L.length : Int) = _; rw [h.L], rfl⟩⟩, ?_, Nat.le_refl _, fun _ => .inr rfl, (fun _ => by show (3 : Int) ≠ 0; omega), Int.le_refl _, rfl, fun k => absurd rfl k⟩
      intro m hm
      rw [List.mem_singleton.1 hm, hS]
    · subst e
      obtain ⟨r1, r2⟩ := re_gaps e3 h4 M
      rw [r1, r2]
      have hA := agN_ok (n := g.L.length) (M := M) (by rw [h.L]; exact m3) h.o.gl h.o.gp M.length (Nat.le_refl _)
      refine ⟨⟨h.id, h.nm, h.mo, h.bu, h.pa, h.li, h.L, ⟨h.o.mo, h.o.n9, h.o.at0, ?_, ?_, ⟨by show (0 : Int) ≤ 0; omega, by show (0 : Int) < g.pa; omega, hti.2.2⟩, ⟨by show (0 : Int) ≤ 0; omega, by show (0 : Int) ≤ g.li; omega, htr.2.2⟩⟩, h.st, h.go⟩, (fun m hm => by cases hm), Nat.zero_le _, fun k => .inl k, id, htr.1, rfl, fun _ => rfl⟩
      · show ∀ p, p ∈ agN g.L.length g.G (giF M) M.length → _
        rw [hA]
        intro p hp
        rcases List.mem_append.1 hp with hp | hp
        · exact h.o.gp p hp
        · have := m3 p (List.mem_of_mem_take hp)
          rw [← h.L] at this
          exact this
      · show (agN g.L.length g.G (giF M) M.length).length ≤ 1000
        rw [hA, List.length_append, List.length_take]
        have := h.o.gl
        omega
end

section
/-- one who takes -/
structure TS (K : Kc) (t : Tv) : Prop where
  id : t.id = 7
  pa : t.pa = K.pa
  li : t.li = 100
  q : TvQ t
  rc : (t.L.length : Int) = rcN (giF t.G) t.G.length
  kn : t.kn = true → t.nm = K.nm ∧ t.si = (K.X.length : Int)
  kf : t.kn = false → t.nm = ⟨#[]⟩ ∧ t.si = 0
  en : t.en = true → t.la = (K.X.length : Int) ∧ t.su = smI K.X
  ef : t.en = false → t.la = 0 ∧ t.su = 0
  bt : ∀ i : Nat, i < t.L.length → cvL t.G i = true → nth t.L i = nth K.X i
  ze : ∀ i : Nat, i < t.L.length → cvL t.G i = false → nth t.L i = 0
  le : t.L.length ≤ K.X.length
  ti : 0 ≤ t.ti ∧ t.ti < t.pa
  tr : 0 ≤ t.tr ∧ t.tr ≤ 100
  st : t.st = 0 ∨ t.st = 3
  ov : t.st = 3 → t.kn = true ∧ t.en = true ∧ haB (giF t.G) t.si t.G.length = true
/-- what went: a Done only of one who is over -/
def OutT (K : Kc) (t : Tv) (T : List Nt) : Prop := ∀ n, n ∈ T → UpK K n ∧ (n.kd = 5 → t.st = 3)
theorem OutT.nil {K : Kc} {t : Tv} : OutT K t [] := fun n h => by cases h
theorem OutT.one {K : Kc} {t : Tv} {n : Nt} (h : UpK K n) (k : n.kd = 5 → t.st = 3) : OutT K t [n] := fun m hm => by rw [List.mem_singleton.1 hm]; exact ⟨h, k⟩
theorem OutT.app {K : Kc} {t : Tv} {T U : List Nt} (h : OutT K t T) (k : OutT K t U) : OutT K t (T ++ U) := fun n hn => by
  rcases List.mem_append.1 hn with hn | hn
  · exact h n hn
  · exact k n hn
/-- has a byte come? -/
theorem ha_cov {K : Kc} {t : Tv} (h : TS K t) : haB (giF t.G) t.si t.G.length = true ↔ ∀ i : Nat, (i : Int) < t.si → cvL t.G i = true := by
  have hc := fun i => unF_cov (F := giF t.G) (lo := 0) (hi := t.si) (m := t.G.length) h.q.ri i
  unfold haB
  rw [decide_eq_true_eq]
  constructor
  · intro e i hi
    have hn : uqF (giF t.G) 0 t.si t.G.length = [] := List.eq_nil_of_length_eq_zero e
    have := hc i
    rw [hn, cvL_no (fun a ha => by cases ha), decide_eq_true (by omega), Bool.true_and, cvB_list] at this
    cases hh : cvL t.G i with
    | true => rfl
    | false => rw [hh] at this; cases this
  · intro e
    cases hu : uqF (giF t.G) 0 t.si t.G.length with
    | nil => rfl
    | cons p R =>
      exfalso
      have hp := unF_in (F := giF t.G) (lo := 0) (hi := t.si) (n := t.G.length) p (by rw [hu]; exact List.mem_cons_self ..)
      have := hc p.1.toNat
      rw [hu, cvB_list, e p.1.toNat (by omega)] at this
      have h2 : cvL (p :: R) p.1.toNat = true := by
        unfold cvL
        rw [List.any_cons, decide_eq_true (by omega), Bool.true_or]
      rw [h2, Bool.not_true, Bool.and_false] at this
      cases this
/-- WHO HAS ALL OF IT HAS THE FILE -/
theorem ts_file {K : Kc} {t : Tv} (h : TS K t) (hk : t.kn = true) (ha : haB (giF t.G) t.si t.G.length = true) : t.L = K.X := by
  obtain ⟨_, hs⟩ := h.kn hk
  have h1 := ha_leQ h.q ha
  have h2 := (ha_cov h).1 ha
  have h3 := h.le
  refine ext_nth (by omega) (fun i hi => h.bt i hi (h2 i (by omega)))
/-- the verdict: never that it cannot be -/
theorem ts_ju {K : Kc} {t : Tv} (h : TS K t) (h0 : t.st = 0) : TS K (juV t).1 ∧ OutT K (juV t).1 (juV t).2 ∧ (juV t).2.length ≤ 1 ∧ ((juV t).1.st = 0 → juV t = (t, []) ∧ ¬ (t.kn = true ∧ t.en = true ∧ haB (giF t.G) t.si t.G.length = true)) ∧ ((juV t).1.st = 3 → (juV t).2 = [ntDone 7 0]) := by
  unfold juV
  by_cases e : t.kn = true ∧ t.en = true ∧ (t.si = t.la → haB (giF t.G) t.si t.G.length = true)
  · obtain ⟨e1, e2, e3⟩ := e
    rw [if_pos ⟨e1, e2, e3⟩]
    have k1 := (h.kn e1).2
    obtain ⟨k2, k3⟩ := h.en e2
    have ha := e3 (by rw [k1, k2])
    have hX := ts_file h e1 ha
    have hT : t.L.take t.si.toNat = K.X := by rw [hX, k1]; exact List.take_of_length_le (by omega)
    rw [if_pos ⟨by rw [k1, k2], by rw [hT, k3]⟩]
    refine ⟨⟨h.id, h.pa, h.li, ⟨h.q.ri, h.q.gl, h.q.ge, h.q.n9, h.q.si, h.q.la⟩, h.rc, h.kn, h.kf, h.en, h.ef, h.bt, h.ze, h.le, h.ti, h.tr, .inr rfl, fun _ => ⟨e1, e2, ha⟩⟩, ?_, Nat.le_refl _, fun k => by have : (3 : Int) = 0 := k; omega, fun _ => by rw [h.id]⟩
    show OutT K _ [ntDone t.id 0]
    rw [h.id]
    exact OutT.one (.inr (.inl rfl)) (fun _ => rfl)
  · rw [if_neg e]
    refine ⟨h, OutT.nil, Nat.zero_le _, fun _ => ⟨rfl, fun k => e ⟨k.1, k.2.1, fun _ => k.2.2⟩⟩, fun k => ?_⟩
    have k : t.st = 3 := k
    omega
/-- what is missing may be told -/
theorem ts_mis {K : Kc} {t : Tv} (h : TS K t) : (sgL t.id (misL t.kn t.la t.G)).length ≤ 1 ∧ ∀ n, n ∈ sgL t.id (misL t.kn t.la t.G) → UpK K n ∧ n.kd ≠ 5 := by
  unfold sgL
  by_cases e : (misL t.kn t.la t.G).length = 0
  · rw [if_pos e]; exact ⟨Nat.zero_le _, fun n hn => by cases hn⟩
  · rw [if_neg e]
    refine ⟨Nat.le_refl _, fun n hn => ?_⟩
    rw [List.mem_singleton.1 hn, h.id]
    refine ⟨.inr (.inr ⟨_, rfl, by omega, by unfold misL; rw [List.length_take]; omega, fun p hp => ?_⟩), by show (4 : Int) ≠ 5; omega⟩
    unfold misL at hp
    have hp := List.mem_of_mem_take hp
    rcases List.mem_append.1 hp with hp | hp
    · left
      split at hp
      · cases hp
      · rw [List.mem_singleton.1 hp]; exact ⟨rfl, rfl⟩
    · right
      have hu := unF_in p hp
      refine ⟨hu.1, hu.2.1, ?_⟩
      cases he : t.en with
      | true => rw [← (h.en he).1]; exact hu.2.2
      | false => have := (h.ef he).1; omega
theorem wtN_ok {ti pa : Int} (h : 0 ≤ ti ∧ ti < pa) : 0 ≤ wtN ti pa ∧ wtN ti pa < pa ∧ (wtN ti pa = 0 ∨ wtN ti pa = ti + 1) := by
  unfold wtN
  by_cases e : ti + 1 = pa
  · rw [if_pos e]; omega
  · rw [if_neg e]; omega
/-- A TICK OF A TAKER -/
theorem ts_ti {K : Kc} {t : Tv} (h : TS K t) (ht : t.st = 0 → t.tr < 100) : TS K (tiT t).1 ∧ OutT K (tiT t).1 (tiT t).2 ∧ (tiT t).1.st = t.st ∧ (tiT t).1.tr ≤ t.tr + 1 ∧ (tiT t).2.length ≤ 1 ∧ (tiT t).1.kn = t.kn ∧ (tiT t).1.en = t.en ∧ (tiT t).1.G = t.G ∧ (tiT t).1.L = t.L := by
  have hw := wtN_ok h.ti
  have htr := h.tr
  obtain ⟨m1, m2⟩ := ts_mis h
  have hti := h.ti
  unfold tiT
  by_cases e : t.st = 0 ∧ t.en = true
  · rw [if_pos e]
    have ht := ht e.1
    by_cases f : wtN t.ti t.pa = 0
    · rw [if_pos f, if_neg (by rw [h.li]; omega)]
      refine ⟨⟨h.id, h.pa, h.li, ⟨h.q.ri, h.q.gl, h.q.ge, h.q.n9, h.q.si, h.q.la⟩, h.rc, h.kn, h.kf, h.en, h.ef, h.bt, h.ze, h.le, ⟨by show (0 : Int) ≤ 0; omega, by show (0 : Int) < t.pa; omega⟩, ⟨by show 0 ≤ t.tr + 1; omega, by show t.tr + 1 ≤ 100; omega⟩, h.st, h.ov⟩, fun n hn => ⟨(m2 n hn).1, fun k => absurd k (m2 n hn).2⟩, rfl, Int.le_refl _, m1, rfl, rfl, rfl, rfl⟩
    · rw [if_neg f]
      exact ⟨⟨h.id, h.pa, h.li, ⟨h.q.ri, h.q.gl, h.q.ge, h.q.n9, h.q.si, h.q.la⟩, h.rc, h.kn, h.kf, h.en, h.ef, h.bt, h.ze, h.le, ⟨hw.1, hw.2.1⟩, h.tr, h.st, h.ov⟩, OutT.nil, rfl, by show t.tr ≤ _; omega, Nat.zero_le _, rfl, rfl, rfl, rfl⟩
  · rw [if_neg e]
    by_cases e2 : t.st = 3 ∧ t.tr < t.li
    · rw [if_pos e2]
      have hl := h.li
      by_cases f : wtN t.ti t.pa = 0
      · rw [if_pos f]
        refine ⟨⟨h.id, h.pa, h.li, ⟨h.q.ri, h.q.gl, h.q.ge, h.q.n9, h.q.si, h.q.la⟩, h.rc, h.kn, h.kf, h.en, h.ef, h.bt, h.ze, h.le, ⟨by show (0 : Int) ≤ 0; omega, by show (0 : Int) < t.pa; omega⟩, ⟨by show 0 ≤ t.tr + 1; omega, by show t.tr + 1 ≤ 100; omega⟩, h.st, h.ov⟩, ?_, rfl, Int.le_refl _, Nat.le_refl _, rfl, rfl, rfl, rfl⟩
        show OutT K _ [ntDone t.id 0]
        rw [h.id]
        exact OutT.one (.inr (.inl rfl)) (fun _ => e2.1)
      · rw [if_neg f]
        exact ⟨⟨h.id, h.pa, h.li, ⟨h.q.ri, h.q.gl, h.q.ge, h.q.n9, h.q.si, h.q.la⟩, h.rc, h.kn, h.kf, h.en, h.ef, h.bt, h.ze, h.le, ⟨hw.1, hw.2.1⟩, h.tr, h.st, h.ov⟩, OutT.nil, rfl, by show t.tr ≤ _; omega, Nat.zero_le _, rfl, rfl, rfl, rfl⟩
    · rw [if_neg e2]
      exact ⟨h, OutT.nil, rfl, by show t.tr ≤ _; omega, Nat.zero_le _, rfl, rfl, rfl, rfl⟩
end

section
theorem nth_be (k x i : Nat) (R : List Nat) (h : i < k) : nth (beL k x ++ R) i = beB k x i := by
  rw [nth_append_left _ _ _ (by rw [beL_len]; exact h)]
  unfold beL tab
  exact nth_map_range _ _ _ h
theorem hd_be1 {x : Nat} (R : List Nat) (h : x < 256) : hdV (beL 1 x ++ R) 1 = x := by
  show 0 * 256 + nth (beL 1 x ++ R) 0 = x
  rw [nth_be 1 x 0 R (by omega)]
  show 0 * 256 + x / 2 ^ 0 % 256 = x
  omega
theorem hd_be2 {x : Nat} (R : List Nat) (h : x < 65536) : hdV (beL 2 x ++ R) 2 = x := by
  show (0 * 256 + nth (beL 2 x ++ R) 0) * 256 + nth (beL 2 x ++ R) 1 = x
  rw [nth_be 2 x 0 R (by omega), nth_be 2 x 1 R (by omega)]
  show (0 * 256 + x / 2 ^ 8 % 256) * 256 + x / 2 ^ 0 % 256 = x
  omega
theorem hd_be4 {x : Nat} (R : List Nat) (h : x < 4294967296) : hdV (beL 4 x ++ R) 4 = x := by
  show (((0 * 256 + nth (beL 4 x ++ R) 0) * 256 + nth (beL 4 x ++ R) 1) * 256 + nth (beL 4 x ++ R) 2) * 256 + nth (beL 4 x ++ R) 3 = x
  rw [nth_be 4 x 0 R (by omega), nth_be 4 x 1 R (by omega), nth_be 4 x 2 R (by omega), nth_be 4 x 3 R (by omega)]
  show (((0 * 256 + x / 2 ^ 24 % 256) * 256 + x / 2 ^ 16 % 256) * 256 + x / 2 ^ 8 % 256) * 256 + x / 2 ^ 0 % 256 = x
  omega
theorem dr_be (k x : Nat) (R : List Nat) : (beL k x ++ R).drop k = R := by
  have := List.drop_left (l₁ := beL k x) (l₂ := R)
  rw [beL_len] at this
  exact this
/-- behind the kind and the ID -/
theorem note_hd {kd id : Nat} (h1 : kd < 256) (h2 : id < 65536) (R : List Nat) : noteR (beL 1 kd ++ beL 2 id ++ R) = kindR kd id R := by
  unfold noteR
  rw [if_neg (by rw [List.length_append, List.length_append, beL_len, beL_len]; omega), List.append_assoc, hd_be1 _ h1, dr_be, hd_be2 _ h2, show (3 : Nat) = 1 + 2 from rfl, ← List.drop_drop, dr_be, dr_be]
theorem gp_rt {F : Nat → Int × Int} : ∀ (m : Nat), (∀ j, j < m → 0 ≤ (F j).1 ∧ (F j).1 < 4294967296 ∧ 0 ≤ (F j).2 ∧ (F j).2 < 4294967296) → ∀ R : List Nat, ∀ k, gpR (m + k) (gpL F m ++ R) = (List.range m).map (fun j => ((F j).1.toNat, (F j).2.toNat)) ++ gpR k R := by
  intro m
  induction m with
  | zero => intro _ R k; rw [Nat.zero_add]; rfl
  | succ m ih =>
    intro h R k
    have hm := h m (by omega)
    show gpR (m + 1 + k) (gpL F m ++ (beL 4 (F m).1.toNat ++ beL 4 (F m).2.toNat) ++ R) = _
    rw [List.append_assoc, show m + 1 + k = m + (k + 1) from by omega, ih (fun j hj => h j (by omega)), List.range_succ, List.map_append, List.append_assoc (List.map _ (List.range m))]
    congr 1
    show (hdV (beL 4 (F m).1.toNat ++ beL 4 (F m).2.toNat ++ R) 4, hdV ((beL 4 (F m).1.toNat ++ beL 4 (F m).2.toNat ++ R).drop 4) 4) :: gpR k ((beL 4 (F m).1.toNat ++ beL 4 (F m).2.toNat ++ R).drop 8) = _
    rw [show (8 : Nat) = 4 + 4 from rfl, ← List.drop_drop, List.append_assoc, dr_be, dr_be, hd_be4 _ (by omega), hd_be4 _ (by omega)]
    rfl
theorem str_rt (nm : ByteArray) : strB (strL nm) = nm := by
  unfold strB strOfNums strL
  rcases nm with ⟨⟨l⟩⟩
  simp [Function.comp_def]
/-- WHAT IS ENCODED IS READ -/
theorem note_rt {kd id : Nat} {nm : ByteArray} {si su at' : Nat} {D : List Nat} {M : List (Int × Int)} {o co : Nat} (hm : ntB kd id nm.size si su at' D.length M.length o co (alG (giF M) 65536 M.length) = true) :
    noteR (ntL kd id nm si su at' D (giF M) M.length o co) = some (⟨kd, id, strL nm, si, su, at', D, (List.range M.length).map (fun j => ((giF M j).1.toNat, (giF M j).2.toNat)), o, co⟩, []) := by
  unfold ntB ptB brB at hm
  simp only [Bool.and_eq_true, decide_eq_true_eq] at hm
  obtain ⟨⟨h1, h2⟩, h3⟩ := hm
  have h1 := kwB_ok h1
  have hn0 : ∀ n : ByteArray, n.size = 0 → strL n = [] := fun n h => by
    unfold strL
    rw [List.map_eq_nil_iff]
    exact List.eq_nil_of_length_eq_zero (by rw [Array.length_toList]; exact h)
  unfold ntL
  rw [note_hd (by omega) (by omega)]
  rcases h2 with h | h | h | h | h | h
  · obtain ⟨e, _⟩ := h
    have e : kd = 1 := by omega
    subst e
    have hD : D = [] := List.eq_nil_of_length_eq_zero (by omega)
    have hM : M = [] := List.eq_nil_of_length_eq_zero (by omega)
    subst hD hM
    have es : su = 0 := by omega
    have ea : at' = 0 := by omega
    have eo : o = 0 := by omega
    have ec : co = 0 := by omega
    subst es ea eo ec
    show kindR 1 id (beL 4 si ++ strL nm) = _
    unfold kindR
    rw [if_pos rfl, if_neg (by rw [List.length_append, beL_len]; omega), dr_be, hd_be4 _ (by omega)]
    rfl
  · obtain ⟨e, _⟩ := h
    have e : kd = 2 := by omega
    subst e
    have hM : M = [] := List.eq_nil_of_length_eq_zero (by omega)
    subst hM
    have ei : si = 0 := by omega
    have es : su = 0 := by omega
    have eo : o = 0 := by omega
    have ec : co = 0 := by omega
    subst ei es eo ec
    rw [hn0 nm (by omega)]
    show kindR 2 id (beL 4 at' ++ D) = _
    unfold kindR
    rw [if_neg (by omega), if_pos rfl, if_neg (by rw [List.length_append, beL_len]; omega), dr_be, hd_be4 _ (by omega)]
    rfl
  · obtain ⟨e, _⟩ := h
    have e : kd = 3 := by omega
    subst e
    have hD : D = [] := List.eq_nil_of_length_eq_zero (by omega)
    have hM : M = [] := List.eq_nil_of_length_eq_zero (by omega)
    subst hD hM
    have ea : at' = 0 := by omega
    have eo : o = 0 := by omega
    have ec : co = 0 := by omega
    subst ea eo ec
    rw [hn0 nm (by omega)]
    show kindR 3 id (beL 4 si ++ beL 4 su) = _
    have e4 := hd_be4 (x := su) [] (by omega)
    have e5 := dr_be 4 su []
    rw [List.append_nil] at e4 e5
    unfold kindR
    rw [if_neg (by omega), if_neg (by omega), if_pos rfl, if_neg (by rw [List.length_append, beL_len, beL_len]; omega), show (8 : Nat) = 4 + 4 from rfl, ← List.drop_drop, dr_be, hd_be4 _ (by omega), e4, e5]
    rfl
  · obtain ⟨e, m1, m2, m3⟩ := h
    have e : kd = 4 := by omega
    subst e
    have hD : D = [] := List.eq_nil_of_length_eq_zero (by omega)
    subst hD
    have ei : si = 0 := by omega
    have es : su = 0 := by omega
    have ea : at' = 0 := by omega
    have eo : o = 0 := by omega
    have ec : co = 0 := by omega
    subst ei es ea eo ec
    rw [hn0 nm (by omega)]
    show kindR 4 id (gpL (giF M) M.length) = _
    have hr := gp_rt (F := giF M) M.length (fun j hj => by have := alG_at m3 hj; omega) [] 0
    rw [List.append_nil, Nat.add_zero] at hr
    unfold kindR
    rw [if_neg (by omega), if_neg (by omega), if_neg (by omega), if_pos rfl, gpL_len, if_pos (by omega), show 8 * M.length / 8 = M.length from by omega, hr]
    show some (Nd.mk _ _ _ _ _ _ _ (_ ++ []) _ _, _) = _
    rw [List.append_nil]
  · obtain ⟨e, _⟩ := h
    have e : kd = 5 := by omega
    subst e
    have hD : D = [] := List.eq_nil_of_length_eq_zero (by omega)
    have hM : M = [] := List.eq_nil_of_length_eq_zero (by omega)
    subst hD hM
    have ei : si = 0 := by omega
    have es : su = 0 := by omega
    have ea : at' = 0 := by omega
    have eo : o = 0 := by omega
    subst ei es ea eo
    rw [hn0 nm (by omega)]
    show kindR 5 id (beL 1 co) = _
    have e4 := hd_be1 (x := co) [] (by omega)
    have e5 := dr_be 1 co []
    rw [List.append_nil] at e4 e5
    unfold kindR
    rw [if_neg (by omega), if_neg (by omega), if_neg (by omega), if_neg (by omega), if_pos rfl, if_neg (by rw [beL_len]; omega), e4, e5]
    rfl
  · obtain ⟨e, _⟩ := h
    have e : kd = 6 := by omega
    subst e
    have hD : D = [] := List.eq_nil_of_length_eq_zero (by omega)
    have hM : M = [] := List.eq_nil_of_length_eq_zero (by omega)
    subst hD hM
    have ei : si = 0 := by omega
    have es : su = 0 := by omega
    have ea : at' = 0 := by omega
    have ec : co = 0 := by omega
    subst ei es ea ec
    rw [hn0 nm (by omega)]
    show kindR 6 id (beL 1 o) = _
    have e4 := hd_be1 (x := o) [] (by omega)
    have e5 := dr_be 1 o []
    rw [List.append_nil] at e4 e5
    unfold kindR
    rw [if_neg (by omega), if_neg (by omega), if_neg (by omega), if_neg (by omega), if_neg (by omega), if_pos rfl, if_neg (by rw [beL_len]; omega), e4, e5]
    rfl
end

section
def btC (Z : Int) (i : Nat) : Bool := !(bits BinOp.and .i64 (Z / 2 ^ (i % 60)) 1 == 0)
set_option maxHeartbeats 16000000 in
theorem cm_t11 {u0 u1 u2 u3 u4 u6 u7 u8 u11 u13 u14 u15 u16 u17 u18 u19 u20 u21 u22 u23 u24 u25 u26 u27 u28 u29 u30 u31 u32 u33 u34 u35 u36 u37 u38 u39 u40 u41 u42 u43 u44 u45 u46 u47 u48 u49 u50 u51 u52 u53 u54 u55 u56 u57 u58 u59 u60 u61 u62 u63 u64 u65 u66 u67 u68 u69 u70 : Value} (Q : Exit → Act → World → Prop) (wI w : World) (g5 g12 : Nat) (la : Option Addr) (lc : Nat) (xs : List Nx) (x : Nx) (Dn Up P Lo Co : Int) (i lo n c : Nat) (a : Option Addr) (rs : List Rw) (hi : i ≤ 1000) (hxs : xs.length ≤ 1000) (GI : wI.grownBy w none) (hW : WyM w lo a n c rs) (hlo : lo ≤ w.heap.size) (hb : BxS w g5 77 #[.int .i64 Dn, .int .i64 Up, .int .i64 P, .int .i64 Lo, .int .i64 Co]) (bx : BxS w g12 27 x.arr) (hN : OwN w wI.heap.size la xs.length lc xs) (hA : Ans w wI.heap.size x.a x.da.length x.c x.da) (hO : OwGi w wI.heap.size x.q x.ga.length x.d x.ga)
    (hsp : ∀ z, ((Value.slice x.a x.da.length x.c).ownBlock = some z ∨ (Value.slice x.q x.ga.length x.d).ownBlock = some z) → ¬ Nbl la xs.length lc xs z)
    (hQ : ∀ v58 v59 v60 v61 v62 v63 v64 v65 v66 v67 v68 la' lc' xs' w', OwN w' wI.heap.size la' xs'.length lc' xs' → xs' = (if btC Lo i = true then xs else xs ++ [x]) → wI.grownBy w' none → WyM w' lo a n c rs → w.heap.size ≤ w'.heap.size → BxS w' g5 77 #[.int .i64 Dn, .int .i64 Up, .int .i64 P, .int .i64 Lo, .int .i64 Co] → Q .normal (Act.mk (List.toArray (u0 :: u1 :: u2 :: u3 :: u4 :: (.pointer (some ⟨g5, 0, none⟩)) :: u6 :: u7 :: u8 :: (.slice la' xs'.length lc') :: (.int .i64 (i : Int)) :: u11 :: (.pointer (some ⟨g12, 0, none⟩)) :: u13 :: u14 :: u15 :: u16 :: u17 :: u18 :: u19 :: u20 :: u21 :: u22 :: u23 :: u24 :: u25 :: u26 :: u27 :: u28 :: u29 :: u30 :: u31 :: u32 :: u33 :: u34 :: u35 :: u36 :: u37 :: u38 :: u39 :: u40 :: u41 :: u42 :: u43 :: u44 :: u45 :: u46 :: u47 :: u48 :: u49 :: u50 :: u51 :: u52 :: u53 :: u54 :: u55 :: u56 :: u57 :: v58 :: v59 :: v60 :: v61 :: v62 :: v63 :: v64 :: v65 :: v66 :: v67 :: v68 :: u69 :: u70 :: [])) []) w') :
    Code.wp Try.prog (tailR 11 (Try.f82.body.getD .skip)) Q (Act.mk (List.toArray (u0 :: u1 :: u2 :: u3 :: u4 :: (.pointer (some ⟨g5, 0, none⟩)) :: u6 :: u7 :: u8 :: (.slice la xs.length lc) :: (.int .i64 (i : Int)) :: u11 :: (.pointer (some ⟨g12, 0, none⟩)) :: u13 :: u14 :: u15 :: u16 :: u17 :: u18 :: u19 :: u20 :: u21 :: u22 :: u23 :: u24 :: u25 :: u26 :: u27 :: u28 :: u29 :: u30 :: u31 :: u32 :: u33 :: u34 :: u35 :: u36 :: u37 :: u38 :: u39 :: u40 :: u41 :: u42 :: u43 :: u44 :: u45 :: u46 :: u47 :: u48 :: u49 :: u50 :: u51 :: u52 :: u53 :: u54 :: u55 :: u56 :: u57 :: u58 :: u59 :: u60 :: u61 :: u62 :: u63 :: u64 :: u65 :: u66 :: u67 :: u68 :: u69 :: u70 :: [])) []) w := by
  conv => enter [2]; whnf
  have HQ : Hid _ := hQ
  clear hQ
  have c3 : w.cell? ⟨g5, 3, none⟩ = some (.int .i64 Lo) := hb.cell 3 (by show 3 < 5; decide)
  cases hl : (bits BinOp.and .i64 (Lo / 2 ^ (i % 60)) 1 == 0) with
  | false =>
    go_wp2
    exact HQ.out _ _ _ _ _ _ _ _ _ _ _ la lc xs w hN (by unfold btC; rw [hl]; rfl) GI hW (Nat.le_refl _) hb
  | true =>
    have s7 : True := trivial
    go_wp2_with (first
      | (have _t := s7; clear s7; refine wpList_load_mid rfl _ (.tmp 12) rfl g12 0 rfl _ _ (bx.range 0 [.int .i64 x.kd, .int .i64 x.id, .string x.nm, .int .i64 x.si, .int .i64 x.su, .int .i64 x.at', .slice x.a x.da.length x.c, .slice x.q x.ga.length x.d, .int .i64 x.o, .int .i64 x.co] rfl) Try.underlying27 rfl Try.info_nt ?_; have G8 := World.grownBy_alloc w (.cells x.arr 27) none; have b8 := BxS.new w 27 x.arr; have hN8 := hN.keep G8; have hA8 := hA.keep G8; have hO8 := hO.keep G8)
      | (at_builtin; refine wpList_psNq rfl _ _ rfl la xs.length lc wI.heap.size xs rfl hN8 (Nat.le_trans GI.size G8.size) w.heap.size x rfl b8 (by omega) hA8 hO8 hsp ?_; intro la9 lc9 w9 hN9 u9))
    have hl9 : (xs ++ [x]).length = xs.length + 1 := by rw [List.length_append]; rfl
    rw [← hl9] at hN9 ⊢
    have hrow : ∀ z, (Value.slice la xs.length lc).ownBlock = some z → ∃ cs, BxS (w.alloc (.cells x.arr 27)) z 27 cs := fun z e => own_bxS hN8.own e
    have hW8 := hW.keep G8
    exact HQ.out _ _ _ _ _ _ _ _ _ _ _ la9 lc9 (xs ++ [x]) w9 hN9 (by unfold btC; rw [hl]; rfl) (grown_far (grown_trans GI G8) u9 (fun z e => hN8.new z e)) (hW8.kR u9 (fun z e => by obtain ⟨cs, h9⟩ := hrow z e; exact own_ty hW8.own h9 (by decide)) (fun z e => by obtain ⟨cs, h9⟩ := hrow z e; exact ⟨_, cs, h9, by decide⟩)) (Nat.le_trans G8.size u9.size) ((hb.keep G8 (by simp)).keep u9 (fun e => by obtain ⟨cs, h9⟩ := hrow g5 e.symm; exact BxS.apart (hb.keep G8 (by simp)) h9 (by decide) rfl))
theorem wym_takes {w : World} {lo g n c : Nat} {rs : List Rw} (h : WyM w lo (some ⟨g, 0, none⟩) n c rs) (k : Nat) : ∀ j u, (flatR (rs.take k))[j]? = some u → w.cell? ((⟨g, 0, none⟩ : Addr).add j) = some u := by
  intro j u hu
  rw [addr_add', Nat.zero_add]
  refine h.cells rfl j u ?_
  unfold flatR at hu ⊢
  rw [List.map_take, List.getElem?_take] at hu
  split at hu
  · exact hu
  · cases hu
theorem wym_drops {w : World} {lo g n c : Nat} {rs : List Rw} (h : WyM w lo (some ⟨g, 0, none⟩) n c rs) (k : Nat) : ∀ j u, (flatR (rs.drop k))[j]? = some u → w.cell? ((⟨g, k, none⟩ : Addr).add j) = some u := by
  intro j u hu
  rw [addr_add']
  refine h.cells rfl _ u ?_
  unfold flatR at hu ⊢
  rw [List.map_drop, List.getElem?_drop] at hu
  exact hu
set_option maxHeartbeats 16000000 in
theorem cm_t10 {u1 u2 u3 u4 u5 u6 u7 u8 u9 u10 u12 u13 u14 u15 u16 u17 u18 u19 u20 u21 u22 u23 u24 u25 u26 u27 u28 u29 u30 u31 u32 u33 u34 u35 u36 u37 u38 u39 u40 u41 u42 u43 u44 u45 u46 u47 u48 u49 u50 u51 u52 u53 u54 u55 u56 u57 u58 u59 u60 u61 u62 u63 u64 u65 u66 u67 u68 u69 u70 : Value} (Q : Exit → Act → World → Prop) (hP : ∀ c (a1 a2 : Act) w, a1.defers = a2.defers → Q (.panic c) a1 w → Q (.panic c) a2 w) (w5 : World) (g1 n1 c1 k lo : Nat) (rs1 : List Rw) (hW5 : WyM w5 lo (some ⟨g1, 0, none⟩) n1 c1 rs1) (hlo5 : lo ≤ w5.heap.size) (hk : k < n1) (hn : n1 ≤ 100000)
    (hQ : ∀ v49 v50 v51 v52 v53 v54 v55 v56 v57 a7 c7 w', WyM w' lo a7 (n1 - 1) c7 (rs1.take k ++ rs1.drop (k + 1)) → w5.grownBy w' none → (∀ z, (Value.slice a7 (n1 - 1) c7).ownBlock = some z → w5.heap.size ≤ z) → Q .normal (Act.mk (List.toArray ((.slice a7 (n1 - 1) c7) :: u1 :: u2 :: u3 :: u4 :: u5 :: u6 :: u7 :: u8 :: u9 :: u10 :: (.int .i64 (k : Int)) :: u12 :: u13 :: u14 :: u15 :: u16 :: u17 :: u18 :: u19 :: u20 :: u21 :: u22 :: u23 :: u24 :: u25 :: u26 :: u27 :: u28 :: u29 :: u30 :: u31 :: u32 :: u33 :: u34 :: u35 :: u36 :: u37 :: u38 :: u39 :: u40 :: u41 :: u42 :: u43 :: u44 :: u45 :: u46 :: u47 :: u48 :: v49 :: v50 :: v51 :: v52 :: v53 :: v54 :: v55 :: v56 :: v57 :: u58 :: u59 :: u60 :: u61 :: u62 :: u63 :: u64 :: u65 :: u66 :: u67 :: u68 :: u69 :: u70 :: [])) []) w') :
    Code.wp Try.prog (tailR 10 (Try.f82.body.getD .skip)) Q (Act.mk (List.toArray ((.slice (some ⟨g1, 0, none⟩) n1 c1) :: u1 :: u2 :: u3 :: u4 :: u5 :: u6 :: u7 :: u8 :: u9 :: u10 :: (.int .i64 (k : Int)) :: u12 :: u13 :: u14 :: u15 :: u16 :: u17 :: u18 :: u19 :: u20 :: u21 :: u22 :: u23 :: u24 :: u25 :: u26 :: u27 :: u28 :: u29 :: u30 :: u31 :: u32 :: u33 :: u34 :: u35 :: u36 :: u37 :: u38 :: u39 :: u40 :: u41 :: u42 :: u43 :: u44 :: u45 :: u46 :: u47 :: u48 :: u49 :: u50 :: u51 :: u52 :: u53 :: u54 :: u55 :: u56 :: u57 :: u58 :: u59 :: u60 :: u61 :: u62 :: u63 :: u64 :: u65 :: u66 :: u67 :: u68 :: u69 :: u70 :: [])) []) w5 := by
  conv => enter [2]; whnf
  have HQ : Hid _ := hQ
  clear hQ
  have hl1 := hW5.len
  have hmx := hW5.max
  have hc1 : n1 ≤ c1 := hmx.1
  clear hmx
  have Gd := grown_drew w5 none
  have hW5d := hW5.keep Gd
  have e1 : (0 : Int) ≤ (k : Int) := by omega
  have e2 : (k : Int) ≤ (c1 : Int) := by omega
  have e3 : (k : Int) + 1 ≤ (n1 : Int) := by omega
  have e4 : ¬ (k : Int) + 1 < 0 := by omega
  have e5 : ¬ c1 < k := by omega
  have e6 : 0 ≤ (k : Int) + 1 := by omega
  have e8 : ¬ (k : Int) + 1 < (k : Int) := by omega
  have zw : IntKind.i64.wrap ((k : Int) + 1) = (k : Int) + 1 := wrap_i64_in _ (by omega) (by omega)
  by_cases hcc : c1 = k + 1
  · subst hcc
    have hn9 : n1 = k + 1 := by omega
    subst hn9
    have e7 : (k : Int) + 1 ≤ ((k + 1 : Nat) : Int) := by omega
    refine wp_regionL (fun _ => True) [] #[false, false, false, false, false, false, false, false, false, false] rfl (by kernel_rfl) ?_
    generalize w5.drew = wd at *
    refine wpAnyZ_take [] 0 (.slice (some ⟨g1, 0, none⟩) (k + 1) (k + 1)) rfl (by kernel_rfl) (fun _ _ _ h => hP _ _ _ _ (by rfl) h) trivial rfl (by intro wz hz; go_simp) ?_
    try simp only [zc1, zc2, zc3, Act.put, zc4, zc5, zc6]
    refine wpAnyZ_take [] 1 (.int .i64 (k : Int)) rfl (by kernel_rfl) (fun _ _ _ h => hP _ _ _ _ (by rfl) h) trivial rfl (by intro wz hz; go_simp) ?_
    try simp only [zc1, zc2, zc3, Act.put, zc4, zc5, zc6]
    refine wpAnyZ_take [] 2 (.slice (some ⟨g1, 0, none⟩) k (k + 1)) rfl (by kernel_rfl) (fun _ _ _ h => hP _ _ _ _ (by rfl) h) trivial rfl (by intro wz hz; go_simp) ?_
    try simp only [zc1, zc2, zc3, Act.put, zc4, zc5, zc6]
    refine wpAnyZ_take [] 4 (.slice (some ⟨g1, 0, none⟩) (k + 1) (k + 1)) rfl (by kernel_rfl) (fun _ _ _ h => hP _ _ _ _ (by rfl) h) trivial rfl (by intro wz hz; go_simp) ?_
    try simp only [zc1, zc2, zc3, Act.put, zc4, zc5, zc6]
    refine wpAnyZ_take [] 5 (.int .i64 (k : Int)) rfl (by kernel_rfl) (fun _ _ _ h => hP _ _ _ _ (by rfl) h) trivial rfl (by intro wz hz; go_simp) ?_
    try simp only [zc1, zc2, zc3, Act.put, zc4, zc5, zc6]
    refine wpAnyZ_take [] 6 (.int .i64 ((k : Int) + 1)) rfl (by kernel_rfl) (fun _ _ _ h => hP _ _ _ _ (by rfl) h) trivial rfl (by intro wz hz; go_simp) ?_
    try simp only [zc1, zc2, zc3, Act.put, zc4, zc5, zc6]
    refine wpAnyZ_take [] 7 (.slice (some ⟨g1, 0, none⟩) (k + 1 - (k + 1)) (k + 1 - (k + 1))) rfl (by kernel_rfl) (fun _ _ _ h => hP _ _ _ _ (by rfl) h) trivial rfl (by intro wz hz; go_simp) ?_
    try simp only [zc1, zc2, zc3, Act.put, zc4, zc5, zc6]
    refine wpAnyZ_oneB 3 rfl (by kernel_rfl) (fun KK hKK => ?_)
    refine step_of_listQ rfl ?_
    refine wpList_joinY rfl _ _ rfl rfl (WyM.nil wd lo) (Nat.le_trans hlo5 Gd.size) (some ⟨g1, 0, none⟩) k (k + 1) (rs1.take k) (by rw [List.length_take]; omega) rfl (fun h => by cases h) (fun ad e => by cases e; exact wym_takes hW5d k) (fun r hr => hW5d.each r (List.mem_of_mem_take hr)) (by omega) ?_
    intro a6 c6 w6 hW6 u6 z6
    have hW56 := hW5d.keep u6
    rw [List.nil_append, Nat.zero_add] at hW6
    rw [Nat.zero_add] at z6
    rw [Nat.zero_add]
    show KK _ w6
    refine hKK _ _ (fun _ => trivial) ?_
    try simp only [zc1, zc2, zc3, Act.put, zc4, zc5, zc6]
    refine wpAnyZ_oneB 8 rfl (by kernel_rfl) (fun KK hKK => ?_)
    refine step_of_listQ rfl ?_
    refine wpList_joinY rfl _ _ rfl rfl hW6 (Nat.le_trans hlo5 (Nat.le_trans Gd.size u6.size)) (some ⟨g1, 0, none⟩) (k + 1 - (k + 1)) (k + 1 - (k + 1)) ([]) (by show 0 = _; omega) rfl (fun h => by cases h) (fun ad e j u hu => by cases hu) (fun r hr => by cases hr) (by omega) ?_
    intro a7 c7 w7 hW7 u7 z7
    have hdr : rs1.drop (k + 1) = [] := List.drop_eq_nil_of_le (by omega)
    rw [← hdr] at hW7
    rw [show k + ((k + 1) - (k + 1)) = (k + 1) - 1 by omega] at hW7 z7 ⊢
    show KK _ w7
    refine hKK _ _ (fun _ => trivial) ?_
    try simp only [zc1, zc2, zc3, Act.put, zc4, zc5, zc6]
    refine wpAnyZ_oneB 9 rfl (by kernel_rfl) (fun KK hKK => ?_)
    go_simp
    refine hKK _ _ (fun _ => trivial) ?_
    try simp only [zc1, zc2, zc3, Act.put, zc4, zc5, zc6]
    refine wpAnyZ_doneB (by kernel_rfl) ?_ _
    have G67 : wd.grownBy w7 none := grown_far u6 u7 (fun z e => by
      rcases z6 z e with h | h
      · cases h
      · exact h)
    have z8 : ∀ z, (Value.slice a7 ((k + 1) - 1) c7).ownBlock = some z → w5.heap.size ≤ z := fun z e => by
      rcases z7 z e with h | h
      · rcases z6 z h with h | h
        · cases h
        · exact Nat.le_trans Gd.size h
      · exact Nat.le_trans Gd.size (Nat.le_trans u6.size h)
    exact HQ.out _ _ _ _ _ _ _ _ _ a7 c7 w7 hW7 (grown_trans Gd G67) z8
  · have hcn : ¬ (c1 - (k + 1) = 0) := by omega
    refine wp_regionL (fun _ => True) [] #[false, false, false, false, false, false, false, false, false, false] rfl (by kernel_rfl) ?_
    generalize w5.drew = wd at *
    refine wpAnyZ_take [] 0 (.slice (some ⟨g1, 0, none⟩) n1 c1) rfl (by kernel_rfl) (fun _ _ _ h => hP _ _ _ _ (by rfl) h) trivial rfl (by intro wz hz; go_simp) ?_
    try simp only [zc1, zc2, zc3, Act.put, zc4, zc5, zc6]
    refine wpAnyZ_take [] 1 (.int .i64 (k : Int)) rfl (by kernel_rfl) (fun _ _ _ h => hP _ _ _ _ (by rfl) h) trivial rfl (by intro wz hz; go_simp) ?_
    try simp only [zc1, zc2, zc3, Act.put, zc4, zc5, zc6]
    refine wpAnyZ_take [] 2 (.slice (some ⟨g1, 0, none⟩) k c1) rfl (by kernel_rfl) (fun _ _ _ h => hP _ _ _ _ (by rfl) h) trivial rfl (by intro wz hz; go_simp) ?_
    try simp only [zc1, zc2, zc3, Act.put, zc4, zc5, zc6]
    refine wpAnyZ_take [] 4 (.slice (some ⟨g1, 0, none⟩) n1 c1) rfl (by kernel_rfl) (fun _ _ _ h => hP _ _ _ _ (by rfl) h) trivial rfl (by intro wz hz; go_simp) ?_
    try simp only [zc1, zc2, zc3, Act.put, zc4, zc5, zc6]
    refine wpAnyZ_take [] 5 (.int .i64 (k : Int)) rfl (by kernel_rfl) (fun _ _ _ h => hP _ _ _ _ (by rfl) h) trivial rfl (by intro wz hz; go_simp) ?_
    try simp only [zc1, zc2, zc3, Act.put, zc4, zc5, zc6]
    refine wpAnyZ_take [] 6 (.int .i64 ((k : Int) + 1)) rfl (by kernel_rfl) (fun _ _ _ h => hP _ _ _ _ (by rfl) h) trivial rfl (by intro wz hz; go_simp) ?_
    try simp only [zc1, zc2, zc3, Act.put, zc4, zc5, zc6]
    refine wpAnyZ_take [] 7 (.slice (some ⟨g1, k + 1, none⟩) (n1 - (k + 1)) (c1 - (k + 1))) rfl (by kernel_rfl) (fun _ _ _ h => hP _ _ _ _ (by rfl) h) trivial rfl (by intro wz hz; go_simp) ?_
    try simp only [zc1, zc2, zc3, Act.put, zc4, zc5, zc6]
    refine wpAnyZ_oneB 3 rfl (by kernel_rfl) (fun KK hKK => ?_)
    refine step_of_listQ rfl ?_
    refine wpList_joinY rfl _ _ rfl rfl (WyM.nil wd lo) (Nat.le_trans hlo5 Gd.size) (some ⟨g1, 0, none⟩) k c1 (rs1.take k) (by rw [List.length_take]; omega) rfl (fun h => by cases h) (fun ad e => by cases e; exact wym_takes hW5d k) (fun r hr => hW5d.each r (List.mem_of_mem_take hr)) (by omega) ?_
    intro a6 c6 w6 hW6 u6 z6
    have hW56 := hW5d.keep u6
    rw [List.nil_append, Nat.zero_add] at hW6
    rw [Nat.zero_add] at z6
    rw [Nat.zero_add]
    show KK _ w6
    refine hKK _ _ (fun _ => trivial) ?_
    try simp only [zc1, zc2, zc3, Act.put, zc4, zc5, zc6]
    refine wpAnyZ_oneB 8 rfl (by kernel_rfl) (fun KK hKK => ?_)
    refine step_of_listQ rfl ?_
    refine wpList_joinY rfl _ _ rfl rfl hW6 (Nat.le_trans hlo5 (Nat.le_trans Gd.size u6.size)) (some ⟨g1, k + 1, none⟩) (n1 - (k + 1)) (c1 - (k + 1)) (rs1.drop (k + 1)) (by rw [List.length_drop]; omega) rfl (fun h => by cases h) (fun ad e => by cases e; exact wym_drops hW56 (k + 1)) (fun r hr => hW56.each r (List.mem_of_mem_drop hr)) (by omega) ?_
    intro a7 c7 w7 hW7 u7 z7
    rw [show k + (n1 - (k + 1)) = n1 - 1 by omega] at hW7 z7 ⊢
    show KK _ w7
    refine hKK _ _ (fun _ => trivial) ?_
    try simp only [zc1, zc2, zc3, Act.put, zc4, zc5, zc6]
    refine wpAnyZ_oneB 9 rfl (by kernel_rfl) (fun KK hKK => ?_)
    go_simp
    refine hKK _ _ (fun _ => trivial) ?_
    try simp only [zc1, zc2, zc3, Act.put, zc4, zc5, zc6]
    refine wpAnyZ_doneB (by kernel_rfl) ?_ _
    have G67 : wd.grownBy w7 none := grown_far u6 u7 (fun z e => by
      rcases z6 z e with h | h
      · cases h
      · exact h)
    have z8 : ∀ z, (Value.slice a7 (n1 - 1) c7).ownBlock = some z → w5.heap.size ≤ z := fun z e => by
      rcases z7 z e with h | h
      · rcases z6 z h with h | h
        · cases h
        · exact Nat.le_trans Gd.size h
      · exact Nat.le_trans Gd.size (Nat.le_trans u6.size h)
    exact HQ.out _ _ _ _ _ _ _ _ _ a7 c7 w7 hW7 (grown_trans Gd G67) z8
end
end Go.Proofs.Ytnimehkfnpepfaa
