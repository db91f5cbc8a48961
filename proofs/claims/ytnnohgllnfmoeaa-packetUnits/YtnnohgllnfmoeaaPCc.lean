import Derived.Test.YtnnohgllnfmoeaaPCb
import Derived.Test.YtnnohgllnfmoeaaPBk
import Derived.Test.YtnnohgllnfmoeaaPSam
namespace Go.Proofs.Ytnnohgllnfmoeaa
open Go.RowKit
set_option maxRecDepth 100000
set_option linter.unusedVariables false
set_option linter.unusedSimpArgs false

theorem pcN_back (n M k : Nat) (hM : 1 ≤ M) (h : pcN n M = k + 1) : n ≤ k * M + M := by
  have := (pcN_le n M hM).1
  rw [h, Nat.add_mul] at this
  omega
/-- which part, by where it begins and ends -/
theorem ptN_is (n M k : Nat) (hM : 1 ≤ M) (h : k * M < n) : ptN k (pcN n M) = if k * M = 0 ∧ n ≤ k * M + M then 3 else if k * M = 0 then 1 else if n ≤ k * M + M then 2 else 0 := by
  have hk := pcN_lt n M k hM h
  have e0 : k * M = 0 ↔ k = 0 := by
    constructor
    · intro e; rcases Nat.mul_eq_zero.1 e with e | e <;> omega
    · intro e; rw [e, Nat.zero_mul]
  have e1 : n ≤ k * M + M ↔ pcN n M = k + 1 := ⟨fun e => pcN_last n M k hM h e, fun e => pcN_back n M k hM e⟩
  unfold ptN
  simp only [e0, e1]
  by_cases a : k = 0 <;> by_cases b : pcN n M = k + 1 <;> simp [a, b] <;> (repeat' split) <;> omega
theorem OwD.push {w w1 w2 : World} {lo : Nat} {a : Option Addr} {n c : Nat} {ps : List Pk} (h : OwD w lo a n c ps) (hlo : lo ≤ w.heap.size) (p : Pk) (g1 : w.grownBy w1 none) (hp : Ans w1 w.heap.size p.a p.n p.c p.D) (hn : 0 < p.n) {gx cx : Nat}
    (hO : OwP w2 lo (some ⟨gx, 0, none⟩) (n + 1) cx (ps ++ [p])) (g2 : w1.grownBy w2 (Value.slice a n c).ownBlock) : OwD w2 lo (some ⟨gx, 0, none⟩) (n + 1) cx (ps ++ [p]) := by
  have W1 := h.own.keep g1
  have bne : ∀ {a' : Option Addr} {n' c' : Nat} {L : List Nat} {lo' : Nat}, Ans w1 lo' a' n' c' L → (Value.slice a' n' c').ownBlock = none ∨ (Value.slice a' n' c').ownBlock ≠ (Value.slice a n c).ownBlock := by
    intro a' n' c' L lo' ha
    rcases W1.own.2 with ⟨k1, _⟩ | ⟨q, cq, cur, k1, _, kh, _⟩
    · simp only [Value.slice.injEq] at k1
      obtain ⟨rfl, rfl, rfl⟩ := k1
      simp [Value.ownBlock]
      cases a' <;> simp
    · simp only [Value.slice.injEq] at k1
      obtain ⟨rfl, _, _⟩ := k1
      exact .inr (ha.apart (show BxS w1 q 33 cur from kh) (by decide))
  refine ⟨hO, ?_, ?_⟩
  · intro i hi
    rw [List.length_append, List.length_singleton] at hi
    by_cases hlt : i < ps.length
    · rw [List.getElem_append_left hlt]
      have := (h.data i hlt).keep g1
      exact this.kept g2 (bne this)
    · have : i = ps.length := by omega
      subst this
      rw [List.getElem_append_right (Nat.le_refl _)]
      simp only [Nat.sub_self, List.getElem_cons_zero]
      exact (hp.wide hlo).kept g2 (bne hp)
  · intro i j hi hj hij
    rw [List.length_append, List.length_singleton] at hi hj
    by_cases hlt : j < ps.length
    · rw [List.getElem_append_left hlt, List.getElem_append_left (show i < ps.length by omega)]
      exact h.apart i j (by omega) hlt hij
    · have : j = ps.length := by omega
      subst this
      rw [List.getElem_append_left hij, List.getElem_append_right (Nat.le_refl _)]
      simp only [Nat.sub_self, List.getElem_cons_zero]
      intro e
      rcases hp.cases with ⟨_, k0, _⟩ | ⟨gp, k0, k3, _⟩
      · omega
      · rcases (h.data i hij).cases with ⟨k1, _, _⟩ | ⟨ga', k1, _, k2⟩
        · rw [k1, k0] at e; simp [Value.ownBlock] at e
        · rw [k1, k0] at e; simp [Value.ownBlock] at e; omega
set_option maxHeartbeats 16000000 in
theorem pieces_ok (up : Bool) (ap : Int) (ct : Nat) (b off n c M : Nat) (L : List Nat) (w : World) (hL : Rd w (some ⟨b, off, none⟩) n c L) (hap : 0 ≤ ap ∧ ap ≤ 2046) (hct : ct ≤ 16383) (hn1 : 1 ≤ n) (hn2 : n ≤ 1048576) (hM1 : 1 ≤ M) (hM2 : M ≤ 65536) (hpc : pcN n M ≤ 16384) :
    Calls Try.prog 6 #[.bool up, .int .i64 ap, .int .i64 (ct : Int), .slice (some ⟨b, off, none⟩) n c, .int .i64 (M : Int)] w fun e w' => ∃ ao co ps, e = .returned (.tuple #[.slice ao (pcN n M) co, .int .i64 0]) ∧ OwD w' w.heap.size ao (pcN n M) co ps ∧ PcL up ap (pcN n M) ct M L ps ∧ w.grownBy w' none := by
  have f1 : ¬ (ap < 0) := by omega
  have f2 : ¬ ((2047 : Int) ≤ ap) := by omega
  have f3 : ¬ ((ct : Int) < 0) := by omega
  have f4 : ¬ ((16383 : Int) < (ct : Int)) := by omega
  have d1 : (((n : Int) == 0) : Bool) = false := by simp; omega
  have d2 : ¬ ((1048576 : Int) < (n : Int)) := by omega
  have d3 : ¬ ((M : Int) < 1) := by omega
  have d4 : ¬ ((65536 : Int) < (M : Int)) := by omega
  have hle := hL.le
  have hdiv : ((n : Int) + (M : Int) - 1) / (M : Int) = ((pcN n M : Nat) : Int) := by
    unfold pcN
    rw [Int.natCast_ediv]
    congr 1
    omega
  have PL := pcN_last n M
  have PT := pcN_lt n M
  have PI := ptN_is n M
  have PQ : ∀ k, k < pcN n M → k * M < n := fun k hk => by
    have h1 := (pcN_le n M hM1).2
    have h2 := Nat.mul_le_mul_right M (show k + 1 ≤ pcN n M from hk)
    rw [Nat.add_mul] at h2
    omega
  obtain ⟨pc, hpcE⟩ : ∃ pc, pc = pcN n M := ⟨_, rfl⟩
  rw [← hpcE] at hdiv hpc PL PT PI PQ ⊢
  clear hpcE
  have d5 : ¬ ((16384 : Int) < (pc : Int)) := by omega
  go_enter Try.func6, Try.ntmps6
  go_wp2
  go_loopw [2, 12, 13] (fun cn l at' wr => ∃ (k : Nat) (ao : Option Addr) (co : Nat) (ps : List Pk), cn = .int .i64 (((ct + k) % 16384 : Nat) : Int) ∧ l = .slice ao k co ∧ at' = .int .i64 ((k * M : Nat) : Int) ∧ k ≤ pc ∧ OwD wr w.heap.size ao k co ps ∧ PcL up ap pc ct M L ps ∧ w.grownBy wr none) (fun _ _ at' _ => n + M - (intOf at').toNat)
  case atStart => exact ⟨0, none, 0, [], by rw [Nat.add_zero, Nat.mod_eq_of_lt (by omega)], rfl, by rw [Nat.zero_mul]; rfl, by omega, ⟨OwP.nil _ _, fun i h => absurd h (by simp), fun i j h => absurd h (by simp)⟩, fun i h => absurd h (by simp), World.grownBy.refl _ _⟩
  case round =>
    obtain ⟨k, ao, co, ps, rfl, rfl, rfl, hk, hO, hP, hgr⟩ := hrel
    have hlen : ps.length = k := hO.own.len
    have hkM := k * M
    obtain ⟨A, hA⟩ : ∃ A, A = k * M := ⟨_, rfl⟩
    rw [← hA]
    have hAle := hA ▸ Nat.mul_le_mul_right M hk
    by_cases hlt : A < n
    · have l1 : (A : Int) < (n : Int) := by omega
      have hkl := PT k hM1 (by omega)
      clear hkM
      have hq : (((ct + k) % 16384 : Nat) : Int) + 1 ≤ 16384 := by omega
      have hq2 : ((((ct + k) % 16384 : Nat) : Int) + 1) % 16384 = (((ct + (k + 1)) % 16384 : Nat) : Int) := by omega
      have hq3 : (0 : Int) ≤ (((ct + k) % 16384 : Nat) : Int) := by omega
      generalize hqe : (((ct + k) % 16384 : Nat) : Int) = q at hq hq2 hq3
      by_cases hz : A = 0
      · by_cases hr : n < A + M
        · have z1 : (((A : Int) == 0) : Bool) = true := by simp; omega
          have z2 : ((A : Int) + (M : Int) > (n : Int)) := by omega
          have ept : ptN k pc = 3 := by rw [PI k hM1 (by omega), ← hA]; rw [if_pos ⟨by omega, by omega⟩]
          have hpi := (hL.part A (n - A) (by omega)).keep hgr
          have hDD : (L.drop A).take (n - A) = (L.drop A).take M := by rw [List.take_of_length_le (by rw [List.length_drop, hL.len]; omega), List.take_of_length_le (by rw [List.length_drop, hL.len]; omega)]
          rw [hDD] at hpi
          have s1 : (A : Int) ≤ (n : Int) := by omega
          have s2 : (n : Int) ≤ (c : Int) := by omega
          have HA : Hid (A = k * M) := hA
          have HO := hO.own
          clear hA hz hr hDD
          have t1 : True := trivial
          go_wp2_with (first
            | (at_builtin; have _t := t1; clear t1; refine wpList_joinZ rfl _ _ rfl none 0 0 wr.heap.size [] rfl (ans_nil _ _) (Nat.le_refl _) (some ⟨b, off + A, none⟩) (n - A) (c - A) _ (by first | rfl | (refine congr (congr (congrArg Value.slice ?_) ?_) ?_ <;> first | rfl | omega)) hpi (by omega) ?_; intro a1 c1 w1 hA1 g1; rw [Nat.zero_add, List.nil_append] at hA1; have t2 : True := trivial)
            | (at_builtin; have _t := t2; clear t2; refine wpList_psP w w1 (Pk.mk up false ap 3 q a1 (n - A) c1 ((L.drop A).take M)) rfl _ _ rfl ao k co ps rfl (hO.own.keep g1) (grown_trans hgr g1) rfl (by omega) ?_; intro gx cx w2 hO2 G2 g2))
          have hM' : A + M = (k + 1) * M := by rw [HA.out, Nat.add_mul, Nat.one_mul]
          have hOD := hO.push hgr.size (Pk.mk up false ap 3 q a1 (n - A) c1 ((L.drop A).take M)) (show wr.grownBy w1 none from g1) hA1 (show 0 < n - A by omega) hO2 g2
          have hPP := hP.add a1 (n - A) c1 ((L.drop A).take M) (by rw [hlen, ← HA.out]) q (by rw [hlen, ← hqe]) 3 (by rw [hlen, ept]; rfl)
          go_roundw
          case rel => exact ⟨k + 1, _, _, _, by rw [hq2], rfl, by rw [← hM']; rfl, by omega, hOD, hPP, G2⟩
          case measure => simp [intOf]; omega
        by_cases hr2 : n = A + M
        · have z1 : (((A : Int) == 0) : Bool) = true := by simp; omega
          have z2 : ¬ ((A : Int) + (M : Int) > (n : Int)) := by omega
          have z3 : (((A : Int) + (M : Int) == (n : Int)) : Bool) = true := by simp; omega
          have ept : ptN k pc = 3 := by rw [PI k hM1 (by omega), ← hA]; rw [if_pos ⟨by omega, by omega⟩]
          have hpi := (hL.part A (M) (by omega)).keep hgr
          have s1 : (A : Int) ≤ (A : Int) + (M : Int) := by omega
          have s2 : (A : Int) + (M : Int) ≤ (c : Int) := by omega
          have HA : Hid (A = k * M) := hA
          have HO := hO.own
          clear hA hz hr hr2
          have t1 : True := trivial
          go_wp2_with (first
            | (at_builtin; have _t := t1; clear t1; refine wpList_joinZ rfl _ _ rfl none 0 0 wr.heap.size [] rfl (ans_nil _ _) (Nat.le_refl _) (some ⟨b, off + A, none⟩) (M) (c - A) _ (by first | rfl | (refine congr (congr (congrArg Value.slice ?_) ?_) ?_ <;> first | rfl | omega)) hpi (by omega) ?_; intro a1 c1 w1 hA1 g1; rw [Nat.zero_add, List.nil_append] at hA1; have t2 : True := trivial)
            | (at_builtin; have _t := t2; clear t2; refine wpList_psP w w1 (Pk.mk up false ap 3 q a1 (M) c1 ((L.drop A).take M)) rfl _ _ rfl ao k co ps rfl (hO.own.keep g1) (grown_trans hgr g1) rfl (by omega) ?_; intro gx cx w2 hO2 G2 g2))
          have hM' : A + M = (k + 1) * M := by rw [HA.out, Nat.add_mul, Nat.one_mul]
          have hOD := hO.push hgr.size (Pk.mk up false ap 3 q a1 (M) c1 ((L.drop A).take M)) (show wr.grownBy w1 none from g1) hA1 (show 0 < M by omega) hO2 g2
          have hPP := hP.add a1 (M) c1 ((L.drop A).take M) (by rw [hlen, ← HA.out]) q (by rw [hlen, ← hqe]) 3 (by rw [hlen, ept]; rfl)
          go_roundw
          case rel => exact ⟨k + 1, _, _, _, by rw [hq2], rfl, by rw [← hM']; rfl, by omega, hOD, hPP, G2⟩
          case measure => simp [intOf]; omega
        · have z1 : (((A : Int) == 0) : Bool) = true := by simp; omega
          have z2 : ¬ ((A : Int) + (M : Int) > (n : Int)) := by omega
          have z3 : (((A : Int) + (M : Int) == (n : Int)) : Bool) = false := by simp; omega
          have ept : ptN k pc = 1 := by rw [PI k hM1 (by omega), ← hA]; rw [if_neg (by omega), if_pos (by omega)]
          have hpi := (hL.part A (M) (by omega)).keep hgr
          have s1 : (A : Int) ≤ (A : Int) + (M : Int) := by omega
          have s2 : (A : Int) + (M : Int) ≤ (c : Int) := by omega
          have HA : Hid (A = k * M) := hA
          have HO := hO.own
          clear hA hz hr hr2
          have t1 : True := trivial
          go_wp2_with (first
            | (at_builtin; have _t := t1; clear t1; refine wpList_joinZ rfl _ _ rfl none 0 0 wr.heap.size [] rfl (ans_nil _ _) (Nat.le_refl _) (some ⟨b, off + A, none⟩) (M) (c - A) _ (by first | rfl | (refine congr (congr (congrArg Value.slice ?_) ?_) ?_ <;> first | rfl | omega)) hpi (by omega) ?_; intro a1 c1 w1 hA1 g1; rw [Nat.zero_add, List.nil_append] at hA1; have t2 : True := trivial)
            | (at_builtin; have _t := t2; clear t2; refine wpList_psP w w1 (Pk.mk up false ap 1 q a1 (M) c1 ((L.drop A).take M)) rfl _ _ rfl ao k co ps rfl (hO.own.keep g1) (grown_trans hgr g1) rfl (by omega) ?_; intro gx cx w2 hO2 G2 g2))
          have hM' : A + M = (k + 1) * M := by rw [HA.out, Nat.add_mul, Nat.one_mul]
          have hOD := hO.push hgr.size (Pk.mk up false ap 1 q a1 (M) c1 ((L.drop A).take M)) (show wr.grownBy w1 none from g1) hA1 (show 0 < M by omega) hO2 g2
          have hPP := hP.add a1 (M) c1 ((L.drop A).take M) (by rw [hlen, ← HA.out]) q (by rw [hlen, ← hqe]) 1 (by rw [hlen, ept]; rfl)
          go_roundw
          case rel => exact ⟨k + 1, _, _, _, by rw [hq2], rfl, by rw [← hM']; rfl, by omega, hOD, hPP, G2⟩
          case measure => simp [intOf]; omega
      · by_cases hr : n < A + M
        · have z1 : (((A : Int) == 0) : Bool) = false := by simp; omega
          have z2 : ((A : Int) + (M : Int) > (n : Int)) := by omega
          have ept : ptN k pc = 2 := by rw [PI k hM1 (by omega), ← hA]; rw [if_neg (by omega), if_neg (by omega), if_pos (by omega)]
          have hpi := (hL.part A (n - A) (by omega)).keep hgr
          have hDD : (L.drop A).take (n - A) = (L.drop A).take M := by rw [List.take_of_length_le (by rw [List.length_drop, hL.len]; omega), List.take_of_length_le (by rw [List.length_drop, hL.len]; omega)]
          rw [hDD] at hpi
          have s1 : (A : Int) ≤ (n : Int) := by omega
          have s2 : (n : Int) ≤ (c : Int) := by omega
          have HA : Hid (A = k * M) := hA
          have HO := hO.own
          clear hA hz hr hDD
          have t1 : True := trivial
          go_wp2_with (first
            | (at_builtin; have _t := t1; clear t1; refine wpList_joinZ rfl _ _ rfl none 0 0 wr.heap.size [] rfl (ans_nil _ _) (Nat.le_refl _) (some ⟨b, off + A, none⟩) (n - A) (c - A) _ (by first | rfl | (refine congr (congr (congrArg Value.slice ?_) ?_) ?_ <;> first | rfl | omega)) hpi (by omega) ?_; intro a1 c1 w1 hA1 g1; rw [Nat.zero_add, List.nil_append] at hA1; have t2 : True := trivial)
            | (at_builtin; have _t := t2; clear t2; refine wpList_psP w w1 (Pk.mk up false ap 2 q a1 (n - A) c1 ((L.drop A).take M)) rfl _ _ rfl ao k co ps rfl (hO.own.keep g1) (grown_trans hgr g1) rfl (by omega) ?_; intro gx cx w2 hO2 G2 g2))
          have hM' : A + M = (k + 1) * M := by rw [HA.out, Nat.add_mul, Nat.one_mul]
          have hOD := hO.push hgr.size (Pk.mk up false ap 2 q a1 (n - A) c1 ((L.drop A).take M)) (show wr.grownBy w1 none from g1) hA1 (show 0 < n - A by omega) hO2 g2
          have hPP := hP.add a1 (n - A) c1 ((L.drop A).take M) (by rw [hlen, ← HA.out]) q (by rw [hlen, ← hqe]) 2 (by rw [hlen, ept]; rfl)
          go_roundw
          case rel => exact ⟨k + 1, _, _, _, by rw [hq2], rfl, by rw [← hM']; rfl, by omega, hOD, hPP, G2⟩
          case measure => simp [intOf]; omega
        by_cases hr2 : n = A + M
        · have z1 : (((A : Int) == 0) : Bool) = false := by simp; omega
          have z2 : ¬ ((A : Int) + (M : Int) > (n : Int)) := by omega
          have z3 : (((A : Int) + (M : Int) == (n : Int)) : Bool) = true := by simp; omega
          have ept : ptN k pc = 2 := by rw [PI k hM1 (by omega), ← hA]; rw [if_neg (by omega), if_neg (by omega), if_pos (by omega)]
          have hpi := (hL.part A (M) (by omega)).keep hgr
          have s1 : (A : Int) ≤ (A : Int) + (M : Int) := by omega
          have s2 : (A : Int) + (M : Int) ≤ (c : Int) := by omega
          have HA : Hid (A = k * M) := hA
          have HO := hO.own
          clear hA hz hr hr2
          have t1 : True := trivial
          go_wp2_with (first
            | (at_builtin; have _t := t1; clear t1; refine wpList_joinZ rfl _ _ rfl none 0 0 wr.heap.size [] rfl (ans_nil _ _) (Nat.le_refl _) (some ⟨b, off + A, none⟩) (M) (c - A) _ (by first | rfl | (refine congr (congr (congrArg Value.slice ?_) ?_) ?_ <;> first | rfl | omega)) hpi (by omega) ?_; intro a1 c1 w1 hA1 g1; rw [Nat.zero_add, List.nil_append] at hA1; have t2 : True := trivial)
            | (at_builtin; have _t := t2; clear t2; refine wpList_psP w w1 (Pk.mk up false ap 2 q a1 (M) c1 ((L.drop A).take M)) rfl _ _ rfl ao k co ps rfl (hO.own.keep g1) (grown_trans hgr g1) rfl (by omega) ?_; intro gx cx w2 hO2 G2 g2))
          have hM' : A + M = (k + 1) * M := by rw [HA.out, Nat.add_mul, Nat.one_mul]
          have hOD := hO.push hgr.size (Pk.mk up false ap 2 q a1 (M) c1 ((L.drop A).take M)) (show wr.grownBy w1 none from g1) hA1 (show 0 < M by omega) hO2 g2
          have hPP := hP.add a1 (M) c1 ((L.drop A).take M) (by rw [hlen, ← HA.out]) q (by rw [hlen, ← hqe]) 2 (by rw [hlen, ept]; rfl)
          go_roundw
          case rel => exact ⟨k + 1, _, _, _, by rw [hq2], rfl, by rw [← hM']; rfl, by omega, hOD, hPP, G2⟩
          case measure => simp [intOf]; omega
        · have z1 : (((A : Int) == 0) : Bool) = false := by simp; omega
          have z2 : ¬ ((A : Int) + (M : Int) > (n : Int)) := by omega
          have z3 : (((A : Int) + (M : Int) == (n : Int)) : Bool) = false := by simp; omega
          have ept : ptN k pc = 0 := by rw [PI k hM1 (by omega), ← hA]; rw [if_neg (by omega), if_neg (by omega), if_neg (by omega)]
          have hpi := (hL.part A (M) (by omega)).keep hgr
          have s1 : (A : Int) ≤ (A : Int) + (M : Int) := by omega
          have s2 : (A : Int) + (M : Int) ≤ (c : Int) := by omega
          have HA : Hid (A = k * M) := hA
          have HO := hO.own
          clear hA hz hr hr2
          have t1 : True := trivial
          go_wp2_with (first
            | (at_builtin; have _t := t1; clear t1; refine wpList_joinZ rfl _ _ rfl none 0 0 wr.heap.size [] rfl (ans_nil _ _) (Nat.le_refl _) (some ⟨b, off + A, none⟩) (M) (c - A) _ (by first | rfl | (refine congr (congr (congrArg Value.slice ?_) ?_) ?_ <;> first | rfl | omega)) hpi (by omega) ?_; intro a1 c1 w1 hA1 g1; rw [Nat.zero_add, List.nil_append] at hA1; have t2 : True := trivial)
            | (at_builtin; have _t := t2; clear t2; refine wpList_psP w w1 (Pk.mk up false ap 0 q a1 (M) c1 ((L.drop A).take M)) rfl _ _ rfl ao k co ps rfl (hO.own.keep g1) (grown_trans hgr g1) rfl (by omega) ?_; intro gx cx w2 hO2 G2 g2))
          have hM' : A + M = (k + 1) * M := by rw [HA.out, Nat.add_mul, Nat.one_mul]
          have hOD := hO.push hgr.size (Pk.mk up false ap 0 q a1 (M) c1 ((L.drop A).take M)) (show wr.grownBy w1 none from g1) hA1 (show 0 < M by omega) hO2 g2
          have hPP := hP.add a1 (M) c1 ((L.drop A).take M) (by rw [hlen, ← HA.out]) q (by rw [hlen, ← hqe]) 0 (by rw [hlen, ept]; rfl)
          go_roundw
          case rel => exact ⟨k + 1, _, _, _, by rw [hq2], rfl, by rw [← hM']; rfl, by omega, hOD, hPP, G2⟩
          case measure => simp [intOf]; omega
    · have l1 : ¬ ((A : Int) < (n : Int)) := by omega
      go_wp2
      go_ret2
      have hkp : k = pc := by
        apply Nat.le_antisymm hk
        apply Nat.le_of_not_lt
        intro hlk
        have := PQ k hlk
        omega
      subst hkp
      first | exact ⟨ao, co, ps, rfl, hO, hP, hgr⟩ | exact ⟨ao, co, rfl, ps, hO, hP, hgr⟩

set_option maxHeartbeats 16000000 in
theorem pieces_bad (up : Bool) (ap ct : Int) (a : Option Addr) (n c : Nat) (mo : Int) (L : List Nat) (w : World) (hL : Rd w a n c L) (hE : cuE ap ct n mo ≠ 0) :
    Calls Try.prog 6 #[.bool up, .int .i64 ap, .int .i64 ct, .slice a n c, .int .i64 mo] w fun e w' => e = .returned (.tuple #[.slice none 0 0, .int .i64 (cuE ap ct n mo : Nat)]) ∧ w' = w := by
  by_cases h1 : (0 ≤ ap ∧ ap ≤ 2046) ∧ (0 ≤ ct ∧ ct ≤ 16383)
  · have f1 : ¬ (ap < 0) := by omega
    have f2 : ¬ ((2047 : Int) ≤ ap) := by omega
    have f3 : ¬ (ct < 0) := by omega
    have f4 : ¬ ((16383 : Int) < ct) := by omega
    by_cases h3 : n = 0 ∨ 1048576 < n ∨ mo < 1 ∨ 65536 < mo
    · have e : cuE ap ct n mo = 1 := by
        unfold cuE
        rw [if_neg (by simp [h1]), if_pos]
        rcases h3 with h | h | h | h <;> simp [h]
      rw [e]
      have hb : (((n : Int) == 0) || decide ((1048576 : Int) < (n : Int)) || decide (mo < 1) || decide ((65536 : Int) < mo)) = true := by
        simp only [Bool.or_eq_true, beq_iff_eq, decide_eq_true_eq]
        omega
      clear hE h3
      go_enter Try.func6, Try.ntmps6
      go_wp2
      all_goals
        go_ret2
        exact ⟨rfl, rfl⟩
    · have h4 : (16384 : Int) < ((n : Int) + mo - 1) / mo := by
        apply Int.lt_of_not_ge; intro h4
        apply hE; unfold cuE
        rw [if_neg (by simp [h1]), if_neg]
        omega
      have e : cuE ap ct n mo = 1 := by
        unfold cuE
        rw [if_neg (by simp [h1]), if_pos (.inr (.inr (.inr (.inr h4))))]
      rw [e]
      have d1 : (((n : Int) == 0) : Bool) = false := by simp; omega
      have d2 : ¬ ((1048576 : Int) < (n : Int)) := by omega
      have d3 : ¬ (mo < 1) := by omega
      have d4 : ¬ ((65536 : Int) < mo) := by omega
      have d6 : ((n : Int) + mo - 1) / mo ≤ 1114111 := by
        refine Int.le_trans (Int.ediv_le_self _ (by omega)) (by omega)
      clear hE h3
      go_enter Try.func6, Try.ntmps6
      go_wp2
      go_ret2
      exact ⟨rfl, rfl⟩
  · have e : cuE ap ct n mo = 2 := by unfold cuE; rw [if_pos (by omega)]
    rw [e]
    have hb : (decide (ap < 0) || decide ((2047 : Int) ≤ ap) || decide (ct < 0) || decide ((16383 : Int) < ct)) = true := by
      simp only [Bool.or_eq_true, decide_eq_true_eq]
      omega
    clear hE h1
    go_enter Try.func6, Try.ntmps6
    go_wp2
    all_goals
      go_ret2
      exact ⟨rfl, rfl⟩
theorem OwP.six {w : World} {lo g n cap : Nat} {ps : List Pk} (h : OwP w lo (some ⟨g, 0, none⟩) n cap ps) (i : Nat) (hi : i < ps.length) :
    w.cell? ⟨g, i * 6, none⟩ = some (.bool (ps[i]).up) ∧ w.cell? ⟨g, i * 6 + 1, none⟩ = some (.bool (ps[i]).se) ∧ w.cell? ⟨g, i * 6 + 2, none⟩ = some (.int .i64 (ps[i]).ap) ∧ w.cell? ⟨g, i * 6 + 3, none⟩ = some (.int .i64 (ps[i]).pt) ∧ w.cell? ⟨g, i * 6 + 4, none⟩ = some (.int .i64 (ps[i]).ct) ∧ w.cell? ⟨g, i * 6 + 5, none⟩ = some (.slice (ps[i]).a (ps[i]).n (ps[i]).c) :=
  ⟨h.cell i 0 hi (by decide), h.cell i 1 hi (by decide), h.cell i 2 hi (by decide), h.cell i 3 hi (by decide), h.cell i 4 hi (by decide), h.cell i 5 hi (by decide)⟩
theorem OwP.some {w : World} {lo n cap : Nat} {a : Option Addr} {ps : List Pk} (h : OwP w lo a n cap ps) (hn : 1 ≤ n) : ∃ g, a = some ⟨g, 0, none⟩ := by
  rcases h.cases with ⟨_, h2, _⟩ | ⟨g, h1, _⟩
  · omega
  · exact ⟨g, h1⟩
/-- a row of packets is no row of bytes -/
theorem OwP.bytes {w : World} {lo lo' n cap m d : Nat} {a b : Option Addr} {ps : List Pk} {L : List Nat} (h : OwP w lo a n cap ps) (k : Ans w lo' b m d L) : (Value.slice a n cap).ownBlock = none ∨ (Value.slice a n cap).ownBlock ≠ (Value.slice b m d).ownBlock := by
  rcases h.own.2 with ⟨k1, _⟩ | ⟨q, cq, cur, k1, _, kh, _⟩
  · simp only [Value.slice.injEq] at k1
    obtain ⟨rfl, rfl, rfl⟩ := k1
    exact .inl rfl
  · simp only [Value.slice.injEq] at k1
    obtain ⟨rfl, _, _⟩ := k1
    exact .inr fun e => k.apart (show BxS w q 33 cur from kh) (by decide) e.symm
theorem OwD.keep {w w' : World} {lo n cap : Nat} {a : Option Addr} {ps : List Pk} (h : OwD w lo a n cap ps) (hg : w.grownBy w' none) : OwD w' lo a n cap ps := ⟨h.own.keep hg, fun i hi => (h.data i hi).keep hg, h.apart⟩
theorem OwD.kept {w w' : World} {lo lo' n cap m d : Nat} {a b : Option Addr} {ps : List Pk} {L : List Nat} (h : OwD w lo a n cap ps) (k : Ans w lo' b m d L) (hg : w.grownBy w' (Value.slice b m d).ownBlock)
    (hne : ∀ i (hi : i < ps.length), (Value.slice ps[i].a ps[i].n ps[i].c).ownBlock = none ∨ (Value.slice ps[i].a ps[i].n ps[i].c).ownBlock ≠ (Value.slice b m d).ownBlock) : OwD w' lo a n cap ps :=
  ⟨h.own.kept hg (h.own.bytes k), fun i hi => (h.data i hi).kept hg (hne i hi), h.apart⟩
/-- what was there ahead of lo' is not what came from lo' on -/
theorem ans_below {w w' : World} {lo lo' n cap m d : Nat} {a b : Option Addr} {L M : List Nat} (h : Ans w lo a n cap L) (k : Ans w' lo' b m d M) (hs : w.heap.size ≤ lo') : (Value.slice a n cap).ownBlock = none ∨ (Value.slice a n cap).ownBlock ≠ (Value.slice b m d).ownBlock := by
  rcases h.cases with ⟨rfl, _, _⟩ | ⟨g, rfl, _, hlt⟩
  · exact .inl rfl
  · refine .inr fun e => ?_
    have := k.new g e.symm
    omega
theorem flip_ne {x y : Option Nat} (h : x = none ∨ x ≠ y) : y = none ∨ y ≠ x := by
  cases y with
  | none => exact .inl rfl
  | some q =>
    refine .inr fun e => ?_
    rcases h with h | h
    · rw [h] at e; cases e
    · exact h e.symm
end Go.Proofs.Ytnnohgllnfmoeaa
