import Derived.Test.YtchbppidepapiaaDoorMHp
namespace Go.Proofs.YtchbppidepapiaaDoor
open Go.RowKit
set_option maxRecDepth 100000
set_option linter.unusedVariables false
set_option linter.unusedSimpArgs false

/-- the words that are stored -/
def wdH (S : List Int) (L k : Nat) : Nat := if k < L then pkH (nthI S k) 4294967296 else 0
theorem wdH_lt (S : List Int) (L k : Nat) : wdH S L k < 4294967296 := by
  unfold wdH
  split
  · exact pkH_lt _ _ (by decide)
  · decide
theorem ans_nilK (w : World) (lo : Nat) : OwK w lo none 0 0 [] := ⟨World.ownsRow_nil _ _ _ _, rfl, fun g h => by simp [Value.ownBlock] at h⟩
theorem out_push {s : List Nat × Nat} {P : List (Nat × Nat × Nat)} {p : Nat × Nat × Nat} {B j : Nat} {W : Nat → Nat} (hl : P.length = B + j) (h : ∀ k, k < j → mOu (mRu s (gP P) (B + k)) (gP P (B + k)) = W k) (hn : mOu (mRu s (gP P) P.length) p = W j) :
    ∀ k, k < j + 1 → mOu (mRu s (gP (P ++ [p])) (B + k)) (gP (P ++ [p]) (B + k)) = W k := by
  intro k hk
  by_cases e : k < j
  · rw [mRu_app _ _ _ _ (by omega), gP_app _ _ _ (by omega)]
    exact h k e
  · obtain rfl : k = j := by omega
    rw [← hl, mRu_app _ _ _ _ (Nat.le_refl _), gP_last]
    exact hn
/-- what lies in the row of what came of pokes -/
theorem pd_cell {w : World} {s : List Nat × Nat} {F : Nat → Nat × Nat × Nat} {g m co i : Nat} (h : w.ownsRow 0 29 4 (.slice (some ⟨g, 0, none⟩) m co) m (pdL s F m)) (hi : i < m) :
    w.cell? ⟨g, i * 4, none⟩ = some (.int .i64 (mOu (mRu s F i) (F i) : Nat)) ∧ w.cell? ⟨g, i * 4 + 1, none⟩ = some (.slice none 0 0) ∧ w.cell? ⟨g, i * 4 + 2, none⟩ = some (.int .i64 0) := by
  have hc := fun j u hu => h.cells (g := g) rfl j u hu
  refine ⟨?_, ?_, ?_⟩
  · have := hc (i * 4 + 0) _ ((pdL_get s F m i 0 hi (by decide)).trans rfl)
    rw [addr_add] at this
    simpa using this
  · have := hc (i * 4 + 1) _ ((pdL_get s F m i 1 hi (by decide)).trans rfl)
    rw [addr_add] at this
    simpa using this
  · have := hc (i * 4 + 2) _ ((pdL_get s F m i 2 hi (by decide)).trans rfl)
    rw [addr_add] at this
    simpa using this
theorem pd_some {w : World} {t : TypeId} {xs : List Value} {ao : Option Addr} {m co : Nat} (h : w.ownsRow 0 t 4 (.slice ao m co) m xs) (hm : 0 < m) : ∃ g, ao = some ⟨g, 0, none⟩ := by
  rcases h.2 with ⟨e, h0⟩ | ⟨g, c, cur, e, _⟩
  · omega
  · simp only [Value.slice.injEq] at e
    exact ⟨g, e.1⟩
set_option maxHeartbeats 8000000 in
theorem holds_walk (al ah : Option Addr) (L cl Hn ch : Nat) (S : List Int) (R : Nat → Option Addr × Nat × Nat × List Int) (w : World) (hl : RdJ w al L cl S) (hh : RdJJ w ah Hn ch R) (hLb : L ≤ 20000000000000) (hHb : Hn ≤ 20000000000000) :
    Calls Tryd.prog 4 #[.slice al L cl, .slice ah Hn ch] w fun e w' => e = .returned (.bool true) ∧ Below w.heap.size w w' := by
  obtain ⟨N, hN⟩ : ∃ N : Nat, N = 1 + L := ⟨_, rfl⟩
  have hNi : (1 : Int) + (L : Int) = (N : Int) := by omega
  have hNw : IntKind.i64.wrap (N : Int) = (N : Int) := wrap_i64_in _ (by omega) (by omega)
  have HNL : Hid (N = 1 + L) := hN
  clear hN
  by_cases h40 : 40 < N
  · have h40i : (40 : Int) < (N : Int) := by omega
    go_enter Tryd.func4, Tryd.ntmps4
    go_wp2
    go_ret
    exact ⟨rfl, Below.refl _ _⟩
  by_cases h30 : 30 < Hn
  · have h40i : ¬ (40 : Int) < (N : Int) := by omega
    have h30i : (30 : Int) < (Hn : Int) := by omega
    go_enter Tryd.func4, Tryd.ntmps4
    go_wp2
    go_ret
    exact ⟨rfl, Below.refl _ _⟩
  have h40i : ¬ (40 : Int) < (N : Int) := by omega
  have h30i : ¬ (30 : Int) < (Hn : Int) := by omega
  have hL39 : L ≤ 39 := by have := HNL.out; omega
  go_enter Tryd.func4, Tryd.ntmps4
  go_wp2
  go_loopw [6, 7] (fun sv iv wr => ∃ (i co : Nat) (ao : Option Addr) (P : List (Nat × Nat × Nat)) (C : List Nat), i ≤ L ∧ iv = .int .i64 i ∧ sv = .slice ao i co ∧ OwK wr w.heap.size ao i co P ∧ Good N P C ∧ Hit (fun k => if k < i then wdH S L k else 0) N 0 C ∧ w.grownBy wr none) (fun _ iv _ => L - (intOf iv).toNat)
  case atStart => exact ⟨0, 0, none, [], _, by omega, rfl, rfl, ans_nilK _ _, good_nil N, hit_start _ _, World.grownBy.refl _ _⟩
  case round =>
    obtain ⟨i, co, ao, P, C, hi, rfl, rfl, hO, hG, hX, hw⟩ := hrel
    by_cases hlt : i < L
    · obtain ⟨b, off, rfl, hb, c1⟩ := hl.at_in hw i hlt
      have HP : ∀ wz : World, Calls Tryd.prog 8 #[.int .i64 (nthI S i), .int .i64 4294967296] wz fun e w' => e = .returned (.int .i64 (pkH (nthI S i) 4294967296 : Nat)) ∧ w' = wz := fun wz => pickH_any (nthI S i) 4294967296 wz (hl.inB i hlt) (by decide) (by decide)
      have hwi : wdH S L i = pkH (nthI S i) 4294967296 := if_pos hlt
      rw [← hwi] at HP
      obtain ⟨k1, k2, k3⟩ := hX.store (j := i) (by rw [HNL.out]; omega) (wdH_lt S L i)
      have hG' : Hid _ := hG.push _ k1 k2
      have hX' : Hid _ := k3
      have hlti : (i : Int) < (L : Int) := by omega
      clear k1 k2 k3 hG hX hwi
      generalize wdH S L i = z at HP hG' hX'
      go_wp2_with (first
        | (go_at_call 8; refine (HP _).mono ?_; rintro e w' ⟨rfl, hww⟩; have hww := hww.symm; subst hww)
        | (at_builtin; refine wpList_psK w wr rfl (.tmp 31) (.tmp 39) rfl ao i co P 2 i z rfl hO hw rfl (by omega) ?_; intro gx cx w2 hO2 hw2))
      go_roundw
      case rel => exact ⟨i + 1, cx, _, _, _, by omega, by go_num, rfl, hO2, hG'.out, hX'.out, hw2⟩
      case measure => simp [intOf]; omega
    · obtain rfl : i = L := by omega
      have hX : Hit (wdH S i) N 0 C := ⟨hX.len, fun k hk => by omega, fun k h1 h2 => by
        have e := hX.high k h1 h2
        by_cases hk : k < i
        · rw [e, if_pos hk]
        · rw [e, if_neg hk]; unfold wdH; rw [if_neg hk]⟩
      have hm40 : i ≤ 40 := by omega
      go_wp2
      go_loopw [6, 8] (fun sv iv wr => ∃ (i2 m co : Nat) (ao : Option Addr) (P : List (Nat × Nat × Nat)) (C : List Nat), i2 ≤ Hn ∧ iv = .int .i64 i2 ∧ sv = .slice ao m co ∧ OwK wr w.heap.size ao m co P ∧ Good N P C ∧ Hit (wdH S i) N 0 C ∧ w.grownBy wr none ∧ m ≤ 40 + 41 * i2) (fun _ iv _ => Hn - (intOf iv).toNat)
      case atStart => exact ⟨0, i, co, ao, P, C, by omega, rfl, rfl, hO, hG, hX, hw, by omega⟩
      case round =>
        clear hO hG hX hw
        obtain ⟨i2, m, co, ao, P, C, hi2, rfl, rfl, hO, hG, hX, hw, hmb⟩ := hrel
        by_cases hlt2 : i2 < Hn
        · obtain ⟨bh, oh, rfl, hbh, cR⟩ := hh.at_in hw i2 hlt2
          have hEach := hh.each i2 hlt2
          have hRw : Hid (∀ wz : World, w.grownBy wz none → wz.cell? ⟨bh, oh + i2, none⟩ = some (.slice (R i2).1 (R i2).2.1 (R i2).2.2.1)) := fun wz hz => by
            obtain ⟨b', o', e, _, c⟩ := hh.at_in hz i2 hlt2
            cases e
            exact c
          generalize R i2 = r at hEach cR hRw
          obtain ⟨ra, rn, rc, rS⟩ := r
          dsimp only at hEach cR hRw
          have hlt2i : (i2 : Int) < (Hn : Int) := by omega
          go_wp2
          go_loopw [6, 9] (fun sv kv wr => ∃ (k m2 co : Nat) (ao : Option Addr) (P : List (Nat × Nat × Nat)) (C : List Nat), k ≤ rn ∧ k ≤ N ∧ kv = .int .i64 k ∧ sv = .slice ao m2 co ∧ OwK wr w.heap.size ao m2 co P ∧ Good N P C ∧ Hit (wdH S i) N k C ∧ w.grownBy wr none ∧ m2 ≤ 40 + 41 * i2 + k) (fun _ kv _ => N - (intOf kv).toNat)
          case atStart => exact ⟨0, m, co, ao, P, C, by omega, by omega, rfl, rfl, hO, hG, hX, hw, by omega⟩
          case round =>
            clear hO hG hX hw cR
            obtain ⟨k, m2, co, ao, P, C, hk1, hk2, rfl, rfl, hO, hG, hX, hw, hmb2⟩ := hrel
            have cR := hRw.out wr hw
            by_cases hkr : k < rn
            · by_cases hkN : k < N
              · obtain ⟨b, off, rfl, hb, c1⟩ := hEach.at_in hw k hkr
                have HP : ∀ wz : World, Calls Tryd.prog 8 #[.int .i64 (nthI rS k), .int .i64 39] wz fun e w' => e = .returned (.int .i64 (pkH (nthI rS k) 39 : Nat)) ∧ w' = wz := fun wz => pickH_any (nthI rS k) 39 wz (hEach.inB k hkr) (by decide) (by decide)
                have hpl := pkH_lt (nthI rS k) 39 (by decide)
                obtain ⟨q1, q2⟩ := hX.turned (pkH (nthI rS k) 39) hpl hkN
                have hG' : Hid _ := hG.push _ q1 q2
                have hX' : Hid _ := hX.turn (pkH (nthI rS k) 39) hpl hkN
                have hkri : (k : Int) < (rn : Int) := by omega
                have hkNi : (k : Int) < (N : Int) := by omega
                clear q1 q2 hG hX
                generalize pkH (nthI rS k) 39 = z at HP hG' hX' hpl
                go_wp2_with (first
                  | (go_at_call 8; refine (HP _).mono ?_; rintro e w' ⟨rfl, hww⟩; have hww := hww.symm; subst hww)
                  | (at_builtin; refine wpList_psK w wr rfl (.tmp 61) (.tmp 72) rfl ao m2 co P 3 k z rfl hO hw rfl (by omega) ?_; intro gx cx w2 hO2 hw2))
                go_roundw
                case rel => exact ⟨k + 1, m2 + 1, cx, _, _, _, by omega, by omega, by go_num, rfl, hO2, hG'.out, hX'.out, hw2, by omega⟩
                case measure => simp [intOf]; omega
              · have hkri : (k : Int) < (rn : Int) := by omega
                have hkNi : ¬ (k : Int) < (N : Int) := by omega
                obtain ⟨q1, q2, q3⟩ := hX.scrub (by have := HNL.out; omega)
                have hG' : Hid _ := hG.push _ q1 q2
                have hX' : Hid _ := q3
                clear q1 q2 q3 hG hX
                go_wp2_with (first
                  | (at_builtin; refine wpList_psK w wr rfl (.tmp 74) (.tmp 77) rfl ao m2 co P 4 0 N rfl hO hw rfl (by omega) ?_; intro gx cx w2 hO2 hw2))
                go_roundw
                case rel => exact ⟨i2 + 1, m2 + 1, cx, _, _, _, by omega, by go_num, rfl, hO2, hG'.out, hX'.out, hw2, by omega⟩
                case measure => simp [intOf]; omega
            · have hkri : ¬ (k : Int) < (rn : Int) := by omega
              obtain ⟨q1, q2, q3⟩ := hX.scrub (by have := HNL.out; omega)
              have hG' : Hid _ := hG.push _ q1 q2
              have hX' : Hid _ := q3
              clear q1 q2 q3 hG hX
              go_wp2_with (first
                | (at_builtin; refine wpList_psK w wr rfl (.tmp 74) (.tmp 77) rfl ao m2 co P 4 0 N rfl hO hw rfl (by omega) ?_; intro gx cx w2 hO2 hw2))
              go_roundw
              case rel => exact ⟨i2 + 1, m2 + 1, cx, _, _, _, by omega, by go_num, rfl, hO2, hG'.out, hX'.out, hw2, by omega⟩
              case measure => simp [intOf]; omega
        · obtain rfl : i2 = Hn := by omega
          have hmB : m ≤ 1270 := by omega
          have hlen0 := hO.len
          have hO0 : Hid (∀ k, k < 0 → mOu (mRu (List.replicate N 0, 0) (gP P) (m + k)) (gP P (m + k)) = wdH S i k) := fun k hk => by omega
          go_wp2
          go_loopw [6, 10] (fun sv jv wr => ∃ (j co : Nat) (ao : Option Addr) (P : List (Nat × Nat × Nat)), j ≤ i ∧ jv = .int .i64 j ∧ sv = .slice ao (m + j) co ∧ OwK wr w.heap.size ao (m + j) co P ∧ Good N P C ∧ w.grownBy wr none ∧ Hid (∀ k, k < j → mOu (mRu (List.replicate N 0, 0) (gP P) (m + k)) (gP P (m + k)) = wdH S i k)) (fun _ jv _ => i - (intOf jv).toNat)
          case atStart => exact ⟨0, co, ao, P, by omega, rfl, rfl, hO, hG, hw, hO0⟩
          case round =>
            clear hO hG hw hO0 hlen0
            obtain ⟨j, co, ao, P, hj, rfl, rfl, hO, hG, hw, hOut⟩ := hrel
            by_cases hji : j < i
            · obtain ⟨q1, q2, q3⟩ := hX.load j (by have := HNL.out; omega) (wdH_lt S i j)
              have hG' : Hid _ := hG.push _ q1 q2
              have hOut' : Hid _ := out_push hO.len hOut.out (by rw [hO.len, ← hO.len, hG.fin]; exact q3)
              have hjii : (j : Int) < (i : Int) := by omega
              clear q1 q2 q3 hG hOut
              go_wp2_with (first
                | (at_builtin; refine wpList_psK w wr rfl (.tmp 85) (.tmp 88) rfl ao (m + j) co P 1 j 0 rfl hO hw rfl (by omega) ?_; intro gx cx w2 hO2 hw2))
              go_roundw
              case rel => exact ⟨j + 1, cx, _, _, by omega, by go_num, rfl, hO2, hG'.out, hw2, hOut'⟩
              case measure => simp [intOf]; omega
            · obtain rfl : j = i := by omega
              have HR := remember_ok N (m + j) co ao (gP P) wr hO.rd (by have := HNL.out; omega) (by omega) (by omega) (fun k hk => hG.ok k (by rw [hO.len]; exact hk))
              generalize hM : m + j = M at HR
              have hMi : (m : Int) + (j : Int) = (M : Int) := by omega
              have hMb : M ≤ 1310 := by omega
              have hOutM : Hid (∀ k, k < j → k + m < M ∧ mOu (mRu (List.replicate N 0, 0) (gP P) (m + k)) (gP P (m + k)) = wdH S j k) := fun k hk => ⟨by omega, hOut.out k hk⟩
              have HMj : Hid (m + j = M) := hM
              generalize (List.replicate N 0, 0) = s0 at HR hOutM
              generalize gP P = F at HR hOutM
              clear hO hG hX hOut hM
              have t1 : True := trivial
              go_wp2_with (first
                | (go_at_call 6; have _t := t1; clear t1; refine HR.mono ?_; rintro e w9 ⟨ao9, co9, rfl, hR9, g9, _⟩))
              clear HR
              have hw9 := grown_trans hw g9
              go_loopw [13] (fun iv wz => ∃ k : Nat, k ≤ M ∧ iv = .int .i64 k ∧ wz = w9) (fun iv _ => M - (intOf iv).toNat)
              case atStart => exact ⟨0, by omega, rfl, rfl⟩
              case round =>
                obtain ⟨k, hk, rfl, hwz⟩ := hrel
                have hwz := hwz.symm
                subst hwz
                by_cases hkM : k < M
                · obtain ⟨g, rfl⟩ := pd_some hR9 (by omega)
                  obtain ⟨e0, e1, e2⟩ := pd_cell hR9 hkM
                  have hkMi : (k : Int) < (M : Int) := by omega
                  go_wp2
                  go_roundw
                  case rel => exact ⟨k + 1, by omega, by go_num, trivial⟩
                  case measure => simp [intOf]; omega
                · obtain rfl : k = M := by omega
                  go_wp2
                  go_loopw [14] (fun iv wz => ∃ q : Nat, q ≤ j ∧ iv = .int .i64 q ∧ w9.grownBy wz none) (fun iv _ => j - (intOf iv).toNat)
                  case atStart => exact ⟨0, by omega, rfl, World.grownBy.refl _ _⟩
                  case round =>
                    obtain ⟨q, hq, rfl, hwz⟩ := hrel
                    by_cases hqj : q < j
                    · obtain ⟨hqm, hqo⟩ := hOutM.out q hqj
                      obtain ⟨g, rfl⟩ := pd_some hR9 (by omega)
                      obtain ⟨b, off, rfl, hb, c1⟩ := hl.at_in (grown_trans hw9 hwz) q hqj
                      have hRz := hR9.kept hwz (.inr (by simp [Value.ownBlock]))
                      obtain ⟨e0, e1, e2⟩ := pd_cell hRz (i := m + q) (by omega)
                      have hwq : wdH S j q = pkH (nthI S q) 4294967296 := if_pos hqj
                      rw [hqo, hwq] at e0
                      have HP : ∀ n : Nat, Calls Tryd.prog 8 #[.int .i64 (nthI S q), .int .i64 4294967296] (wr.drewN n) fun e w' => e = .returned (.int .i64 (pkH (nthI S q) 4294967296 : Nat)) ∧ ∃ m, w' = wr.drewN m := fun n => Calls.quiet_of_same (n := n) (pickH_any (nthI S q) 4294967296 (wr.drewN n) (hl.inB q hqj) (by decide) (by decide))
                      have hqji : (q : Int) < (j : Int) := by omega
                      obtain ⟨X, hX⟩ : ∃ X, X = m + q := ⟨_, rfl⟩
                      rw [← hX] at e0
                      have hXM : X < k := by omega
                      have hXi : (X : Int) < (k : Int) := by omega
                      have hidx : (k : Int) - (j : Int) + (q : Int) = (X : Int) := by omega
                      have hw1 : IntKind.i64.wrap ((k : Int) - (j : Int)) = (k : Int) - (j : Int) := wrap_i64_in _ (by omega) (by omega)
                      have hw2 : IntKind.i64.wrap (X : Int) = (X : Int) := wrap_i64_in _ (by omega) (by omega)
                      clear hX e1 e2 hqo hwq hqm
                      generalize pkH (nthI S q) 4294967296 = z at e0 HP
                      go_wp2
                      go_quiet (first | (go_at_call 8; with_reducible exact HP _))
                      go_wp2
                      go_roundw
                      case rel => exact ⟨q + 1, by omega, by go_num, grown_trans hwz (⟨rfl, rfl, rfl, Nat.le_refl _, fun _ _ _ => rfl⟩ : wr.grownBy (wr.drewN _) none)⟩
                      case measure => simp [intOf]; omega
                    · obtain rfl : q = j := by omega
                      go_wp2
                      go_ret
                      exact ⟨rfl, (Below.refl _ _).grown (grown_trans hw9 hwz) (Nat.le_refl _) (fun k hk => by cases hk)⟩
end Go.Proofs.YtchbppidepapiaaDoor
