import Derived.Test.YtaigcjhachkmmaaDoorQY
namespace Go.Proofs.YtaigcjhachkmmaaDoor
open Go.RowKit
set_option maxRecDepth 100000
set_option linter.unusedVariables false
set_option linter.unusedSimpArgs false

set_option maxHeartbeats 32000000 in
theorem once_grows (seed fro : Int) (la : Option Addr) (ln lc : Nat) (LL : List Int) (w : World) (hL : Lin w) (hl : RdI w la ln lc LL) (hlz : ∀ j, -9223372036854775808 ≤ nthI LL j ∧ nthI LL j ≤ 9223372036854775807) (h1 : I64 seed) (h2 : I64 fro) :
    Calls Tryd.prog 5 #[.int .i64 seed, .int .i64 fro, .slice la ln lc] w fun e w' => e = .returned (.bool true) ∧ w.grownBy w' none := by
  by_cases hln : 120 < ln
  · have hln' : (120 : Int) < (ln : Int) := by omega
    go_enter Tryd.func5, Tryd.ntmps5
    go_wp2
    go_ret
    exact ⟨rfl, World.grownBy.refl _ _⟩
  have hln' : ¬ (120 : Int) < (ln : Int) := by omega
  have i4 := Tryd.info_ky4
  have i1 := Tryd.info_rg1
  have hL0 := hL.lt
  have s0 : True := trivial
  go_enter Tryd.func5, Tryd.ntmps5
  refine wp_seq_k fun K0 hK0 => ?_
  have HK0 : Hid _ := hK0
  clear hK0
  go_wp2
  refine HK0.out _ _ ?_
  clear HK0
  refine wp_seq_k fun K1 hK1 => ?_
  have HK1 : Hid _ := hK1
  clear hK1
  go_wp2
  refine HK1.out _ _ ?_
  clear HK1
  refine wp_seq_k fun K2 hK2 => ?_
  have HK2 : Hid _ := hK2
  clear hK2
  go_wp2_with (first
    | (go_at_call 12; have _t := s0; clear s0; refine (lkey_any 7 seed w ⟨by decide, by decide⟩ h1).mono ?_; rintro e w1 ⟨i, ka, kc, S, hi, hS, rfl, hA1, y1⟩; have z1 := y1.size; have bn := BxS.new w1 36 #[.int .i64 0, .slice none 0 0, .int .i64 0, .int .i64 0]; have gn := World.grownBy_alloc w1 (.cells #[.int .i64 0, .slice none 0 0, .int .i64 0, .int .i64 0] 36) none; have s1 : True := trivial)
    | (have _t := s1; clear s1; refine wpList_stX _ rfl _ (.tmp 7) (.tmp 25) rfl w1.heap.size _ _ rfl rfl bn i4 rfl (by simp [Value.oneCell']) ?_; intro w2 b7 u2; have Y2 := grown_far gn u2 (fun q e => by have e := Option.some.inj e; omega)))
  have G2 := grown_trans y1 Y2
  have z2 := Y2.size
  have hka := (hA1.keep Y2).rd
  have hSl := hka.len
  have hmay := key_new hi hSl hS
  have hL2 := hL.keep G2
  have hl2 := hl.keep G2
  have b7l := b7.lt
  refine HK2.out _ _ ?_
  clear HK2
  refine wp_seq_k fun K3 hK3 => ?_
  have HK3 : Hid _ := hK3
  clear hK3
  obtain ⟨x0, x1, x2, x3⟩ := BxS.cell4 b7
  have kA := add_any none 0 0 [] ⟨(i : Int), ka, 8, kc, S, -1, 0⟩ w2 (RdG.nil w2) hka ⟨⟨by show _ ≤ (i : Int); omega, by show (i : Int) ≤ _; omega⟩, ⟨by show _ ≤ (-1 : Int); decide, by show (-1 : Int) ≤ _; decide⟩, ⟨by show _ ≤ (0 : Int); decide, by show (0 : Int) ≤ _; decide⟩⟩
  obtain ⟨q1, q2⟩ := add_first hmay
  rw [show adE [] (Kw.d ⟨(i : Int), ka, 8, kc, S, -1, 0⟩) = 0 from q1, show adV [] (Kw.d ⟨(i : Int), ka, 8, kc, S, -1, 0⟩) = [⟨(i : Int), S, -1, 0⟩] from q2] at kA
  clear q1 q2 gn bn
  have s0 : True := trivial
  go_wp2_with (first
    | (go_at_call 15; have _t := s0; clear s0; refine kA.mono ?_; rintro e w3 ⟨a3, n3, c3, ks3, rfl, hA3, y3⟩; have z3 := y3.size; clear x0 x1 x2 x3; have bn := BxS.new w3 24 #[.slice none 0 0]; have gn := World.grownBy_alloc w3 (.cells #[.slice none 0 0] 24) none; have s1 : True := trivial)
    | (have _t := s1; clear s1; refine wpList_stX _ rfl _ (.tmp 8) (.tmp 30) rfl w3.heap.size _ _ rfl rfl bn i1 rfl (by simp [Value.oneCell']) ?_; intro w4 b8 u4; have Y4 := grown_far gn u4 (fun q e => by have e := Option.some.inj e; omega)))
  have hR4 := (hA3.keep Y4).rd
  have G4 := grown_trans y3 Y4
  have z4 := Y4.size
  have b8l := b8.lt
  refine HK3.out _ _ ?_
  clear HK3
  refine wp_seq_k fun K4 hK4 => ?_
  have HK4 : Hid _ := hK4
  clear hK4
  go_wp2
  refine HK4.out _ _ ?_
  clear HK4
  refine wp_seq_k fun K5 hK5 => ?_
  have HK5 : Hid _ := hK5
  clear hK5
  have s0 : True := trivial
  go_wp2_with (go_at_call 13; have _t := s0; clear s0; refine (pickY_any fro 1000000 _ h2.1 h2.2 (by decide) (by decide)).mono ?_; rintro e w' ⟨base, hbs, rfl, hw'⟩; have hw' := hw'.symm; subst hw')
  refine HK5.out _ _ ?_
  clear HK5
  refine wp_seq_k fun K6 hK6 => ?_
  have HK6 : Hid _ := hK6
  clear hK6
  go_wp2
  refine HK6.out _ _ ?_
  clear HK6
  refine wp_seq_k fun K7 hK7 => ?_
  have HK7 : Hid _ := hK7
  clear hK7
  have s0 : True := trivial
  go_wp2_with (have _t := s0; clear s0; refine wpList_mkHQ _ rfl _ _ rfl 400 400 400 rfl rfl rfl rfl (by decide) ?_; intro w5 bd y5)
  have z5 := y5.size
  have G5 := grown_trans G4 y5
  have b85 := b8.keep y5 (by simp)
  have hR5 := hR4.keep y5
  refine HK7.out _ _ ?_
  clear HK7
  refine wp_seq_k fun K8 hK8 => ?_
  have HK8 : Hid _ := hK8
  clear hK8
  go_wp2
  go_loopw [11, 13] (fun tw iv wr => ∃ (k t s nn cc : Nat) (tp tv : Int) (H : List Bool) (a : Option Addr), iv = .int .i64 k ∧ k ≤ ln ∧ tw = .int .i64 tv ∧ (tv = (t : Int) - 1 ∧ t ≤ 400 ∧ On1 base t s tp (hatQ H) ∧ H.length = 400 ∧ BlHQ wr w4.heap.size H ∧ BxS wr w3.heap.size 24 #[.slice a nn cc] ∧ RdG wr a nn cc [⟨(i : Int), S, tp, (s : Int)⟩] ∧ w2.grownBy wr none)) (fun _ iv _ => ln - (intOf iv).toNat)
  case atStart => exact ⟨0, 0, 0, n3, c3, -1, -1, List.replicate 400 false, a3, by go_num, Nat.zero_le _, rfl, by decide, by decide, (On1.first base).congr (fun j => (hat_noneQ 400 j).symm), List.length_replicate, bd, b85, hR5, G5⟩
  case round =>
    obtain ⟨k, t, s, nn, cc, tp, tv, H, a, rfl, hk, rfl, hrel⟩ := hrel
    obtain ⟨htv0, ht, hO, hH, bdr, b8r, hRr, Gr⟩ := hrel
    have htv : Hid (tv = (t : Int) - 1) := htv0
    clear htv0
    by_cases hlt : k < ln
    · have hlt' : (k : Int) < (ln : Int) := by omega
      obtain ⟨lb, lo, rfl, _, _⟩ := hl2.at' (by omega)
      refine wp_seq_k fun K9 hK9 => ?_
      have HK9 : Hid _ := hK9
      clear hK9
      go_wp2
      refine HK9.out _ _ ?_
      clear HK9
      refine once_t13 _ w2 wr w1.heap.size w3.heap.size w4.heap.size base t s i tp tv H ka a kc nn cc S hL2 b7 hka hi hS (by omega) (by omega) (by omega) (by omega) htv ht hO hH bdr b8r hRr Gr lb lo ln lc k LL hl2 hlz hlt (by omega) ?_
      intro z14 z15 z16 z17 z18 z19 z20 z41 z42 z43 z44 z45 z46 z47 z48 z49 z50 z51 z52 z53 z54 z55 z56 z57 z58 z59 z60 z61 z62 z63 z64 z65 z66 z67 z68 z69 z70 z71 z72 z73 z74 z75 z76 z77 z78 z79 z80 z81 z82 z83 z84 z85 z86 z87 z88 z89 z90 z91 z92 z93 z94 z95 z96 z97 z98 z99 z100 z101 z102 z103 z104 z105 z106 z107 z108 z109 z110 z111 t' s' tp' tv' H' a' n' c' w' hrel'
      simp only [Exit.then]
      refine ⟨?_, ?_⟩
      · repeat apply Exists.intro
        refine ⟨?_, rfl⟩
        exact ⟨k + 1, t', s', n', c', tp', tv', H', a', by go_num, by omega, rfl, hrel'⟩
      · simp [intOf]; omega
    · have hlt' : ¬ (k : Int) < (ln : Int) := by omega
      go_wp2
      refine HK8.out _ _ ?_
      have x8 : wr.cell? ⟨w3.heap.size, 0, none⟩ = some (.slice a nn cc) := b8r.cell 0 (by show 0 < 1; decide)
      have hn1 : nn = 1 := hRr.len.symm
      subst hn1
      go_wp2
      go_ret
      exact ⟨rfl, grown_trans G2 Gr⟩
theorem once_walk (seed fro : Int) (la : Option Addr) (ln lc : Nat) (LL : List Int) (w : World) (hL : Lin w) (hl : RdI w la ln lc LL) (hlz : ∀ j, -9223372036854775808 ≤ nthI LL j ∧ nthI LL j ≤ 9223372036854775807) (h1 : I64 seed) (h2 : I64 fro) :
    Calls Tryd.prog 5 #[.int .i64 seed, .int .i64 fro, .slice la ln lc] w fun e w' => e = .returned (.bool true) ∧ Below w.heap.size w w' := by
  refine (once_grows seed fro la ln lc LL w hL hl hlz h1 h2).mono ?_
  rintro e w' ⟨h, g⟩
  exact ⟨h, below_ofQ g⟩
end Go.Proofs.YtaigcjhachkmmaaDoor
