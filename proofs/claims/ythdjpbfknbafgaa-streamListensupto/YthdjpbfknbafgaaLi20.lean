import Derived.Deep.LoopGhost
import Derived.Test.YthdjpbfknbafgaaLi19
namespace Go.Proofs.Ythdjpbfknbafgaa
open Go.RowKit
set_option maxRecDepth 100000
set_option linter.unusedVariables false
set_option linter.unusedSimpArgs false

section
open Go.RowKit Go.Shelf
attribute [local go_sem] Oper.semAt_some

theorem sumN_mono (F : Nat → Nat) (a : Nat) : ∀ k, sumN F a ≤ sumN F (a + k)
  | 0 => Nat.le_refl _
  | k + 1 => by
    have := sumN_mono F a k
    show sumN F a ≤ sumN F (a + k) + F (a + k)
    omega
theorem sumX_add (A B : List (List Nat)) : sumX (A ++ B) = sumX A + sumX B := by
  induction A with
  | nil => simp [sumX]
  | cons x A ih =>
    show x.length + sumX (A ++ B) = x.length + sumX A + sumX B
    omega
theorem sumX_range (R : Nat → List Nat) (F : Nat → Nat) : ∀ n, (∀ i, i < n → (R i).length + 1 ≤ F i) → sumX ((List.range n).map R) + n ≤ sumN F n
  | 0, _ => Nat.le_refl _
  | n + 1, h => by
    have h1 := sumX_range R F n (fun i hi => h i (by omega))
    have h2 := h n (by omega)
    rw [List.range_succ, List.map_append, sumX_add]
    show sumX _ + ((R n).length + 0) + (n + 1) ≤ sumN F n + F n
    omega
theorem shown_pieces3 {w : World} {full : Bool} {N : Nat} {v : Value} (h : (Sh.slice 1 24 (.slice 1 1 (.int .u8))).shown w full v N) : ∃ a len cap Ps, v = .slice a len cap ∧ RdPs w a len cap Ps ∧ (∀ B, B ∈ Ps → IsB B) ∧ sumX Ps + len ≤ N := by
  have h : (Sh.slice 1 24 (.slice 1 1 (.int .u8))).met w full [v] N := h
  rcases h with ⟨rfl, e⟩ | ⟨x, len, cap, G, C, e, e', hl, hm, hf, hc⟩
  · cases e
    exact ⟨none, 0, 0, [], rfl, ⟨rfl, fun h => absurd h (by decide)⟩, (fun B h => by cases h), by simp [sumX]⟩
  · cases e
    have each : ∀ i, i < cap → ∃ r : (Option Addr × Nat × Nat × List Nat), w.cell? (x.add i) = some (.slice r.1 r.2.1 r.2.2.1) ∧ Rd w r.1 r.2.1 r.2.2.1 r.2.2.2 ∧ r.2.2.2.length + 1 ≤ G i := by
      intro i hi
      obtain ⟨h1, h2, h3⟩ := hc i hi
      obtain ⟨a, l, c, S, e, hr, _, hn⟩ := met_bytes h3
      have d := h2 0 (by decide)
      rw [e] at d
      rw [Nat.mul_one, Nat.add_zero] at d
      have h4 := hr.len
      have h5 := hr.le
      exact ⟨(a, l, c, S), d, hr, by show S.length + 1 ≤ G i; omega⟩
    obtain ⟨R, hR⟩ := Go.Deep.choose_lt each
    refine ⟨some x, len, cap, (List.range len).map (fun i => (R i).2.2.2), rfl, ⟨by simp, fun h0 => ?_⟩, fun B hB => ?_, ?_⟩
    · obtain ⟨b, off, spot⟩ := x
      have hc0 := (hR 0 (by omega)).1
      have h0' : w.cell? (⟨b, off, spot⟩ : Addr) = some (.slice (R 0).1 (R 0).2.1 (R 0).2.2.1) := by simpa [Addr.add] using hc0
      have hspot : spot = none := by simpa using World.cell?_spot h0'
      subst hspot
      refine ⟨b, off, rfl, fun i B hi => ?_⟩
      rw [List.getElem?_map] at hi
      have hil : i < len := by
        by_cases hh : i < len
        · exact hh
        · rw [List.getElem?_eq_none (by simp; omega)] at hi; cases hi
      rw [List.getElem?_range hil] at hi
      have e : (R i).2.2.2 = B := Option.some.inj hi
      have k1 := (hR i (by omega)).1
      rw [addr_add] at k1
      exact ⟨_, _, _, k1, e ▸ (hR i (by omega)).2.1⟩
    · obtain ⟨i, hi, rfl⟩ := List.mem_map.1 hB
      have := List.mem_range.1 hi
      exact (hR i (by omega)).2.1.byte
    · have h1 := sumX_range (fun i => (R i).2.2.2) G len (fun i hi => (hR i (by omega)).2.2)
      have h2 := sumN_mono G len (cap - len)
      rw [show len + (cap - len) = cap from by omega] at h2
      omega
theorem RdPs.of_ea {w : World} {lo np c5 : Nat} {a5 : Option Addr} {V : List Value} {Ps : List (List Nat)} (hX : AnsX 25 w lo a5 np c5 V) (hE : EaR w lo V Ps) (hl : Ps.length = np) (hB : ∀ B, B ∈ Ps → IsB B) (hs : sumX Ps ≤ 1048576) : RdPs w a5 np c5 Ps :=
  ⟨hl, fun h0 => by
    have hvl := hX.len
    rcases hX.cases with ⟨_, e, _⟩ | ⟨g5, rfl, _, _⟩
    · omega
    · refine ⟨g5, 0, rfl, fun i B hB' => ?_⟩
      have hil := (List.getElem?_eq_some_iff.1 hB').1
      obtain ⟨v, hv⟩ : ∃ v, V[i]? = some v := ⟨_, List.getElem?_eq_getElem (by omega)⟩
      obtain ⟨g, D, rfl, _, hr⟩ := hE i v B hv hB'
      have hc := hX.cell i _ hv
      rw [Nat.zero_add]
      have := sumX_take B Ps i hB'
      exact ⟨_, _, _, hc, hr.rd (hB B (List.mem_of_getElem? hB')) rfl (by omega)⟩⟩

set_option maxHeartbeats 16000000 in
theorem listens_walk (L0 F0 H0 M0 : Int) (ap : Option Addr) (np cp : Nat) (Ps : List (List Nat)) (w0 : World) (hP : RdPs w0 ap np cp Ps) (hB : ∀ B, B ∈ Ps → IsB B) (hs : sumX Ps + np ≤ 1048576) :
    Calls Try.prog 3 #[.agg #[.int .i64 L0, .int .i64 F0, .int .i64 H0, .int .i64 M0], .slice ap np cp] w0 fun e w' => e = .returned (.bool true) ∧ w0.grownBy w' none := by
  go_enter Try.func3, Try.ntmps3
  have g0 := World.grownBy_alloc w0 (.cells #[.int .i64 L0, .int .i64 F0, .int .i64 H0, .int .i64 M0] 23) none
  have b0 := BxS.new w0 23 #[.int .i64 L0, .int .i64 F0, .int .i64 H0, .int .i64 M0]
  have hPl := hP.len
  have hm : ∀ B, B ∈ Ps → B.length ≤ 4194304 := fun B h => by
    obtain ⟨i, hi⟩ := List.getElem?_of_mem h
    have := sumX_take B Ps i hi
    omega
  refine wp_seq_k fun K0 hK0 => ?_
  have HK0 : Hid _ := hK0
  clear hK0
  go_wp2
  (try simp only [Exit.inBlock, Exit.then])
  refine HK0.out _ _ ?_
  clear HK0
  have F1 : Frm (fun _ => False) w0 (w0.alloc (.cells #[.int .i64 L0, .int .i64 F0, .int .i64 H0, .int .i64 M0] 23)) := Frm.of g0 (fun k e _ => by cases e)
  generalize w0.alloc (.cells #[.int .i64 L0, .int .i64 F0, .int .i64 H0, .int .i64 M0] 23) = w1 at *
  have hPw := RdPs.keepF hP F1
  refine wp_seq_k fun K1 hK1 => ?_
  have HK1 : Hid _ := hK1
  clear hK1
  go_wp2
  (try simp only [Exit.inBlock, Exit.then])
  refine HK1.out _ _ ?_
  clear HK1
  refine sl_2 w1 w0.heap.size np cp ap Ps hPw (by omega) hm ?_
  intro a5 c5 V W2 z6 z17 z18 z19 z20 z21 z22 z23 z24 z25 z26 z27 z28 z29 z30 hX5 hEA F2
  have b2 : BxS W2 w0.heap.size 23 #[.int .i64 L0, .int .i64 F0, .int .i64 H0, .int .i64 M0] := b0.keep F2.gr (by simp)
  have F02 := F1.trans F2 (fun _ _ h => h)
  by_cases hr : ruE L0 F0 H0 M0 = 0
  · obtain ⟨hL, hF, hH, hM⟩ := ruE_ok hr
    obtain ⟨rL, rfl⟩ : ∃ k : Nat, L0 = (k : Int) := ⟨L0.toNat, by omega⟩
    obtain ⟨rF, rfl⟩ : ∃ k : Nat, F0 = (k : Int) := ⟨F0.toNat, by omega⟩
    obtain ⟨rH, rfl⟩ : ∃ k : Nat, H0 = (k : Int) := ⟨H0.toNat, by omega⟩
    obtain ⟨rM, rfl⟩ : ∃ k : Nat, M0 = (k : Int) := ⟨M0.toNat, by omega⟩
    have hPc := RdPs.of_ea hX5 hEA hPl hB (by omega)
    refine sl_6g W2 w0.heap.size np cp c5 ap a5 ⟨rL, rF, rH, rM⟩ Ps b2 hPc (by omega) hm (by omega) (by show 1 ≤ rL; omega) (by show rL ≤ 2048; omega) (by show rF ≤ 8; omega) (by show rH ≤ 12; omega) (by show rM ≤ 8; omega) ?_
    intro W3 a7 a8 a9 c7 c8 c9 z10 z11 z31 z32 z33 z34 z35 z36 z37 z38 z39 z40 z41 z42 z43 z44 z45 z46 z47 z48 z49 z50 z51 z52 z53 z54 z55 z56 z57 z58 z59 z60 z61 z62 z63 z64 hLs g3
    refine sl_14 W2 W3 w0.heap.size np cp c5 c7 c8 c9 w1.heap.size ap a5 a7 a8 a9 V ⟨rL, rF, rH, rM⟩ Ps (b2.keep g3 (by simp)) (RdPs.keepF hP (F02.trans (Frm.of g3 (fun k e _ => by cases e)) (fun _ _ h => h))) (hX5.keep g3) (hEA.keep g3) hLs (by omega) (by omega) (by show 1 ≤ rL; omega) (by show rL ≤ 2048; omega) (by show rF ≤ 8; omega) (by show rH ≤ 12; omega) (by show rM ≤ 8; omega) ?_ ?_
    · intro cc a1 a2 w e h
      cases a1
      cases a2
      simp only at e
      subst e
      exact h
    · intro W4 z12 z13 z14 z15 z16 z65 z66 z67 z68 z69 z70 z71 z72 z73 z74 z75 z76 z77 z78 z79 z80 z81 z82 z83 z84 z85 z86 z87 z88 z89 z90 z91 z92 z93 z94 z95 z96 z97 z98 z99 z100 z101 z102 z103 z104 z105 z106 z107 z108 z109 z110 z111 z112 z113 z114 z115 z116 z117 z118 z119 z120 z121 z122 z123 z124 F4
      (try simp only [Exit.inBlock, Exit.then])
      refine bodyPost_ret (results_tmp (t := 4) (by kernel_rfl) _ _ _) rfl ?_
      exact ⟨rfl, ((F02.trans (Frm.of g3 (fun k e _ => by cases e)) (fun _ _ h => h)).trans F4 (fun _ _ h => h)).gr⟩
  · refine sl_6b W2 w0.heap.size np cp c5 ap a5 L0 F0 H0 M0 b2 hr ?_
    intro W3 z7 z8 z9 z10 z11 z31 z32 z33 z34 z35 z36 z37 z38 z39 z40 z41 z42 z43 z44 z45 g3
    (try simp only [Exit.inBlock, Exit.then])
    refine bodyPost_ret (results_tmp (t := 4) (by kernel_rfl) _ _ _) rfl ?_
    exact ⟨rfl, (F02.trans (Frm.of g3 (fun k e _ => by cases e)) (fun _ _ h => h)).gr⟩
end
end Go.Proofs.Ythdjpbfknbafgaa
