import Derived.Test.YtnimehkfnpepfaaVNb
namespace Go.Proofs.Ytnimehkfnpepfaa
open Go.RowKit
set_option maxRecDepth 100000
set_option linter.unusedVariables false
set_option linter.unusedSimpArgs false

set_option maxHeartbeats 16000000 in
theorem sameNote_any (kd id : Int) (nm : ByteArray) (si su at' o co : Int) (a a' q q' : Option Addr) (n c c' m d d' : Nat) (L : List Nat) (F F' : Nat → Int × Int) (w : World) (hL : Rd w a n c L) (hL' : Rd w a' n c' L) (hF : RdG w q m d F) (hF' : RdG w q' m d' F') (he : ∀ i, i < m → F i = F' i) :
    Calls Try.prog 15 #[.agg (ntA kd id nm si su at' (.slice a n c) (.slice q m d) o co), .agg (ntA kd id nm si su at' (.slice a' n c') (.slice q' m d') o co)] w fun e w' => e = .returned (.bool true) ∧ w.grownBy w' none := by
  unfold ntA
  have b0 := BxS.new w 27 #[.int .i64 kd, .int .i64 id, .string nm, .int .i64 si, .int .i64 su, .int .i64 at', .slice a n c, .slice q m d, .int .i64 o, .int .i64 co]
  have g0 := World.grownBy_alloc w (.cells #[.int .i64 kd, .int .i64 id, .string nm, .int .i64 si, .int .i64 su, .int .i64 at', .slice a n c, .slice q m d, .int .i64 o, .int .i64 co] 27) none
  generalize hw0 : w.alloc (.cells #[.int .i64 kd, .int .i64 id, .string nm, .int .i64 si, .int .i64 su, .int .i64 at', .slice a n c, .slice q m d, .int .i64 o, .int .i64 co] 27) = w0 at b0 g0
  have hz0 : w0.heap.size = w.heap.size + 1 := by rw [← hw0]; simp
  have b1 := BxS.new w0 27 #[.int .i64 kd, .int .i64 id, .string nm, .int .i64 si, .int .i64 su, .int .i64 at', .slice a' n c', .slice q' m d', .int .i64 o, .int .i64 co]
  have g1 := World.grownBy_alloc w0 (.cells #[.int .i64 kd, .int .i64 id, .string nm, .int .i64 si, .int .i64 su, .int .i64 at', .slice a' n c', .slice q' m d', .int .i64 o, .int .i64 co] 27) none
  generalize hw1 : w0.alloc (.cells #[.int .i64 kd, .int .i64 id, .string nm, .int .i64 si, .int .i64 su, .int .i64 at', .slice a' n c', .slice q' m d', .int .i64 o, .int .i64 co] 27) = w1 at b1 g1
  rw [hz0] at b1
  have b01 := b0.keep g1 (by simp)
  have G1 := grown_trans g0 g1
  obtain ⟨e0, e1, e2, e3, e4, e5, e6, e7, e8, e9⟩ := b01.cell10
  obtain ⟨d0, d1, d2, d3, d4, d5, d6, d7, d8, d9⟩ := b1.cell10
  have hB := fun wz (hz : w1.grownBy wz none) => sameBytes_any a a' n n c c' L wz ((hL.keep G1).keep hz) ((hL'.keep G1).keep hz)
  have hG := fun wz (hz : w1.grownBy wz none) => sameGaps_any q q' m d d' F F' wz ((hF.keep G1).keep hz) ((hF'.keep G1).keep hz) he
  clear b0 hL hL' hF hF' he
  go_enter Try.func15, Try.ntmps15
  go_wp2_with (first
    | (go_at_call 51; refine (hB _ (by first | exact World.grownBy.refl _ _ | exact g2)).mono ?_; rintro e w5 ⟨rfl, hw⟩; have hw := hw.symm; subst hw)
    | (go_at_call 52; refine (hG _ (World.grownBy.refl _ _)).mono ?_; rintro e w2 ⟨rfl, g2⟩; clear e0 d0 e1 d1 e2 d2 e3 d3 e4 d4 e5 d5 e6 d6 e7 d7 e8 d8 e9 d9; obtain ⟨e0, e1, e2, e3, e4, e5, e6, e7, e8, e9⟩ := (b01.keep g2 (by simp)).cell10; obtain ⟨d0, d1, d2, d3, d4, d5, d6, d7, d8, d9⟩ := (b1.keep g2 (by simp)).cell10))
  go_ret
  exact ⟨rfl, grown_trans G1 g2⟩
theorem Try.info_pr : (Try.prog.info? 82).map (fun i => (i.zero, i.size, i.bytes)) = some (some (.agg #[.int .i64 0, .int .i64 0]), 2, 16) := by kernel_rfl
/-- pairs as cells in a row -/
def flG (F : Nat → Int × Int) : Nat → List Value
  | 0 => []
  | k + 1 => flG F k ++ [.int .i64 (F k).1, .int .i64 (F k).2]
theorem flG_len (F : Nat → Int × Int) (n : Nat) : (flG F n).length = n * 2 := by
  induction n with
  | zero => rfl
  | succ n ih => show (flG F n ++ _).length = _; rw [List.length_append, ih]; simp; omega
theorem flG_at (F : Nat → Int × Int) (n i : Nat) (hi : i < n) : (flG F n)[i * 2]? = some (.int .i64 (F i).1) ∧ (flG F n)[i * 2 + 1]? = some (.int .i64 (F i).2) := by
  induction n with
  | zero => omega
  | succ n ih =>
    show (flG F n ++ [.int .i64 (F n).1, .int .i64 (F n).2])[i * 2]? = _ ∧ (flG F n ++ [.int .i64 (F n).1, .int .i64 (F n).2])[i * 2 + 1]? = _
    by_cases h : i < n
    · rw [List.getElem?_append_left (by rw [flG_len]; omega), List.getElem?_append_left (by rw [flG_len]; omega)]
      exact ih h
    · obtain rfl : i = n := by omega
      rw [List.getElem?_append_right (by rw [flG_len]; omega), List.getElem?_append_right (by rw [flG_len]; omega), flG_len]
      simp
theorem RdG.news {w : World} {b off n cap : Nat} {F : Nat → Int × Int} (h : RdG w (some ⟨b, off, none⟩) n cap F) (j : Nat) (u : Value) (hu : (flG F n)[j]? = some u) : w.cell? ((⟨b, off, none⟩ : Addr).add j) = some u := by
  have hj : j < n * 2 := by rw [← flG_len F n]; exact (List.getElem?_eq_some_iff.1 hu).1
  obtain ⟨_, _, e, _, hc⟩ := h.at' (by omega)
  cases e
  obtain ⟨c1, c2⟩ := hc (j / 2) (by omega)
  obtain ⟨f1, f2⟩ := flG_at F n (j / 2) (by omega)
  rw [addr_add]
  by_cases hp : j % 2 = 0
  · rw [show j / 2 * 2 = j by omega] at f1 c1
    rw [f1] at hu
    rw [← hu]; exact c1
  · rw [show j / 2 * 2 + 1 = j by omega] at f2
    rw [show off + j / 2 * 2 + 1 = off + j by omega] at c2
    rw [f2] at hu
    rw [← hu]; exact c2
theorem own_rdG {w : World} {base : Nat} {v : Value} {n : Nat} {F : Nat → Int × Int} (h : w.ownsRow base 82 2 v n (flG F n)) : ∃ q c, v = .slice q n c ∧ RdG w q n c F ∧ (∀ b off, q = some ⟨b, off, none⟩ → base ≤ b) := by
  rcases h.2 with ⟨rfl, h0⟩ | ⟨g, cap, cur, rfl, hb, hg, hle, hmx, hsz, htk⟩
  · subst h0
    exact ⟨none, 0, rfl, RdG.nil0 _ _, fun b off e => by cases e⟩
  · refine ⟨some ⟨g, 0, none⟩, cap, rfl, ⟨hle, hmx, (fun e => by cases e), fun h0 => ⟨g, 0, rfl, (Array.getElem?_eq_some_iff.1 hg).1, fun i hi => ?_⟩⟩, fun b off e => by cases e; exact hb⟩
    obtain ⟨f1, f2⟩ := flG_at F n i hi
    have c1 := h.cells (g := g) rfl _ _ f1
    have c2 := h.cells (g := g) rfl _ _ f2
    rw [addr_add] at c1 c2
    exact ⟨c1, by rw [Nat.add_assoc]; exact c2⟩
theorem stc_slG (g i : Nat) (p : Option Addr) (l c : Nat) (w : World) (hc : ∃ u, w.cell? ⟨g, i, none⟩ = some u) (hf : w.frozen? ⟨g, i, none⟩ = false) : (Instr.storeAt 24 (.pointer (some ⟨g, i, none⟩)) (.slice p l c)).run Try.prog w = .ok () (w.setCell ⟨g, i, none⟩ (.slice p l c)) := by
  obtain ⟨u, hc⟩ := hc
  simp [go_sem, hc, hf]
theorem Try.info_nt : (Try.prog.info? 27).map (fun i => i.size) = some 10 := by kernel_rfl
theorem results_cellN {fn : Func} {p : Tmp} {ty : TypeId} (h : fn.results = #[.cell p ty]) (tmps : Array Value) (P : Program) (w : World) (a : Addr) (v : Value) (ha : tmps.getD p undef = .pointer (some a)) (hl : (loadVar ty a).run P w = .ok v w) :
    (results fn tmps).run P w = .ok v w := by
  simp only [results, h]
  rw [Array.getD_eq_getD_getElem?] at ha
  simp [Sem.run_bind, Result.andThen]
  rw [ha]
  simp [asAddr, hl]
end Go.Proofs.Ytnimehkfnpepfaa
