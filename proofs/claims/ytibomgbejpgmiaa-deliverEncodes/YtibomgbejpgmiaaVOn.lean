import Derived.Test.YtibomgbejpgmiaaPOp
import Derived.Test.YtibomgbejpgmiaaVNt
namespace Go.Proofs.Ytibomgbejpgmiaa
open Go.RowKit
set_option maxRecDepth 100000
set_option linter.unusedVariables false
set_option linter.unusedSimpArgs false

open Go.ChangeShapes Go.WideShapes

theorem shown_str {w : World} {full : Bool} {n : Nat} {v : Value} (h : Sh.str.shown w full v n) : ∃ s : ByteArray, v = .string s ∧ n = s.size + 1 ∧ s.size ≤ maxLen ∧ (full = true → s.size ≤ reachBytes) := by
  obtain ⟨s, e, h1, h2, h3⟩ := h
  cases e
  exact ⟨s, rfl, h1, h2, h3⟩

/-- a slice of pairs of numbers -/
theorem met_pairs {w : World} {full : Bool} {N : Nat} {cs : List Value} (h : (Sh.slice 2 16 (Sh.rep 1 (.int .i64) 2)).met w full cs N) :
    ∃ a len cap F, cs = [.slice a len cap] ∧ RdG w a len cap F ∧ (full = true → cap * 16 ≤ reachBytes) ∧ cap + 1 ≤ N := by
  rcases h with ⟨rfl, rfl⟩ | ⟨x, len, cap, G, C, rfl, rfl, hl, hm, hf, hc⟩
  · exact ⟨none, 0, 0, fun _ => (0, 0), rfl, RdG.nil0 _ _, fun _ => by rw [Nat.zero_mul]; exact Nat.zero_le _, Nat.le_refl _⟩
  · have each : ∀ i, i < cap → ∃ p : Int × Int, (w.cell? (x.add (i * 2)) = some (.int .i64 p.1) ∧ w.cell? (x.add (i * 2 + 1)) = some (.int .i64 p.2)) ∧ 1 ≤ G i := by
      intro i hi
      obtain ⟨h1, h2, n1, n2, e1, ⟨m1, z1, c1, _⟩, n3, n4, e2, ⟨m2, z2, c2, _⟩, _, m3⟩ := hc i hi
      match hC : C i, h1 with
      | [u, v], _ =>
        rw [hC] at h2 c1 c2
        have d1 := h2 0 (by decide)
        have d2 := h2 1 (by decide)
        simp at c1 c2 d1 d2
        subst c1 c2
        exact ⟨(z1, z2), ⟨d1, d2⟩, by omega⟩
    have hI : Inhabited (Int × Int) := ⟨(0, 0)⟩
    obtain ⟨F, hF⟩ := Go.Deep.choose_lt each
    have hG : ∀ i, i < cap → 1 ≤ G i := fun i hi => (hF i hi).2
    refine ⟨some x, len, cap, F, rfl, ⟨hl, hm, (fun e => by cases e), fun h0 => ?_⟩, hf, ?_⟩
    · obtain ⟨b, off, spot⟩ := x
      have hc0 := (hF 0 (by omega)).1.1
      have h0' : w.cell? (⟨b, off, spot⟩ : Addr) = some (.int .i64 (F 0).1) := by simpa [Addr.add] using hc0
      have hspot : spot = none := by simpa using World.cell?_spot h0'
      subst hspot
      refine ⟨b, off, rfl, World.block_lt_of_cell? w _ h0', fun i hi => ?_⟩
      obtain ⟨k1, k2⟩ := (hF i (by omega)).1
      rw [addr_add] at k1 k2
      exact ⟨k1, by rw [Nat.add_assoc]; exact k2⟩
    · have := sumN_le (F := G) (n := cap) hG
      omega
theorem shown_note {w : World} {full : Bool} {k : Nat} {v : Value} (h : (Sh.fcons 1 (.int .i64) (.fcons 1 (.int .i64) (.fcons 1 .str (.fcons 1 (.int .i64) (.fcons 1 (.int .i64) (.fcons 1 (.int .i64) (.fcons 1 (.slice 1 1 (.int .u8)) (.fcons 1 (.slice 2 16 (Sh.rep 1 (.int .i64) 2)) (.fcons 1 (.int .i64) (.fcons 1 (.int .i64) .fend)))))))))).shown w full v k) :
    ∃ kd id nm si su at' a n c q m d o co L F, v = .agg (ntA kd id nm si su at' (.slice a n c) (.slice q m d) o co) ∧ Rd w a n c L ∧ RdG w q m d F ∧ (full = true → c ≤ 140737488351232) ∧ (full = true → d * 16 ≤ reachBytes) := by
  obtain ⟨cs, rfl, hm⟩ := h
  obtain ⟨_, _, rfl, ⟨_, kd, e0, _⟩, _, _, rfl, ⟨_, id, e1, _⟩, _, _, rfl, ⟨nm, e2, _⟩, _, _, rfl, ⟨_, si, e3, _⟩, _, _, rfl, ⟨_, su, e4, _⟩, _, _, rfl, ⟨_, at', e5, _⟩, _, _, rfl, h6, _, _, rfl, h7, _, _, rfl, ⟨_, o, e8, _⟩, _, _, rfl, ⟨_, co, e9, _⟩, e10, _⟩ := hm
  obtain ⟨a, n, c, L, e6, hR, hf, _⟩ := met_bytes h6
  obtain ⟨q, m, d, F, e7, hG, hg, _⟩ := met_pairs h7
  refine ⟨kd, id, nm, si, su, at', a, n, c, q, m, d, o, co, L, F, ?_, hR, hG, hf, hg⟩
  unfold ntA
  congr 1
  apply Array.toList_inj.1
  generalize cs.toList = l at *
  match l with
  | [] => simp at e0
  | [_] => simp at e1
  | [_, _] => simp at e2
  | [_, _, _] => simp at e3
  | [_, _, _, _] => simp at e4
  | [_, _, _, _, _] => simp at e5
  | [_, _, _, _, _, _] => simp at e6
  | [_, _, _, _, _, _, _] => simp at e7
  | [_, _, _, _, _, _, _, _] => simp at e8
  | [_, _, _, _, _, _, _, _, _] => simp at e9
  | [x0, x1, x2, x3, x4, x5, x6, x7, x8, x9] => simp_all
  | x0 :: x1 :: x2 :: x3 :: x4 :: x5 :: x6 :: x7 :: x8 :: x9 :: x10 :: r => simp at e10
end Go.Proofs.Ytibomgbejpgmiaa
