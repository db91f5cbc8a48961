import Derived.Lib.AppendZerosOnto
import Derived.Test.YtnimehkfnpepfaaPRdH
namespace Go.Proofs.Ytnimehkfnpepfaa
open Go.RowKit
set_option maxRecDepth 100000
set_option linter.unusedVariables false
set_option linter.unusedSimpArgs false

theorem pclone_any (b off n cap : Nat) (D : List Nat) (w : World) (hp : Rd w (some ⟨b, off, none⟩) n cap D) (h0 : 0 < n) (hn : n ≤ 140737488355328) :
    Calls Try.prog 57 #[.slice (some ⟨b, off, none⟩) n cap] w fun e w' => ∃ g' c', e = .returned (.slice (some ⟨g', 0, none⟩) n c') ∧ Ans w' w.heap.size (some ⟨g', 0, none⟩) n c' D ∧ w.grownBy w' none := by
  have gA := World.grownBy_alloc w (.cells #[] 5) none
  have hA := heap_alloc_new w (.cells #[] 5)
  have hown : (w.alloc (.cells #[] 5)).ownsRow 0 5 1 (.slice (some ⟨w.heap.size, 0, none⟩) 0 0) 0 (bys []) := ⟨rfl, .inr ⟨w.heap.size, 0, #[], rfl, Nat.zero_le _, hA, Nat.le_refl _, Nat.zero_le _, rfl, rfl⟩⟩
  have hpA := hp.keep gA
  have heq := fun w => Lib.run_eql_slice_nil (P := Try.prog) w 23 5 (some ⟨b, off, none⟩) n cap 0 0 Try.underlying23
  go_enter Try.func57, Try.ntmps57
  go_wp2_with (at_builtin; refine wpList_apB _ rfl _ _ rfl (.slice (some ⟨w.heap.size, 0, none⟩) 0 0) 0 (bys []) rfl hown ⟨b, off, none⟩ n cap (bys D) rfl (by rw [bys_length, hp.len]) (rd_news hpA h0) (bys_one _) h0 (by omega) ?_; intro g' c' w2 hg2 hgr2 hown2)
  go_ret
  rw [Nat.zero_add] at *
  refine ⟨g', c', rfl, ⟨hown2, hp.byte, fun x hx => ?_⟩, grown_far gA hgr2 (fun x hx => by have e : w.heap.size = x := Option.some.inj hx; omega)⟩
  have e : g' = x := Option.some.inj hx
  rcases hg2 with h | h
  · have e2 : w.heap.size = g' := Option.some.inj h
    omega
  · simp at h; omega
/-- some of the bytes -/
theorem Rd.part {w : World} {b off n cap : Nat} {L : List Nat} (h : Rd w (some ⟨b, off, none⟩) n cap L) (m k : Nat) (hk : m + k ≤ n) : Rd w (some ⟨b, off + m, none⟩) k (cap - m) ((L.drop m).take k) := by
  have hl := h.len
  have h1 := h.le
  have h2 := h.max
  refine ⟨by simp; omega, by omega, by omega, (fun e => by cases e), isB_take (isB_drop h.byte m) k, fun h0 => ?_⟩
  obtain ⟨b', off', e, hb, hc⟩ := h.at' (by omega)
  cases e
  refine ⟨b, off + m, rfl, hb, fun i hi => ?_⟩
  have := hc (m + i) (by omega)
  rw [show off + m + i = off + (m + i) by omega, this]
  congr 3
  unfold nth
  rw [List.getD_eq_getElem?_getD, List.getD_eq_getElem?_getD, List.getElem?_take, if_pos hi, List.getElem?_drop]
/-- what a packet's bytes say -/
def dcE (B : List Nat) : Nat := if B.length < 6 then 7 else if hdV B 6 / 2 ^ 45 ≠ 0 then 8 else if B.length < 7 + hdV B 6 % 65536 then 7 else 0
def dcU (B : List Nat) : Bool := if dcE B = 0 then decide (hdV B 6 / 2 ^ 44 % 2 = 1) else false
def dcS (B : List Nat) : Bool := if dcE B = 0 then decide (hdV B 6 / 2 ^ 43 % 2 = 1) else false
def dcA (B : List Nat) : Nat := if dcE B = 0 then hdV B 6 / 2 ^ 32 % 2048 else 0
def dcP (B : List Nat) : Nat := if dcE B = 0 then hdV B 6 / 2 ^ 30 % 4 else 0
def dcC (B : List Nat) : Nat := if dcE B = 0 then hdV B 6 / 2 ^ 16 % 16384 else 0
def dcK (B : List Nat) : Nat := if dcE B = 0 then 7 + hdV B 6 % 65536 else 0
def dcD (B : List Nat) : List Nat := if dcE B = 0 then (B.drop 6).take (hdV B 6 % 65536 + 1) else []
theorem hdV_take (B : List Nat) (k : Nat) (hk : k ≤ 6) : hdV (B.take 6) k = hdV B k := by
  induction k with
  | zero => rfl
  | succ k ih =>
    simp only [hdV]
    rw [ih (by omega)]
    congr 1
    unfold nth
    rw [List.getD_eq_getElem?_getD, List.getD_eq_getElem?_getD, List.getElem?_take, if_pos (by omega)]
/-- what is told where no packet is: all noughts -/
theorem dc_no (B : List Nat) (E : Nat) (h : dcE B = E) (h0 : E ≠ 0) (w : World) (lo : Nat) :
    ∃ a' n' c', (Value.tuple #[pkV false false 0 0 0 none 0 0, .int .i64 0, .int .i64 (E : Int)]) = .tuple #[pkV (dcU B) (dcS B) (dcA B : Nat) (dcP B : Nat) (dcC B : Nat) a' n' c', .int .i64 (dcK B : Nat), .int .i64 (dcE B : Nat)] ∧ Ans w lo a' n' c' (dcD B) := by
  have hn : ¬ dcE B = 0 := by omega
  refine ⟨none, 0, 0, ?_, ?_⟩
  · unfold dcU dcS dcA dcP dcC dcK
    rw [if_neg hn, if_neg hn, if_neg hn, if_neg hn, if_neg hn, if_neg hn, h]
    rfl
  · unfold dcD
    rw [if_neg hn]
    exact ans_nil w lo
end Go.Proofs.Ytnimehkfnpepfaa
