import Derived.Shelf.SlSortCmp.NoneTotal
import Derived.Test.YtpcejajijaphbaaPb3
namespace Go.Proofs.Ytpcejajijaphbaa
open Go.RowKit
set_option maxRecDepth 100000
set_option linter.unusedVariables false
set_option linter.unusedSimpArgs false

section
theorem wpList_mkXR {t e : TypeId} {z : Value} {by' : Nat} (E : ElT t e z by') (hz : z.oneCell' = true) (hc : z.cells = #[z]) (w : World) {ops : Array Oper} {rest : List Oper} {o : Oper} {a : Act} {Q : Exit → Act → World → Prop} (hg : o.guard = none) (l c : Operand)
    (hop : o.op = Op.makeSlice t l c) (n : Nat) (hl : a.eval l = .int .i64 (n : Int)) (hc' : a.eval c = .int .i64 (n : Int)) (hn : n ≤ 1000)
    (hK : ∀ w', AnsX e w' w.heap.size (some ⟨w.heap.size, 0, none⟩) n n (List.replicate n z) → w.grownBy w' none → wpList Try.prog ops Q rest (a.put o.dst (.slice (some ⟨w.heap.size, 0, none⟩) n n)) w') :
    wpList Try.prog ops Q (o :: rest) a w := by
  obtain ⟨w', hrun, hA, hgr⟩ := run_mkX E hz hc n hn w
  refine wpList_plain hg fun K hK2 => ?_
  unfold Oper.wp
  simp [execOp, hop, hl, hc', hrun, Result.andThen]
  exact hK2 _ _ (hK w' hA hgr)
theorem cell_ltR {w : World} {b o : Nat} {v : Value} (h : w.cell? ⟨b, o, none⟩ = some v) : b < w.heap.size := by
  unfold World.cell? at h
  by_cases hb : b < w.heap.size
  · exact hb
  · rw [Array.getElem?_eq_none (by show w.heap.size ≤ b; omega)] at h
    cases h
theorem cell_grR {w w' : World} {b o : Nat} {v : Value} (h : w.cell? ⟨b, o, none⟩ = some v) (hg : w.grownBy w' none) : w'.cell? ⟨b, o, none⟩ = some v := cell_grown h hg (cell_ltR h) (by simp)
set_option maxHeartbeats 16000000 in
/-- the places of passes, the latest first -/
theorem lastFirst_any (w : World) (la : Option Addr) (ln lc : Nat) (F : Nat → Pa) (hP : RdPa w la ln lc F) (h1000 : ln ≤ 1000) :
    Calls Try.prog 21 #[.slice la ln lc] w fun e w' => ∃ (go : Nat) (O : List Nat), e = .returned (.slice (some ⟨go, 0, none⟩) ln ln) ∧ O.length = ln ∧ (∀ j p : Nat, O[j]? = some p → w'.cell? ⟨go, j, none⟩ = some (.int .i64 (p : Int))) ∧ (∀ p, p ∈ O ↔ p < ln) ∧ O.Pairwise (fun a b => (F b).fr ≤ (F a).fr) ∧ w.grownBy w' none := by
  have hmx := hP.max
  have hle := hP.le
  unfold maxLen at hmx
  have b1 := BxS.new w 22 #[.slice la ln lc]
  have G1 := World.grownBy_alloc w (.cells #[.slice la ln lc] 22) none
  go_enter Try.func21, Try.ntmps21
  refine wp_seq_k fun K0 hK0 => ?_
  have HK0 : Hid _ := hK0
  clear hK0
  go_wp2
  refine HK0.out _ _ ?_
  clear HK0
  generalize w.alloc (.cells #[.slice la ln lc] 22) = w1 at *
  have hg1 : w.heap.size ≤ w.heap.size := Nat.le_refl _
  obtain ⟨g1, hg1e⟩ : ∃ g, w.heap.size = g := ⟨_, rfl⟩
  rw [hg1e] at b1 ⊢
  have hg1 : w.heap.size ≤ g1 := Nat.le_of_eq hg1e
  clear hg1e
  have hg1s := b1.lt
  have c1 := b1.cell1
  refine wp_seq_k fun K1 hK1 => ?_
  have HK1 : Hid _ := hK1
  clear hK1
  go_wp2_with (at_make; refine wpList_mkXR Try.elN rfl rfl w1 rfl _ _ rfl ln rfl rfl h1000 ?_; intro w2 hA2 G2)
  refine HK1.out _ _ ?_
  clear HK1
  have b12 := b1.keep G2 (by simp)
  have hgo1 : w1.heap.size ≤ w1.heap.size := Nat.le_refl _
  obtain ⟨go, hgo⟩ : ∃ g, w1.heap.size = g := ⟨_, rfl⟩
  rw [hgo] at hA2 ⊢
  have hgs : w1.heap.size ≤ go := Nat.le_of_eq hgo
  clear hgo hgo1
  have hne1 : g1 ≠ go := by omega
  have G12 := grown_trans G1 G2
  have hwgo : w.heap.size ≤ go := Nat.le_trans G1.size hgs
  refine wp_seq_k fun K2 hK2 => ?_
  have HK2 : Hid _ := hK2
  clear hK2
  go_wp2
  go_loopw [10, 4] (fun v10 v4 wr => ∃ (k : Nat) (X : List Value), k ≤ ln ∧ v10 = .int .i64 k ∧ AnsX 3 wr go (some ⟨go, 0, none⟩) ln ln X ∧ (∀ j : Nat, j < k → X[j]? = some (.int .i64 (j : Int))) ∧ w.grownBy wr none ∧ BxS wr g1 22 #[.slice la ln lc]) (fun v10 v4 _ => ln - (intOf v10).toNat)
  case atStart => exact ⟨0, _, Nat.zero_le _, rfl, hA2, fun j hj => absurd hj (by omega), G12, b12⟩
  case round =>
    obtain ⟨k, X, hk, rfl, hA, hX, GR, b1r⟩ := hrel
    by_cases hlt : k < ln
    · have lk : (k : Int) < (ln : Int) := by omega
      have hXl := hA.len
      obtain ⟨u, hu⟩ : ∃ u, X[k]? = some u := ⟨_, List.getElem?_eq_getElem (by omega)⟩
      have ck := hA.cell k u hu
      clear hu
      have fk := hA.free k
      have hA' := hA.set k (.int .i64 (k : Int)) rfl
      have gs := grown_set wr go k (.int .i64 (k : Int))
      have HX : Hid _ := hX
      clear hX hXl
      go_wp2
      go_roundw
      case rel =>
        refine ⟨k + 1, _, by omega, by go_num, hA', fun j hj => ?_, grown_far GR gs (fun z e => by cases e; exact hwgo), b1r.keep gs (by simp [hne1])⟩
        have hXl := hA.len
        by_cases e : j = k
        · rw [e, List.getElem?_set_self (by omega)]
        · rw [List.getElem?_set_ne (by omega)]
          exact HX.out j (by omega)
      case measure => simp [intOf] <;> omega
    · obtain rfl : k = ln := by omega
      have lk : ¬ (k : Int) < (k : Int) := by omega
      have HX : Hid _ := hX
      clear hX
      go_wp2
      refine HK2.out _ _ ?_
      clear HK2
      by_cases h0 : k = 0
      · subst h0
        have hcon := AnyF.slices_SortFunc_none (P := Try.prog) (ρ := sortI_ren) { sortI with } (some ⟨go, 0, none⟩) 0 (.func (.func 29) #[] #[.pointer (some ⟨g1, 0, none⟩)]) wr
        change Calls Try.prog 28 _ _ _ at hcon
        go_wp2_with (go_at_call 28; refine hcon.mono ?_; rintro e w5 ⟨rfl, hw5⟩; rw [hw5]; clear hw5)
        first | go_ret | skip
        exact ⟨go, [], rfl, rfl, (fun j p h => by cases h), (fun p => ⟨(fun h => by cases h), (fun h => absurd h (by omega))⟩), List.Pairwise.nil, GR⟩
      · obtain ⟨lb, lf, rfl, hlb, hlr⟩ := (hP.keep GR).at' (by omega)
        have hlb0 : lb < w.heap.size := by
          obtain ⟨b, o, e, hb, _⟩ := hP.at' (by omega)
          cases e
          exact hb
        have hgos : go < wr.heap.size := by
          have := hA.lt go rfl
          exact this
        have hcon := sortP_any wr g1 lb lf k lc go F b1r ⟨hle, hmx⟩ (by omega) hlr hlb (by omega) hne1 hgos (fun j hj => ⟨hA.cell j _ (HX.out j hj), hA.free j⟩) h1000
        clear hlr
        go_wp2_with (go_at_call 28; refine hcon.mono ?_; rintro e w5 ⟨rfl, G5, O, hOl, hOc, hOm, hOp⟩)
        first | go_ret | skip
        exact ⟨go, O, rfl, hOl, hOc, hOm, hOp, grown_far GR G5 (fun z e => by cases e; exact hwgo)⟩
end
end Go.Proofs.Ytpcejajijaphbaa
