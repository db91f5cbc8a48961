import Derived.Test.YtnimehkfnpepfaaGi17
import Derived.Test.YtnimehkfnpepfaaGi2
import Derived.Test.YtnimehkfnpepfaaGi5
import Derived.Test.YtnimehkfnpepfaaGi6
import Derived.Test.YtnimehkfnpepfaaGi3
import Derived.Test.YtnimehkfnpepfaaGi7
import Derived.Test.YtnimehkfnpepfaaGi4
namespace Go.Proofs.Ytnimehkfnpepfaa
open Go.RowKit
set_option maxRecDepth 100000
set_option linter.unusedVariables false
set_option linter.unusedSimpArgs false

section
/-- pairs at a slice that need not begin at its row's head, in new memory -/
structure OgP (w : World) (lo : Nat) (q : Option Addr) (m d : Nat) (G : List (Int × Int)) : Prop where
  len : G.length = m
  le : m ≤ d
  max : d ≤ maxLen
  nil : q = none → d = 0
  at' : 0 < m → ∃ g off cur, q = some ⟨g, off, none⟩ ∧ lo ≤ g ∧ BxS w g 82 cur ∧ off + m * 2 ≤ cur.size ∧ ∀ i, i < m * 2 → cur[off + i]? = (flP G)[i]?
section
variable {w w' : World} {lo : Nat} {q : Option Addr} {m d : Nat} {G : List (Int × Int)}
theorem OwGi.og (h : OwGi w lo q m d G) : OgP w lo q m d G := by
  have hr := h.rd
  refine ⟨h.len, hr.le, hr.max, hr.nil, fun h0 => ?_⟩
  rcases h.own.2 with ⟨h1, h2⟩ | ⟨g, cap, cur, h1, _, h3, h4, h5, h6, h7⟩
  · omega
  · simp only [Value.slice.injEq] at h1
    obtain ⟨rfl, _, rfl⟩ := h1
    refine ⟨g, 0, cur, rfl, h.new g rfl, h3, by omega, fun i hi => ?_⟩
    rw [flP_flG G m h.len, ← h7, Nat.zero_add, List.getElem?_take_of_lt hi, Array.getElem?_toList]
theorem OgP.rd (h : OgP w lo q m d G) : RdG w q m d (giF G) :=
  ⟨h.le, h.max, h.nil, fun h0 => by
    obtain ⟨g, off, cur, rfl, hl, hb, hs, hc⟩ := h.at' h0
    refine ⟨g, off, rfl, hb.lt, fun i hi => ?_⟩
    have hG : i < G.length := by rw [h.len]; exact hi
    have e : giF G i = G[i] := by unfold giF; rw [List.getD_eq_getElem?_getD, List.getElem?_eq_getElem hG]; rfl
    have f0 : (flP G)[i * 2]? = some (.int .i64 (giF G i).1) := by
      have := flP_drop G i
      have h2 : (flP G)[i * 2 + 0]? = ((flP G).drop (i * 2))[0]? := by rw [List.getElem?_drop]
      rw [Nat.add_zero] at h2
      rw [h2, this, List.drop_eq_getElem_cons hG, e]; rfl
    have f1 : (flP G)[i * 2 + 1]? = some (.int .i64 (giF G i).2) := by
      have := flP_drop G i
      have h2 : (flP G)[i * 2 + 1]? = ((flP G).drop (i * 2))[1]? := by rw [List.getElem?_drop]
      rw [h2, this, List.drop_eq_getElem_cons hG, e]; rfl
    have k0 := hc (i * 2) (by omega)
    have k1 := hc (i * 2 + 1) (by omega)
    rw [f0] at k0
    rw [f1] at k1
    have hb' : w.heap[g]? = some (.cells cur 82) := hb
    exact ⟨by rw [cell_of_row w g _ _ _ _ hb']; exact k0, by rw [cell_of_row w g _ _ _ _ hb', Nat.add_assoc]; exact k1⟩⟩
theorem OgP.kR (h : OgP w lo q m d G) {r : Option Nat} (u : w.grownBy w' r) (hr : ∀ z, r = some z → ¬ ∃ cs, BxS w z 82 cs) : OgP w' lo q m d G :=
  ⟨h.len, h.le, h.max, h.nil, fun h0 => by
    obtain ⟨g, off, cur, e, hl, hb, hs, hc⟩ := h.at' h0
    exact ⟨g, off, cur, e, hl, hb.keep u (fun e2 => hr g e2.symm ⟨cur, hb⟩), hs, hc⟩⟩
theorem OgP.keep (h : OgP w lo q m d G) (u : w.grownBy w' none) : OgP w' lo q m d G := h.kR u (fun z e => by cases e)
theorem OgP.bx (h : OgP w lo q m d G) {g : Nat} {t : TypeId} {cs : Array Value} (hb : BxS w g t cs) (ht : 82 ≠ t) (u : w.grownBy w' (some g)) : OgP w' lo q m d G :=
  h.kR u (fun z e ⟨cs2, hb2⟩ => by have e := Option.some.inj e; subst e; exact BxS.apart hb2 hb ht rfl)
/-- without the first one -/
theorem OgP.tail {p : Int × Int} {g off : Nat} (h : OgP w lo (some ⟨g, off, none⟩) m d (p :: G)) : OgP w lo (if d = 1 then some ⟨g, off, none⟩ else some ⟨g, off + 2, none⟩) (m - 1) (d - 1) G := by
  have hl := h.len
  rw [List.length_cons] at hl
  refine ⟨by omega, by have := h.le; omega, by have := h.max; omega, (fun e => by by_cases e1 : d = 1 <;> simp [e1] at e), fun h0 => ?_⟩
  obtain ⟨g', off', cur, e, hlo, hb, hs, hc⟩ := h.at' (by omega)
  cases e
  have := h.le
  rw [if_neg (by omega)]
  refine ⟨g, off + 2, cur, rfl, hlo, hb, by omega, fun i hi => ?_⟩
  have := hc (i + 2) (by omega)
  rw [show off + 2 + i = off + (i + 2) by omega, this]
  rfl
/-- the first one is written -/
theorem OgP.head {x y e : Int} {g off : Nat} {cur : Array Value} (h : OgP w lo (some ⟨g, off, none⟩) m d ((x, y) :: G)) (hb : BxS w g 82 cur) (hb' : BxS w' g 82 (cur.setIfInBounds off (.int .i64 e))) : OgP w' lo (some ⟨g, off, none⟩) m d ((e, y) :: G) := by
  have hl : m = G.length + 1 := by have := h.len; rw [List.length_cons] at this; omega
  refine ⟨h.len, h.le, h.max, h.nil, fun h0 => ?_⟩
  obtain ⟨g', off', cur', e', hlo, hb2, hs, hc⟩ := h.at' h0
  cases e'
  have e1 : cur' = cur := by
    have hb : w.heap[g]? = some (.cells cur 82) := hb
    have hb2 : w.heap[g]? = some (.cells cur' 82) := hb2
    rw [hb2] at hb
    injection hb with hb
    injection hb
  subst e1
  refine ⟨g, off, _, rfl, hlo, hb', by simpa using hs, fun i hi => ?_⟩
  rw [Array.getElem?_setIfInBounds]
  by_cases h1 : off = off + i
  · rw [if_pos h1]
    obtain rfl : i = 0 := by omega
    rw [if_pos (by omega)]
    rfl
  · rw [if_neg h1, hc i hi]
    obtain ⟨j, rfl⟩ : ∃ j, i = j + 1 := ⟨i - 1, by omega⟩
    rfl
end
/-- one note more -/
theorem OwN.push {w w' : World} {lo : Nat} {na : Option Addr} {nn nc : Nat} {xs : List Nx} (h : OwN w lo na nn nc xs) {x : Nx} (hxA : Ans w lo x.a x.da.length x.c x.da) (hxO : OwGi w lo x.q x.ga.length x.d x.ga) (hsep : ∀ z, ((Value.slice x.a x.da.length x.c).ownBlock = some z ∨ (Value.slice x.q x.ga.length x.d).ownBlock = some z) → ¬ Nbl na nn nc xs z)
    {gx cx : Nat} (hl : lo ≤ w.heap.size) (hor : (Value.slice na nn nc).ownBlock = some gx ∨ w.heap.size ≤ gx) (u : w.grownBy w' (Value.slice na nn nc).ownBlock) (hO : w'.ownsRow 0 27 10 (.slice (some ⟨gx, 0, none⟩) (nn + 1) cx) (nn + 1) (flN xs ++ x.cells)) : OwN w' lo (some ⟨gx, 0, none⟩) (nn + 1) cx (xs ++ [x]) := by
  have hrow : ∀ z, (Value.slice na nn nc).ownBlock = some z → ∃ cs, BxS w z 27 cs := fun z e => own_bxS h.own e
  have kA : ∀ {y : Nx}, Ans w lo y.a y.da.length y.c y.da → Ans w' lo y.a y.da.length y.c y.da := fun hy => hy.kRR u (fun z e e2 => by obtain ⟨cs, hb⟩ := hrow z e; exact own_ty hy.own hb (by decide) e2)
  have kO : ∀ {y : Nx}, OwGi w lo y.q y.ga.length y.d y.ga → OwGi w' lo y.q y.ga.length y.d y.ga := fun hy => hy.kR u (fun z e => by obtain ⟨cs, hb⟩ := hrow z e; exact hy.neB hb (by decide))
  refine ⟨by rw [flN_add]; exact hO, by rw [List.length_append, h.len]; rfl, (fun z e => ?_), (fun y hy => ?_), (fun y hy => ?_), ?_, ?_⟩
  · have e : gx = z := Option.some.inj e
    subst e
    rcases hor with e | e
    · exact h.new _ e
    · omega
  · rcases List.mem_append.1 hy with hy | hy
    · exact kA (h.eA y hy)
    · rw [List.mem_singleton.1 hy]; exact kA hxA
  · rcases List.mem_append.1 hy with hy | hy
    · exact kO (h.eO y hy)
    · rw [List.mem_singleton.1 hy]; exact kO hxO
  · refine List.pairwise_append.2 ⟨h.pA, List.pairwise_singleton _ _, fun y hy z hz g e e2 => ?_⟩
    rw [List.mem_singleton.1 hz] at e2
    exact hsep g (.inl e2) (.inr ⟨y, hy, .inl e⟩)
  · refine List.pairwise_append.2 ⟨h.pO, List.pairwise_singleton _ _, fun y hy z hz g e e2 => ?_⟩
    rw [List.mem_singleton.1 hz] at e2
    exact hsep g (.inr e2) (.inr ⟨y, hy, .inr e⟩)

set_option maxHeartbeats 16000000 in
theorem rmeta_any (w : World) (gv : Nat) (id : Int) (nm : ByteArray) (mo bu st : Int) (fi : Bool) (at' ti pa tr li : Int) (a : Option Addr) (n c : Nat) (q : Option Addr) (m d : Nat) (bv : BxS w gv 92 #[.int .i64 id, .string nm, .slice a n c, .int .i64 mo, .int .i64 bu, .int .i64 st, .bool fi, .int .i64 at', .slice q m d, .int .i64 ti, .int .i64 pa, .int .i64 tr, .int .i64 li]) : Calls Try.prog 61 #[.pointer (some ⟨gv, 0, none⟩)] w fun e w' => e = .returned (.agg (xMeta id nm n).arr) ∧ w.grownBy w' none := by
  have i10 := Try.info_nt
  have b2 := BxS.new w 27 #[.int .i64 0, .int .i64 0, .string ⟨#[]⟩, .int .i64 0, .int .i64 0, .int .i64 0, .slice none 0 0, .slice none 0 0, .int .i64 0, .int .i64 0]
  have y2 := World.grownBy_alloc w (.cells #[.int .i64 0, .int .i64 0, .string ⟨#[]⟩, .int .i64 0, .int .i64 0, .int .i64 0, .slice none 0 0, .slice none 0 0, .int .i64 0, .int .i64 0] 27) none
  generalize hw1 : w.alloc (.cells #[.int .i64 0, .int .i64 0, .string ⟨#[]⟩, .int .i64 0, .int .i64 0, .int .i64 0, .slice none 0 0, .slice none 0 0, .int .i64 0, .int .i64 0] 27) = w1 at b2 y2
  have bv1 := bv.keep y2 (by simp)
  go_enter Try.func61, Try.ntmps61
  refine wp_seq_k fun K1 hK1 => ?_
  have HK1 : Hid _ := hK1
  clear hK1
  go_wp2
  refine HK1.out _ _ ?_
  clear HK1
  clear hw1
  refine wp_seq_k fun K2 hK2 => ?_
  have HK2 : Hid _ := hK2
  clear hK2
  have Gd := grown_drew w1 none
  have SS : BxS w1.drew gv 92 #[.int .i64 id, .string nm, .slice a n c, .int .i64 mo, .int .i64 bu, .int .i64 st, .bool fi, .int .i64 at', .slice q m d, .int .i64 ti, .int .i64 pa, .int .i64 tr, .int .i64 li] := bv1.keep Gd (by simp)
  have b2d := b2.keep Gd (by simp)
  refine wp_regionL (fun wz => BxS wz gv 92 #[.int .i64 id, .string nm, .slice a n c, .int .i64 mo, .int .i64 bu, .int .i64 st, .bool fi, .int .i64 at', .slice q m d, .int .i64 ti, .int .i64 pa, .int .i64 tr, .int .i64 li]) [] #[false, false, false, false, false, false, false, false, false, false, false, false, false, false, false, false, false, false] rfl (by kernel_rfl) ?_
  refine wpAnyZ_take [] 0 (.pointer (some ⟨gv, 0, none⟩)) rfl (by kernel_rfl) (fun _ _ _ h => h) SS rfl (by intro wz hz; go_simp) ?_
  try simp only [List.getElem_toArray, List.getElem_cons_succ, List.getElem_cons_zero, Act.put, List.setIfInBounds_toArray, List.set_cons_zero, List.set_cons_succ]
  refine wpAnyZ_take [] 1 (.pointer (some ⟨gv, 0, none⟩)) rfl (by kernel_rfl) (fun _ _ _ h => h) SS rfl (by intro wz hz; go_simp) ?_
  try simp only [List.getElem_toArray, List.getElem_cons_succ, List.getElem_cons_zero, Act.put, List.setIfInBounds_toArray, List.set_cons_zero, List.set_cons_succ]
  refine wpAnyZ_take [] 2 (.pointer (some ⟨gv, 0, none⟩)) rfl (by kernel_rfl) (fun _ _ _ h => h) SS rfl (by intro wz hz; go_simp) ?_
  try simp only [List.getElem_toArray, List.getElem_cons_succ, List.getElem_cons_zero, Act.put, List.setIfInBounds_toArray, List.set_cons_zero, List.set_cons_succ]
  refine wpAnyZ_take [] 3 (.pointer (some ⟨gv, 0, none⟩)) rfl (by kernel_rfl) (fun _ _ _ h => h) SS rfl (by intro wz hz; go_simp) ?_
  try simp only [List.getElem_toArray, List.getElem_cons_succ, List.getElem_cons_zero, Act.put, List.setIfInBounds_toArray, List.set_cons_zero, List.set_cons_succ]
  refine wpAnyZ_take [] 4 (.int .i64 id) rfl (by kernel_rfl) (fun _ _ _ h => h) SS rfl (by intro wz hz; have z : wz.cell? ⟨gv, 0, none⟩ = some (.int .i64 id) := hz.cell 0 (by show 0 < 13; decide); go_simp) ?_
  try simp only [List.getElem_toArray, List.getElem_cons_succ, List.getElem_cons_zero, Act.put, List.setIfInBounds_toArray, List.set_cons_zero, List.set_cons_succ]
  refine wpAnyZ_take [] 5 (.pointer (some ⟨gv, 0, none⟩)) rfl (by kernel_rfl) (fun _ _ _ h => h) SS rfl (by intro wz hz; go_simp) ?_
  try simp only [List.getElem_toArray, List.getElem_cons_succ, List.getElem_cons_zero, Act.put, List.setIfInBounds_toArray, List.set_cons_zero, List.set_cons_succ]
  refine wpAnyZ_take [] 6 (.pointer (some ⟨gv, 0, none⟩)) rfl (by kernel_rfl) (fun _ _ _ h => h) SS rfl (by intro wz hz; go_simp) ?_
  try simp only [List.getElem_toArray, List.getElem_cons_succ, List.getElem_cons_zero, Act.put, List.setIfInBounds_toArray, List.set_cons_zero, List.set_cons_succ]
  refine wpAnyZ_take [] 7 (.pointer (some ⟨gv, 0, none⟩)) rfl (by kernel_rfl) (fun _ _ _ h => h) SS rfl (by intro wz hz; go_simp) ?_
  try simp only [List.getElem_toArray, List.getElem_cons_succ, List.getElem_cons_zero, Act.put, List.setIfInBounds_toArray, List.set_cons_zero, List.set_cons_succ]
  refine wpAnyZ_take [] 8 (.pointer (some ⟨gv, 1, none⟩)) rfl (by kernel_rfl) (fun _ _ _ h => h) SS rfl (by intro wz hz; go_simp) ?_
  try simp only [List.getElem_toArray, List.getElem_cons_succ, List.getElem_cons_zero, Act.put, List.setIfInBounds_toArray, List.set_cons_zero, List.set_cons_succ]
  refine wpAnyZ_take [] 9 (.string nm) rfl (by kernel_rfl) (fun _ _ _ h => h) SS rfl (by intro wz hz; have z : wz.cell? ⟨gv, 1, none⟩ = some (.string nm) := hz.cell 1 (by show 1 < 13; decide); go_simp) ?_
  try simp only [List.getElem_toArray, List.getElem_cons_succ, List.getElem_cons_zero, Act.put, List.setIfInBounds_toArray, List.set_cons_zero, List.set_cons_succ]
  refine wpAnyZ_take [] 10 (.pointer (some ⟨gv, 0, none⟩)) rfl (by kernel_rfl) (fun _ _ _ h => h) SS rfl (by intro wz hz; go_simp) ?_
  try simp only [List.getElem_toArray, List.getElem_cons_succ, List.getElem_cons_zero, Act.put, List.setIfInBounds_toArray, List.set_cons_zero, List.set_cons_succ]
  refine wpAnyZ_take [] 11 (.pointer (some ⟨gv, 0, none⟩)) rfl (by kernel_rfl) (fun _ _ _ h => h) SS rfl (by intro wz hz; go_simp) ?_
  try simp only [List.getElem_toArray, List.getElem_cons_succ, List.getElem_cons_zero, Act.put, List.setIfInBounds_toArray, List.set_cons_zero, List.set_cons_succ]
  refine wpAnyZ_take [] 12 (.pointer (some ⟨gv, 0, none⟩)) rfl (by kernel_rfl) (fun _ _ _ h => h) SS rfl (by intro wz hz; go_simp) ?_
  try simp only [List.getElem_toArray, List.getElem_cons_succ, List.getElem_cons_zero, Act.put, List.setIfInBounds_toArray, List.set_cons_zero, List.set_cons_succ]
  refine wpAnyZ_take [] 13 (.pointer (some ⟨gv, 2, none⟩)) rfl (by kernel_rfl) (fun _ _ _ h => h) SS rfl (by intro wz hz; go_simp) ?_
  try simp only [List.getElem_toArray, List.getElem_cons_succ, List.getElem_cons_zero, Act.put, List.setIfInBounds_toArray, List.set_cons_zero, List.set_cons_succ]
  refine wpAnyZ_take [] 14 (.slice a n c) rfl (by kernel_rfl) (fun _ _ _ h => h) SS rfl (by intro wz hz; have z : wz.cell? ⟨gv, 2, none⟩ = some (.slice a n c) := hz.cell 2 (by show 2 < 13; decide); go_simp) ?_
  try simp only [List.getElem_toArray, List.getElem_cons_succ, List.getElem_cons_zero, Act.put, List.setIfInBounds_toArray, List.set_cons_zero, List.set_cons_succ]
  refine wpAnyZ_take [] 15 (.int .i64 (n : Int)) rfl (by kernel_rfl) (fun _ _ _ h => h) SS rfl (by intro wz hz; go_simp) ?_
  try simp only [List.getElem_toArray, List.getElem_cons_succ, List.getElem_cons_zero, Act.put, List.setIfInBounds_toArray, List.set_cons_zero, List.set_cons_succ]
  refine wpAnyZ_take [] 16 (.agg #[.int .i64 1, .int .i64 id, .string nm, .int .i64 (n : Int), .int .i64 0, .int .i64 0, .slice none 0 0, .slice none 0 0, .int .i64 0, .int .i64 0]) rfl (by kernel_rfl) (fun _ _ _ h => h) SS rfl (by intro wz hz; go_simp) ?_
  try simp only [List.getElem_toArray, List.getElem_cons_succ, List.getElem_cons_zero, Act.put, List.setIfInBounds_toArray, List.set_cons_zero, List.set_cons_succ]
  refine wpAnyZ_oneB 17 rfl (by kernel_rfl) (fun KK hKK => ?_)
  refine step_stX _ rfl _ _ _ rfl w.heap.size _ _ rfl rfl b2d i10 rfl (by simp [Value.oneCell']) ?_
  intro w3 b23 u3
  refine hKK _ _ (fun _ => SS.keep u3 (fun e => BxS.apart SS b2d (by decide) (Option.some.inj e))) ?_
  try simp only [List.getElem_toArray, List.getElem_cons_succ, List.getElem_cons_zero, Act.put, List.setIfInBounds_toArray, List.set_cons_zero, List.set_cons_succ]
  refine wpAnyZ_doneB (by kernel_rfl) ?_ _
  refine HK2.out _ _ ?_
  clear HK2
  go_wp2
  refine bodyPost_ret (results_cellN rfl _ _ _ ⟨w.heap.size, 0, none⟩ _ rfl (BxS.load (t := 27) b23 Try.underlying27 i10)) rfl ?_
  exact ⟨rfl, grown_far (grown_trans y2 Gd) u3 (fun z e => by have e := Option.some.inj e; omega)⟩

set_option maxHeartbeats 16000000 in
theorem rend_any (w : World) (gv : Nat) (id : Int) (nm : ByteArray) (mo bu st : Int) (fi : Bool) (at' ti pa tr li : Int) (a : Option Addr) (n c : Nat) (q : Option Addr) (m d : Nat) (L : List Nat) (hL : Rd w a n c L) (bv : BxS w gv 92 #[.int .i64 id, .string nm, .slice a n c, .int .i64 mo, .int .i64 bu, .int .i64 st, .bool fi, .int .i64 at', .slice q m d, .int .i64 ti, .int .i64 pa, .int .i64 tr, .int .i64 li]) : Calls Try.prog 63 #[.pointer (some ⟨gv, 0, none⟩)] w fun e w' => e = .returned (.agg (xEnd id n (smT L n % 4294967296)).arr) ∧ w.grownBy w' none := by
  have i10 := Try.info_nt
  have b2 := BxS.new w 27 #[.int .i64 0, .int .i64 0, .string ⟨#[]⟩, .int .i64 0, .int .i64 0, .int .i64 0, .slice none 0 0, .slice none 0 0, .int .i64 0, .int .i64 0]
  have y2 := World.grownBy_alloc w (.cells #[.int .i64 0, .int .i64 0, .string ⟨#[]⟩, .int .i64 0, .int .i64 0, .int .i64 0, .slice none 0 0, .slice none 0 0, .int .i64 0, .int .i64 0] 27) none
  generalize hw1 : w.alloc (.cells #[.int .i64 0, .int .i64 0, .string ⟨#[]⟩, .int .i64 0, .int .i64 0, .int .i64 0, .slice none 0 0, .slice none 0 0, .int .i64 0, .int .i64 0] 27) = w1 at b2 y2
  have bv1 := bv.keep y2 (by simp)
  go_enter Try.func63, Try.ntmps63
  refine wp_seq_k fun K1 hK1 => ?_
  have HK1 : Hid _ := hK1
  clear hK1
  go_wp2
  refine HK1.out _ _ ?_
  clear HK1
  clear hw1
  refine wp_seq_k fun K2 hK2 => ?_
  have HK2 : Hid _ := hK2
  clear hK2
  have Gd := grown_drew w1 none
  have SS : BxS w1.drew gv 92 #[.int .i64 id, .string nm, .slice a n c, .int .i64 mo, .int .i64 bu, .int .i64 st, .bool fi, .int .i64 at', .slice q m d, .int .i64 ti, .int .i64 pa, .int .i64 tr, .int .i64 li] := bv1.keep Gd (by simp)
  have b2d := b2.keep Gd (by simp)
  refine wp_regionL (fun wz => BxS wz gv 92 #[.int .i64 id, .string nm, .slice a n c, .int .i64 mo, .int .i64 bu, .int .i64 st, .bool fi, .int .i64 at', .slice q m d, .int .i64 ti, .int .i64 pa, .int .i64 tr, .int .i64 li]) [] #[false, false, false, false, false, false, false, false, false, false, false, false, false, false, false, false, false, false, false] rfl (by kernel_rfl) ?_
  refine wpAnyZ_take [] 0 (.pointer (some ⟨gv, 0, none⟩)) rfl (by kernel_rfl) (fun _ _ _ h => h) SS rfl (by intro wz hz; go_simp) ?_
  try simp only [List.getElem_toArray, List.getElem_cons_succ, List.getElem_cons_zero, Act.put, List.setIfInBounds_toArray, List.set_cons_zero, List.set_cons_succ]
  refine wpAnyZ_take [] 1 (.pointer (some ⟨gv, 0, none⟩)) rfl (by kernel_rfl) (fun _ _ _ h => h) SS rfl (by intro wz hz; go_simp) ?_
  try simp only [List.getElem_toArray, List.getElem_cons_succ, List.getElem_cons_zero, Act.put, List.setIfInBounds_toArray, List.set_cons_zero, List.set_cons_succ]
  refine wpAnyZ_take [] 2 (.pointer (some ⟨gv, 0, none⟩)) rfl (by kernel_rfl) (fun _ _ _ h => h) SS rfl (by intro wz hz; go_simp) ?_
  try simp only [List.getElem_toArray, List.getElem_cons_succ, List.getElem_cons_zero, Act.put, List.setIfInBounds_toArray, List.set_cons_zero, List.set_cons_succ]
  refine wpAnyZ_take [] 3 (.pointer (some ⟨gv, 0, none⟩)) rfl (by kernel_rfl) (fun _ _ _ h => h) SS rfl (by intro wz hz; go_simp) ?_
  try simp only [List.getElem_toArray, List.getElem_cons_succ, List.getElem_cons_zero, Act.put, List.setIfInBounds_toArray, List.set_cons_zero, List.set_cons_succ]
  refine wpAnyZ_take [] 4 (.int .i64 id) rfl (by kernel_rfl) (fun _ _ _ h => h) SS rfl (by intro wz hz; have z : wz.cell? ⟨gv, 0, none⟩ = some (.int .i64 id) := hz.cell 0 (by show 0 < 13; decide); go_simp) ?_
  try simp only [List.getElem_toArray, List.getElem_cons_succ, List.getElem_cons_zero, Act.put, List.setIfInBounds_toArray, List.set_cons_zero, List.set_cons_succ]
  refine wpAnyZ_take [] 5 (.pointer (some ⟨gv, 0, none⟩)) rfl (by kernel_rfl) (fun _ _ _ h => h) SS rfl (by intro wz hz; go_simp) ?_
  try simp only [List.getElem_toArray, List.getElem_cons_succ, List.getElem_cons_zero, Act.put, List.setIfInBounds_toArray, List.set_cons_zero, List.set_cons_succ]
  refine wpAnyZ_take [] 6 (.pointer (some ⟨gv, 0, none⟩)) rfl (by kernel_rfl) (fun _ _ _ h => h) SS rfl (by intro wz hz; go_simp) ?_
  try simp only [List.getElem_toArray, List.getElem_cons_succ, List.getElem_cons_zero, Act.put, List.setIfInBounds_toArray, List.set_cons_zero, List.set_cons_succ]
  refine wpAnyZ_take [] 7 (.pointer (some ⟨gv, 0, none⟩)) rfl (by kernel_rfl) (fun _ _ _ h => h) SS rfl (by intro wz hz; go_simp) ?_
  try simp only [List.getElem_toArray, List.getElem_cons_succ, List.getElem_cons_zero, Act.put, List.setIfInBounds_toArray, List.set_cons_zero, List.set_cons_succ]
  refine wpAnyZ_take [] 8 (.pointer (some ⟨gv, 2, none⟩)) rfl (by kernel_rfl) (fun _ _ _ h => h) SS rfl (by intro wz hz; go_simp) ?_
  try simp only [List.getElem_toArray, List.getElem_cons_succ, List.getElem_cons_zero, Act.put, List.setIfInBounds_toArray, List.set_cons_zero, List.set_cons_succ]
  refine wpAnyZ_take [] 9 (.slice a n c) rfl (by kernel_rfl) (fun _ _ _ h => h) SS rfl (by intro wz hz; have z : wz.cell? ⟨gv, 2, none⟩ = some (.slice a n c) := hz.cell 2 (by show 2 < 13; decide); go_simp) ?_
  try simp only [List.getElem_toArray, List.getElem_cons_succ, List.getElem_cons_zero, Act.put, List.setIfInBounds_toArray, List.set_cons_zero, List.set_cons_succ]
  refine wpAnyZ_take [] 10 (.int .i64 (n : Int)) rfl (by kernel_rfl) (fun _ _ _ h => h) SS rfl (by intro wz hz; go_simp) ?_
  try simp only [List.getElem_toArray, List.getElem_cons_succ, List.getElem_cons_zero, Act.put, List.setIfInBounds_toArray, List.set_cons_zero, List.set_cons_succ]
  refine wpAnyZ_take [] 11 (.pointer (some ⟨gv, 0, none⟩)) rfl (by kernel_rfl) (fun _ _ _ h => h) SS rfl (by intro wz hz; go_simp) ?_
  try simp only [List.getElem_toArray, List.getElem_cons_succ, List.getElem_cons_zero, Act.put, List.setIfInBounds_toArray, List.set_cons_zero, List.set_cons_succ]
  refine wpAnyZ_take [] 12 (.pointer (some ⟨gv, 0, none⟩)) rfl (by kernel_rfl) (fun _ _ _ h => h) SS rfl (by intro wz hz; go_simp) ?_
  try simp only [List.getElem_toArray, List.getElem_cons_succ, List.getElem_cons_zero, Act.put, List.setIfInBounds_toArray, List.set_cons_zero, List.set_cons_succ]
  refine wpAnyZ_take [] 13 (.pointer (some ⟨gv, 0, none⟩)) rfl (by kernel_rfl) (fun _ _ _ h => h) SS rfl (by intro wz hz; go_simp) ?_
  try simp only [List.getElem_toArray, List.getElem_cons_succ, List.getElem_cons_zero, Act.put, List.setIfInBounds_toArray, List.set_cons_zero, List.set_cons_succ]
  refine wpAnyZ_take [] 14 (.pointer (some ⟨gv, 2, none⟩)) rfl (by kernel_rfl) (fun _ _ _ h => h) SS rfl (by intro wz hz; go_simp) ?_
  try simp only [List.getElem_toArray, List.getElem_cons_succ, List.getElem_cons_zero, Act.put, List.setIfInBounds_toArray, List.set_cons_zero, List.set_cons_succ]
  refine wpAnyZ_take [] 15 (.slice a n c) rfl (by kernel_rfl) (fun _ _ _ h => h) SS rfl (by intro wz hz; have z : wz.cell? ⟨gv, 2, none⟩ = some (.slice a n c) := hz.cell 2 (by show 2 < 13; decide); go_simp) ?_
  try simp only [List.getElem_toArray, List.getElem_cons_succ, List.getElem_cons_zero, Act.put, List.setIfInBounds_toArray, List.set_cons_zero, List.set_cons_succ]
  refine wpAnyZ_oneB 16 rfl (by kernel_rfl) (fun KK hKK => ?_)
  go_simp
  go_at_call 20
  refine (fsum_any a n c L _ ((hL.keep y2).keep Gd)).mono ?_
  rintro e w2' ⟨rfl, hw⟩
  subst hw
  dsimp only
  refine hKK _ _ (fun _ => SS) ?_
  try simp only [List.getElem_toArray, List.getElem_cons_succ, List.getElem_cons_zero, Act.put, List.setIfInBounds_toArray, List.set_cons_zero, List.set_cons_succ]
  obtain ⟨sm, hsm⟩ : ∃ sm, smT L n % 4294967296 = sm := ⟨_, rfl⟩
  rw [hsm]
  have HSM : Hid _ := hsm
  clear hsm
  refine wpAnyZ_take [] 17 (.agg #[.int .i64 3, .int .i64 id, .string ⟨#[]⟩, .int .i64 (n : Int), .int .i64 (sm : Int), .int .i64 0, .slice none 0 0, .slice none 0 0, .int .i64 0, .int .i64 0]) rfl (by kernel_rfl) (fun _ _ _ h => h) SS rfl (by intro wz hz; go_simp) ?_
  try simp only [List.getElem_toArray, List.getElem_cons_succ, List.getElem_cons_zero, Act.put, List.setIfInBounds_toArray, List.set_cons_zero, List.set_cons_succ]
  refine wpAnyZ_oneB 18 rfl (by kernel_rfl) (fun KK hKK => ?_)
  refine step_stX _ rfl _ _ _ rfl w.heap.size _ _ rfl rfl b2d i10 rfl (by simp [Value.oneCell']) ?_
  intro w3 b23 u3
  refine hKK _ _ (fun _ => SS.keep u3 (fun e => BxS.apart SS b2d (by decide) (Option.some.inj e))) ?_
  try simp only [List.getElem_toArray, List.getElem_cons_succ, List.getElem_cons_zero, Act.put, List.setIfInBounds_toArray, List.set_cons_zero, List.set_cons_succ]
  refine wpAnyZ_doneB (by kernel_rfl) ?_ _
  refine HK2.out _ _ ?_
  clear HK2
  go_wp2
  refine bodyPost_ret (results_cellN rfl _ _ _ ⟨w.heap.size, 0, none⟩ _ rfl (BxS.load (t := 27) b23 Try.underlying27 i10)) rfl ?_
  exact ⟨by rw [HSM.out]; rfl, grown_far (grown_trans y2 Gd) u3 (fun z e => by have e := Option.some.inj e; omega)⟩

set_option maxHeartbeats 16000000 in
theorem rpiece_any (w : World) (gv : Nat) (id : Int) (nm : ByteArray) (mo bu st : Int) (fi : Bool) (at' ti pa tr li : Int) (a : Option Addr) (n c : Nat) (q : Option Addr) (m d : Nat) (L : List Nat) (hL : Rd w a n c L) (bv : BxS w gv 92 #[.int .i64 id, .string nm, .slice a n c, .int .i64 mo, .int .i64 bu, .int .i64 st, .bool fi, .int .i64 at', .slice q m d, .int .i64 ti, .int .i64 pa, .int .i64 tr, .int .i64 li]) (x en : Nat) (hx : x < en) (he : en ≤ n) (hn9 : n ≤ 65536) : Calls Try.prog 62 #[.pointer (some ⟨gv, 0, none⟩), .int .i64 (x : Int), .int .i64 (en : Int)] w fun e w' => ∃ a4 c4, e = .returned (.agg (xPie id x ((L.drop x).take (en - x)) a4 c4).arr) ∧ Ans w' w.heap.size a4 ((L.drop x).take (en - x)).length c4 ((L.drop x).take (en - x)) ∧ w.grownBy w' none := by
  obtain ⟨ga, go, rfl⟩ : ∃ ga go, a = some ⟨ga, go, none⟩ := by
    obtain ⟨b, off, e, _⟩ := hL.at' (by omega)
    exact ⟨b, off, e⟩
  have hle := hL.le
  have hm := hL.mid hx he
  have hDl : en - x = ((L.drop x).take (en - x)).length := by rw [List.length_take, List.length_drop, hL.len]; omega
  have hD0 : 0 < ((L.drop x).take (en - x)).length := by omega
  have hDb : ((L.drop x).take (en - x)).length ≤ 65536 := by omega
  generalize (L.drop x).take (en - x) = D at hm hDl hD0 hDb ⊢
  have i10 := Try.info_nt
  have b2 := BxS.new w 27 #[.int .i64 0, .int .i64 0, .string ⟨#[]⟩, .int .i64 0, .int .i64 0, .int .i64 0, .slice none 0 0, .slice none 0 0, .int .i64 0, .int .i64 0]
  have y2 := World.grownBy_alloc w (.cells #[.int .i64 0, .int .i64 0, .string ⟨#[]⟩, .int .i64 0, .int .i64 0, .int .i64 0, .slice none 0 0, .slice none 0 0, .int .i64 0, .int .i64 0] 27) none
  generalize hw1 : w.alloc (.cells #[.int .i64 0, .int .i64 0, .string ⟨#[]⟩, .int .i64 0, .int .i64 0, .int .i64 0, .slice none 0 0, .slice none 0 0, .int .i64 0, .int .i64 0] 27) = w1 at b2 y2
  have bv1 := bv.keep y2 (by simp)
  go_enter Try.func62, Try.ntmps62
  refine wp_seq_k fun K1 hK1 => ?_
  have HK1 : Hid _ := hK1
  clear hK1
  go_wp2
  refine HK1.out _ _ ?_
  clear HK1
  clear hw1
  refine wp_seq_k fun K2 hK2 => ?_
  have HK2 : Hid _ := hK2
  clear hK2
  have Gd := grown_drew w1 none
  have SS : BxS w1.drew gv 92 #[.int .i64 id, .string nm, .slice (some ⟨ga, go, none⟩) n c, .int .i64 mo, .int .i64 bu, .int .i64 st, .bool fi, .int .i64 at', .slice q m d, .int .i64 ti, .int .i64 pa, .int .i64 tr, .int .i64 li] := bv1.keep Gd (by simp)
  have b2d := b2.keep Gd (by simp)
  refine wp_regionL (fun wz => BxS wz gv 92 #[.int .i64 id, .string nm, .slice (some ⟨ga, go, none⟩) n c, .int .i64 mo, .int .i64 bu, .int .i64 st, .bool fi, .int .i64 at', .slice q m d, .int .i64 ti, .int .i64 pa, .int .i64 tr, .int .i64 li]) [] #[false, false, false, false, false, false, false, false, false, false, false, false, false, false, false, false, false] rfl (by kernel_rfl) ?_
  refine wpAnyZ_take [] 0 (.pointer (some ⟨gv, 0, none⟩)) rfl (by kernel_rfl) (fun _ _ _ h => h) SS rfl (by intro wz hz; go_simp) ?_
  try simp only [List.getElem_toArray, List.getElem_cons_succ, List.getElem_cons_zero, Act.put, List.setIfInBounds_toArray, List.set_cons_zero, List.set_cons_succ]
  refine wpAnyZ_take [] 1 (.pointer (some ⟨gv, 0, none⟩)) rfl (by kernel_rfl) (fun _ _ _ h => h) SS rfl (by intro wz hz; go_simp) ?_
  try simp only [List.getElem_toArray, List.getElem_cons_succ, List.getElem_cons_zero, Act.put, List.setIfInBounds_toArray, List.set_cons_zero, List.set_cons_succ]
  refine wpAnyZ_take [] 2 (.pointer (some ⟨gv, 0, none⟩)) rfl (by kernel_rfl) (fun _ _ _ h => h) SS rfl (by intro wz hz; go_simp) ?_
  try simp only [List.getElem_toArray, List.getElem_cons_succ, List.getElem_cons_zero, Act.put, List.setIfInBounds_toArray, List.set_cons_zero, List.set_cons_succ]
  refine wpAnyZ_take [] 3 (.pointer (some ⟨gv, 0, none⟩)) rfl (by kernel_rfl) (fun _ _ _ h => h) SS rfl (by intro wz hz; go_simp) ?_
  try simp only [List.getElem_toArray, List.getElem_cons_succ, List.getElem_cons_zero, Act.put, List.setIfInBounds_toArray, List.set_cons_zero, List.set_cons_succ]
  refine wpAnyZ_take [] 4 (.int .i64 id) rfl (by kernel_rfl) (fun _ _ _ h => h) SS rfl (by intro wz hz; have z : wz.cell? ⟨gv, 0, none⟩ = some (.int .i64 id) := hz.cell 0 (by show 0 < 13; decide); go_simp) ?_
  try simp only [List.getElem_toArray, List.getElem_cons_succ, List.getElem_cons_zero, Act.put, List.setIfInBounds_toArray, List.set_cons_zero, List.set_cons_succ]
  refine wpAnyZ_take [] 5 (.int .i64 (x : Int)) rfl (by kernel_rfl) (fun _ _ _ h => h) SS rfl (by intro wz hz; go_simp) ?_
  try simp only [List.getElem_toArray, List.getElem_cons_succ, List.getElem_cons_zero, Act.put, List.setIfInBounds_toArray, List.set_cons_zero, List.set_cons_succ]
  refine wpAnyZ_take [] 6 (.pointer (some ⟨gv, 0, none⟩)) rfl (by kernel_rfl) (fun _ _ _ h => h) SS rfl (by intro wz hz; go_simp) ?_
  try simp only [List.getElem_toArray, List.getElem_cons_succ, List.getElem_cons_zero, Act.put, List.setIfInBounds_toArray, List.set_cons_zero, List.set_cons_succ]
  refine wpAnyZ_take [] 7 (.pointer (some ⟨gv, 0, none⟩)) rfl (by kernel_rfl) (fun _ _ _ h => h) SS rfl (by intro wz hz; go_simp) ?_
  try simp only [List.getElem_toArray, List.getElem_cons_succ, List.getElem_cons_zero, Act.put, List.setIfInBounds_toArray, List.set_cons_zero, List.set_cons_succ]
  refine wpAnyZ_take [] 8 (.pointer (some ⟨gv, 0, none⟩)) rfl (by kernel_rfl) (fun _ _ _ h => h) SS rfl (by intro wz hz; go_simp) ?_
  try simp only [List.getElem_toArray, List.getElem_cons_succ, List.getElem_cons_zero, Act.put, List.setIfInBounds_toArray, List.set_cons_zero, List.set_cons_succ]
  refine wpAnyZ_take [] 9 (.pointer (some ⟨gv, 2, none⟩)) rfl (by kernel_rfl) (fun _ _ _ h => h) SS rfl (by intro wz hz; go_simp) ?_
  try simp only [List.getElem_toArray, List.getElem_cons_succ, List.getElem_cons_zero, Act.put, List.setIfInBounds_toArray, List.set_cons_zero, List.set_cons_succ]
  refine wpAnyZ_take [] 10 (.slice (some ⟨ga, go, none⟩) n c) rfl (by kernel_rfl) (fun _ _ _ h => h) SS rfl (by intro wz hz; have z : wz.cell? ⟨gv, 2, none⟩ = some (.slice (some ⟨ga, go, none⟩) n c) := hz.cell 2 (by show 2 < 13; decide); go_simp) ?_
  try simp only [List.getElem_toArray, List.getElem_cons_succ, List.getElem_cons_zero, Act.put, List.setIfInBounds_toArray, List.set_cons_zero, List.set_cons_succ]
  refine wpAnyZ_take [] 11 (.int .i64 (x : Int)) rfl (by kernel_rfl) (fun _ _ _ h => h) SS rfl (by intro wz hz; go_simp) ?_
  try simp only [List.getElem_toArray, List.getElem_cons_succ, List.getElem_cons_zero, Act.put, List.setIfInBounds_toArray, List.set_cons_zero, List.set_cons_succ]
  refine wpAnyZ_take [] 12 (.int .i64 (en : Int)) rfl (by kernel_rfl) (fun _ _ _ h => h) SS rfl (by intro wz hz; go_simp) ?_
  try simp only [List.getElem_toArray, List.getElem_cons_succ, List.getElem_cons_zero, Act.put, List.setIfInBounds_toArray, List.set_cons_zero, List.set_cons_succ]
  have k1 : ¬ c = x := by omega
  have k2 : (x : Int) ≤ (en : Int) := by omega
  have k3 : (en : Int) ≤ (c : Int) := by omega
  have k4 : x ≤ en := by omega
  have k5 : en ≤ c := by omega
  refine wpAnyZ_take [] 13 (.slice (some ⟨ga, go + x, none⟩) D.length (c - x)) rfl (by kernel_rfl) (fun _ _ _ h => h) SS rfl (by intro wz hz; go_simp) ?_
  try simp only [List.getElem_toArray, List.getElem_cons_succ, List.getElem_cons_zero, Act.put, List.setIfInBounds_toArray, List.set_cons_zero, List.set_cons_succ]
  clear k1 k2 k3 k4 k5
  generalize w1.drew = w2 at *
  refine wpAnyZ_oneB 14 rfl (by kernel_rfl) (fun KK hKK => ?_)
  have zs := y2.size
  have zd := Gd.size
  refine step_joinP rfl _ _ rfl none 0 0 w2.heap.size [] rfl (Ans.nil _ _) (Nat.le_refl _) ⟨ga, go + x, none⟩ D.length (c - x) D rfl ((hm.keep y2).keep Gd) hD0 (by omega) ?_
  intro a4 c4 w4 hA4 y4
  rw [Nat.zero_add, List.nil_append] at hA4
  have y4 : w2.grownBy w4 none := y4
  rw [Nat.zero_add]
  have SS4 := SS.keep y4 (by simp)
  refine hKK _ _ (fun _ => SS4) ?_
  try simp only [List.getElem_toArray, List.getElem_cons_succ, List.getElem_cons_zero, Act.put, List.setIfInBounds_toArray, List.set_cons_zero, List.set_cons_succ]
  have b24 := b2d.keep y4 (by simp)
  refine wpAnyZ_take [] 15 (.agg #[.int .i64 2, .int .i64 id, .string ⟨#[]⟩, .int .i64 0, .int .i64 0, .int .i64 (x : Int), .slice a4 D.length c4, .slice none 0 0, .int .i64 0, .int .i64 0]) rfl (by kernel_rfl) (fun _ _ _ h => h) SS4 rfl (by intro wz hz; go_simp) ?_
  try simp only [List.getElem_toArray, List.getElem_cons_succ, List.getElem_cons_zero, Act.put, List.setIfInBounds_toArray, List.set_cons_zero, List.set_cons_succ]
  refine wpAnyZ_oneB 16 rfl (by kernel_rfl) (fun KK hKK => ?_)
  refine step_stX _ rfl _ _ _ rfl w.heap.size _ _ rfl rfl b24 i10 rfl (by simp [Value.oneCell']) ?_
  intro w3 b23 u3
  refine hKK _ _ (fun _ => SS4.keep u3 (fun e => BxS.apart SS4 b24 (by decide) (Option.some.inj e))) ?_
  try simp only [List.getElem_toArray, List.getElem_cons_succ, List.getElem_cons_zero, Act.put, List.setIfInBounds_toArray, List.set_cons_zero, List.set_cons_succ]
  refine wpAnyZ_doneB (by kernel_rfl) ?_ _
  refine HK2.out _ _ ?_
  clear HK2
  go_wp2
  refine bodyPost_ret (results_cellN rfl _ _ _ ⟨w.heap.size, 0, none⟩ _ rfl (BxS.load (t := 27) b23 Try.underlying27 i10)) rfl ?_
  exact ⟨a4, c4, rfl, (hA4.kRR u3 (fun z e e2 => by have e := Option.some.inj e; subst e; exact own_ty hA4.own b24 (by decide) e2)).wide (by omega), grown_far (grown_trans (grown_trans y2 Gd) y4) u3 (fun z e => by have e := Option.some.inj e; omega)⟩
end
end Go.Proofs.Ytnimehkfnpepfaa
