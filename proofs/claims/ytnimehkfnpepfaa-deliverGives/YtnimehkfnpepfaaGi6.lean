import Derived.Test.YtnimehkfnpepfaaGi5
import Derived.Test.YtnimehkfnpepfaaGi4
import Derived.Test.YtnimehkfnpepfaaGi3
namespace Go.Proofs.Ytnimehkfnpepfaa
open Go.RowKit
set_option maxRecDepth 100000
set_option linter.unusedVariables false
set_option linter.unusedSimpArgs false

section
/-- a giver at work; wB: the world when the call began -/
structure GW (wB w : World) (gw : Nat) (id : Int) (nm : ByteArray) (mo bu st : Int) (fi : Bool) (at' ti pa tr li : Int) (a : Option Addr) (n c : Nat) (L : List Nat) (q : Option Addr) (m d : Nat) (G : List (Int × Int)) (na : Option Addr) (nn nc : Nat) (xs : List Nx) : Prop where
  bx : BxS w gw 100 #[.int .i64 id, .string nm, .slice a n c, .int .i64 mo, .int .i64 bu, .int .i64 st, .bool fi, .int .i64 at', .slice q m d, .int .i64 ti, .int .i64 pa, .int .i64 tr, .int .i64 li, .slice na nn nc]
  A : Ans w wB.heap.size a n c L
  O : OwGi w wB.heap.size q m d G
  N : OwN w wB.heap.size na nn nc xs
  gl : wB.heap.size ≤ gw
  sA : ∀ z, (Value.slice a n c).ownBlock = some z → ¬ Nbl na nn nc xs z
  sO : ∀ z, (Value.slice q m d).ownBlock = some z → ¬ Nbl na nn nc xs z
  g : wB.grownBy w none
theorem two_nx (x : Nx) (y : Int) : (x.arr).set! 1 (.int .i64 y) = ({ x with id := y } : Nx).arr := rfl
theorem Try.info_nt3 : (Try.prog.info? 27).map (fun i => (i.zero, i.size, i.bytes)) = some (some (.agg #[.int .i64 0, .int .i64 0, .string ⟨#[]⟩, .int .i64 0, .int .i64 0, .int .i64 0, .slice none 0 0, .slice none 0 0, .int .i64 0, .int .i64 0]), 10, 120) := by kernel_rfl
theorem ld_execD {w : World} {o : Oper} {a : Act} {t : TypeId} {p : Operand} {g : Nat} {cs : Array Value} (hop : o.op = Op.load t p) (hp : a.eval p = .pointer (some ⟨g, 0, none⟩)) (h : BxS w g t cs) {fs : Array Field} (hu : Try.prog.underlying t = some (.struct fs)) (hi : (Try.prog.info? t).map (·.size) = some cs.size) : (execOp a.eval o).run Try.prog w = .ok (.value (.agg cs)) w := by
  have hld : (Instr.loadAt t (.pointer (some ⟨g, 0, none⟩))).run Try.prog w = .ok (.agg cs) w := by
    simp only [Instr.loadAt, Instr.sureAddr, Sem.run_bind, Sem.run_pure, Result.andThen]
    exact h.load hu hi
  simp [execOp, hop, hp, hld, Result.andThen]
theorem stc_slN (g i : Nat) (p : Option Addr) (l c : Nat) (w : World) (hc : ∃ u, w.cell? ⟨g, i, none⟩ = some u) (hf : w.frozen? ⟨g, i, none⟩ = false) : (Instr.storeAt 54 (.pointer (some ⟨g, i, none⟩)) (.slice p l c)).run Try.prog w = .ok () (w.setCell ⟨g, i, none⟩ (.slice p l c)) := by
  obtain ⟨u, hc⟩ := hc
  simp [go_sem, hc, hf]
theorem own_bxS {w : World} {t : TypeId} {k n : Nat} {v : Value} {ys : List Value} (h : w.ownsRow 0 t k v n ys) {g : Nat} (e : v.ownBlock = some g) : ∃ cs, BxS w g t cs := by
  rcases h.2 with ⟨h1, _⟩ | ⟨g', cap', cur, h1, _, h3, _⟩
  · rw [h1] at e; cases e
  · rw [h1] at e
    have e : g' = g := Option.some.inj e
    subst e
    exact ⟨cur, h3⟩
theorem Ans.kRR {w w' : World} {lo : Nat} {a : Option Addr} {n c : Nat} {L : List Nat} {r : Option Nat} (h : Ans w lo a n c L) (hg : w.grownBy w' r) (hr : ∀ z, r = some z → (Value.slice a n c).ownBlock ≠ some z) : Ans w' lo a n c L :=
  h.kept hg (by
    cases hz : (Value.slice a n c).ownBlock with
    | none => exact .inl rfl
    | some z => exact .inr (fun e => hr z e.symm hz))
theorem BxS.newsA {w : World} {g : Nat} {t : TypeId} {A : Array Value} (h : BxS w g t A) : ∀ j u, A.toList[j]? = some u → w.cell? ((⟨g, 0, none⟩ : Addr).add j) = some u := by
  intro j u hu
  have hj : j < A.size := by have := (List.getElem?_eq_some_iff.1 hu).1; rwa [Array.length_toList] at this
  rw [addr_add, Nat.zero_add]
  have := h.cell j hj
  rw [this]
  rw [List.getElem?_eq_getElem (by rw [Array.length_toList]; exact hj)] at hu
  rw [← Option.some.inj hu]
  simp

set_option maxHeartbeats 16000000 in
/-- a note goes -/
theorem send_any (wB w : World) (gw : Nat) (id : Int) (nm : ByteArray) (mo bu st : Int) (fi : Bool) (at' ti pa tr li : Int) (a : Option Addr) (n c : Nat) (L : List Nat) (q : Option Addr) (m d : Nat) (G : List (Int × Int)) (na : Option Addr) (nn nc : Nat) (xs : List Nx) (h : GW wB w gw id nm mo bu st fi at' ti pa tr li a n c L q m d G na nn nc xs) (x : Nx) (hxA : Ans w wB.heap.size x.a x.da.length x.c x.da) (hxO : OwGi w wB.heap.size x.q x.ga.length x.d x.ga) (hn : nn ≤ 100000)
    (h1 : ∀ z, ((Value.slice x.a x.da.length x.c).ownBlock = some z ∨ (Value.slice x.q x.ga.length x.d).ownBlock = some z) → ¬ Nbl na nn nc xs z ∧ (Value.slice a n c).ownBlock ≠ some z ∧ (Value.slice q m d).ownBlock ≠ some z) :
    Calls Try.prog 97 #[.pointer (some ⟨gw, 0, none⟩), .agg x.arr] w fun e w' => e = .returned (.tuple #[]) ∧ (∃ na' nc', GW wB w' gw id nm mo bu st fi at' ti pa tr li a n c L q m d G na' (nn + 1) nc' (xs ++ [{ x with id := id }])) ∧ ∀ g9 t9 cs9, BxS w g9 t9 cs9 → g9 ≠ gw → (Value.slice na nn nc).ownBlock ≠ some g9 → BxS w' g9 t9 cs9 := by
  have b0 := BxS.new w 27 x.arr
  have g0 := World.grownBy_alloc w (.cells x.arr 27) none
  have i10 := Try.info_nt
  obtain ⟨i0, hi, hz0, hz1, hz2⟩ := info_parts Try.info_nt3
  generalize hw0 : w.alloc (.cells x.arr 27) = w0 at b0 g0
  have bw := h.bx.keep g0 (by simp)
  have lw := h.bx.lt
  have x0 : w0.cell? ⟨gw, 0, none⟩ = some (.int .i64 id) := bw.cell 0 (by show 0 < 14; decide)
  have x1 : w0.cell? ⟨w.heap.size, 1, none⟩ = some (.int .i64 x.id) := b0.cell 1 (by show 1 < 10; decide)
  have f1 := b0.free 1
  have b1 := b0.set 1 (.int .i64 id)
  have u1 := grown_set w0 w.heap.size 1 (.int .i64 id)
  rw [two_nx] at b1
  generalize hw1 : w0.setCell ⟨w.heap.size, 1, none⟩ (.int .i64 id) = w1 at b1 u1
  have bw1 := bw.keep u1 (fun e => by have e := Option.some.inj e; omega)
  have hg1 : w.grownBy w1 none := grown_far g0 u1 (fun q e => by have e := Option.some.inj e; omega)
  go_enter Try.func97, Try.ntmps97
  refine wp_seq_k fun K1 hK1 => ?_
  have HK1 : Hid _ := hK1
  clear hK1
  go_wp2
  refine HK1.out _ _ ?_
  clear HK1
  refine wp_seq_k fun K2 hK2 => ?_
  have HK2 : Hid _ := hK2
  clear hK2
  go_wp2
  clear x0 x1 f1
  refine HK2.out _ _ ?_
  clear HK2
  obtain ⟨xx, hxx⟩ : ∃ xx : Nx, xx = { x with id := id } := ⟨_, rfl⟩
  rw [← hxx] at b1 ⊢
  have HXX : Hid _ := hxx
  clear hxx
  have Gd := grown_drew w1 none
  have SS : BxS w1.drew gw 100 #[.int .i64 id, .string nm, .slice a n c, .int .i64 mo, .int .i64 bu, .int .i64 st, .bool fi, .int .i64 at', .slice q m d, .int .i64 ti, .int .i64 pa, .int .i64 tr, .int .i64 li, .slice na nn nc] ∧ BxS w1.drew w.heap.size 27 xx.arr := ⟨bw1.keep Gd (by simp), b1.keep Gd (by simp)⟩
  have G2 := grown_trans hg1 Gd
  refine wp_regionL (fun wz => BxS wz gw 100 #[.int .i64 id, .string nm, .slice a n c, .int .i64 mo, .int .i64 bu, .int .i64 st, .bool fi, .int .i64 at', .slice q m d, .int .i64 ti, .int .i64 pa, .int .i64 tr, .int .i64 li, .slice na nn nc] ∧ BxS wz w.heap.size 27 xx.arr) [10] #[false, false, false, false, false, false, false, false, false, false, false] rfl (by kernel_rfl) ?_
  refine wpAnyZ_take [10] 0 (.pointer (some ⟨gw, 0, none⟩)) rfl (by kernel_rfl) (fun _ _ _ h => h) SS rfl (by intro wz hz; go_simp) ?_
  try simp only [List.getElem_toArray, List.getElem_cons_succ, List.getElem_cons_zero, Act.put, List.setIfInBounds_toArray, List.set_cons_zero, List.set_cons_succ]
  refine wpAnyZ_take [10] 1 (.pointer (some ⟨gw, 0, none⟩)) rfl (by kernel_rfl) (fun _ _ _ h => h) SS rfl (by intro wz hz; go_simp) ?_
  try simp only [List.getElem_toArray, List.getElem_cons_succ, List.getElem_cons_zero, Act.put, List.setIfInBounds_toArray, List.set_cons_zero, List.set_cons_succ]
  refine wpAnyZ_take [10] 2 (.pointer (some ⟨gw, 0, none⟩)) rfl (by kernel_rfl) (fun _ _ _ h => h) SS rfl (by intro wz hz; go_simp) ?_
  try simp only [List.getElem_toArray, List.getElem_cons_succ, List.getElem_cons_zero, Act.put, List.setIfInBounds_toArray, List.set_cons_zero, List.set_cons_succ]
  refine wpAnyZ_take [10] 3 (.pointer (some ⟨gw, 13, none⟩)) rfl (by kernel_rfl) (fun _ _ _ h => h) SS rfl (by intro wz hz; go_simp) ?_
  try simp only [List.getElem_toArray, List.getElem_cons_succ, List.getElem_cons_zero, Act.put, List.setIfInBounds_toArray, List.set_cons_zero, List.set_cons_succ]
  refine wpAnyZ_take [10] 4 (.slice na nn nc) rfl (by kernel_rfl) (fun _ _ _ h => h) SS rfl (by rintro wz ⟨hz, hz2⟩; have z : wz.cell? ⟨gw, 13, none⟩ = some (.slice na nn nc) := hz.cell 13 (by show 13 < 14; decide); go_simp) ?_
  try simp only [List.getElem_toArray, List.getElem_cons_succ, List.getElem_cons_zero, Act.put, List.setIfInBounds_toArray, List.set_cons_zero, List.set_cons_succ]
  refine wpAnyZ_take [10] 5 (.agg xx.arr) rfl (by kernel_rfl) (fun _ _ _ h => h) SS rfl (by rintro wz ⟨hz, hz2⟩; exact ld_execD rfl rfl hz2 Try.underlying27 i10) ?_
  try simp only [List.getElem_toArray, List.getElem_cons_succ, List.getElem_cons_zero, Act.put, List.setIfInBounds_toArray, List.set_cons_zero, List.set_cons_succ]
  generalize w1.drew = w2 at *
  have bA := BxS.new w2 27 xx.arr
  have yA := World.grownBy_alloc w2 (.cells xx.arr 27) none
  refine wpAnyZ_oneB 6 rfl (by kernel_rfl) (fun KK hKK => ?_)
  have harr : xx.arr = #[.int .i64 xx.kd, .int .i64 xx.id, .string xx.nm, .int .i64 xx.si, .int .i64 xx.su, .int .i64 xx.at', .slice xx.a xx.da.length xx.c, .slice xx.q xx.ga.length xx.d, .int .i64 xx.o, .int .i64 xx.co] := rfl
  rw [harr]
  go_simp
  rw [← harr]
  have S3 : BxS (w2.alloc (.cells xx.arr 27)) gw 100 #[.int .i64 id, .string nm, .slice a n c, .int .i64 mo, .int .i64 bu, .int .i64 st, .bool fi, .int .i64 at', .slice q m d, .int .i64 ti, .int .i64 pa, .int .i64 tr, .int .i64 li, .slice na nn nc] ∧ BxS (w2.alloc (.cells xx.arr 27)) w.heap.size 27 xx.arr := ⟨SS.1.keep yA (by simp), SS.2.keep yA (by simp)⟩
  refine hKK _ _ (fun _ => S3) ?_
  try simp only [List.getElem_toArray, List.getElem_cons_succ, List.getElem_cons_zero, Act.put, List.setIfInBounds_toArray, List.set_cons_zero, List.set_cons_succ]
  have G3 := grown_trans G2 yA
  have z2 := G2.size
  have l2 := SS.2.lt
  generalize w2.alloc (.cells xx.arr 27) = w3 at *
  have hN3 := h.N.keep G3
  refine wpAnyZ_oneB 7 rfl (by kernel_rfl) (fun KK hKK => ?_)
  refine step_apS w3 rfl _ _ 54 27 i0 _ 10 120 Try.underlying54 hi hz0 hz1 hz2 rfl (by decide) rfl (.slice na nn nc) nn (flN xs) rfl hN3.own ⟨w2.heap.size, 0, none⟩ 1 1 xx.cells rfl rfl bA.newsA (by intro u hu; simp only [Nx.cells, Nx.arr, List.mem_cons, List.not_mem_nil, or_false] at hu; rcases hu with rfl | rfl | rfl | rfl | rfl | rfl | rfl | rfl | rfl | rfl <;> rfl) (by decide) (by unfold maxLen; omega) (by omega) ?_
  intro gx cx w4 hor u4 hO4
  have hr4 : ∀ z, (Value.slice na nn nc).ownBlock = some z → wB.heap.size ≤ z ∧ z < w.heap.size := fun z e => ⟨h.N.new z e, h.N.lt (.inl e)⟩
  have S4 : BxS w4 gw 100 #[.int .i64 id, .string nm, .slice a n c, .int .i64 mo, .int .i64 bu, .int .i64 st, .bool fi, .int .i64 at', .slice q m d, .int .i64 ti, .int .i64 pa, .int .i64 tr, .int .i64 li, .slice na nn nc] ∧ BxS w4 w.heap.size 27 xx.arr := ⟨S3.1.keep u4 (fun e => own_ty hN3.own S3.1 (by decide) e.symm), S3.2.keep u4 (fun e => by have := hr4 _ e.symm; omega)⟩
  refine hKK _ _ (fun _ => S4) ?_
  try simp only [List.getElem_toArray, List.getElem_cons_succ, List.getElem_cons_zero, Act.put, List.setIfInBounds_toArray, List.set_cons_zero, List.set_cons_succ]
  refine wpAnyZ_take [9, 10] 8 (.pointer (some ⟨gw, 0, none⟩)) rfl (by kernel_rfl) (fun _ _ _ h => h) S4 rfl (by intro wz hz; go_simp) ?_
  try simp only [List.getElem_toArray, List.getElem_cons_succ, List.getElem_cons_zero, Act.put, List.setIfInBounds_toArray, List.set_cons_zero, List.set_cons_succ]
  refine wpAnyZ_take [10] 9 (.pointer (some ⟨gw, 13, none⟩)) rfl (by kernel_rfl) (fun _ _ _ h => h) S4 rfl (by intro wz hz; go_simp) ?_
  try simp only [List.getElem_toArray, List.getElem_cons_succ, List.getElem_cons_zero, Act.put, List.setIfInBounds_toArray, List.set_cons_zero, List.set_cons_succ]
  refine wpAnyZ_oneB 10 rfl (by kernel_rfl) (fun KK hKK => ?_)
  refine step_stCd _ rfl _ _ _ rfl gw 13 100 _ #[.int .i64 id, .string nm, .slice a n c, .int .i64 mo, .int .i64 bu, .int .i64 st, .bool fi, .int .i64 at', .slice q m d, .int .i64 ti, .int .i64 pa, .int .i64 tr, .int .i64 li, .slice (some ⟨gx, 0, none⟩) (nn + 1) cx] (.slice (some ⟨gx, 0, none⟩) (nn + 1) cx) rfl rfl S4.1 (fun w' h1 h2 => stc_slN _ _ _ _ _ _ h1 h2) (by show 13 < 14; decide) rfl ?_
  intro w5 b5 u5
  refine hKK _ _ (fun h => absurd (by decide) h) ?_
  try simp only [List.getElem_toArray, List.getElem_cons_succ, List.getElem_cons_zero, Act.put, List.setIfInBounds_toArray, List.set_cons_zero, List.set_cons_succ]
  refine wpAnyZ_doneB (by kernel_rfl) ?_ _
  have zB := h.g.size
  have hgx : (Value.slice na nn nc).ownBlock = some gx ∨ w.heap.size ≤ gx := by
    rcases hor with e | e
    · exact .inl e
    · exact .inr (by have := G3.size; omega)
  have hbl : ∀ z, Nbl (some ⟨gx, 0, none⟩) (nn + 1) cx (xs ++ [xx]) z → (gx = z) ∨ Nbl na nn nc xs z ∨ ((Value.slice xx.a xx.da.length xx.c).ownBlock = some z ∨ (Value.slice xx.q xx.ga.length xx.d).ownBlock = some z) := by
    intro z hz
    rcases hz with e | ⟨y, hy, e⟩
    · exact .inl (Option.some.inj e)
    · rcases List.mem_append.1 hy with hy | hy
      · exact .inr (.inl (.inr ⟨y, hy, e⟩))
      · rw [List.mem_singleton.1 hy] at e; exact .inr (.inr e)
  have hxA' : Ans w wB.heap.size xx.a xx.da.length xx.c xx.da := by rw [HXX.out]; exact hxA
  have hxO' : OwGi w wB.heap.size xx.q xx.ga.length xx.d xx.ga := by rw [HXX.out]; exact hxO
  have h1' : ∀ z, ((Value.slice xx.a xx.da.length xx.c).ownBlock = some z ∨ (Value.slice xx.q xx.ga.length xx.d).ownBlock = some z) → ¬ Nbl na nn nc xs z ∧ (Value.slice a n c).ownBlock ≠ some z ∧ (Value.slice q m d).ownBlock ≠ some z := by rw [HXX.out]; exact h1
  have hrow : ∀ z, (Value.slice na nn nc).ownBlock = some z → ∃ cs, BxS w3 z 27 cs := fun z e => own_bxS hN3.own e
  have hO4' := hO4
  rw [← flN_add] at hO4'
  have kA : ∀ (a9 : Option Addr) (n9 c9 : Nat) (L9 : List Nat), Ans w wB.heap.size a9 n9 c9 L9 → Ans w5 wB.heap.size a9 n9 c9 L9 := by
    intro a9 n9 c9 L9 h9
    have h3 := h9.keep G3
    refine (h3.kRR u4 (fun z e e2 => ?_)).kRR u5 (fun z e e2 => ?_)
    · obtain ⟨cs, hb⟩ := hrow z e
      exact own_ty h3.own hb (by decide) e2
    · have e := Option.some.inj e
      subst e
      exact own_ty h3.own S3.1 (by decide) e2
  have kO : ∀ (a9 : Option Addr) (n9 c9 : Nat) (L9 : List (Int × Int)), OwGi w wB.heap.size a9 n9 c9 L9 → OwGi w5 wB.heap.size a9 n9 c9 L9 := by
    intro a9 n9 c9 L9 h9
    have h3 := h9.keep G3
    refine (h3.kR u4 (fun z e e2 => ?_)).kR u5 (fun z e e2 => ?_)
    · obtain ⟨cs, hb⟩ := hrow z e
      exact own_ty h3.own hb (by decide) e2
    · have e := Option.some.inj e
      subst e
      exact own_ty h3.own S3.1 (by decide) e2
  have hN5 : OwN w5 wB.heap.size (some ⟨gx, 0, none⟩) (nn + 1) cx (xs ++ [xx]) := by
    refine ⟨hO4'.kept u5 (.inr (fun e => own_ty hO4' S4.1 (by decide) e)), by rw [List.length_append, h.N.len]; rfl, fun g e => ?_, fun y hy => ?_, fun y hy => ?_, ?_, ?_⟩
    · have e : gx = g := Option.some.inj e
      subst e
      rcases hgx with e | e
      · exact h.N.new _ e
      · omega
    · rcases List.mem_append.1 hy with hy | hy
      · exact kA _ _ _ _ (h.N.eA y hy)
      · rw [List.mem_singleton.1 hy]; exact kA _ _ _ _ hxA'
    · rcases List.mem_append.1 hy with hy | hy
      · exact kO _ _ _ _ (h.N.eO y hy)
      · rw [List.mem_singleton.1 hy]; exact kO _ _ _ _ hxO'
    · refine List.pairwise_append.2 ⟨h.N.pA, List.pairwise_singleton _ _, fun y hy z hz g e e2 => ?_⟩
      rw [List.mem_singleton.1 hz] at e2
      exact (h1' g (.inl e2)).1 (.inr ⟨y, hy, .inl e⟩)
    · refine List.pairwise_append.2 ⟨h.N.pO, List.pairwise_singleton _ _, fun y hy z hz g e e2 => ?_⟩
      rw [List.mem_singleton.1 hz] at e2
      exact (h1' g (.inr e2)).1 (.inr ⟨y, hy, .inr e⟩)
  have kS : ∀ z, z < w.heap.size → ¬ Nbl na nn nc xs z → ¬ ((Value.slice xx.a xx.da.length xx.c).ownBlock = some z ∨ (Value.slice xx.q xx.ga.length xx.d).ownBlock = some z) → ¬ Nbl (some ⟨gx, 0, none⟩) (nn + 1) cx (xs ++ [xx]) z := by
    intro z hz hn1 hn2 hb
    rcases hbl z hb with e | e | e
    · subst e
      rcases hgx with e | e
      · exact hn1 (.inl e)
      · omega
    · exact hn1 e
    · exact hn2 e
  have fin : ∃ na' nc', GW wB w5 gw id nm mo bu st fi at' ti pa tr li a n c L q m d G na' (nn + 1) nc' (xs ++ [xx]) :=
    ⟨_, _, b5, kA _ _ _ _ h.A, kO _ _ _ _ h.O, hN5, h.gl, (fun z e => kS z (own_ltN h.A.own e) (h.sA z e) (fun e2 => (h1' z e2).2.1 e)), (fun z e => kS z (own_ltN h.O.own e) (h.sO z e) (fun e2 => (h1' z e2).2.2 e)), grown_far (grown_far (grown_trans h.g G3) u4 (fun z e => (hr4 z e).1)) u5 (fun z e => by have e := Option.some.inj e; have := h.gl; omega)⟩

  first | go_end0 | refine bodyPost_ret (results_none rfl _ _ _) rfl ?_
  exact ⟨rfl, fin, fun g9 t9 cs9 hb9 hn9 hr9 => ((hb9.keep G3 (by simp)).keep u4 (fun e => hr9 e.symm)).keep u5 (fun e => hn9 (Option.some.inj e))⟩
end

section
/-- boxes of givers lie as they lay -/
def KpT (w w' : World) : Prop := ∀ g cs, BxS w g 44 cs → BxS w' g 44 cs
theorem KpT.none {w w' : World} (u : w.grownBy w' none) : KpT w w' := fun g cs hb => hb.keep u (by simp)
theorem KpT.trans {u v w : World} (h : KpT u v) (k : KpT v w) : KpT u w := fun g cs hb => k g cs (h g cs hb)
theorem KpT.bx {w w' : World} {g : Nat} {t : TypeId} {cs : Array Value} (b : BxS w g t cs) (ht : 44 ≠ t) (u : w.grownBy w' (some g)) : KpT w w' := fun g9 cs9 hb => hb.keep u (fun e => BxS.apart hb b ht (Option.some.inj e))
/-- a giver's own numbers are written -/
theorem GW.set {wB w w' : World} {gw : Nat} {id : Int} {nm : ByteArray} {mo bu st : Int} {fi : Bool} {at' ti pa tr li : Int} {a : Option Addr} {n c : Nat} {L : List Nat} {q : Option Addr} {m d : Nat} {G : List (Int × Int)} {na : Option Addr} {nn nc : Nat} {xs : List Nx} (h : GW wB w gw id nm mo bu st fi at' ti pa tr li a n c L q m d G na nn nc xs) (u : w.grownBy w' (some gw)) {st2 : Int} {fi2 : Bool} {at2 ti2 tr2 : Int} (b : BxS w' gw 100 #[.int .i64 id, .string nm, .slice a n c, .int .i64 mo, .int .i64 bu, .int .i64 st2, .bool fi2, .int .i64 at2, .slice q m d, .int .i64 ti2, .int .i64 pa, .int .i64 tr2, .int .i64 li, .slice na nn nc]) :
    GW wB w' gw id nm mo bu st2 fi2 at2 ti2 pa tr2 li a n c L q m d G na nn nc xs :=
  ⟨b, h.A.kRR u (fun z e e2 => by have e := Option.some.inj e; subst e; exact own_ty h.A.own h.bx (by decide) e2), h.O.bx h.bx (by decide) u, h.N.bx h.bx (by decide) (by decide) (by decide) u, h.gl, h.sA, h.sO, grown_far h.g u (fun z e => by have e := Option.some.inj e; have := h.gl; omega)⟩
end

section
/-- one more that has to go once more -/
theorem giF_push (G : List (Int × Int)) (p : Int × Int) (j : Nat) (h : G.length = j) : flG (giF (G ++ [p])) (j + 1) = flG (giF G) j ++ [.int .i64 p.1, .int .i64 p.2] := by
  have e := flG_app G (fun _ => p) j h 1
  have t : tabG (fun _ => p) 1 = [p] := rfl
  rw [t] at e
  rw [e]
  rfl
end

section
theorem GW.keepN {wB w w' : World} {gw : Nat} {id : Int} {nm : ByteArray} {mo bu st : Int} {fi : Bool} {at' ti pa tr li : Int} {a : Option Addr} {n c : Nat} {L : List Nat} {q : Option Addr} {m d : Nat} {G : List (Int × Int)} {na : Option Addr} {nn nc : Nat} {xs : List Nx} (h : GW wB w gw id nm mo bu st fi at' ti pa tr li a n c L q m d G na nn nc xs) (u : w.grownBy w' none) : GW wB w' gw id nm mo bu st fi at' ti pa tr li a n c L q m d G na nn nc xs :=
  ⟨h.bx.keep u (by simp), h.A.keep u, h.O.keep u, h.N.keep u, h.gl, h.sA, h.sO, grown_trans h.g u⟩
end

section
/-- the sum of bytes in groups of four -/
def smT (D : List Nat) : Nat → Nat
  | 0 => 0
  | k + 1 => smT D k + nth D k * 2 ^ (24 - 8 * (k % 4))
set_option maxHeartbeats 8000000 in
theorem dsum_any (a : Option Addr) (n c : Nat) (D : List Nat) (w : World) (hD : Rd w a n c D) :
    Calls Try.prog 19 #[.slice a n c] w fun e w' => e = .returned (.int .i64 (smT D n % 4294967296 : Nat)) ∧ w' = w := by
  have hmx := hD.max
  have hle := hD.le
  unfold maxLen at hmx
  go_enter Try.func19, Try.ntmps19
  go_wp2
  go_loopw [3, 8] (fun sv iv wr => ∃ k : Nat, k ≤ n ∧ iv = .int .i64 k ∧ sv = .int .u32 (smT D k % 4294967296 : Nat) ∧ Hid (wr = w)) (fun _ iv _ => n - (intOf iv).toNat)
  case atStart => exact ⟨0, Nat.zero_le _, rfl, rfl, rfl⟩
  case round =>
    obtain ⟨k, hk, rfl, rfl, hwr⟩ := hrel
    have hwr := hwr.out
    subst hwr
    by_cases hlt : k < n
    · obtain ⟨b, off, rfl, hb, hc⟩ := hD.at' (by omega)
      have ck := hc k hlt
      have lk : (k : Int) < (n : Int) := by omega
      have hv := hD.byte.nth k
      have hr : k % 4 = 0 ∨ k % 4 = 1 ∨ k % 4 = 2 ∨ k % 4 = 3 := by omega
      rcases hr with hr | hr | hr | hr
      · have e4 : (k : Int) % 4 = 0 := by omega
        have e5 : (k : Int).tmod 4 = 0 := by rw [Int.tmod_eq_emod_of_nonneg (by omega)]; omega
        have hs : smT D (k + 1) = smT D k + nth D k * 16777216 := by show _ + _ * 2 ^ (24 - 8 * (k % 4)) = _; rw [hr]
        have HS : Hid _ := hs
        clear hs
        go_wp2
        go_roundw
        case rel => exact ⟨k + 1, by omega, by go_num, by rw [HS.out]; congr 1 <;> omega, (by first | exact rfl | exact trivial)⟩
        case measure => simp [intOf] <;> omega
      · have e4 : (k : Int) % 4 = 1 := by omega
        have e5 : (k : Int).tmod 4 = 1 := by rw [Int.tmod_eq_emod_of_nonneg (by omega)]; omega
        have hs : smT D (k + 1) = smT D k + nth D k * 65536 := by show _ + _ * 2 ^ (24 - 8 * (k % 4)) = _; rw [hr]
        have HS : Hid _ := hs
        clear hs
        go_wp2
        go_roundw
        case rel => exact ⟨k + 1, by omega, by go_num, by rw [HS.out]; congr 1 <;> omega, (by first | exact rfl | exact trivial)⟩
        case measure => simp [intOf] <;> omega
      · have e4 : (k : Int) % 4 = 2 := by omega
        have e5 : (k : Int).tmod 4 = 2 := by rw [Int.tmod_eq_emod_of_nonneg (by omega)]; omega
        have hs : smT D (k + 1) = smT D k + nth D k * 256 := by show _ + _ * 2 ^ (24 - 8 * (k % 4)) = _; rw [hr]
        have HS : Hid _ := hs
        clear hs
        go_wp2
        go_roundw
        case rel => exact ⟨k + 1, by omega, by go_num, by rw [HS.out]; congr 1 <;> omega, (by first | exact rfl | exact trivial)⟩
        case measure => simp [intOf] <;> omega
      · have e4 : (k : Int) % 4 = 3 := by omega
        have e5 : (k : Int).tmod 4 = 3 := by rw [Int.tmod_eq_emod_of_nonneg (by omega)]; omega
        have hs : smT D (k + 1) = smT D k + nth D k * 1 := by show _ + _ * 2 ^ (24 - 8 * (k % 4)) = _; rw [hr]
        have HS : Hid _ := hs
        clear hs
        go_wp2
        go_roundw
        case rel => exact ⟨k + 1, by omega, by go_num, by rw [HS.out]; congr 1 <;> omega, (by first | exact rfl | exact trivial)⟩
        case measure => simp [intOf] <;> omega
    · obtain rfl : k = n := by omega
      have lk : ¬ (k : Int) < (k : Int) := by omega
      go_wp2
      go_ret
      exact ⟨rfl, rfl⟩
theorem and_32z (z : Int) : bits .and .i64 z 4294967295 = z % 4294967296 := by
  show IntKind.i64.wrap ((BitVec.ofInt 64 z &&& BitVec.ofInt 64 4294967295).toNat : Int) = _
  have e1 : ((BitVec.ofInt 64 z).toNat : Int) = z % 18446744073709551616 := by rw [BitVec.toNat_ofInt]; omega
  have e2 : (BitVec.ofInt 64 4294967295).toNat = 4294967295 := by decide
  rw [BitVec.toNat_and, e2, show (4294967295 : Nat) = 2 ^ 32 - 1 by decide, Nat.and_two_pow_sub_one_eq_mod]
  rw [wrap_i64_in _ (by omega) (by omega)]
  omega
set_option maxHeartbeats 8000000 in
theorem fsum_any (a : Option Addr) (n c : Nat) (D : List Nat) (w : World) (hD : Rd w a n c D) :
    Calls Try.prog 20 #[.slice a n c] w fun e w' => e = .returned (.int .i64 (smT D n % 4294967296 : Nat)) ∧ w' = w := by
  have hmx := hD.max
  have hle := hD.le
  unfold maxLen at hmx
  go_enter Try.func20, Try.ntmps20
  go_wp2
  go_loopw [3, 4] (fun sv iv wr => ∃ k : Nat, k ≤ n ∧ iv = .int .i64 k ∧ (∃ z : Int, sv = .int .i64 z ∧ z % 4294967296 = (smT D k : Int) % 4294967296) ∧ Hid (wr = w)) (fun _ iv _ => n - (intOf iv).toNat)
  case atStart => exact ⟨0, Nat.zero_le _, rfl, ⟨0, rfl, rfl⟩, rfl⟩
  case round =>
    obtain ⟨k, hk, rfl, ⟨z, rfl, hz⟩, hwr⟩ := hrel
    have HZ : Hid _ := hz
    clear hz
    have hwr := hwr.out
    subst hwr
    by_cases hlt : k < n
    · obtain ⟨b, off, rfl, hb, hc⟩ := hD.at' (by omega)
      have ck := hc k hlt
      have lk : (k : Int) < (n : Int) := by omega
      have hv := hD.byte.nth k
      have hr : k % 4 = 0 ∨ k % 4 = 1 ∨ k % 4 = 2 ∨ k % 4 = 3 := by omega
      rcases hr with hr | hr | hr | hr
      · have e4 : (k : Int) % 4 = 0 := by omega
        have e5 : (k : Int).tmod 4 = 0 := by rw [Int.tmod_eq_emod_of_nonneg (by omega)]; omega
        have hs : smT D (k + 1) = smT D k + nth D k * 16777216 := by show _ + _ * 2 ^ (24 - 8 * (k % 4)) = _; rw [hr]
        have HS : Hid _ := hs
        clear hs
        go_wp2
        go_roundw
        case rel => exact ⟨k + 1, by omega, by go_num, ⟨_, rfl, by rw [HS.out]; have h9 := HZ.out; first | omega | (simp only [wrap64]; omega) | (trace_state; omega)⟩, (by first | exact rfl | exact trivial)⟩
        case measure => simp [intOf] <;> omega
      · have e4 : (k : Int) % 4 = 1 := by omega
        have e5 : (k : Int).tmod 4 = 1 := by rw [Int.tmod_eq_emod_of_nonneg (by omega)]; omega
        have hs : smT D (k + 1) = smT D k + nth D k * 65536 := by show _ + _ * 2 ^ (24 - 8 * (k % 4)) = _; rw [hr]
        have HS : Hid _ := hs
        clear hs
        go_wp2
        go_roundw
        case rel => exact ⟨k + 1, by omega, by go_num, ⟨_, rfl, by rw [HS.out]; have h9 := HZ.out; first | omega | (simp only [wrap64]; omega) | (trace_state; omega)⟩, (by first | exact rfl | exact trivial)⟩
        case measure => simp [intOf] <;> omega
      · have e4 : (k : Int) % 4 = 2 := by omega
        have e5 : (k : Int).tmod 4 = 2 := by rw [Int.tmod_eq_emod_of_nonneg (by omega)]; omega
        have hs : smT D (k + 1) = smT D k + nth D k * 256 := by show _ + _ * 2 ^ (24 - 8 * (k % 4)) = _; rw [hr]
        have HS : Hid _ := hs
        clear hs
        go_wp2
        go_roundw
        case rel => exact ⟨k + 1, by omega, by go_num, ⟨_, rfl, by rw [HS.out]; have h9 := HZ.out; first | omega | (simp only [wrap64]; omega) | (trace_state; omega)⟩, (by first | exact rfl | exact trivial)⟩
        case measure => simp [intOf] <;> omega
      · have e4 : (k : Int) % 4 = 3 := by omega
        have e5 : (k : Int).tmod 4 = 3 := by rw [Int.tmod_eq_emod_of_nonneg (by omega)]; omega
        have hs : smT D (k + 1) = smT D k + nth D k * 1 := by show _ + _ * 2 ^ (24 - 8 * (k % 4)) = _; rw [hr]
        have HS : Hid _ := hs
        clear hs
        go_wp2
        go_roundw
        case rel => exact ⟨k + 1, by omega, by go_num, ⟨_, rfl, by rw [HS.out]; have h9 := HZ.out; first | omega | (simp only [wrap64]; omega) | (trace_state; omega)⟩, (by first | exact rfl | exact trivial)⟩
        case measure => simp [intOf] <;> omega
    · obtain rfl : k = n := by omega
      have lk : ¬ (k : Int) < (k : Int) := by omega
      have ham := and_32z z
      go_wp2
      go_ret
      refine ⟨?_, rfl⟩
      rw [← HZ.out]
      rfl
end
end Go.Proofs.Ytnimehkfnpepfaa
