import Derived.Test.YtnimehkfnpepfaaTk14
import Derived.Test.YtnimehkfnpepfaaTk8
import Derived.Test.YtnimehkfnpepfaaTk4
import Derived.Test.YtnimehkfnpepfaaTk7
import Derived.Test.YtnimehkfnpepfaaTk9
import Derived.Test.YtnimehkfnpepfaaTk6
import Derived.Test.YtnimehkfnpepfaaTk10
namespace Go.Proofs.Ytnimehkfnpepfaa
open Go.RowKit
set_option maxRecDepth 100000
set_option linter.unusedVariables false
set_option linter.unusedSimpArgs false

section
/-- a taker at work; wB: the world when the call began -/
structure TKW (wB w : World) (gw : Nat) (id : Int) (kn : Bool) (nm : ByteArray) (si : Int) (en : Bool) (la su : Int) (st ti pa tr li : Int) (a : Option Addr) (n c : Nat) (L : List Nat) (q : Option Addr) (m d : Nat) (G : List (Int × Int)) (na : Option Addr) (nn nc : Nat) (xs : List Nx) : Prop where
  bx : BxS w gw 112 #[.int .i64 id, .bool kn, .string nm, .int .i64 si, .bool en, .int .i64 la, .int .i64 su, .slice q m d, .slice a n c, .int .i64 st, .int .i64 ti, .int .i64 pa, .int .i64 tr, .int .i64 li, .slice na nn nc]
  A : Ans w wB.heap.size a n c L
  O : OwGi w wB.heap.size q m d G
  N : OwN w wB.heap.size na nn nc xs
  gl : wB.heap.size ≤ gw
  sA : ∀ z, (Value.slice a n c).ownBlock = some z → ¬ Nbl na nn nc xs z
  sO : ∀ z, (Value.slice q m d).ownBlock = some z → ¬ Nbl na nn nc xs z
  g : wB.grownBy w none

set_option maxHeartbeats 16000000 in
/-- a note goes -/
theorem tsend_any (wB w : World) (gw : Nat) (id : Int) (kn : Bool) (nm : ByteArray) (si : Int) (en : Bool) (la su : Int) (st ti pa tr li : Int) (a : Option Addr) (n c : Nat) (L : List Nat) (q : Option Addr) (m d : Nat) (G : List (Int × Int)) (na : Option Addr) (nn nc : Nat) (xs : List Nx) (h : TKW wB w gw id kn nm si en la su st ti pa tr li a n c L q m d G na nn nc xs) (x : Nx) (hxA : Ans w wB.heap.size x.a x.da.length x.c x.da) (hxO : OwGi w wB.heap.size x.q x.ga.length x.d x.ga) (hn : nn ≤ 100000)
    (h1 : ∀ z, ((Value.slice x.a x.da.length x.c).ownBlock = some z ∨ (Value.slice x.q x.ga.length x.d).ownBlock = some z) → ¬ Nbl na nn nc xs z ∧ (Value.slice a n c).ownBlock ≠ some z ∧ (Value.slice q m d).ownBlock ≠ some z) :
    Calls Try.prog 121 #[.pointer (some ⟨gw, 0, none⟩), .agg x.arr] w fun e w' => e = .returned (.tuple #[]) ∧ (∃ na' nc', TKW wB w' gw id kn nm si en la su st ti pa tr li a n c L q m d G na' (nn + 1) nc' (xs ++ [{ x with id := id }])) ∧ ∀ g9 t9 cs9, BxS w g9 t9 cs9 → g9 ≠ gw → (Value.slice na nn nc).ownBlock ≠ some g9 → BxS w' g9 t9 cs9 := by
  have b0 := BxS.new w 27 x.arr
  have g0 := World.grownBy_alloc w (.cells x.arr 27) none
  have i10 := Try.info_nt
  obtain ⟨i0, hi, hz0, hz1, hz2⟩ := info_parts Try.info_nt3
  generalize hw0 : w.alloc (.cells x.arr 27) = w0 at b0 g0
  have bw := h.bx.keep g0 (by simp)
  have lw := h.bx.lt
  have x0 : w0.cell? ⟨gw, 0, none⟩ = some (.int .i64 id) := bw.cell 0 (by show 0 < 15; decide)
  have x1 : w0.cell? ⟨w.heap.size, 1, none⟩ = some (.int .i64 x.id) := b0.cell 1 (by show 1 < 10; decide)
  have f1 := b0.free 1
  have b1 := b0.set 1 (.int .i64 id)
  have u1 := grown_set w0 w.heap.size 1 (.int .i64 id)
  rw [two_nx] at b1
  generalize hw1 : w0.setCell ⟨w.heap.size, 1, none⟩ (.int .i64 id) = w1 at b1 u1
  have bw1 := bw.keep u1 (fun e => by have e := Option.some.inj e; omega)
  have hg1 : w.grownBy w1 none := grown_far g0 u1 (fun q e => by have e := Option.some.inj e; omega)
  go_enter Try.func121, Try.ntmps121
  refine wp_seq_k fun K1 hK1 => ?_
  have HK1 : Hid _ := hK1
  clear hK1
  go_wp2
  refine HK1.out _ _ ?_
  clear HK1
  refine wp_seq_k fun K2 hK2 => ?_
  have HK2 : Hid _ := hK2
  clear hK2
  go_wp2
  clear x0 x1 f1
  refine HK2.out _ _ ?_
  clear HK2
  obtain ⟨xx, hxx⟩ : ∃ xx : Nx, xx = { x with id := id } := ⟨_, rfl⟩
  rw [← hxx] at b1 ⊢
  have HXX : Hid _ := hxx
  clear hxx
  have Gd := grown_drew w1 none
  have SS : BxS w1.drew gw 112 #[.int .i64 id, .bool kn, .string nm, .int .i64 si, .bool en, .int .i64 la, .int .i64 su, .slice q m d, .slice a n c, .int .i64 st, .int .i64 ti, .int .i64 pa, .int .i64 tr, .int .i64 li, .slice na nn nc] ∧ BxS w1.drew w.heap.size 27 xx.arr := ⟨bw1.keep Gd (by simp), b1.keep Gd (by simp)⟩
  have G2 := grown_trans hg1 Gd
  refine wp_regionL (fun wz => BxS wz gw 112 #[.int .i64 id, .bool kn, .string nm, .int .i64 si, .bool en, .int .i64 la, .int .i64 su, .slice q m d, .slice a n c, .int .i64 st, .int .i64 ti, .int .i64 pa, .int .i64 tr, .int .i64 li, .slice na nn nc] ∧ BxS wz w.heap.size 27 xx.arr) [10] #[false, false, false, false, false, false, false, false, false, false, false] rfl (by kernel_rfl) ?_
  refine wpAnyZ_take [10] 0 (.pointer (some ⟨gw, 0, none⟩)) rfl (by kernel_rfl) (fun _ _ _ h => h) SS rfl (by intro wz hz; go_simp) ?_
  try simp only [List.getElem_toArray, List.getElem_cons_succ, List.getElem_cons_zero, Act.put, List.setIfInBounds_toArray, List.set_cons_zero, List.set_cons_succ]
  refine wpAnyZ_take [10] 1 (.pointer (some ⟨gw, 0, none⟩)) rfl (by kernel_rfl) (fun _ _ _ h => h) SS rfl (by intro wz hz; go_simp) ?_
  try simp only [List.getElem_toArray, List.getElem_cons_succ, List.getElem_cons_zero, Act.put, List.setIfInBounds_toArray, List.set_cons_zero, List.set_cons_succ]
  refine wpAnyZ_take [10] 2 (.pointer (some ⟨gw, 0, none⟩)) rfl (by kernel_rfl) (fun _ _ _ h => h) SS rfl (by intro wz hz; go_simp) ?_
  try simp only [List.getElem_toArray, List.getElem_cons_succ, List.getElem_cons_zero, Act.put, List.setIfInBounds_toArray, List.set_cons_zero, List.set_cons_succ]
  refine wpAnyZ_take [10] 3 (.pointer (some ⟨gw, 14, none⟩)) rfl (by kernel_rfl) (fun _ _ _ h => h) SS rfl (by intro wz hz; go_simp) ?_
  try simp only [List.getElem_toArray, List.getElem_cons_succ, List.getElem_cons_zero, Act.put, List.setIfInBounds_toArray, List.set_cons_zero, List.set_cons_succ]
  refine wpAnyZ_take [10] 4 (.slice na nn nc) rfl (by kernel_rfl) (fun _ _ _ h => h) SS rfl (by rintro wz ⟨hz, hz2⟩; have z : wz.cell? ⟨gw, 14, none⟩ = some (.slice na nn nc) := hz.cell 14 (by show 14 < 15; decide); go_simp) ?_
  try simp only [List.getElem_toArray, List.getElem_cons_succ, List.getElem_cons_zero, Act.put, List.setIfInBounds_toArray, List.set_cons_zero, List.set_cons_succ]
  refine wpAnyZ_take [10] 5 (.agg xx.arr) rfl (by kernel_rfl) (fun _ _ _ h => h) SS rfl (by rintro wz ⟨hz, hz2⟩; exact ld_execD rfl rfl hz2 Try.underlying27 i10) ?_
  try simp only [List.getElem_toArray, List.getElem_cons_succ, List.getElem_cons_zero, Act.put, List.setIfInBounds_toArray, List.set_cons_zero, List.set_cons_succ]
  generalize w1.drew = w2 at *
  have bA := BxS.new w2 27 xx.arr
  have yA := World.grownBy_alloc w2 (.cells xx.arr 27) none
  refine wpAnyZ_oneB 6 rfl (by kernel_rfl) (fun KK hKK => ?_)
  have harr : xx.arr = #[.int .i64 xx.kd, .int .i64 xx.id, .string xx.nm, .int .i64 xx.si, .int .i64 xx.su, .int .i64 xx.at', .slice xx.a xx.da.length xx.c, .slice xx.q xx.ga.length xx.d, .int .i64 xx.o, .int .i64 xx.co] := rfl
  rw [harr]
  go_simp
  rw [← harr]
  have S3 : BxS (w2.alloc (.cells xx.arr 27)) gw 112 #[.int .i64 id, .bool kn, .string nm, .int .i64 si, .bool en, .int .i64 la, .int .i64 su, .slice q m d, .slice a n c, .int .i64 st, .int .i64 ti, .int .i64 pa, .int .i64 tr, .int .i64 li, .slice na nn nc] ∧ BxS (w2.alloc (.cells xx.arr 27)) w.heap.size 27 xx.arr := ⟨SS.1.keep yA (by simp), SS.2.keep yA (by simp)⟩
  refine hKK _ _ (fun _ => S3) ?_
  try simp only [List.getElem_toArray, List.getElem_cons_succ, List.getElem_cons_zero, Act.put, List.setIfInBounds_toArray, List.set_cons_zero, List.set_cons_succ]
  have G3 := grown_trans G2 yA
  have z2 := G2.size
  have l2 := SS.2.lt
  generalize w2.alloc (.cells xx.arr 27) = w3 at *
  have hN3 := h.N.keep G3
  refine wpAnyZ_oneB 7 rfl (by kernel_rfl) (fun KK hKK => ?_)
  refine step_apS w3 rfl _ _ 54 27 i0 _ 10 120 Try.underlying54 hi hz0 hz1 hz2 rfl (by decide) rfl (.slice na nn nc) nn (flN xs) rfl hN3.own ⟨w2.heap.size, 0, none⟩ 1 1 xx.cells rfl rfl bA.newsA (by intro u hu; simp only [Nx.cells, Nx.arr, List.mem_cons, List.not_mem_nil, or_false] at hu; rcases hu with rfl | rfl | rfl | rfl | rfl | rfl | rfl | rfl | rfl | rfl <;> rfl) (by decide) (by unfold maxLen; omega) (by omega) ?_
  intro gx cx w4 hor u4 hO4
  have hr4 : ∀ z, (Value.slice na nn nc).ownBlock = some z → wB.heap.size ≤ z ∧ z < w.heap.size := fun z e => ⟨h.N.new z e, h.N.lt (.inl e)⟩
  have S4 : BxS w4 gw 112 #[.int .i64 id, .bool kn, .string nm, .int .i64 si, .bool en, .int .i64 la, .int .i64 su, .slice q m d, .slice a n c, .int .i64 st, .int .i64 ti, .int .i64 pa, .int .i64 tr, .int .i64 li, .slice na nn nc] ∧ BxS w4 w.heap.size 27 xx.arr := ⟨S3.1.keep u4 (fun e => own_ty hN3.own S3.1 (by decide) e.symm), S3.2.keep u4 (fun e => by have := hr4 _ e.symm; omega)⟩
  refine hKK _ _ (fun _ => S4) ?_
  try simp only [List.getElem_toArray, List.getElem_cons_succ, List.getElem_cons_zero, Act.put, List.setIfInBounds_toArray, List.set_cons_zero, List.set_cons_succ]
  refine wpAnyZ_take [9, 10] 8 (.pointer (some ⟨gw, 0, none⟩)) rfl (by kernel_rfl) (fun _ _ _ h => h) S4 rfl (by intro wz hz; go_simp) ?_
  try simp only [List.getElem_toArray, List.getElem_cons_succ, List.getElem_cons_zero, Act.put, List.setIfInBounds_toArray, List.set_cons_zero, List.set_cons_succ]
  refine wpAnyZ_take [10] 9 (.pointer (some ⟨gw, 14, none⟩)) rfl (by kernel_rfl) (fun _ _ _ h => h) S4 rfl (by intro wz hz; go_simp) ?_
  try simp only [List.getElem_toArray, List.getElem_cons_succ, List.getElem_cons_zero, Act.put, List.setIfInBounds_toArray, List.set_cons_zero, List.set_cons_succ]
  refine wpAnyZ_oneB 10 rfl (by kernel_rfl) (fun KK hKK => ?_)
  refine step_stCd _ rfl _ _ _ rfl gw 14 112 _ #[.int .i64 id, .bool kn, .string nm, .int .i64 si, .bool en, .int .i64 la, .int .i64 su, .slice q m d, .slice a n c, .int .i64 st, .int .i64 ti, .int .i64 pa, .int .i64 tr, .int .i64 li, .slice (some ⟨gx, 0, none⟩) (nn + 1) cx] (.slice (some ⟨gx, 0, none⟩) (nn + 1) cx) rfl rfl S4.1 (fun w' h1 h2 => stc_slN _ _ _ _ _ _ h1 h2) (by show 14 < 15; decide) rfl ?_
  intro w5 b5 u5
  refine hKK _ _ (fun h => absurd (by decide) h) ?_
  try simp only [List.getElem_toArray, List.getElem_cons_succ, List.getElem_cons_zero, Act.put, List.setIfInBounds_toArray, List.set_cons_zero, List.set_cons_succ]
  refine wpAnyZ_doneB (by kernel_rfl) ?_ _
  have zB := h.g.size
  have hgx : (Value.slice na nn nc).ownBlock = some gx ∨ w.heap.size ≤ gx := by
    rcases hor with e | e
    · exact .inl e
    · exact .inr (by have := G3.size; omega)
  have hbl : ∀ z, Nbl (some ⟨gx, 0, none⟩) (nn + 1) cx (xs ++ [xx]) z → (gx = z) ∨ Nbl na nn nc xs z ∨ ((Value.slice xx.a xx.da.length xx.c).ownBlock = some z ∨ (Value.slice xx.q xx.ga.length xx.d).ownBlock = some z) := by
    intro z hz
    rcases hz with e | ⟨y, hy, e⟩
    · exact .inl (Option.some.inj e)
    · rcases List.mem_append.1 hy with hy | hy
      · exact .inr (.inl (.inr ⟨y, hy, e⟩))
      · rw [List.mem_singleton.1 hy] at e; exact .inr (.inr e)
  have hxA' : Ans w wB.heap.size xx.a xx.da.length xx.c xx.da := by rw [HXX.out]; exact hxA
  have hxO' : OwGi w wB.heap.size xx.q xx.ga.length xx.d xx.ga := by rw [HXX.out]; exact hxO
  have h1' : ∀ z, ((Value.slice xx.a xx.da.length xx.c).ownBlock = some z ∨ (Value.slice xx.q xx.ga.length xx.d).ownBlock = some z) → ¬ Nbl na nn nc xs z ∧ (Value.slice a n c).ownBlock ≠ some z ∧ (Value.slice q m d).ownBlock ≠ some z := by rw [HXX.out]; exact h1
  have hrow : ∀ z, (Value.slice na nn nc).ownBlock = some z → ∃ cs, BxS w3 z 27 cs := fun z e => own_bxS hN3.own e
  have hO4' := hO4
  rw [← flN_add] at hO4'
  have kA : ∀ (a9 : Option Addr) (n9 c9 : Nat) (L9 : List Nat), Ans w wB.heap.size a9 n9 c9 L9 → Ans w5 wB.heap.size a9 n9 c9 L9 := by
    intro a9 n9 c9 L9 h9
    have h3 := h9.keep G3
    refine (h3.kRR u4 (fun z e e2 => ?_)).kRR u5 (fun z e e2 => ?_)
    · obtain ⟨cs, hb⟩ := hrow z e
      exact own_ty h3.own hb (by decide) e2
    · have e := Option.some.inj e
      subst e
      exact own_ty h3.own S3.1 (by decide) e2
  have kO : ∀ (a9 : Option Addr) (n9 c9 : Nat) (L9 : List (Int × Int)), OwGi w wB.heap.size a9 n9 c9 L9 → OwGi w5 wB.heap.size a9 n9 c9 L9 := by
    intro a9 n9 c9 L9 h9
    have h3 := h9.keep G3
    refine (h3.kR u4 (fun z e e2 => ?_)).kR u5 (fun z e e2 => ?_)
    · obtain ⟨cs, hb⟩ := hrow z e
      exact own_ty h3.own hb (by decide) e2
    · have e := Option.some.inj e
      subst e
      exact own_ty h3.own S3.1 (by decide) e2
  have hN5 : OwN w5 wB.heap.size (some ⟨gx, 0, none⟩) (nn + 1) cx (xs ++ [xx]) := by
    refine ⟨hO4'.kept u5 (.inr (fun e => own_ty hO4' S4.1 (by decide) e)), by rw [List.length_append, h.N.len]; rfl, fun g e => ?_, fun y hy => ?_, fun y hy => ?_, ?_, ?_⟩
    · have e : gx = g := Option.some.inj e
      subst e
      rcases hgx with e | e
      · exact h.N.new _ e
      · omega
    · rcases List.mem_append.1 hy with hy | hy
      · exact kA _ _ _ _ (h.N.eA y hy)
      · rw [List.mem_singleton.1 hy]; exact kA _ _ _ _ hxA'
    · rcases List.mem_append.1 hy with hy | hy
      · exact kO _ _ _ _ (h.N.eO y hy)
      · rw [List.mem_singleton.1 hy]; exact kO _ _ _ _ hxO'
    · refine List.pairwise_append.2 ⟨h.N.pA, List.pairwise_singleton _ _, fun y hy z hz g e e2 => ?_⟩
      rw [List.mem_singleton.1 hz] at e2
      exact (h1' g (.inl e2)).1 (.inr ⟨y, hy, .inl e⟩)
    · refine List.pairwise_append.2 ⟨h.N.pO, List.pairwise_singleton _ _, fun y hy z hz g e e2 => ?_⟩
      rw [List.mem_singleton.1 hz] at e2
      exact (h1' g (.inr e2)).1 (.inr ⟨y, hy, .inr e⟩)
  have kS : ∀ z, z < w.heap.size → ¬ Nbl na nn nc xs z → ¬ ((Value.slice xx.a xx.da.length xx.c).ownBlock = some z ∨ (Value.slice xx.q xx.ga.length xx.d).ownBlock = some z) → ¬ Nbl (some ⟨gx, 0, none⟩) (nn + 1) cx (xs ++ [xx]) z := by
    intro z hz hn1 hn2 hb
    rcases hbl z hb with e | e | e
    · subst e
      rcases hgx with e | e
      · exact hn1 (.inl e)
      · omega
    · exact hn1 e
    · exact hn2 e
  have fin : ∃ na' nc', TKW wB w5 gw id kn nm si en la su st ti pa tr li a n c L q m d G na' (nn + 1) nc' (xs ++ [xx]) :=
    ⟨_, _, b5, kA _ _ _ _ h.A, kO _ _ _ _ h.O, hN5, h.gl, (fun z e => kS z (own_ltN h.A.own e) (h.sA z e) (fun e2 => (h1' z e2).2.1 e)), (fun z e => kS z (own_ltN h.O.own e) (h.sO z e) (fun e2 => (h1' z e2).2.2 e)), grown_far (grown_far (grown_trans h.g G3) u4 (fun z e => (hr4 z e).1)) u5 (fun z e => by have e := Option.some.inj e; have := h.gl; omega)⟩

  first | go_end0 | refine bodyPost_ret (results_none rfl _ _ _) rfl ?_
  exact ⟨rfl, fin, fun g9 t9 cs9 hb9 hn9 hr9 => ((hb9.keep G3 (by simp)).keep u4 (fun e => hr9 e.symm)).keep u5 (fun e => hn9 (Option.some.inj e))⟩

/-- boxes of takers lie as they lay -/
def KpK (w w' : World) : Prop := ∀ g cs, BxS w g 48 cs → BxS w' g 48 cs
theorem KpK.none {w w' : World} (u : w.grownBy w' none) : KpK w w' := fun g cs hb => hb.keep u (by simp)
theorem KpK.trans {u v w : World} (h : KpK u v) (k : KpK v w) : KpK u w := fun g cs hb => k g cs (h g cs hb)
theorem KpK.bx {w w' : World} {g : Nat} {t : TypeId} {cs : Array Value} (b : BxS w g t cs) (ht : 48 ≠ t) (u : w.grownBy w' (some g)) : KpK w w' := fun g9 cs9 hb => hb.keep u (fun e => BxS.apart hb b ht (Option.some.inj e))
theorem TKW.set {wB w w' : World} {gw : Nat} {id : Int} {kn : Bool} {nm : ByteArray} {si : Int} {en : Bool} {la su : Int} {st ti pa tr li : Int} {a : Option Addr} {n c : Nat} {L : List Nat} {q : Option Addr} {m d : Nat} {G : List (Int × Int)} {na : Option Addr} {nn nc : Nat} {xs : List Nx} (h : TKW wB w gw id kn nm si en la su st ti pa tr li a n c L q m d G na nn nc xs) (u : w.grownBy w' (some gw)) {kn2 : Bool} {nm2 : ByteArray} {si2 : Int} {en2 : Bool} {la2 su2 st2 ti2 tr2 : Int} (b : BxS w' gw 112 #[.int .i64 id, .bool kn2, .string nm2, .int .i64 si2, .bool en2, .int .i64 la2, .int .i64 su2, .slice q m d, .slice a n c, .int .i64 st2, .int .i64 ti2, .int .i64 pa, .int .i64 tr2, .int .i64 li, .slice na nn nc]) :
    TKW wB w' gw id kn2 nm2 si2 en2 la2 su2 st2 ti2 pa tr2 li a n c L q m d G na nn nc xs :=
  ⟨b, h.A.kRR u (fun z e e2 => by have e := Option.some.inj e; subst e; exact own_ty h.A.own h.bx (by decide) e2), h.O.bx h.bx (by decide) u, h.N.bx h.bx (by decide) (by decide) (by decide) u, h.gl, h.sA, h.sO, grown_far h.g u (fun z e => by have e := Option.some.inj e; have := h.gl; omega)⟩
theorem TKW.keepN {wB w w' : World} {gw : Nat} {id : Int} {kn : Bool} {nm : ByteArray} {si : Int} {en : Bool} {la su : Int} {st ti pa tr li : Int} {a : Option Addr} {n c : Nat} {L : List Nat} {q : Option Addr} {m d : Nat} {G : List (Int × Int)} {na : Option Addr} {nn nc : Nat} {xs : List Nx} (h : TKW wB w gw id kn nm si en la su st ti pa tr li a n c L q m d G na nn nc xs) (u : w.grownBy w' none) : TKW wB w' gw id kn nm si en la su st ti pa tr li a n c L q m d G na nn nc xs :=
  ⟨h.bx.keep u (by simp), h.A.keep u, h.O.keep u, h.N.keep u, h.gl, h.sA, h.sO, grown_trans h.g u⟩
/-- other boxes lie as they lay -/
def FrK (gw : Nat) (na : Option Addr) (nn nc : Nat) (w w' : World) : Prop := ∀ g9 t9 cs9, BxS w g9 t9 cs9 → g9 ≠ gw → (Value.slice na nn nc).ownBlock ≠ some g9 → BxS w' g9 t9 cs9
theorem FrK.kp {wB w w' : World} {gw : Nat} {id : Int} {kn : Bool} {nm : ByteArray} {si : Int} {en : Bool} {la su : Int} {st ti pa tr li : Int} {a : Option Addr} {n c : Nat} {L : List Nat} {q : Option Addr} {m d : Nat} {G : List (Int × Int)} {na : Option Addr} {nn nc : Nat} {xs : List Nx} (h : TKW wB w gw id kn nm si en la su st ti pa tr li a n c L q m d G na nn nc xs) (f : FrK gw na nn nc w w') : KpK w w' :=
  fun g9 cs9 hb9 => f g9 _ cs9 hb9 (fun e => by subst e; exact BxS.apart hb9 h.bx (by decide) rfl) (fun e => own_ty h.N.own hb9 (by decide) e)
end

section
/-- the end of the span before this (the document's 'end') -/
def edN (F : Nat → Int × Int) (k : Nat) : Int := if k = 0 then -1 else (F (k - 1)).2
/-- do spans rise? (the document's loop) -/
def reB (F : Nat → Int × Int) : Nat → Bool
  | 0 => true
  | k + 1 => reB F k && decide (0 ≤ (F k).1 ∧ edN F k < (F k).1 ∧ (F k).1 < (F k).2)
theorem reB_no {F : Nat → Int × Int} {k : Nat} (h : ¬ (0 ≤ (F k).1 ∧ edN F k < (F k).1 ∧ (F k).1 < (F k).2)) : ∀ n, k < n → reB F n = false := by
  intro n
  induction n with
  | zero => intro h; omega
  | succ n ih =>
    intro hk
    show (reB F n && _) = false
    by_cases e : k = n
    · subst e; rw [decide_eq_false h, Bool.and_false]
    · rw [ih (by omega), Bool.false_and]
theorem reB_rise {F : Nat → Int × Int} : ∀ n, reB F n = true ↔ Rise F n := by
  intro n
  induction n with
  | zero => exact ⟨fun _ j hj => by omega, fun _ => rfl⟩
  | succ n ih =>
    show (reB F n && decide (0 ≤ (F n).1 ∧ edN F n < (F n).1 ∧ (F n).1 < (F n).2)) = true ↔ _
    rw [Bool.and_eq_true, decide_eq_true_eq, ih]
    constructor
    · rintro ⟨h1, h2, h3, h4⟩ j hj
      by_cases e : j = n
      · subst e
        refine ⟨h2, h4, fun h0 => ?_⟩
        unfold edN at h3
        rw [if_neg (by omega)] at h3
        exact h3
      · exact h1 j (by omega)
    · intro h
      obtain ⟨k1, k2, k3⟩ := h n (by omega)
      refine ⟨rise_pre h, k1, ?_, k2⟩
      unfold edN
      by_cases e : n = 0
      · rw [if_pos e]; omega
      · rw [if_neg e]; exact k3 (by omega)
theorem rise_end {F : Nat → Int × Int} {n : Nat} (h : Rise F n) : ∀ d j, j + d < n → (F j).2 ≤ (F (j + d)).2 := by
  intro d
  induction d with
  | zero => intro j _; exact Int.le_refl _
  | succ d ih =>
    intro j hj
    have a := ih j (by omega)
    obtain ⟨k1, k2, k3⟩ := h (j + (d + 1)) hj
    have k3 : (F (j + d)).2 < _ := k3 (by omega)
    omega
theorem rise_rc {F : Nat → Int × Int} {n : Nat} (h : Rise F n) : 0 ≤ rcN F n ∧ ∀ j, j < n → (F j).2 ≤ rcN F n := by
  unfold rcN
  by_cases e : n = 0
  · rw [if_pos e]; exact ⟨Int.le_refl _, fun j hj => by omega⟩
  · rw [if_neg e]
    refine ⟨by have := h (n - 1) (by omega); omega, fun j hj => ?_⟩
    have := rise_end h (n - 1 - j) j (by omega)
    rw [show j + (n - 1 - j) = n - 1 by omega] at this
    exact this
theorem rsB_of {F : Nat → Int × Int} {s : Int} : ∀ n, Rise F n → (∀ j, j < n → (F j).2 ≤ s) → rsB F s n = true := by
  intro n
  induction n with
  | zero => intro _ _; rfl
  | succ n ih =>
    intro h hs
    obtain ⟨k1, k2, k3⟩ := h n (by omega)
    have k4 := hs n (by omega)
    show (rsB F s n && (spB (F n).1 (F n).2 s && (decide (n = 0) || decide ((F (n - 1)).2 < (F n).1)))) = true
    unfold spB
    simp only [Bool.and_eq_true, Bool.or_eq_true, decide_eq_true_eq]
    refine ⟨ih (rise_pre h) (fun j hj => hs j (by omega)), ⟨k1, k2, k4⟩, ?_⟩
    by_cases e : n = 0
    · exact .inl e
    · exact .inr (k3 (by omega))
/-- the code's check of spans is the document's -/
theorem rs_re {F : Nat → Int × Int} {s : Int} (hs : 0 ≤ s) (n : Nat) : rsB F s n = true ↔ Rise F n ∧ rcN F n ≤ s := by
  constructor
  · intro h
    obtain ⟨h1, h2⟩ := rsB_rise n h
    refine ⟨h1, ?_⟩
    unfold rcN
    by_cases e : n = 0
    · rw [if_pos e]; exact hs
    · rw [if_neg e]; exact h2 _ (by omega)
  · rintro ⟨h1, h2⟩
    exact rsB_of n h1 (fun j hj => Int.le_trans ((rise_rc h1).2 j hj) h2)
def dnB (st : Int) (kn : Bool) (nm : ByteArray) : Bool := decide ((st = 0 ∨ st = 3 ∨ st = 4) ∧ nm.size ≤ 32 ∧ (kn = true ↔ 0 < nm.size))
def dzB (kn : Bool) (si : Int) (en : Bool) (la su : Int) : Bool := decide ((kwB si 0 65536 = true ∧ kwB la 0 65536 = true ∧ kwB su 0 4294967295 = true) ∧ (kn = true ∨ si = 0) ∧ (en = true ∨ (la = 0 ∧ su = 0)))
def dvB (st : Int) (kn : Bool) (F : Nat → Int × Int) (si : Int) (m : Nat) : Bool := decide (st = 3 → kn = true ∧ (rwN (fun i => cvB F i m) false si.toNat).length = 0)
/-- may a taker be as it is, in the document's order -/
def dmB (id : Int) (kn : Bool) (nm : ByteArray) (si : Int) (en : Bool) (la su : Int) (F : Nat → Int × Int) (m : Nat) (L : List Nat) (st ti pa tr li : Int) : Bool :=
  decide (dsE id pa li = 0) && (dnB st kn nm && (dzB kn si en la su && (reB F m && (dvB st kn F si m && (decide ((L.length : Int) = rcN F m ∧ rcN F m ≤ 65536) && (byB L (fun i => cvB F i m) L.length && (kwB ti 0 (pa - 1) && kwB tr 0 li)))))))
theorem size_nil (s : ByteArray) : s = ⟨#[]⟩ ↔ s.size = 0 := by
  constructor
  · intro e; rw [e]; rfl
  · intro h
    exact bytes_nil (List.length_eq_zero_iff.1 (by rw [Array.length_toList]; exact h))
theorem tm_dm (id : Int) (kn : Bool) (nm : ByteArray) (si : Int) (en : Bool) (la su : Int) (F : Nat → Int × Int) (m : Nat) (L : List Nat) (st ti pa tr li : Int) :
    tmB id kn nm si en la su F m L st ti pa tr li = dmB id kn nm si en la su F m L st ti pa tr li := by
  rw [Bool.eq_iff_iff]
  unfold tmB dmB
  simp only [Bool.and_eq_true, decide_eq_true_eq, reB_rise, rs_re (show (0 : Int) ≤ 65536 by decide)]
  have hA : toA kn nm si = true ↔ ((kn = true ∧ 0 < nm.size ∧ nm.size ≤ 32) ∨ (kn = false ∧ nm.size = 0 ∧ si = 0)) := by
    unfold toA
    cases kn with
    | true => rw [if_pos rfl]; exact ⟨fun h => .inl ⟨rfl, by have := kwB_ok h; omega⟩, fun h => by rcases h with h | h; exact kwB_t (by omega); exact absurd h.1 (by decide)⟩
    | false => rw [if_neg (by decide), Bool.and_eq_true, decide_eq_true_eq, decide_eq_true_eq, size_nil]; exact ⟨fun h => .inr ⟨rfl, h⟩, fun h => by rcases h with h | h; exact absurd h.1 (by decide); exact h.2⟩
  have hE : toE en la su = true ↔ (en = true ∨ (la = 0 ∧ su = 0)) := by
    unfold toE
    cases en with
    | true => exact ⟨fun _ => .inl rfl, fun _ => rfl⟩
    | false => rw [if_neg (by decide), Bool.and_eq_true, decide_eq_true_eq, decide_eq_true_eq]; exact ⟨fun h => .inr h, fun h => by rcases h with h | h; exact absurd h (by decide); exact h⟩
  have hto : toB kn nm si en la su = true ↔ (kwB si 0 65536 = true ∧ kwB la 0 65536 = true ∧ kwB su 0 4294967295 = true) ∧ (en = true ∨ (la = 0 ∧ su = 0)) ∧ ((kn = true ∧ 0 < nm.size ∧ nm.size ≤ 32) ∨ (kn = false ∧ nm.size = 0 ∧ si = 0)) := by
    unfold toB
    rw [Bool.and_eq_true, Bool.and_eq_true, hA, hE]
    unfold toC
    rw [Bool.and_eq_true, Bool.and_eq_true]
    exact ⟨fun ⟨⟨a, b⟩, ⟨c, d⟩, e⟩ => ⟨⟨c, d, e⟩, b, a⟩, fun ⟨⟨c, d, e⟩, b, a⟩ => ⟨⟨a, b⟩, ⟨c, d⟩, e⟩⟩
  have hts : ∀ ha : Bool, tsB st kn ha = true ↔ (st = 0 ∨ st = 4) ∨ (st = 3 ∧ kn = true ∧ ha = true) := by
    intro ha
    unfold tsB
    by_cases h1 : st = 0 ∨ st = 4
    · rw [if_pos h1]; exact ⟨fun _ => .inl h1, fun _ => rfl⟩
    · rw [if_neg h1]
      by_cases h3 : st = 3
      · rw [if_pos h3, Bool.and_eq_true]; exact ⟨fun h => .inr ⟨h3, h⟩, fun h => by rcases h with h | h; exact absurd h h1; exact h.2⟩
      · rw [if_neg h3]; exact ⟨fun h => absurd h (by decide), fun h => by rcases h with h | h; exact absurd h h1; exact absurd h.1 h3⟩
  have hdn : dnB st kn nm = true ↔ (st = 0 ∨ st = 3 ∨ st = 4) ∧ nm.size ≤ 32 ∧ (kn = true ↔ 0 < nm.size) := by unfold dnB; rw [decide_eq_true_eq]
  have hdz : dzB kn si en la su = true ↔ (kwB si 0 65536 = true ∧ kwB la 0 65536 = true ∧ kwB su 0 4294967295 = true) ∧ (kn = true ∨ si = 0) ∧ (en = true ∨ (la = 0 ∧ su = 0)) := by unfold dzB; rw [decide_eq_true_eq]
  have hdv : dvB st kn F si m = true ↔ (st = 3 → kn = true ∧ (rwN (fun i => cvB F i m) false si.toNat).length = 0) := by unfold dvB; rw [decide_eq_true_eq]
  have hha : Rise F m → 0 ≤ si → (haB F si m = true ↔ (rwN (fun i => cvB F i m) false si.toNat).length = 0) := by
    intro hR h0
    unfold haB
    rw [decide_eq_true_eq, rows_un m hR, Int.toNat_of_nonneg h0]
  have hfi : Rise F m → (fiB L F m = true ↔ (L.length : Int) = rcN F m ∧ byB L (fun i => cvB F i m) L.length = true) := by
    intro hR
    rw [fi_by hR, Bool.and_eq_true, decide_eq_true_eq]
  rw [hto, hdn, hdz, hdv, hts]
  constructor
  · rintro ⟨a, ⟨b1, b2, b3⟩, ⟨c1, c2⟩, d, e, f⟩
    have g := (hfi c1).1 d
    refine ⟨a, ⟨by omega, by rcases b3 with b3 | b3 <;> omega, ?_⟩, ⟨b1, ?_, b2⟩, c1, ?_, ⟨g.1, c2⟩, g.2, f⟩
    · rcases b3 with b3 | b3
      · exact ⟨fun _ => b3.2.1, fun _ => b3.1⟩
      · exact ⟨fun h => (by rw [b3.1] at h; exact absurd h (by decide)), fun h => by omega⟩
    · rcases b3 with b3 | b3
      · exact .inl b3.1
      · exact .inr b3.2.2
    · intro h3
      rcases e with e | e
      · omega
      · exact ⟨e.2.1, (hha c1 (kwB_ok b1.1).1).1 e.2.2⟩
  · rintro ⟨a, ⟨n1, n2, n3⟩, ⟨z1, z2, z3⟩, c, v, ⟨g1, g2⟩, y, f⟩
    refine ⟨a, ⟨z1, z3, ?_⟩, ⟨c, g2⟩, (hfi c).2 ⟨g1, y⟩, ?_, f⟩
    · cases kn with
      | true => exact .inl ⟨rfl, n3.1 rfl, n2⟩
      | false =>
        refine .inr ⟨rfl, ?_, ?_⟩
        · by_cases e : 0 < nm.size
          · exact absurd (n3.2 e) (by decide)
          · omega
        · rcases z2 with z2 | z2
          · exact absurd z2 (by decide)
          · exact z2
    · by_cases h3 : st = 3
      · exact .inr ⟨h3, (v h3).1, (hha c (kwB_ok z1.1).1).2 (v h3).2⟩
      · exact .inl (by omega)
end

section
set_option maxHeartbeats 16000000 in
theorem tm_t26 {u0 u2 u3 u4 u5 u6 u7 u8 u9 u10 u11 u12 u13 u14 u15 u16 u17 u18 u19 u20 u21 u22 u23 u24 u25 u26 u27 u28 u29 u30 u31 u32 u33 u34 u35 u36 u37 u38 u39 u40 u41 u42 u43 u44 u45 u46 u47 u48 u49 u50 u51 u52 u53 u54 u55 u56 u57 u58 u59 u60 u61 u62 u63 u64 u65 u66 u67 u68 u69 u70 u71 u72 u73 u74 u75 u76 u77 u78 u79 u80 u81 u82 u83 u84 u85 u86 u87 u88 u89 u90 u91 u92 u93 u94 u95 u96 u97 u98 u99 u100 u101 u102 u103 u104 u105 u106 u107 u108 u109 u110 u111 u112 u113 u114 u115 u116 u117 u118 u119 u120 u121 u122 u123 u124 u125 u126 u127 u128 u129 u130 u131 u132 u133 u134 u135 u136 u137 u138 u139 u140 u141 u142 u143 u144 u145 u146 u147 u148 u149 u150 u151 u152 u153 u154 u155 u156 u157 u158 u159 u160 u161 u162 u163 u164 u165 u166 u167 u168 u169 u170 u171 u172 u173 u174 u175 u176 u177 u178 u179 u180 u181 u182 u183 u184 u185 u186 : Value} (P : Ending → World → Prop) (id : Int) (kn : Bool) (nm : ByteArray) (si : Int) (en : Bool) (la su : Int) (q : Option Addr) (m d : Nat) (a : Option Addr) (n c : Nat) (st ti pa tr li : Int) (w : World) (g1 : Nat) (b1 : BxS w g1 48 #[.int .i64 id, .bool kn, .string nm, .int .i64 si, .bool en, .int .i64 la, .int .i64 su, .slice q m d, .slice a n c, .int .i64 st, .int .i64 ti, .int .i64 pa, .int .i64 tr, .int .i64 li]) (hpa : 1 ≤ pa ∧ pa ≤ 1000) (hP : P (.returned (.bool (kwB ti 0 (pa - 1) && kwB tr 0 li))) w) :
    Code.wp Try.prog (tailR 26 (Try.f71.body.getD .skip)) (bodyPost Try.prog Try.f71 P) (Act.mk (List.toArray (u0 :: (.pointer (some ⟨g1, 0, none⟩)) :: u2 :: u3 :: u4 :: u5 :: u6 :: u7 :: u8 :: u9 :: u10 :: u11 :: u12 :: u13 :: u14 :: u15 :: u16 :: u17 :: u18 :: u19 :: u20 :: u21 :: u22 :: u23 :: u24 :: u25 :: u26 :: u27 :: u28 :: u29 :: u30 :: u31 :: u32 :: u33 :: u34 :: u35 :: u36 :: u37 :: u38 :: u39 :: u40 :: u41 :: u42 :: u43 :: u44 :: u45 :: u46 :: u47 :: u48 :: u49 :: u50 :: u51 :: u52 :: u53 :: u54 :: u55 :: u56 :: u57 :: u58 :: u59 :: u60 :: u61 :: u62 :: u63 :: u64 :: u65 :: u66 :: u67 :: u68 :: u69 :: u70 :: u71 :: u72 :: u73 :: u74 :: u75 :: u76 :: u77 :: u78 :: u79 :: u80 :: u81 :: u82 :: u83 :: u84 :: u85 :: u86 :: u87 :: u88 :: u89 :: u90 :: u91 :: u92 :: u93 :: u94 :: u95 :: u96 :: u97 :: u98 :: u99 :: u100 :: u101 :: u102 :: u103 :: u104 :: u105 :: u106 :: u107 :: u108 :: u109 :: u110 :: u111 :: u112 :: u113 :: u114 :: u115 :: u116 :: u117 :: u118 :: u119 :: u120 :: u121 :: u122 :: u123 :: u124 :: u125 :: u126 :: u127 :: u128 :: u129 :: u130 :: u131 :: u132 :: u133 :: u134 :: u135 :: u136 :: u137 :: u138 :: u139 :: u140 :: u141 :: u142 :: u143 :: u144 :: u145 :: u146 :: u147 :: u148 :: u149 :: u150 :: u151 :: u152 :: u153 :: u154 :: u155 :: u156 :: u157 :: u158 :: u159 :: u160 :: u161 :: u162 :: u163 :: u164 :: u165 :: u166 :: u167 :: u168 :: u169 :: u170 :: u171 :: u172 :: u173 :: u174 :: u175 :: u176 :: u177 :: u178 :: u179 :: u180 :: u181 :: u182 :: u183 :: u184 :: u185 :: u186 :: [])) []) w := by
  conv => enter [2]; whnf
  have HP : Hid _ := hP
  clear hP
  have k5 := fun wz => inRange_any ti 0 (pa - 1) wz
  have k6 := fun wz => inRange_any tr 0 li wz
  have hs : IntKind.i64.wrap (pa - 1) = pa - 1 := wrap_i64_in _ (by omega) (by omega)
  obtain ⟨e0, e1, e2, e3, e4, e5, e6, e7, e8, e9, e10, e11, e12, e13⟩ := (b1).cell14
  generalize kwB ti 0 (pa - 1) = B5 at k5 HP
  generalize kwB tr 0 li = B6 at k6 HP
  have s5 : True := trivial
  cases B5 <;>
  · go_wp2_with (first
      | (go_at_call 55; have _t := s5; clear s5; refine (k5 _).mono ?_; rintro e wx ⟨rfl, hwx⟩; have hwx := hwx.symm; subst hwx; have s6 : True := trivial)
      | (go_at_call 55; have _t := s6; clear s6; refine (k6 _).mono ?_; rintro e wx ⟨rfl, hwx⟩; have hwx := hwx.symm; subst hwx))
    try go_ret
    exact HP.out

set_option maxHeartbeats 32000000 in
theorem tm_t20 {u0 u2 u3 u4 u6 u7 u8 u9 u10 u11 u12 u13 u14 u15 u16 u17 u18 u19 u20 u21 u22 u23 u24 u25 u26 u27 u28 u29 u30 u31 u32 u33 u34 u35 u36 u37 u38 u39 u40 u41 u42 u43 u44 u45 u46 u47 u48 u49 u50 u51 u52 u53 u54 u55 u56 u57 u58 u59 u60 u61 u62 u63 u64 u65 u66 u67 u68 u69 u70 u71 u72 u73 u74 u75 u76 u77 u78 u79 u80 u81 u82 u83 u84 u85 u86 u87 u88 u89 u90 u91 u92 u93 u94 u95 u96 u97 u98 u99 u100 u101 u102 u103 u104 u105 u106 u107 u108 u109 u110 u111 u112 u113 u114 u115 u116 u117 u118 u119 u120 u121 u122 u123 u124 u125 u126 u127 u128 u129 u130 u131 u132 u133 u134 u135 u136 u137 u138 u139 u140 u141 u142 u143 u144 u145 u146 u147 u148 u149 u150 u151 u152 u153 u154 u155 u156 u157 u158 u159 u160 u161 u162 u163 u164 u165 u166 u167 u168 u169 u170 u171 u172 u173 u174 u175 u176 u177 u178 u179 u180 u181 u182 u183 u184 u185 u186 : Value} (P : Ending → World → Prop) (id : Int) (kn : Bool) (nm : ByteArray) (si : Int) (en : Bool) (la su : Int) (q : Option Addr) (m d : Nat) (a : Option Addr) (n c : Nat) (st ti pa tr li : Int) (F : Nat → Int × Int) (L : List Nat) (w : World) (g1 : Nat) (b1 : BxS w g1 48 #[.int .i64 id, .bool kn, .string nm, .int .i64 si, .bool en, .int .i64 la, .int .i64 su, .slice q m d, .slice a n c, .int .i64 st, .int .i64 ti, .int .i64 pa, .int .i64 tr, .int .i64 li]) (hL : Rd w a n c L) (hG : RdG w q m d F) (hR : Rise F m) (hm0 : m ≤ 8796093021952) (hn : n ≤ 65536) (hpa : 1 ≤ pa ∧ pa ≤ 1000)
    (hP : ∀ w', w.grownBy w' none → P (.returned (.bool (byB L (fun i => cvB F i m) n && (kwB ti 0 (pa - 1) && kwB tr 0 li)))) w') :
    Code.wp Try.prog (tailR 20 (Try.f71.body.getD .skip)) (bodyPost Try.prog Try.f71 P) (Act.mk (List.toArray (u0 :: (.pointer (some ⟨g1, 0, none⟩)) :: u2 :: u3 :: u4 :: (.int .i64 (n : Int)) :: u6 :: u7 :: u8 :: u9 :: u10 :: u11 :: u12 :: u13 :: u14 :: u15 :: u16 :: u17 :: u18 :: u19 :: u20 :: u21 :: u22 :: u23 :: u24 :: u25 :: u26 :: u27 :: u28 :: u29 :: u30 :: u31 :: u32 :: u33 :: u34 :: u35 :: u36 :: u37 :: u38 :: u39 :: u40 :: u41 :: u42 :: u43 :: u44 :: u45 :: u46 :: u47 :: u48 :: u49 :: u50 :: u51 :: u52 :: u53 :: u54 :: u55 :: u56 :: u57 :: u58 :: u59 :: u60 :: u61 :: u62 :: u63 :: u64 :: u65 :: u66 :: u67 :: u68 :: u69 :: u70 :: u71 :: u72 :: u73 :: u74 :: u75 :: u76 :: u77 :: u78 :: u79 :: u80 :: u81 :: u82 :: u83 :: u84 :: u85 :: u86 :: u87 :: u88 :: u89 :: u90 :: u91 :: u92 :: u93 :: u94 :: u95 :: u96 :: u97 :: u98 :: u99 :: u100 :: u101 :: u102 :: u103 :: u104 :: u105 :: u106 :: u107 :: u108 :: u109 :: u110 :: u111 :: u112 :: u113 :: u114 :: u115 :: u116 :: u117 :: u118 :: u119 :: u120 :: u121 :: u122 :: u123 :: u124 :: u125 :: u126 :: u127 :: u128 :: u129 :: u130 :: u131 :: u132 :: u133 :: u134 :: u135 :: u136 :: u137 :: u138 :: u139 :: u140 :: u141 :: u142 :: u143 :: u144 :: u145 :: u146 :: u147 :: u148 :: u149 :: u150 :: u151 :: u152 :: u153 :: u154 :: u155 :: u156 :: u157 :: u158 :: u159 :: u160 :: u161 :: u162 :: u163 :: u164 :: u165 :: u166 :: u167 :: u168 :: u169 :: u170 :: u171 :: u172 :: u173 :: u174 :: u175 :: u176 :: u177 :: u178 :: u179 :: u180 :: u181 :: u182 :: u183 :: u184 :: u185 :: u186 :: [])) []) w := by
  conv => enter [2]; whnf
  have HP : Hid _ := hP
  clear hP
  have HPA : Hid _ := hpa
  clear hpa
  obtain ⟨e0, e1, e2, e3, e4, e5, e6, e7, e8, e9, e10, e11, e12, e13⟩ := (b1).cell14
  have kH := has_any q m d n F w hG hR hm0 (by omega)
  have s0' : True := trivial
  refine wp_seq_k fun K1 hK1 => ?_
  have HK1 : Hid _ := hK1
  clear hK1
  go_wp2_with (go_at_call 75; have _t := s0'; clear s0'; refine Calls.mono kH ?_; rintro e w2 ⟨g8, rfl, hg8, hB, y2⟩)
  refine HK1.out _ _ ?_
  clear HK1
  clear kH e0 e1 e2 e3 e4 e5 e6 e7 e8 e9 e10 e11 e12 e13
  have b2 := b1.keep y2 (by simp)
  obtain ⟨f, hf⟩ : ∃ f : Nat → Bool, (fun i => cvB F i m) = f := ⟨_, rfl⟩
  rw [hf] at hB HP
  clear hf
  refine wp_seq_k fun K1 hK1 => ?_
  have HK1 : Hid _ := hK1
  clear hK1
  go_wp2
  go_loopw [9] (fun iv wr => ∃ i : Nat, i ≤ n ∧ iv = .int .i64 i ∧ Hid (byB L f i = true) ∧ w2.grownBy wr none) (fun iv _ => n - (intOf iv).toNat)
  case atStart => exact ⟨0, Nat.zero_le _, rfl, rfl, World.grownBy.refl _ _⟩
  case round =>
    obtain ⟨i, hi9, rfl, HBY, Gr⟩ := hrel
    have b3 := b2.keep Gr (by simp)
    by_cases hlt : i < n
    · have li' : (i : Int) < (n : Int) := by omega
      have HST : Hid (byB L f (i + 1) = (byB L f i && (f i || decide (nth L i = 0)))) := rfl
      have HNO : Hid ((f i || decide (nth L i = 0)) = false → byB L f n = false) := fun h9 => byB_no h9 n hlt
      have xb : wr.cell? ⟨g8, i, none⟩ = some (.bool (f i)) := (hB.keep Gr).cell hlt
      obtain ⟨ga, go, rfl, pk⟩ : ∃ ga go, a = some ⟨ga, go, none⟩ ∧ wr.cell? ⟨ga, go + i, none⟩ = some (.int .u8 (nth L i : Nat)) := by
        obtain ⟨b', off', e', _, hc'⟩ := ((hL.keep y2).keep Gr).at' (by omega)
        exact ⟨b', off', e', hc' i hlt⟩
      have x8 : wr.cell? ⟨g1, 8, none⟩ = some (.slice (some ⟨ga, go, none⟩) n c) := b3.cell 8 (by show 8 < 14; decide)
      obtain ⟨fb, hfb⟩ : ∃ fb, f i = fb := ⟨_, rfl⟩
      obtain ⟨bv, hbv⟩ : ∃ bv, nth L i = bv := ⟨_, rfl⟩
      rw [hfb] at xb HST HNO
      rw [hbv] at pk HST HNO
      clear hfb hbv
      cases fb with
      | true =>
        have HN : Hid (byB L f (i + 1) = true) := by show _ = _; rw [HST.out, HBY.out]; rfl
        clear HST HNO pk x8
        go_wp2
        go_roundw
        case rel => exact ⟨i + 1, by omega, by go_num, HN, Gr⟩
        case measure => simp [intOf] <;> omega
      | false =>
        by_cases hb0 : bv = 0
        · have HN : Hid (byB L f (i + 1) = true) := by show _ = _; rw [HST.out, HBY.out, decide_eq_true hb0]; rfl
          subst hb0
          clear HST HNO
          go_wp2
          go_roundw
          case rel => exact ⟨i + 1, by omega, by go_num, HN, Gr⟩
          case measure => simp [intOf] <;> omega
        · have HN : Hid (byB L f n = false) := HNO.out (by rw [decide_eq_false hb0]; rfl)
          clear HST HNO
          go_wp2
          try go_ret
          have := HP.out wr (grown_trans y2 Gr)
          rw [HN.out, Bool.false_and] at this
          exact this
    · obtain rfl : i = n := by omega
      have li' : ¬ (i : Int) < (i : Int) := by omega
      go_wp2
      try simp only [Exit.inBlock, Exit.then]
      refine HK1.out _ _ ?_
      clear HK1
      refine tm_t26 P id kn nm si en la su q m d a _ c st ti pa tr li wr g1 b3 HPA.out ?_
      have := HP.out wr (grown_trans y2 Gr)
      rw [HBY.out, Bool.true_and] at this
      exact this
end
end Go.Proofs.Ytnimehkfnpepfaa
