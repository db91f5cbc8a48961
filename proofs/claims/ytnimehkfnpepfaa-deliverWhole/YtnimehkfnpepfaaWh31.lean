import Derived.Test.YtnimehkfnpepfaaWh29
import Derived.Lib.MinMax
import Derived.Test.YtnimehkfnpepfaaWh30
import Derived.Test.YtnimehkfnpepfaaWh20
import Derived.Test.YtnimehkfnpepfaaWh22
import Derived.Test.YtnimehkfnpepfaaWh13
import Derived.Test.YtnimehkfnpepfaaWh25
namespace Go.Proofs.Ytnimehkfnpepfaa
open Go.RowKit
set_option maxRecDepth 100000
set_option linter.unusedVariables false
set_option linter.unusedSimpArgs false

section
/-- a taker at work; wB: the world when the call began -/
structure TKW (wB w : World) (gw : Nat) (id : Int) (kn : Bool) (nm : ByteArray) (si : Int) (en : Bool) (la su : Int) (st ti pa tr li : Int) (a : Option Addr) (n c : Nat) (L : List Nat) (q : Option Addr) (m d : Nat) (G : List (Int × Int)) (na : Option Addr) (nn nc : Nat) (xs : List Nx) : Prop where
  bx : BxS w gw 112 #[.int .i64 id, .bool kn, .string nm, .int .i64 si, .bool en, .int .i64 la, .int .i64 su, .slice q m d, .slice a n c, .int .i64 st, .int .i64 ti, .int .i64 pa, .int .i64 tr, .int .i64 li, .slice na nn nc]
  A : Ans w wB.heap.size a n c L
  O : OwGi w wB.heap.size q m d G
  N : OwN w wB.heap.size na nn nc xs
  gl : wB.heap.size ≤ gw
  sA : ∀ z, (Value.slice a n c).ownBlock = some z → ¬ Nbl na nn nc xs z
  sO : ∀ z, (Value.slice q m d).ownBlock = some z → ¬ Nbl na nn nc xs z
  g : wB.grownBy w none

set_option maxHeartbeats 16000000 in
/-- a note goes -/
theorem tsend_any (wB w : World) (gw : Nat) (id : Int) (kn : Bool) (nm : ByteArray) (si : Int) (en : Bool) (la su : Int) (st ti pa tr li : Int) (a : Option Addr) (n c : Nat) (L : List Nat) (q : Option Addr) (m d : Nat) (G : List (Int × Int)) (na : Option Addr) (nn nc : Nat) (xs : List Nx) (h : TKW wB w gw id kn nm si en la su st ti pa tr li a n c L q m d G na nn nc xs) (x : Nx) (hxA : Ans w wB.heap.size x.a x.da.length x.c x.da) (hxO : OwGi w wB.heap.size x.q x.ga.length x.d x.ga) (hn : nn ≤ 100000)
    (h1 : ∀ z, ((Value.slice x.a x.da.length x.c).ownBlock = some z ∨ (Value.slice x.q x.ga.length x.d).ownBlock = some z) → ¬ Nbl na nn nc xs z ∧ (Value.slice a n c).ownBlock ≠ some z ∧ (Value.slice q m d).ownBlock ≠ some z) :
    Calls Try.prog 121 #[.pointer (some ⟨gw, 0, none⟩), .agg x.arr] w fun e w' => e = .returned (.tuple #[]) ∧ (∃ na' nc', TKW wB w' gw id kn nm si en la su st ti pa tr li a n c L q m d G na' (nn + 1) nc' (xs ++ [{ x with id := id }])) ∧ ∀ g9 t9 cs9, BxS w g9 t9 cs9 → g9 ≠ gw → (Value.slice na nn nc).ownBlock ≠ some g9 → BxS w' g9 t9 cs9 := by
  have b0 := BxS.new w 27 x.arr
  have g0 := World.grownBy_alloc w (.cells x.arr 27) none
  have i10 := Try.info_nt
  obtain ⟨i0, hi, hz0, hz1, hz2⟩ := info_parts Try.info_nt3
  generalize hw0 : w.alloc (.cells x.arr 27) = w0 at b0 g0
  have bw := h.bx.keep g0 (by simp)
  have lw := h.bx.lt
  have x0 : w0.cell? ⟨gw, 0, none⟩ = some (.int .i64 id) := bw.cell 0 (by show 0 < 15; decide)
  have x1 : w0.cell? ⟨w.heap.size, 1, none⟩ = some (.int .i64 x.id) := b0.cell 1 (by show 1 < 10; decide)
  have f1 := b0.free 1
  have b1 := b0.set 1 (.int .i64 id)
  have u1 := grown_set w0 w.heap.size 1 (.int .i64 id)
  rw [two_nx] at b1
  generalize hw1 : w0.setCell ⟨w.heap.size, 1, none⟩ (.int .i64 id) = w1 at b1 u1
  have bw1 := bw.keep u1 (fun e => by have e := Option.some.inj e; omega)
  have hg1 : w.grownBy w1 none := grown_far g0 u1 (fun q e => by have e := Option.some.inj e; omega)
  go_enter Try.func121, Try.ntmps121
  refine wp_seq_k fun K1 hK1 => ?_
  have HK1 : Hid _ := hK1
  clear hK1
  go_wp2
  refine HK1.out _ _ ?_
  clear HK1
  refine wp_seq_k fun K2 hK2 => ?_
  have HK2 : Hid _ := hK2
  clear hK2
  go_wp2
  clear x0 x1 f1
  refine HK2.out _ _ ?_
  clear HK2
  obtain ⟨xx, hxx⟩ : ∃ xx : Nx, xx = { x with id := id } := ⟨_, rfl⟩
  rw [← hxx] at b1 ⊢
  have HXX : Hid _ := hxx
  clear hxx
  have Gd := grown_drew w1 none
  have SS : BxS w1.drew gw 112 #[.int .i64 id, .bool kn, .string nm, .int .i64 si, .bool en, .int .i64 la, .int .i64 su, .slice q m d, .slice a n c, .int .i64 st, .int .i64 ti, .int .i64 pa, .int .i64 tr, .int .i64 li, .slice na nn nc] ∧ BxS w1.drew w.heap.size 27 xx.arr := ⟨bw1.keep Gd (by simp), b1.keep Gd (by simp)⟩
  have G2 := grown_trans hg1 Gd
  refine wp_regionL (fun wz => BxS wz gw 112 #[.int .i64 id, .bool kn, .string nm, .int .i64 si, .bool en, .int .i64 la, .int .i64 su, .slice q m d, .slice a n c, .int .i64 st, .int .i64 ti, .int .i64 pa, .int .i64 tr, .int .i64 li, .slice na nn nc] ∧ BxS wz w.heap.size 27 xx.arr) [10] #[false, false, false, false, false, false, false, false, false, false, false] rfl (by kernel_rfl) ?_
  refine wpAnyZ_take [10] 0 (.pointer (some ⟨gw, 0, none⟩)) rfl (by kernel_rfl) (fun _ _ _ h => h) SS rfl (by intro wz hz; go_simp) ?_
  try simp only [zc1, zc2, zc3, Act.put, zc4, zc5, zc6]
  refine wpAnyZ_take [10] 1 (.pointer (some ⟨gw, 0, none⟩)) rfl (by kernel_rfl) (fun _ _ _ h => h) SS rfl (by intro wz hz; go_simp) ?_
  try simp only [zc1, zc2, zc3, Act.put, zc4, zc5, zc6]
  refine wpAnyZ_take [10] 2 (.pointer (some ⟨gw, 0, none⟩)) rfl (by kernel_rfl) (fun _ _ _ h => h) SS rfl (by intro wz hz; go_simp) ?_
  try simp only [zc1, zc2, zc3, Act.put, zc4, zc5, zc6]
  refine wpAnyZ_take [10] 3 (.pointer (some ⟨gw, 14, none⟩)) rfl (by kernel_rfl) (fun _ _ _ h => h) SS rfl (by intro wz hz; go_simp) ?_
  try simp only [zc1, zc2, zc3, Act.put, zc4, zc5, zc6]
  refine wpAnyZ_take [10] 4 (.slice na nn nc) rfl (by kernel_rfl) (fun _ _ _ h => h) SS rfl (by rintro wz ⟨hz, hz2⟩; have z : wz.cell? ⟨gw, 14, none⟩ = some (.slice na nn nc) := hz.cell 14 (by show 14 < 15; decide); go_simp) ?_
  try simp only [zc1, zc2, zc3, Act.put, zc4, zc5, zc6]
  refine wpAnyZ_take [10] 5 (.agg xx.arr) rfl (by kernel_rfl) (fun _ _ _ h => h) SS rfl (by rintro wz ⟨hz, hz2⟩; exact ld_execD rfl rfl hz2 Try.underlying27 i10) ?_
  try simp only [zc1, zc2, zc3, Act.put, zc4, zc5, zc6]
  generalize w1.drew = w2 at *
  have bA := BxS.new w2 27 xx.arr
  have yA := World.grownBy_alloc w2 (.cells xx.arr 27) none
  refine wpAnyZ_oneB 6 rfl (by kernel_rfl) (fun KK hKK => ?_)
  have harr : xx.arr = #[.int .i64 xx.kd, .int .i64 xx.id, .string xx.nm, .int .i64 xx.si, .int .i64 xx.su, .int .i64 xx.at', .slice xx.a xx.da.length xx.c, .slice xx.q xx.ga.length xx.d, .int .i64 xx.o, .int .i64 xx.co] := rfl
  rw [harr]
  go_simp
  rw [← harr]
  have S3 : BxS (w2.alloc (.cells xx.arr 27)) gw 112 #[.int .i64 id, .bool kn, .string nm, .int .i64 si, .bool en, .int .i64 la, .int .i64 su, .slice q m d, .slice a n c, .int .i64 st, .int .i64 ti, .int .i64 pa, .int .i64 tr, .int .i64 li, .slice na nn nc] ∧ BxS (w2.alloc (.cells xx.arr 27)) w.heap.size 27 xx.arr := ⟨SS.1.keep yA (by simp), SS.2.keep yA (by simp)⟩
  refine hKK _ _ (fun _ => S3) ?_
  try simp only [zc1, zc2, zc3, Act.put, zc4, zc5, zc6]
  have G3 := grown_trans G2 yA
  have z2 := G2.size
  have l2 := SS.2.lt
  generalize w2.alloc (.cells xx.arr 27) = w3 at *
  have hN3 := h.N.keep G3
  refine wpAnyZ_oneB 7 rfl (by kernel_rfl) (fun KK hKK => ?_)
  refine step_apS w3 rfl _ _ 54 27 i0 _ 10 120 Try.underlying54 hi hz0 hz1 hz2 rfl (by decide) rfl (.slice na nn nc) nn (flN xs) rfl hN3.own ⟨w2.heap.size, 0, none⟩ 1 1 xx.cells rfl rfl bA.newsA (by intro u hu; simp only [Nx.cells, Nx.arr, List.mem_cons, List.not_mem_nil, or_false] at hu; rcases hu with rfl | rfl | rfl | rfl | rfl | rfl | rfl | rfl | rfl | rfl <;> rfl) (by decide) (by unfold maxLen; omega) (by omega) ?_
  intro gx cx w4 hor u4 hO4
  have hr4 : ∀ z, (Value.slice na nn nc).ownBlock = some z → wB.heap.size ≤ z ∧ z < w.heap.size := fun z e => ⟨h.N.new z e, h.N.lt (.inl e)⟩
  have S4 : BxS w4 gw 112 #[.int .i64 id, .bool kn, .string nm, .int .i64 si, .bool en, .int .i64 la, .int .i64 su, .slice q m d, .slice a n c, .int .i64 st, .int .i64 ti, .int .i64 pa, .int .i64 tr, .int .i64 li, .slice na nn nc] ∧ BxS w4 w.heap.size 27 xx.arr := ⟨S3.1.keep u4 (fun e => own_ty hN3.own S3.1 (by decide) e.symm), S3.2.keep u4 (fun e => by have := hr4 _ e.symm; omega)⟩
  refine hKK _ _ (fun _ => S4) ?_
  try simp only [zc1, zc2, zc3, Act.put, zc4, zc5, zc6]
  refine wpAnyZ_take [9, 10] 8 (.pointer (some ⟨gw, 0, none⟩)) rfl (by kernel_rfl) (fun _ _ _ h => h) S4 rfl (by intro wz hz; go_simp) ?_
  try simp only [zc1, zc2, zc3, Act.put, zc4, zc5, zc6]
  refine wpAnyZ_take [10] 9 (.pointer (some ⟨gw, 14, none⟩)) rfl (by kernel_rfl) (fun _ _ _ h => h) S4 rfl (by intro wz hz; go_simp) ?_
  try simp only [zc1, zc2, zc3, Act.put, zc4, zc5, zc6]
  refine wpAnyZ_oneB 10 rfl (by kernel_rfl) (fun KK hKK => ?_)
  refine step_stCd _ rfl _ _ _ rfl gw 14 112 _ #[.int .i64 id, .bool kn, .string nm, .int .i64 si, .bool en, .int .i64 la, .int .i64 su, .slice q m d, .slice a n c, .int .i64 st, .int .i64 ti, .int .i64 pa, .int .i64 tr, .int .i64 li, .slice (some ⟨gx, 0, none⟩) (nn + 1) cx] (.slice (some ⟨gx, 0, none⟩) (nn + 1) cx) rfl rfl S4.1 (fun w' h1 h2 => stc_slN _ _ _ _ _ _ h1 h2) (by show 14 < 15; decide) rfl ?_
  intro w5 b5 u5
  refine hKK _ _ (fun h => absurd (by decide) h) ?_
  try simp only [zc1, zc2, zc3, Act.put, zc4, zc5, zc6]
  refine wpAnyZ_doneB (by kernel_rfl) ?_ _
  have zB := h.g.size
  have hgx : (Value.slice na nn nc).ownBlock = some gx ∨ w.heap.size ≤ gx := by
    rcases hor with e | e
    · exact .inl e
    · exact .inr (by have := G3.size; omega)
  have hbl : ∀ z, Nbl (some ⟨gx, 0, none⟩) (nn + 1) cx (xs ++ [xx]) z → (gx = z) ∨ Nbl na nn nc xs z ∨ ((Value.slice xx.a xx.da.length xx.c).ownBlock = some z ∨ (Value.slice xx.q xx.ga.length xx.d).ownBlock = some z) := by
    intro z hz
    rcases hz with e | ⟨y, hy, e⟩
    · exact .inl (Option.some.inj e)
    · rcases List.mem_append.1 hy with hy | hy
      · exact .inr (.inl (.inr ⟨y, hy, e⟩))
      · rw [List.mem_singleton.1 hy] at e; exact .inr (.inr e)
  have hxA' : Ans w wB.heap.size xx.a xx.da.length xx.c xx.da := by rw [HXX.out]; exact hxA
  have hxO' : OwGi w wB.heap.size xx.q xx.ga.length xx.d xx.ga := by rw [HXX.out]; exact hxO
  have h1' : ∀ z, ((Value.slice xx.a xx.da.length xx.c).ownBlock = some z ∨ (Value.slice xx.q xx.ga.length xx.d).ownBlock = some z) → ¬ Nbl na nn nc xs z ∧ (Value.slice a n c).ownBlock ≠ some z ∧ (Value.slice q m d).ownBlock ≠ some z := by rw [HXX.out]; exact h1
  have hrow : ∀ z, (Value.slice na nn nc).ownBlock = some z → ∃ cs, BxS w3 z 27 cs := fun z e => own_bxS hN3.own e
  have hO4' := hO4
  rw [← flN_add] at hO4'
  have kA : ∀ (a9 : Option Addr) (n9 c9 : Nat) (L9 : List Nat), Ans w wB.heap.size a9 n9 c9 L9 → Ans w5 wB.heap.size a9 n9 c9 L9 := by
    intro a9 n9 c9 L9 h9
    have h3 := h9.keep G3
    refine (h3.kRR u4 (fun z e e2 => ?_)).kRR u5 (fun z e e2 => ?_)
    · obtain ⟨cs, hb⟩ := hrow z e
      exact own_ty h3.own hb (by decide) e2
    · have e := Option.some.inj e
      subst e
      exact own_ty h3.own S3.1 (by decide) e2
  have kO : ∀ (a9 : Option Addr) (n9 c9 : Nat) (L9 : List (Int × Int)), OwGi w wB.heap.size a9 n9 c9 L9 → OwGi w5 wB.heap.size a9 n9 c9 L9 := by
    intro a9 n9 c9 L9 h9
    have h3 := h9.keep G3
    refine (h3.kR u4 (fun z e e2 => ?_)).kR u5 (fun z e e2 => ?_)
    · obtain ⟨cs, hb⟩ := hrow z e
      exact own_ty h3.own hb (by decide) e2
    · have e := Option.some.inj e
      subst e
      exact own_ty h3.own S3.1 (by decide) e2
  have hN5 : OwN w5 wB.heap.size (some ⟨gx, 0, none⟩) (nn + 1) cx (xs ++ [xx]) := by
    refine ⟨hO4'.kept u5 (.inr (fun e => own_ty hO4' S4.1 (by decide) e)), by rw [List.length_append, h.N.len]; rfl, fun g e => ?_, fun y hy => ?_, fun y hy => ?_, ?_, ?_⟩
    · have e : gx = g := Option.some.inj e
      subst e
      rcases hgx with e | e
      · exact h.N.new _ e
      · omega
    · rcases List.mem_append.1 hy with hy | hy
      · exact kA _ _ _ _ (h.N.eA y hy)
      · rw [List.mem_singleton.1 hy]; exact kA _ _ _ _ hxA'
    · rcases List.mem_append.1 hy with hy | hy
      · exact kO _ _ _ _ (h.N.eO y hy)
      · rw [List.mem_singleton.1 hy]; exact kO _ _ _ _ hxO'
    · refine List.pairwise_append.2 ⟨h.N.pA, List.pairwise_singleton _ _, fun y hy z hz g e e2 => ?_⟩
      rw [List.mem_singleton.1 hz] at e2
      exact (h1' g (.inl e2)).1 (.inr ⟨y, hy, .inl e⟩)
    · refine List.pairwise_append.2 ⟨h.N.pO, List.pairwise_singleton _ _, fun y hy z hz g e e2 => ?_⟩
      rw [List.mem_singleton.1 hz] at e2
      exact (h1' g (.inr e2)).1 (.inr ⟨y, hy, .inr e⟩)
  have kS : ∀ z, z < w.heap.size → ¬ Nbl na nn nc xs z → ¬ ((Value.slice xx.a xx.da.length xx.c).ownBlock = some z ∨ (Value.slice xx.q xx.ga.length xx.d).ownBlock = some z) → ¬ Nbl (some ⟨gx, 0, none⟩) (nn + 1) cx (xs ++ [xx]) z := by
    intro z hz hn1 hn2 hb
    rcases hbl z hb with e | e | e
    · subst e
      rcases hgx with e | e
      · exact hn1 (.inl e)
      · omega
    · exact hn1 e
    · exact hn2 e
  have fin : ∃ na' nc', TKW wB w5 gw id kn nm si en la su st ti pa tr li a n c L q m d G na' (nn + 1) nc' (xs ++ [xx]) :=
    ⟨_, _, b5, kA _ _ _ _ h.A, kO _ _ _ _ h.O, hN5, h.gl, (fun z e => kS z (own_ltN h.A.own e) (h.sA z e) (fun e2 => (h1' z e2).2.1 e)), (fun z e => kS z (own_ltN h.O.own e) (h.sO z e) (fun e2 => (h1' z e2).2.2 e)), grown_far (grown_far (grown_trans h.g G3) u4 (fun z e => (hr4 z e).1)) u5 (fun z e => by have e := Option.some.inj e; have := h.gl; omega)⟩

  first | go_end0 | refine bodyPost_ret (results_none rfl _ _ _) rfl ?_
  exact ⟨rfl, fin, fun g9 t9 cs9 hb9 hn9 hr9 => ((hb9.keep G3 (by simp)).keep u4 (fun e => hr9 e.symm)).keep u5 (fun e => hn9 (Option.some.inj e))⟩

/-- boxes of takers lie as they lay -/
def KpK (w w' : World) : Prop := ∀ g cs, BxS w g 48 cs → BxS w' g 48 cs
theorem KpK.none {w w' : World} (u : w.grownBy w' none) : KpK w w' := fun g cs hb => hb.keep u (by simp)
theorem KpK.trans {u v w : World} (h : KpK u v) (k : KpK v w) : KpK u w := fun g cs hb => k g cs (h g cs hb)
theorem KpK.bx {w w' : World} {g : Nat} {t : TypeId} {cs : Array Value} (b : BxS w g t cs) (ht : 48 ≠ t) (u : w.grownBy w' (some g)) : KpK w w' := fun g9 cs9 hb => hb.keep u (fun e => BxS.apart hb b ht (Option.some.inj e))
theorem TKW.set {wB w w' : World} {gw : Nat} {id : Int} {kn : Bool} {nm : ByteArray} {si : Int} {en : Bool} {la su : Int} {st ti pa tr li : Int} {a : Option Addr} {n c : Nat} {L : List Nat} {q : Option Addr} {m d : Nat} {G : List (Int × Int)} {na : Option Addr} {nn nc : Nat} {xs : List Nx} (h : TKW wB w gw id kn nm si en la su st ti pa tr li a n c L q m d G na nn nc xs) (u : w.grownBy w' (some gw)) {kn2 : Bool} {nm2 : ByteArray} {si2 : Int} {en2 : Bool} {la2 su2 st2 ti2 tr2 : Int} (b : BxS w' gw 112 #[.int .i64 id, .bool kn2, .string nm2, .int .i64 si2, .bool en2, .int .i64 la2, .int .i64 su2, .slice q m d, .slice a n c, .int .i64 st2, .int .i64 ti2, .int .i64 pa, .int .i64 tr2, .int .i64 li, .slice na nn nc]) :
    TKW wB w' gw id kn2 nm2 si2 en2 la2 su2 st2 ti2 pa tr2 li a n c L q m d G na nn nc xs :=
  ⟨b, h.A.kRR u (fun z e e2 => by have e := Option.some.inj e; subst e; exact own_ty h.A.own h.bx (by decide) e2), h.O.bx h.bx (by decide) u, h.N.bx h.bx (by decide) (by decide) (by decide) u, h.gl, h.sA, h.sO, grown_far h.g u (fun z e => by have e := Option.some.inj e; have := h.gl; omega)⟩
theorem TKW.keepN {wB w w' : World} {gw : Nat} {id : Int} {kn : Bool} {nm : ByteArray} {si : Int} {en : Bool} {la su : Int} {st ti pa tr li : Int} {a : Option Addr} {n c : Nat} {L : List Nat} {q : Option Addr} {m d : Nat} {G : List (Int × Int)} {na : Option Addr} {nn nc : Nat} {xs : List Nx} (h : TKW wB w gw id kn nm si en la su st ti pa tr li a n c L q m d G na nn nc xs) (u : w.grownBy w' none) : TKW wB w' gw id kn nm si en la su st ti pa tr li a n c L q m d G na nn nc xs :=
  ⟨h.bx.keep u (by simp), h.A.keep u, h.O.keep u, h.N.keep u, h.gl, h.sA, h.sO, grown_trans h.g u⟩
/-- other boxes lie as they lay -/
def FrK (gw : Nat) (na : Option Addr) (nn nc : Nat) (w w' : World) : Prop := ∀ g9 t9 cs9, BxS w g9 t9 cs9 → g9 ≠ gw → (Value.slice na nn nc).ownBlock ≠ some g9 → BxS w' g9 t9 cs9
theorem FrK.kp {wB w w' : World} {gw : Nat} {id : Int} {kn : Bool} {nm : ByteArray} {si : Int} {en : Bool} {la su : Int} {st ti pa tr li : Int} {a : Option Addr} {n c : Nat} {L : List Nat} {q : Option Addr} {m d : Nat} {G : List (Int × Int)} {na : Option Addr} {nn nc : Nat} {xs : List Nx} (h : TKW wB w gw id kn nm si en la su st ti pa tr li a n c L q m d G na nn nc xs) (f : FrK gw na nn nc w w') : KpK w w' :=
  fun g9 cs9 hb9 => f g9 _ cs9 hb9 (fun e => by subst e; exact BxS.apart hb9 h.bx (by decide) rfl) (fun e => own_ty h.N.own hb9 (by decide) e)
end

section
theorem rise_end {F : Nat → Int × Int} {n : Nat} (h : Rise F n) : ∀ d j, j + d < n → (F j).2 ≤ (F (j + d)).2 := by
  intro d
  induction d with
  | zero => intro j _; exact Int.le_refl _
  | succ d ih =>
    intro j hj
    have a := ih j (by omega)
    obtain ⟨k1, k2, k3⟩ := h (j + (d + 1)) hj
    have k3 : (F (j + d)).2 < _ := k3 (by omega)
    omega
theorem rise_rc {F : Nat → Int × Int} {n : Nat} (h : Rise F n) : 0 ≤ rcN F n ∧ ∀ j, j < n → (F j).2 ≤ rcN F n := by
  unfold rcN
  by_cases e : n = 0
  · rw [if_pos e]; exact ⟨Int.le_refl _, fun j hj => by omega⟩
  · rw [if_neg e]
    refine ⟨by have := h (n - 1) (by omega); omega, fun j hj => ?_⟩
    have := rise_end h (n - 1 - j) j (by omega)
    rw [show j + (n - 1 - j) = n - 1 by omega] at this
    exact this
theorem rsB_of {F : Nat → Int × Int} {s : Int} : ∀ n, Rise F n → (∀ j, j < n → (F j).2 ≤ s) → rsB F s n = true := by
  intro n
  induction n with
  | zero => intro _ _; rfl
  | succ n ih =>
    intro h hs
    obtain ⟨k1, k2, k3⟩ := h n (by omega)
    have k4 := hs n (by omega)
    show (rsB F s n && (spB (F n).1 (F n).2 s && (decide (n = 0) || decide ((F (n - 1)).2 < (F n).1)))) = true
    unfold spB
    simp only [Bool.and_eq_true, Bool.or_eq_true, decide_eq_true_eq]
    refine ⟨ih (rise_pre h) (fun j hj => hs j (by omega)), ⟨k1, k2, k4⟩, ?_⟩
    by_cases e : n = 0
    · exact .inl e
    · exact .inr (k3 (by omega))
end

section
/-- what Give answers -/
def giV (gB : Bool) (V : Gv) : Gv × List Nt × Nat := if gB = false then (zGv, [], 11) else ((tiG V).1, (tiG V).2, 0)
theorem gvB_go {V : Gv} (h : (gvB V.id V.nm.size V.L.length V.mo V.bu V.st V.fi V.at' V.G.length (alG (giF V.G) V.L.length V.G.length) V.ti V.pa V.tr V.li) = true) : GvO V ∧ (∃ B : Nat, V.bu = (B : Int) ∧ B ≤ 50) ∧ (0 ≤ V.st ∧ V.st ≤ 4) := by
  have hp := gvB_parts h
  unfold gvB at h
  simp only [Bool.and_eq_true, decide_eq_true_eq] at h
  obtain ⟨h1, h2, h3, h4, h5, h6, h7⟩ := h
  have ho : ofB V.id V.pa V.li V.mo V.bu = true ∧ ofC V.nm.size V.L.length = true := by
    unfold ofE at h1
    by_cases e : ofB V.id V.pa V.li V.mo V.bu = true
    · rw [if_pos e] at h1
      by_cases e2 : ofC V.nm.size V.L.length = true
      · exact ⟨e, e2⟩
      · rw [if_neg e2] at h1; cases h1
    · rw [if_neg e] at h1; cases h1
  obtain ⟨o1, o2⟩ := ho
  unfold ofB dsB kwB at o1
  unfold ofC kwB at o2
  unfold kwB at h3 h6 h7
  simp only [Bool.and_eq_true, decide_eq_true_eq] at o1 o2 h3 h6 h7
  refine ⟨⟨by omega, by omega, by omega, fun p hp9 => ?_, h4, by omega, by omega⟩, ⟨V.bu.toNat, by omega, by omega⟩, hp.1⟩
  obtain ⟨i, hi, e⟩ := List.getElem_of_mem hp9
  have := alG_at h5 hi
  have e2 : giF V.G i = p := by unfold giF; rw [List.getD_eq_getElem?_getD, List.getElem?_eq_getElem hi]; exact e
  rw [e2] at this
  exact this

set_option maxHeartbeats 16000000 in
theorem gv_t5 {u0 u1 u3 u4 u6 u7 u8 u9 u10 u11 u12 u13 u14 u15 u16 u17 u18 u19 u20 u21 : Value} (P : Ending → World → Prop) (wB w : World) (gw : Nat) (id : Int) (nm : ByteArray) (mo bu st : Int) (fi : Bool) (at' ti pa tr li : Int) (a : Option Addr) (n c : Nat) (L : List Nat) (q : Option Addr) (m d : Nat) (G : List (Int × Int)) (na : Option Addr) (nn nc : Nat) (xs : List Nx) (h : GW wB w gw id nm mo bu st fi at' ti pa tr li a n c L q m d G na nn nc xs) (g4 : Nat) (cs4 : Array Value) (hs4 : cs4.size = 13) (b4 : BxS w g4 44 cs4)
    (hP : ∀ w', w.grownBy w' (some g4) → P (.returned (.tuple #[.agg #[.int .i64 id, .string nm, .slice a n c, .int .i64 mo, .int .i64 bu, .int .i64 st, .bool fi, .int .i64 at', .slice q m d, .int .i64 ti, .int .i64 pa, .int .i64 tr, .int .i64 li], .slice na nn nc, .int .i64 0])) w') :
    Code.wp Try.prog (tailR 5 (Try.f32.body.getD .skip)) (bodyPost Try.prog Try.f32 P) (Act.mk (List.toArray (u0 :: u1 :: (.pointer (some ⟨g4, 0, none⟩)) :: u3 :: u4 :: (.pointer (some ⟨gw, 0, none⟩)) :: u6 :: u7 :: u8 :: u9 :: u10 :: u11 :: u12 :: u13 :: u14 :: u15 :: u16 :: u17 :: u18 :: u19 :: u20 :: u21 :: [])) []) w := by
  conv => enter [2]; whnf
  have HP : Hid _ := hP
  clear hP
  have i13 := Try.info_gv
  refine wp_seq_k fun K1 hK1 => ?_
  have HK1 : Hid _ := hK1
  clear hK1
  have Gd := grown_drew w none
  have SS : BxS w.drew gw 100 #[.int .i64 id, .string nm, .slice a n c, .int .i64 mo, .int .i64 bu, .int .i64 st, .bool fi, .int .i64 at', .slice q m d, .int .i64 ti, .int .i64 pa, .int .i64 tr, .int .i64 li, .slice na nn nc] := h.bx.keep Gd (by simp)
  have b4d := b4.keep Gd (by simp)
  refine wp_regionL (fun wz => BxS wz gw 100 #[.int .i64 id, .string nm, .slice a n c, .int .i64 mo, .int .i64 bu, .int .i64 st, .bool fi, .int .i64 at', .slice q m d, .int .i64 ti, .int .i64 pa, .int .i64 tr, .int .i64 li, .slice na nn nc]) [] #[false, false, false, false, false, false, false, false, false, false, false] rfl (by kernel_rfl) ?_
  refine wpAnyZ_take [] 0 (.pointer (some ⟨gw, 0, none⟩)) rfl (by kernel_rfl) (fun _ _ _ h => h) SS rfl (by intro wz hz; go_simp) ?_
  try simp only [zc1, zc2, zc3, Act.put, zc4, zc5, zc6]
  refine wpAnyZ_take [] 1 (.pointer (some ⟨gw, 0, none⟩)) rfl (by kernel_rfl) (fun _ _ _ h => h) SS rfl (by intro wz hz; go_simp) ?_
  try simp only [zc1, zc2, zc3, Act.put, zc4, zc5, zc6]
  refine wpAnyZ_take [] 2 (.pointer (some ⟨gw, 0, none⟩)) rfl (by kernel_rfl) (fun _ _ _ h => h) SS rfl (by intro wz hz; go_simp) ?_
  try simp only [zc1, zc2, zc3, Act.put, zc4, zc5, zc6]
  refine wpAnyZ_take [] 3 (.agg #[.int .i64 id, .string nm, .slice a n c, .int .i64 mo, .int .i64 bu, .int .i64 st, .bool fi, .int .i64 at', .slice q m d, .int .i64 ti, .int .i64 pa, .int .i64 tr, .int .i64 li]) rfl (by kernel_rfl) (fun _ _ _ h => h) SS rfl (by intro wz hz; exact ld_13 rfl rfl hz) ?_
  try simp only [zc1, zc2, zc3, Act.put, zc4, zc5, zc6]
  refine wpAnyZ_take [] 4 (.pointer (some ⟨gw, 0, none⟩)) rfl (by kernel_rfl) (fun _ _ _ h => h) SS rfl (by intro wz hz; go_simp) ?_
  try simp only [zc1, zc2, zc3, Act.put, zc4, zc5, zc6]
  refine wpAnyZ_take [] 5 (.pointer (some ⟨gw, 0, none⟩)) rfl (by kernel_rfl) (fun _ _ _ h => h) SS rfl (by intro wz hz; go_simp) ?_
  try simp only [zc1, zc2, zc3, Act.put, zc4, zc5, zc6]
  refine wpAnyZ_take [] 6 (.pointer (some ⟨gw, 13, none⟩)) rfl (by kernel_rfl) (fun _ _ _ h => h) SS rfl (by intro wz hz; go_simp) ?_
  try simp only [zc1, zc2, zc3, Act.put, zc4, zc5, zc6]
  refine wpAnyZ_take [] 7 (.slice na nn nc) rfl (by kernel_rfl) (fun _ _ _ h => h) SS rfl (by intro wz hz; have z : wz.cell? ⟨gw, 13, none⟩ = some (.slice na nn nc) := hz.cell 13 (by show 13 < 14; decide); go_simp) ?_
  try simp only [zc1, zc2, zc3, Act.put, zc4, zc5, zc6]
  have l4 := b4d.lt
  generalize w.drew = w2 at *
  refine wpAnyZ_oneB 8 rfl (by kernel_rfl) (fun KK hKK => ?_)
  refine step_stX _ rfl _ _ _ rfl g4 _ _ rfl rfl b4d i13 hs4 (by simp [Value.oneCell']) ?_
  intro w3 b43 u3
  have S3 := SS.keep u3 (fun e => BxS.apart SS b4d (by decide) (Option.some.inj e))
  refine hKK _ _ (fun _ => S3) ?_
  try simp only [zc1, zc2, zc3, Act.put, zc4, zc5, zc6]
  refine wpAnyZ_take [] 9 (.slice na nn nc) rfl (by kernel_rfl) (fun _ _ _ h => h) S3 rfl (by intro wz hz; go_simp) ?_
  try simp only [zc1, zc2, zc3, Act.put, zc4, zc5, zc6]
  refine wpAnyZ_take [] 10 (.int .i64 0) rfl (by kernel_rfl) (fun _ _ _ h => h) S3 rfl (by intro wz hz; go_simp) ?_
  try simp only [zc1, zc2, zc3, Act.put, zc4, zc5, zc6]
  refine wpAnyZ_doneB (by kernel_rfl) ?_ _
  refine HK1.out _ _ ?_
  clear HK1
  go_wp2
  refine bodyPost_ret (results_c1t2 rfl _ _ _ ⟨g4, 0, none⟩ _ _ _ rfl (BxS.load (t := 44) b43 Try.underlying44 Try.info_gv) rfl rfl) rfl ?_
  exact HP.out w3 (grown_trans (grown_weak Gd _) u3)

set_option maxHeartbeats 32000000 in
/-- Give -/
theorem give_any (V : Gv) (a q : Option Addr) (c d : Nat) (w : World) (hL : Rd w a V.L.length c V.L) (hG : RdG w q V.G.length d (giF V.G)) (hn : V.L.length ≤ 140737488351232) (hm : V.G.length ≤ 8796093021952) (hpa : -9223372036854775808 ≤ V.pa ∧ V.pa ≤ 9223372036854775807) :
    Calls Try.prog 32 #[.agg (gvA V.id V.nm (.slice a V.L.length c) V.mo V.bu V.st V.fi V.at' (.slice q V.G.length d) V.ti V.pa V.tr V.li)] w fun e w' => RT w (giV (gvB V.id V.nm.size V.L.length V.mo V.bu V.st V.fi V.at' V.G.length (alG (giF V.G) V.L.length V.G.length) V.ti V.pa V.tr V.li) V).1 (giV (gvB V.id V.nm.size V.L.length V.mo V.bu V.st V.fi V.at' V.G.length (alG (giF V.G) V.L.length V.G.length) V.ti V.pa V.tr V.li) V).2.1 (giV (gvB V.id V.nm.size V.L.length V.mo V.bu V.st V.fi V.at' V.G.length (alG (giF V.G) V.L.length V.G.length) V.ti V.pa V.tr V.li) V).2.2 e w' := by
  have i13 := Try.info_gv
  have kM := fun wz (k : RdG wz q V.G.length d (giF V.G)) => giverMay_any V.id V.nm a V.L.length c V.mo V.bu V.st V.fi V.at' q V.G.length d V.ti V.pa V.tr V.li (giF V.G) wz k hpa
  have kA := fun wz (k1 : Rd wz a V.L.length c V.L) (k : RdG wz q V.G.length d (giF V.G)) => atWork_any V.id V.nm a V.L.length c V.mo V.bu V.st V.fi V.at' q V.G.length d V.ti V.pa V.tr V.li (giF V.G) V.L wz k1 k hn hm
  have hgo := fun h => gvB_go (V := V) h
  have HGO : Hid _ := hgo
  clear hgo
  unfold gvA at kM kA
  generalize (gvB V.id V.nm.size V.L.length V.mo V.bu V.st V.fi V.at' V.G.length (alG (giF V.G) V.L.length V.G.length) V.ti V.pa V.tr V.li) = gB at kM HGO
  have b1 := BxS.new w 44 #[.int .i64 V.id, .string V.nm, .slice a V.L.length c, .int .i64 V.mo, .int .i64 V.bu, .int .i64 V.st, .bool V.fi, .int .i64 V.at', .slice q V.G.length d, .int .i64 V.ti, .int .i64 V.pa, .int .i64 V.tr, .int .i64 V.li]
  have y1 := World.grownBy_alloc w (.cells #[.int .i64 V.id, .string V.nm, .slice a V.L.length c, .int .i64 V.mo, .int .i64 V.bu, .int .i64 V.st, .bool V.fi, .int .i64 V.at', .slice q V.G.length d, .int .i64 V.ti, .int .i64 V.pa, .int .i64 V.tr, .int .i64 V.li] 44) none
  unfold gvA
  have hz1 : (w.alloc (.cells #[.int .i64 V.id, .string V.nm, .slice a V.L.length c, .int .i64 V.mo, .int .i64 V.bu, .int .i64 V.st, .bool V.fi, .int .i64 V.at', .slice q V.G.length d, .int .i64 V.ti, .int .i64 V.pa, .int .i64 V.tr, .int .i64 V.li] 44)).heap.size = w.heap.size + 1 := by simp
  generalize hw1 : w.alloc (.cells #[.int .i64 V.id, .string V.nm, .slice a V.L.length c, .int .i64 V.mo, .int .i64 V.bu, .int .i64 V.st, .bool V.fi, .int .i64 V.at', .slice q V.G.length d, .int .i64 V.ti, .int .i64 V.pa, .int .i64 V.tr, .int .i64 V.li] 44) = w1 at b1 y1 hz1
  have b2 := BxS.new w1 44 #[.int .i64 0, .string ⟨#[]⟩, .slice none 0 0, .int .i64 0, .int .i64 0, .int .i64 0, .bool false, .int .i64 0, .slice none 0 0, .int .i64 0, .int .i64 0, .int .i64 0, .int .i64 0]
  have y2 := World.grownBy_alloc w1 (.cells #[.int .i64 0, .string ⟨#[]⟩, .slice none 0 0, .int .i64 0, .int .i64 0, .int .i64 0, .bool false, .int .i64 0, .slice none 0 0, .int .i64 0, .int .i64 0, .int .i64 0, .int .i64 0] 44) none
  rw [hz1] at b2
  generalize hw2 : w1.alloc (.cells #[.int .i64 0, .string ⟨#[]⟩, .slice none 0 0, .int .i64 0, .int .i64 0, .int .i64 0, .bool false, .int .i64 0, .slice none 0 0, .int .i64 0, .int .i64 0, .int .i64 0, .int .i64 0] 44) = w2 at b2 y2
  have b1 := b1.keep y2 (by simp)
  have G2 := grown_trans y1 y2
  go_enter Try.func32, Try.ntmps32
  refine wp_seq_k fun K1 hK1 => ?_
  have HK1 : Hid _ := hK1
  clear hK1
  go_wp2
  refine HK1.out _ _ ?_
  clear HK1
  clear hw1 hw2 y1 y2
  have s0 : True := trivial
  cases gB with
  | false =>
    go_wp2_with (first
      | (have _t := s0; clear s0; refine wpList_ldX _ rfl _ (.tmp 1) rfl w.heap.size _ rfl b1 Try.underlying44 i13 ?_; have s1 : True := trivial)
      | (go_at_call 66; have _t := s1; clear s1; refine (kM w2 (hG.keep G2)).mono ?_; rintro e w3 ⟨rfl, y3⟩; have b23 := b2.keep y3 (by simp); have s2 : True := trivial)
      | (have _t := s2; clear s2; refine wpList_stX _ rfl _ (.tmp 2) (.tmp 9) rfl (w.heap.size + 1) _ _ rfl rfl b23 i13 rfl (by simp [Value.oneCell']) ?_; intro w4 b24 u4))
    refine bodyPost_ret (results_c1t2 rfl _ _ _ ⟨w.heap.size + 1, 0, none⟩ _ _ _ rfl (BxS.load (t := 44) b24 Try.underlying44 Try.info_gv) rfl rfl) rfl ?_
    exact ⟨none, 0, none, 0, none, 0, [], rfl, rfl, Ans.nil _ _, OwGi.nil _ _, OwN.nil _ _, (fun z e => by cases e), (fun z e => by cases e), grown_far (grown_trans G2 y3) u4 (fun z e => by have e := Option.some.inj e; omega)⟩
  | true =>
    obtain ⟨ho, ⟨B, hB, hB9⟩, hst⟩ := HGO.out rfl
    have HO : Hid _ := ho
    have HBB : Hid _ := hB
    clear ho hB
    refine wp_seq_k fun K2 hK2 => ?_
    have HK2 : Hid _ := hK2
    clear hK2
    go_wp2_with (first
      | (have _t := s0; clear s0; refine wpList_ldX _ rfl _ (.tmp 1) rfl w.heap.size _ rfl b1 Try.underlying44 i13 ?_; have s1 : True := trivial)
      | (go_at_call 66; have _t := s1; clear s1; refine (kM w2 (hG.keep G2)).mono ?_; rintro e w3 ⟨rfl, y3⟩; have s2 : True := trivial))
    refine HK2.out _ _ ?_
    clear HK2
    have b13 := b1.keep y3 (by simp)
    have b23 := b2.keep y3 (by simp)
    have G3 := grown_trans G2 y3
    refine wp_seq_k fun K3 hK3 => ?_
    have HK3 : Hid _ := hK3
    clear hK3
    go_wp2_with (first
      | (have _t := s2; clear s2; refine wpList_ldX _ rfl _ (.tmp 1) rfl w.heap.size _ rfl b13 Try.underlying44 i13 ?_; have s3 : True := trivial)
      | (go_at_call 67; have _t := s3; clear s3; refine (kA w3 (hL.keep G3) (hG.keep G3)).mono ?_; rintro e w4 ⟨gw, a', c', q', d', rfl, bw, hA, hO, hgw, y4⟩))
    refine HK3.out _ _ ?_
    clear HK3
    rw [tab_giF] at hO
    have z3 := G3.size
    have hW : GW w w4 gw V.id V.nm V.mo V.bu V.st V.fi V.at' V.ti V.pa V.tr V.li a' V.L.length c' V.L q' V.G.length d' V.G none 0 0 [] := ⟨bw, hA.wide z3, hO.wide z3, OwN.nil _ _, by omega, (fun z e => nbl_nil), (fun z e => nbl_nil), grown_trans G3 y4⟩
    have b24 := b23.keep y4 (by simp)
    refine wp_seq_k fun K4 hK4 => ?_
    have HK4 : Hid _ := hK4
    clear hK4
    go_wp2_with (go_at_call 68; refine (tick_any w w4 gw V ⟨a', c', q', d', none, 0, [], rfl, hW⟩ HO.out B HBB.out (by omega) hst).mono ?_; rintro e w5 ⟨rfl, h5, k5⟩)
    refine HK4.out _ _ ?_
    clear HK4
    have b25 := k5 _ _ b24
    have HX : Hid (giV true V = ((tiG V).1, (tiG V).2, 0)) := rfl
    rw [HX.out]
    generalize tiG V = R at h5 ⊢
    obtain ⟨W, T⟩ := R
    dsimp only at h5 ⊢
    obtain ⟨a5, c5, q5, d5, na5, nc5, xs5, hT5, h5⟩ := h5
    have hxl : xs5.length = T.length := by rw [← hT5, List.length_map]
    rw [hxl] at h5
    refine gv_t5 _ w w5 gw W.id W.nm W.mo W.bu W.st W.fi W.at' W.ti W.pa W.tr W.li a5 W.L.length c5 W.L q5 W.G.length d5 W.G na5 T.length nc5 xs5 h5 (w.heap.size + 1) _ rfl b25 ?_
    intro w' u9
    exact ⟨a5, c5, q5, d5, na5, nc5, xs5, rfl, hT5, h5.A.kRR u9 (fun z e e2 => by have e := Option.some.inj e; subst e; exact own_ty h5.A.own b25 (by decide) e2), h5.O.bx b25 (by decide) u9, h5.N.bx b25 (by decide) (by decide) (by decide) u9, h5.sA, h5.sO, grown_far h5.g u9 (fun z e => by have e := Option.some.inj e; omega)⟩
end
end Go.Proofs.Ytnimehkfnpepfaa
