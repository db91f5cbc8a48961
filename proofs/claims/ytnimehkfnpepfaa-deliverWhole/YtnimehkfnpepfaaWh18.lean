import Derived.Test.YtnimehkfnpepfaaWh15
import Derived.Test.YtnimehkfnpepfaaWh16
namespace Go.Proofs.Ytnimehkfnpepfaa
open Go.RowKit
set_option maxRecDepth 100000
set_option linter.unusedVariables false
set_option linter.unusedSimpArgs false

section
/-- a note and where its memory lies -/
structure Nx where
  kd : Int
  id : Int
  nm : ByteArray
  si : Int
  su : Int
  at' : Int
  da : List Nat
  ga : List (Int × Int)
  o : Int
  co : Int
  a : Option Addr
  c : Nat
  q : Option Addr
  d : Nat
def Nx.arr (x : Nx) : Array Value := #[.int .i64 x.kd, .int .i64 x.id, .string x.nm, .int .i64 x.si, .int .i64 x.su, .int .i64 x.at', .slice x.a x.da.length x.c, .slice x.q x.ga.length x.d, .int .i64 x.o, .int .i64 x.co]
def Nx.cells (x : Nx) : List Value := x.arr.toList
def flN (xs : List Nx) : List Value := xs.flatMap Nx.cells
theorem flN_add (xs : List Nx) (x : Nx) : flN (xs ++ [x]) = flN xs ++ x.cells := by
  unfold flN
  rw [List.flatMap_append]
  simp
theorem flN_at : ∀ (xs : List Nx) (i : Nat) (x : Nx), xs[i]? = some x → ∀ j, j < 10 → (flN xs)[i * 10 + j]? = x.cells[j]? := by
  intro xs
  induction xs with
  | nil => intro i x h; cases h
  | cons y xs ih =>
    intro i x h j hj
    have hy : y.cells.length = 10 := rfl
    show (y.cells ++ flN xs)[i * 10 + j]? = _
    cases i with
    | zero =>
      have e : y = x := Option.some.inj h
      subst e
      rw [Nat.zero_mul, Nat.zero_add, List.getElem?_append_left (by omega)]
    | succ i =>
      rw [List.getElem?_append_right (by omega), hy, show (i + 1) * 10 + j - 10 = i * 10 + j by omega]
      exact ih i x h j hj
/-- notes in new memory -/
structure OwN (w : World) (lo : Nat) (a : Option Addr) (n c : Nat) (xs : List Nx) : Prop where
  own : w.ownsRow 0 27 10 (.slice a n c) n (flN xs)
  len : xs.length = n
  new : ∀ g, (Value.slice a n c).ownBlock = some g → lo ≤ g
  eA : ∀ x, x ∈ xs → Ans w lo x.a x.da.length x.c x.da
  eO : ∀ x, x ∈ xs → OwGi w lo x.q x.ga.length x.d x.ga
  pA : xs.Pairwise fun x y => ∀ g, (Value.slice x.a x.da.length x.c).ownBlock = some g → (Value.slice y.a y.da.length y.c).ownBlock ≠ some g
  pO : xs.Pairwise fun x y => ∀ g, (Value.slice x.q x.ga.length x.d).ownBlock = some g → (Value.slice y.q y.ga.length y.d).ownBlock ≠ some g
/-- the blocks of notes -/
def Nbl (a : Option Addr) (n c : Nat) (xs : List Nx) (g : Nat) : Prop := (Value.slice a n c).ownBlock = some g ∨ ∃ x, x ∈ xs ∧ ((Value.slice x.a x.da.length x.c).ownBlock = some g ∨ (Value.slice x.q x.ga.length x.d).ownBlock = some g)
section
variable {w w' : World} {lo lo' : Nat} {a : Option Addr} {n c : Nat} {xs : List Nx} {r : Option Nat}
theorem OwN.nil (w : World) (lo : Nat) : OwN w lo none 0 0 [] := ⟨World.ownsRow_nil _ _ _ _, rfl, (fun g h => by cases h), (fun x h => by cases h), (fun x h => by cases h), List.Pairwise.nil, List.Pairwise.nil⟩
theorem OwN.kR (h : OwN w lo a n c xs) (hg : w.grownBy w' r) (hr : ∀ z, r = some z → ¬ Nbl a n c xs z) : OwN w' lo a n c xs := by
  refine ⟨h.own.kept hg ?_, h.len, h.new, fun x hx => (h.eA x hx).kept hg ?_, fun x hx => (h.eO x hx).kR hg (fun z e e2 => hr z e (.inr ⟨x, hx, .inr e2⟩)), h.pA, h.pO⟩
  · cases hz : (Value.slice a n c).ownBlock with
    | none => exact .inl rfl
    | some z => exact .inr (fun e => hr z e.symm (.inl hz))
  · cases hz : (Value.slice x.a x.da.length x.c).ownBlock with
    | none => exact .inl rfl
    | some z => exact .inr (fun e => hr z e.symm (.inr ⟨x, hx, .inl hz⟩))
theorem OwN.keep (h : OwN w lo a n c xs) (hg : w.grownBy w' none) : OwN w' lo a n c xs := h.kR hg (fun z e => by cases e)
theorem own_ltN {t : TypeId} {k : Nat} {v : Value} {ys : List Value} (h : w.ownsRow 0 t k v n ys) {g : Nat} (e : v.ownBlock = some g) : g < w.heap.size := by
  rcases h.2 with ⟨h1, _⟩ | ⟨g', cap', cur, h1, _, h3, _⟩
  · rw [h1] at e; cases e
  · rw [h1] at e
    have e : g' = g := Option.some.inj e
    subst e
    exact (Array.getElem?_eq_some_iff.1 h3).1
theorem OwN.lt (h : OwN w lo a n c xs) {z : Nat} (hz : Nbl a n c xs z) : z < w.heap.size := by
  rcases hz with hz | ⟨x, hx, hz | hz⟩
  · exact own_ltN h.own hz
  · exact own_ltN (h.eA x hx).own hz
  · exact own_ltN (h.eO x hx).own hz
theorem own_ty {t u : TypeId} {k : Nat} {v : Value} {ys : List Value} {cs : Array Value} (h : w.ownsRow 0 t k v n ys) {g : Nat} (hb : BxS w g u cs) (ht : t ≠ u) : v.ownBlock ≠ some g := by
  intro e
  rcases h.2 with ⟨h1, _⟩ | ⟨g', cap', cur, h1, _, h3, _⟩
  · rw [h1] at e; cases e
  · rw [h1] at e
    have e : g' = g := Option.some.inj e
    subst e
    have hb : w.heap[g']? = some (.cells cs u) := hb
    rw [h3] at hb
    injection hb with hb
    injection hb with _ hb
    exact ht hb
/-- a box of a type of its own -/
theorem OwN.bx {g : Nat} {t : TypeId} {cs : Array Value} (h : OwN w lo a n c xs) (hb : BxS w g t cs) (h1 : 27 ≠ t) (h2 : 5 ≠ t) (h3 : 82 ≠ t) (hg : w.grownBy w' (some g)) : OwN w' lo a n c xs :=
  h.kR hg (fun z e hz => by
    have e := Option.some.inj e
    subst e
    rcases hz with hz | ⟨x, hx, hz | hz⟩
    · exact own_ty h.own hb h1 hz
    · exact own_ty (h.eA x hx).own hb h2 hz
    · exact own_ty (h.eO x hx).own hb h3 hz)
end
end

section
/-- a giver at work; wB: the world when the call began -/
structure GW (wB w : World) (gw : Nat) (id : Int) (nm : ByteArray) (mo bu st : Int) (fi : Bool) (at' ti pa tr li : Int) (a : Option Addr) (n c : Nat) (L : List Nat) (q : Option Addr) (m d : Nat) (G : List (Int × Int)) (na : Option Addr) (nn nc : Nat) (xs : List Nx) : Prop where
  bx : BxS w gw 100 #[.int .i64 id, .string nm, .slice a n c, .int .i64 mo, .int .i64 bu, .int .i64 st, .bool fi, .int .i64 at', .slice q m d, .int .i64 ti, .int .i64 pa, .int .i64 tr, .int .i64 li, .slice na nn nc]
  A : Ans w wB.heap.size a n c L
  O : OwGi w wB.heap.size q m d G
  N : OwN w wB.heap.size na nn nc xs
  gl : wB.heap.size ≤ gw
  sA : ∀ z, (Value.slice a n c).ownBlock = some z → ¬ Nbl na nn nc xs z
  sO : ∀ z, (Value.slice q m d).ownBlock = some z → ¬ Nbl na nn nc xs z
  g : wB.grownBy w none
theorem two_nx (x : Nx) (y : Int) : (x.arr).set! 1 (.int .i64 y) = ({ x with id := y } : Nx).arr := rfl
theorem Try.info_nt3 : (Try.prog.info? 27).map (fun i => (i.zero, i.size, i.bytes)) = some (some (.agg #[.int .i64 0, .int .i64 0, .string ⟨#[]⟩, .int .i64 0, .int .i64 0, .int .i64 0, .slice none 0 0, .slice none 0 0, .int .i64 0, .int .i64 0]), 10, 120) := by kernel_rfl
theorem ld_execD {w : World} {o : Oper} {a : Act} {t : TypeId} {p : Operand} {g : Nat} {cs : Array Value} (hop : o.op = Op.load t p) (hp : a.eval p = .pointer (some ⟨g, 0, none⟩)) (h : BxS w g t cs) {fs : Array Field} (hu : Try.prog.underlying t = some (.struct fs)) (hi : (Try.prog.info? t).map (·.size) = some cs.size) : (execOp a.eval o).run Try.prog w = .ok (.value (.agg cs)) w := by
  have hld : (Instr.loadAt t (.pointer (some ⟨g, 0, none⟩))).run Try.prog w = .ok (.agg cs) w := by
    simp only [Instr.loadAt, Instr.sureAddr, Sem.run_bind, Sem.run_pure, Result.andThen]
    exact h.load hu hi
  simp [execOp, hop, hp, hld, Result.andThen]
theorem stc_slN (g i : Nat) (p : Option Addr) (l c : Nat) (w : World) (hc : ∃ u, w.cell? ⟨g, i, none⟩ = some u) (hf : w.frozen? ⟨g, i, none⟩ = false) : (Instr.storeAt 54 (.pointer (some ⟨g, i, none⟩)) (.slice p l c)).run Try.prog w = .ok () (w.setCell ⟨g, i, none⟩ (.slice p l c)) := by
  obtain ⟨u, hc⟩ := hc
  simp [go_sem, hc, hf]
theorem own_bxS {w : World} {t : TypeId} {k n : Nat} {v : Value} {ys : List Value} (h : w.ownsRow 0 t k v n ys) {g : Nat} (e : v.ownBlock = some g) : ∃ cs, BxS w g t cs := by
  rcases h.2 with ⟨h1, _⟩ | ⟨g', cap', cur, h1, _, h3, _⟩
  · rw [h1] at e; cases e
  · rw [h1] at e
    have e : g' = g := Option.some.inj e
    subst e
    exact ⟨cur, h3⟩
theorem Ans.kRR {w w' : World} {lo : Nat} {a : Option Addr} {n c : Nat} {L : List Nat} {r : Option Nat} (h : Ans w lo a n c L) (hg : w.grownBy w' r) (hr : ∀ z, r = some z → (Value.slice a n c).ownBlock ≠ some z) : Ans w' lo a n c L :=
  h.kept hg (by
    cases hz : (Value.slice a n c).ownBlock with
    | none => exact .inl rfl
    | some z => exact .inr (fun e => hr z e.symm hz))
theorem BxS.newsA {w : World} {g : Nat} {t : TypeId} {A : Array Value} (h : BxS w g t A) : ∀ j u, A.toList[j]? = some u → w.cell? ((⟨g, 0, none⟩ : Addr).add j) = some u := by
  intro j u hu
  have hj : j < A.size := by have := (List.getElem?_eq_some_iff.1 hu).1; rwa [Array.length_toList] at this
  rw [addr_add, Nat.zero_add]
  have := h.cell j hj
  rw [this]
  rw [List.getElem?_eq_getElem (by rw [Array.length_toList]; exact hj)] at hu
  rw [← Option.some.inj hu]
  simp

set_option maxHeartbeats 16000000 in
/-- a note goes -/
theorem send_any (wB w : World) (gw : Nat) (id : Int) (nm : ByteArray) (mo bu st : Int) (fi : Bool) (at' ti pa tr li : Int) (a : Option Addr) (n c : Nat) (L : List Nat) (q : Option Addr) (m d : Nat) (G : List (Int × Int)) (na : Option Addr) (nn nc : Nat) (xs : List Nx) (h : GW wB w gw id nm mo bu st fi at' ti pa tr li a n c L q m d G na nn nc xs) (x : Nx) (hxA : Ans w wB.heap.size x.a x.da.length x.c x.da) (hxO : OwGi w wB.heap.size x.q x.ga.length x.d x.ga) (hn : nn ≤ 100000)
    (h1 : ∀ z, ((Value.slice x.a x.da.length x.c).ownBlock = some z ∨ (Value.slice x.q x.ga.length x.d).ownBlock = some z) → ¬ Nbl na nn nc xs z ∧ (Value.slice a n c).ownBlock ≠ some z ∧ (Value.slice q m d).ownBlock ≠ some z) :
    Calls Try.prog 97 #[.pointer (some ⟨gw, 0, none⟩), .agg x.arr] w fun e w' => e = .returned (.tuple #[]) ∧ (∃ na' nc', GW wB w' gw id nm mo bu st fi at' ti pa tr li a n c L q m d G na' (nn + 1) nc' (xs ++ [{ x with id := id }])) ∧ ∀ g9 t9 cs9, BxS w g9 t9 cs9 → g9 ≠ gw → (Value.slice na nn nc).ownBlock ≠ some g9 → BxS w' g9 t9 cs9 := by
  have b0 := BxS.new w 27 x.arr
  have g0 := World.grownBy_alloc w (.cells x.arr 27) none
  have i10 := Try.info_nt
  obtain ⟨i0, hi, hz0, hz1, hz2⟩ := info_parts Try.info_nt3
  generalize hw0 : w.alloc (.cells x.arr 27) = w0 at b0 g0
  have bw := h.bx.keep g0 (by simp)
  have lw := h.bx.lt
  have x0 : w0.cell? ⟨gw, 0, none⟩ = some (.int .i64 id) := bw.cell 0 (by show 0 < 14; decide)
  have x1 : w0.cell? ⟨w.heap.size, 1, none⟩ = some (.int .i64 x.id) := b0.cell 1 (by show 1 < 10; decide)
  have f1 := b0.free 1
  have b1 := b0.set 1 (.int .i64 id)
  have u1 := grown_set w0 w.heap.size 1 (.int .i64 id)
  rw [two_nx] at b1
  generalize hw1 : w0.setCell ⟨w.heap.size, 1, none⟩ (.int .i64 id) = w1 at b1 u1
  have bw1 := bw.keep u1 (fun e => by have e := Option.some.inj e; omega)
  have hg1 : w.grownBy w1 none := grown_far g0 u1 (fun q e => by have e := Option.some.inj e; omega)
  go_enter Try.func97, Try.ntmps97
  refine wp_seq_k fun K1 hK1 => ?_
  have HK1 : Hid _ := hK1
  clear hK1
  go_wp2
  refine HK1.out _ _ ?_
  clear HK1
  refine wp_seq_k fun K2 hK2 => ?_
  have HK2 : Hid _ := hK2
  clear hK2
  go_wp2
  clear x0 x1 f1
  refine HK2.out _ _ ?_
  clear HK2
  obtain ⟨xx, hxx⟩ : ∃ xx : Nx, xx = { x with id := id } := ⟨_, rfl⟩
  rw [← hxx] at b1 ⊢
  have HXX : Hid _ := hxx
  clear hxx
  have Gd := grown_drew w1 none
  have SS : BxS w1.drew gw 100 #[.int .i64 id, .string nm, .slice a n c, .int .i64 mo, .int .i64 bu, .int .i64 st, .bool fi, .int .i64 at', .slice q m d, .int .i64 ti, .int .i64 pa, .int .i64 tr, .int .i64 li, .slice na nn nc] ∧ BxS w1.drew w.heap.size 27 xx.arr := ⟨bw1.keep Gd (by simp), b1.keep Gd (by simp)⟩
  have G2 := grown_trans hg1 Gd
  refine wp_regionL (fun wz => BxS wz gw 100 #[.int .i64 id, .string nm, .slice a n c, .int .i64 mo, .int .i64 bu, .int .i64 st, .bool fi, .int .i64 at', .slice q m d, .int .i64 ti, .int .i64 pa, .int .i64 tr, .int .i64 li, .slice na nn nc] ∧ BxS wz w.heap.size 27 xx.arr) [10] #[false, false, false, false, false, false, false, false, false, false, false] rfl (by kernel_rfl) ?_
  refine wpAnyZ_take [10] 0 (.pointer (some ⟨gw, 0, none⟩)) rfl (by kernel_rfl) (fun _ _ _ h => h) SS rfl (by intro wz hz; go_simp) ?_
  try simp only [zc1, zc2, zc3, Act.put, zc4, zc5, zc6]
  refine wpAnyZ_take [10] 1 (.pointer (some ⟨gw, 0, none⟩)) rfl (by kernel_rfl) (fun _ _ _ h => h) SS rfl (by intro wz hz; go_simp) ?_
  try simp only [zc1, zc2, zc3, Act.put, zc4, zc5, zc6]
  refine wpAnyZ_take [10] 2 (.pointer (some ⟨gw, 0, none⟩)) rfl (by kernel_rfl) (fun _ _ _ h => h) SS rfl (by intro wz hz; go_simp) ?_
  try simp only [zc1, zc2, zc3, Act.put, zc4, zc5, zc6]
  refine wpAnyZ_take [10] 3 (.pointer (some ⟨gw, 13, none⟩)) rfl (by kernel_rfl) (fun _ _ _ h => h) SS rfl (by intro wz hz; go_simp) ?_
  try simp only [zc1, zc2, zc3, Act.put, zc4, zc5, zc6]
  refine wpAnyZ_take [10] 4 (.slice na nn nc) rfl (by kernel_rfl) (fun _ _ _ h => h) SS rfl (by rintro wz ⟨hz, hz2⟩; have z : wz.cell? ⟨gw, 13, none⟩ = some (.slice na nn nc) := hz.cell 13 (by show 13 < 14; decide); go_simp) ?_
  try simp only [zc1, zc2, zc3, Act.put, zc4, zc5, zc6]
  refine wpAnyZ_take [10] 5 (.agg xx.arr) rfl (by kernel_rfl) (fun _ _ _ h => h) SS rfl (by rintro wz ⟨hz, hz2⟩; exact ld_execD rfl rfl hz2 Try.underlying27 i10) ?_
  try simp only [zc1, zc2, zc3, Act.put, zc4, zc5, zc6]
  generalize w1.drew = w2 at *
  have bA := BxS.new w2 27 xx.arr
  have yA := World.grownBy_alloc w2 (.cells xx.arr 27) none
  refine wpAnyZ_oneB 6 rfl (by kernel_rfl) (fun KK hKK => ?_)
  have harr : xx.arr = #[.int .i64 xx.kd, .int .i64 xx.id, .string xx.nm, .int .i64 xx.si, .int .i64 xx.su, .int .i64 xx.at', .slice xx.a xx.da.length xx.c, .slice xx.q xx.ga.length xx.d, .int .i64 xx.o, .int .i64 xx.co] := rfl
  rw [harr]
  go_simp
  rw [← harr]
  have S3 : BxS (w2.alloc (.cells xx.arr 27)) gw 100 #[.int .i64 id, .string nm, .slice a n c, .int .i64 mo, .int .i64 bu, .int .i64 st, .bool fi, .int .i64 at', .slice q m d, .int .i64 ti, .int .i64 pa, .int .i64 tr, .int .i64 li, .slice na nn nc] ∧ BxS (w2.alloc (.cells xx.arr 27)) w.heap.size 27 xx.arr := ⟨SS.1.keep yA (by simp), SS.2.keep yA (by simp)⟩
  refine hKK _ _ (fun _ => S3) ?_
  try simp only [zc1, zc2, zc3, Act.put, zc4, zc5, zc6]
  have G3 := grown_trans G2 yA
  have z2 := G2.size
  have l2 := SS.2.lt
  generalize w2.alloc (.cells xx.arr 27) = w3 at *
  have hN3 := h.N.keep G3
  refine wpAnyZ_oneB 7 rfl (by kernel_rfl) (fun KK hKK => ?_)
  refine step_apS w3 rfl _ _ 54 27 i0 _ 10 120 Try.underlying54 hi hz0 hz1 hz2 rfl (by decide) rfl (.slice na nn nc) nn (flN xs) rfl hN3.own ⟨w2.heap.size, 0, none⟩ 1 1 xx.cells rfl rfl bA.newsA (by intro u hu; simp only [Nx.cells, Nx.arr, List.mem_cons, List.not_mem_nil, or_false] at hu; rcases hu with rfl | rfl | rfl | rfl | rfl | rfl | rfl | rfl | rfl | rfl <;> rfl) (by decide) (by unfold maxLen; omega) (by omega) ?_
  intro gx cx w4 hor u4 hO4
  have hr4 : ∀ z, (Value.slice na nn nc).ownBlock = some z → wB.heap.size ≤ z ∧ z < w.heap.size := fun z e => ⟨h.N.new z e, h.N.lt (.inl e)⟩
  have S4 : BxS w4 gw 100 #[.int .i64 id, .string nm, .slice a n c, .int .i64 mo, .int .i64 bu, .int .i64 st, .bool fi, .int .i64 at', .slice q m d, .int .i64 ti, .int .i64 pa, .int .i64 tr, .int .i64 li, .slice na nn nc] ∧ BxS w4 w.heap.size 27 xx.arr := ⟨S3.1.keep u4 (fun e => own_ty hN3.own S3.1 (by decide) e.symm), S3.2.keep u4 (fun e => by have := hr4 _ e.symm; omega)⟩
  refine hKK _ _ (fun _ => S4) ?_
  try simp only [zc1, zc2, zc3, Act.put, zc4, zc5, zc6]
  refine wpAnyZ_take [9, 10] 8 (.pointer (some ⟨gw, 0, none⟩)) rfl (by kernel_rfl) (fun _ _ _ h => h) S4 rfl (by intro wz hz; go_simp) ?_
  try simp only [zc1, zc2, zc3, Act.put, zc4, zc5, zc6]
  refine wpAnyZ_take [10] 9 (.pointer (some ⟨gw, 13, none⟩)) rfl (by kernel_rfl) (fun _ _ _ h => h) S4 rfl (by intro wz hz; go_simp) ?_
  try simp only [zc1, zc2, zc3, Act.put, zc4, zc5, zc6]
  refine wpAnyZ_oneB 10 rfl (by kernel_rfl) (fun KK hKK => ?_)
  refine step_stCd _ rfl _ _ _ rfl gw 13 100 _ #[.int .i64 id, .string nm, .slice a n c, .int .i64 mo, .int .i64 bu, .int .i64 st, .bool fi, .int .i64 at', .slice q m d, .int .i64 ti, .int .i64 pa, .int .i64 tr, .int .i64 li, .slice (some ⟨gx, 0, none⟩) (nn + 1) cx] (.slice (some ⟨gx, 0, none⟩) (nn + 1) cx) rfl rfl S4.1 (fun w' h1 h2 => stc_slN _ _ _ _ _ _ h1 h2) (by show 13 < 14; decide) rfl ?_
  intro w5 b5 u5
  refine hKK _ _ (fun h => absurd (by decide) h) ?_
  try simp only [zc1, zc2, zc3, Act.put, zc4, zc5, zc6]
  refine wpAnyZ_doneB (by kernel_rfl) ?_ _
  have zB := h.g.size
  have hgx : (Value.slice na nn nc).ownBlock = some gx ∨ w.heap.size ≤ gx := by
    rcases hor with e | e
    · exact .inl e
    · exact .inr (by have := G3.size; omega)
  have hbl : ∀ z, Nbl (some ⟨gx, 0, none⟩) (nn + 1) cx (xs ++ [xx]) z → (gx = z) ∨ Nbl na nn nc xs z ∨ ((Value.slice xx.a xx.da.length xx.c).ownBlock = some z ∨ (Value.slice xx.q xx.ga.length xx.d).ownBlock = some z) := by
    intro z hz
    rcases hz with e | ⟨y, hy, e⟩
    · exact .inl (Option.some.inj e)
    · rcases List.mem_append.1 hy with hy | hy
      · exact .inr (.inl (.inr ⟨y, hy, e⟩))
      · rw [List.mem_singleton.1 hy] at e; exact .inr (.inr e)
  have hxA' : Ans w wB.heap.size xx.a xx.da.length xx.c xx.da := by rw [HXX.out]; exact hxA
  have hxO' : OwGi w wB.heap.size xx.q xx.ga.length xx.d xx.ga := by rw [HXX.out]; exact hxO
  have h1' : ∀ z, ((Value.slice xx.a xx.da.length xx.c).ownBlock = some z ∨ (Value.slice xx.q xx.ga.length xx.d).ownBlock = some z) → ¬ Nbl na nn nc xs z ∧ (Value.slice a n c).ownBlock ≠ some z ∧ (Value.slice q m d).ownBlock ≠ some z := by rw [HXX.out]; exact h1
  have hrow : ∀ z, (Value.slice na nn nc).ownBlock = some z → ∃ cs, BxS w3 z 27 cs := fun z e => own_bxS hN3.own e
  have hO4' := hO4
  rw [← flN_add] at hO4'
  have kA : ∀ (a9 : Option Addr) (n9 c9 : Nat) (L9 : List Nat), Ans w wB.heap.size a9 n9 c9 L9 → Ans w5 wB.heap.size a9 n9 c9 L9 := by
    intro a9 n9 c9 L9 h9
    have h3 := h9.keep G3
    refine (h3.kRR u4 (fun z e e2 => ?_)).kRR u5 (fun z e e2 => ?_)
    · obtain ⟨cs, hb⟩ := hrow z e
      exact own_ty h3.own hb (by decide) e2
    · have e := Option.some.inj e
      subst e
      exact own_ty h3.own S3.1 (by decide) e2
  have kO : ∀ (a9 : Option Addr) (n9 c9 : Nat) (L9 : List (Int × Int)), OwGi w wB.heap.size a9 n9 c9 L9 → OwGi w5 wB.heap.size a9 n9 c9 L9 := by
    intro a9 n9 c9 L9 h9
    have h3 := h9.keep G3
    refine (h3.kR u4 (fun z e e2 => ?_)).kR u5 (fun z e e2 => ?_)
    · obtain ⟨cs, hb⟩ := hrow z e
      exact own_ty h3.own hb (by decide) e2
    · have e := Option.some.inj e
      subst e
      exact own_ty h3.own S3.1 (by decide) e2
  have hN5 : OwN w5 wB.heap.size (some ⟨gx, 0, none⟩) (nn + 1) cx (xs ++ [xx]) := by
    refine ⟨hO4'.kept u5 (.inr (fun e => own_ty hO4' S4.1 (by decide) e)), by rw [List.length_append, h.N.len]; rfl, fun g e => ?_, fun y hy => ?_, fun y hy => ?_, ?_, ?_⟩
    · have e : gx = g := Option.some.inj e
      subst e
      rcases hgx with e | e
      · exact h.N.new _ e
      · omega
    · rcases List.mem_append.1 hy with hy | hy
      · exact kA _ _ _ _ (h.N.eA y hy)
      · rw [List.mem_singleton.1 hy]; exact kA _ _ _ _ hxA'
    · rcases List.mem_append.1 hy with hy | hy
      · exact kO _ _ _ _ (h.N.eO y hy)
      · rw [List.mem_singleton.1 hy]; exact kO _ _ _ _ hxO'
    · refine List.pairwise_append.2 ⟨h.N.pA, List.pairwise_singleton _ _, fun y hy z hz g e e2 => ?_⟩
      rw [List.mem_singleton.1 hz] at e2
      exact (h1' g (.inl e2)).1 (.inr ⟨y, hy, .inl e⟩)
    · refine List.pairwise_append.2 ⟨h.N.pO, List.pairwise_singleton _ _, fun y hy z hz g e e2 => ?_⟩
      rw [List.mem_singleton.1 hz] at e2
      exact (h1' g (.inr e2)).1 (.inr ⟨y, hy, .inr e⟩)
  have kS : ∀ z, z < w.heap.size → ¬ Nbl na nn nc xs z → ¬ ((Value.slice xx.a xx.da.length xx.c).ownBlock = some z ∨ (Value.slice xx.q xx.ga.length xx.d).ownBlock = some z) → ¬ Nbl (some ⟨gx, 0, none⟩) (nn + 1) cx (xs ++ [xx]) z := by
    intro z hz hn1 hn2 hb
    rcases hbl z hb with e | e | e
    · subst e
      rcases hgx with e | e
      · exact hn1 (.inl e)
      · omega
    · exact hn1 e
    · exact hn2 e
  have fin : ∃ na' nc', GW wB w5 gw id nm mo bu st fi at' ti pa tr li a n c L q m d G na' (nn + 1) nc' (xs ++ [xx]) :=
    ⟨_, _, b5, kA _ _ _ _ h.A, kO _ _ _ _ h.O, hN5, h.gl, (fun z e => kS z (own_ltN h.A.own e) (h.sA z e) (fun e2 => (h1' z e2).2.1 e)), (fun z e => kS z (own_ltN h.O.own e) (h.sO z e) (fun e2 => (h1' z e2).2.2 e)), grown_far (grown_far (grown_trans h.g G3) u4 (fun z e => (hr4 z e).1)) u5 (fun z e => by have e := Option.some.inj e; have := h.gl; omega)⟩

  first | go_end0 | refine bodyPost_ret (results_none rfl _ _ _) rfl ?_
  exact ⟨rfl, fin, fun g9 t9 cs9 hb9 hn9 hr9 => ((hb9.keep G3 (by simp)).keep u4 (fun e => hr9 e.symm)).keep u5 (fun e => hn9 (Option.some.inj e))⟩
end

section
/-- boxes of givers lie as they lay -/
def KpT (w w' : World) : Prop := ∀ g cs, BxS w g 44 cs → BxS w' g 44 cs
theorem KpT.none {w w' : World} (u : w.grownBy w' none) : KpT w w' := fun g cs hb => hb.keep u (by simp)
theorem KpT.trans {u v w : World} (h : KpT u v) (k : KpT v w) : KpT u w := fun g cs hb => k g cs (h g cs hb)
theorem KpT.bx {w w' : World} {g : Nat} {t : TypeId} {cs : Array Value} (b : BxS w g t cs) (ht : 44 ≠ t) (u : w.grownBy w' (some g)) : KpT w w' := fun g9 cs9 hb => hb.keep u (fun e => BxS.apart hb b ht (Option.some.inj e))
/-- a giver's own numbers are written -/
theorem GW.set {wB w w' : World} {gw : Nat} {id : Int} {nm : ByteArray} {mo bu st : Int} {fi : Bool} {at' ti pa tr li : Int} {a : Option Addr} {n c : Nat} {L : List Nat} {q : Option Addr} {m d : Nat} {G : List (Int × Int)} {na : Option Addr} {nn nc : Nat} {xs : List Nx} (h : GW wB w gw id nm mo bu st fi at' ti pa tr li a n c L q m d G na nn nc xs) (u : w.grownBy w' (some gw)) {st2 : Int} {fi2 : Bool} {at2 ti2 tr2 : Int} (b : BxS w' gw 100 #[.int .i64 id, .string nm, .slice a n c, .int .i64 mo, .int .i64 bu, .int .i64 st2, .bool fi2, .int .i64 at2, .slice q m d, .int .i64 ti2, .int .i64 pa, .int .i64 tr2, .int .i64 li, .slice na nn nc]) :
    GW wB w' gw id nm mo bu st2 fi2 at2 ti2 pa tr2 li a n c L q m d G na nn nc xs :=
  ⟨b, h.A.kRR u (fun z e e2 => by have e := Option.some.inj e; subst e; exact own_ty h.A.own h.bx (by decide) e2), h.O.bx h.bx (by decide) u, h.N.bx h.bx (by decide) (by decide) (by decide) u, h.gl, h.sA, h.sO, grown_far h.g u (fun z e => by have e := Option.some.inj e; have := h.gl; omega)⟩
/-- .. and nothing has to go once more -/
theorem GW.set0 {wB w w' : World} {gw : Nat} {id : Int} {nm : ByteArray} {mo bu st : Int} {fi : Bool} {at' ti pa tr li : Int} {a : Option Addr} {n c : Nat} {L : List Nat} {q : Option Addr} {m d : Nat} {G : List (Int × Int)} {na : Option Addr} {nn nc : Nat} {xs : List Nx} (h : GW wB w gw id nm mo bu st fi at' ti pa tr li a n c L q m d G na nn nc xs) (u : w.grownBy w' (some gw)) {st2 : Int} {fi2 : Bool} {at2 ti2 tr2 : Int} (b : BxS w' gw 100 #[.int .i64 id, .string nm, .slice a n c, .int .i64 mo, .int .i64 bu, .int .i64 st2, .bool fi2, .int .i64 at2, .slice none 0 0, .int .i64 ti2, .int .i64 pa, .int .i64 tr2, .int .i64 li, .slice na nn nc]) :
    GW wB w' gw id nm mo bu st2 fi2 at2 ti2 pa tr2 li a n c L none 0 0 [] na nn nc xs :=
  ⟨b, h.A.kRR u (fun z e e2 => by have e := Option.some.inj e; subst e; exact own_ty h.A.own h.bx (by decide) e2), OwGi.nil _ _, h.N.bx h.bx (by decide) (by decide) (by decide) u, h.gl, h.sA, (fun z e => by cases e), grown_far h.g u (fun z e => by have e := Option.some.inj e; have := h.gl; omega)⟩

set_option maxHeartbeats 8000000 in
theorem end_over (wB w : World) (gw : Nat) (id : Int) (nm : ByteArray) (mo bu st : Int) (fi : Bool) (at' ti pa tr li : Int) (a : Option Addr) (n c : Nat) (L : List Nat) (q : Option Addr) (m d : Nat) (G : List (Int × Int)) (na : Option Addr) (nn nc : Nat) (xs : List Nx) (h : GW wB w gw id nm mo bu st fi at' ti pa tr li a n c L q m d G na nn nc xs) (hst : st = 3) (cd : Int) : Calls Try.prog 98 #[.pointer (some ⟨gw, 0, none⟩), .int .i64 cd] w fun e w' => e = .returned (.tuple #[]) ∧ w' = w := by
  subst hst
  have x5 : w.cell? ⟨gw, 5, none⟩ = some (.int .i64 3) := h.bx.cell 5 (by show 5 < 14; decide)
  go_enter Try.func98, Try.ntmps98
  go_wp2
  first | go_end0 | refine bodyPost_ret (results_none rfl _ _ _) rfl ?_
  exact ⟨rfl, rfl⟩
set_option maxHeartbeats 8000000 in
/-- the taker's first word -/
theorem end_any (wB w : World) (gw : Nat) (id : Int) (nm : ByteArray) (mo bu st : Int) (fi : Bool) (at' ti pa tr li : Int) (a : Option Addr) (n c : Nat) (L : List Nat) (q : Option Addr) (m d : Nat) (G : List (Int × Int)) (na : Option Addr) (nn nc : Nat) (xs : List Nx) (h : GW wB w gw id nm mo bu st fi at' ti pa tr li a n c L q m d G na nn nc xs) (hst : st ≠ 3) (cd : Int) : Calls Try.prog 98 #[.pointer (some ⟨gw, 0, none⟩), .int .i64 cd] w fun e w' => e = .returned (.tuple #[]) ∧ GW wB w' gw id nm mo bu (if cd = 0 then 3 else 4) false n ti pa tr li a n c L none 0 0 [] na nn nc xs ∧ KpT w w' := by
  have b := h.bx
  have x5 : w.cell? ⟨gw, 5, none⟩ = some (.int .i64 st) := h.bx.cell 5 (by show 5 < 14; decide)
  have xw1 : w.cell? ⟨gw, 5, none⟩ = some _ := b.cell 5 (by show 5 < 14; decide)
  have fw1 := b.free 5
  have b1 := b.set 5 (.int .i64 3)
  have uw1 := grown_set w gw 5 (.int .i64 3)
  generalize hww1 : w.setCell ⟨gw, 5, none⟩ (.int .i64 3) = w1 at b1 uw1
  have b1 : BxS w1 gw 100 #[.int .i64 id, .string nm, .slice a n c, .int .i64 mo, .int .i64 bu, .int .i64 3, .bool fi, .int .i64 at', .slice q m d, .int .i64 ti, .int .i64 pa, .int .i64 tr, .int .i64 li, .slice na nn nc] := b1
  by_cases hc : cd = 0
  · subst hc
    rw [if_pos rfl]
    have x2 : w1.cell? ⟨gw, 2, none⟩ = some (.slice a n c) := b1.cell 2 (by show 2 < 14; decide)
    have xw2 : w1.cell? ⟨gw, 8, none⟩ = some _ := b1.cell 8 (by show 8 < 14; decide)
    have fw2 := b1.free 8
    have b2 := b1.set 8 (.slice none 0 0)
    have uw2 := grown_set w1 gw 8 (.slice none 0 0)
    generalize hww2 : w1.setCell ⟨gw, 8, none⟩ (.slice none 0 0) = w2 at b2 uw2
    have b2 : BxS w2 gw 100 #[.int .i64 id, .string nm, .slice a n c, .int .i64 mo, .int .i64 bu, .int .i64 3, .bool fi, .int .i64 at', .slice none 0 0, .int .i64 ti, .int .i64 pa, .int .i64 tr, .int .i64 li, .slice na nn nc] := b2
    have xw3 : w2.cell? ⟨gw, 6, none⟩ = some _ := b2.cell 6 (by show 6 < 14; decide)
    have fw3 := b2.free 6
    have b3 := b2.set 6 (.bool false)
    have uw3 := grown_set w2 gw 6 (.bool false)
    generalize hww3 : w2.setCell ⟨gw, 6, none⟩ (.bool false) = w3 at b3 uw3
    have b3 : BxS w3 gw 100 #[.int .i64 id, .string nm, .slice a n c, .int .i64 mo, .int .i64 bu, .int .i64 3, .bool false, .int .i64 at', .slice none 0 0, .int .i64 ti, .int .i64 pa, .int .i64 tr, .int .i64 li, .slice na nn nc] := b3
    have xw4 : w3.cell? ⟨gw, 7, none⟩ = some _ := b3.cell 7 (by show 7 < 14; decide)
    have fw4 := b3.free 7
    have b4 := b3.set 7 (.int .i64 (n : Int))
    have uw4 := grown_set w3 gw 7 (.int .i64 (n : Int))
    generalize hww4 : w3.setCell ⟨gw, 7, none⟩ (.int .i64 (n : Int)) = w4 at b4 uw4
    have b4 : BxS w4 gw 100 #[.int .i64 id, .string nm, .slice a n c, .int .i64 mo, .int .i64 bu, .int .i64 3, .bool false, .int .i64 (n : Int), .slice none 0 0, .int .i64 ti, .int .i64 pa, .int .i64 tr, .int .i64 li, .slice na nn nc] := b4
    go_enter Try.func98, Try.ntmps98
    go_wp2
    first | go_end0 | refine bodyPost_ret (results_none rfl _ _ _) rfl ?_
    exact ⟨rfl, h.set0 (grown_trans (grown_trans (grown_trans uw1 uw2) uw3) uw4) b4, KpT.bx h.bx (by decide) (grown_trans (grown_trans (grown_trans uw1 uw2) uw3) uw4)⟩
  · rw [if_neg hc]
    have xw5 : w1.cell? ⟨gw, 5, none⟩ = some _ := b1.cell 5 (by show 5 < 14; decide)
    have fw5 := b1.free 5
    have b5 := b1.set 5 (.int .i64 4)
    have uw5 := grown_set w1 gw 5 (.int .i64 4)
    generalize hww5 : w1.setCell ⟨gw, 5, none⟩ (.int .i64 4) = w5 at b5 uw5
    have b5 : BxS w5 gw 100 #[.int .i64 id, .string nm, .slice a n c, .int .i64 mo, .int .i64 bu, .int .i64 4, .bool fi, .int .i64 at', .slice q m d, .int .i64 ti, .int .i64 pa, .int .i64 tr, .int .i64 li, .slice na nn nc] := b5
    have x2 : w5.cell? ⟨gw, 2, none⟩ = some (.slice a n c) := b5.cell 2 (by show 2 < 14; decide)
    have xw2 : w5.cell? ⟨gw, 8, none⟩ = some _ := b5.cell 8 (by show 8 < 14; decide)
    have fw2 := b5.free 8
    have b2 := b5.set 8 (.slice none 0 0)
    have uw2 := grown_set w5 gw 8 (.slice none 0 0)
    generalize hww2 : w5.setCell ⟨gw, 8, none⟩ (.slice none 0 0) = w2 at b2 uw2
    have b2 : BxS w2 gw 100 #[.int .i64 id, .string nm, .slice a n c, .int .i64 mo, .int .i64 bu, .int .i64 4, .bool fi, .int .i64 at', .slice none 0 0, .int .i64 ti, .int .i64 pa, .int .i64 tr, .int .i64 li, .slice na nn nc] := b2
    have xw3 : w2.cell? ⟨gw, 6, none⟩ = some _ := b2.cell 6 (by show 6 < 14; decide)
    have fw3 := b2.free 6
    have b3 := b2.set 6 (.bool false)
    have uw3 := grown_set w2 gw 6 (.bool false)
    generalize hww3 : w2.setCell ⟨gw, 6, none⟩ (.bool false) = w3 at b3 uw3
    have b3 : BxS w3 gw 100 #[.int .i64 id, .string nm, .slice a n c, .int .i64 mo, .int .i64 bu, .int .i64 4, .bool false, .int .i64 at', .slice none 0 0, .int .i64 ti, .int .i64 pa, .int .i64 tr, .int .i64 li, .slice na nn nc] := b3
    have xw4 : w3.cell? ⟨gw, 7, none⟩ = some _ := b3.cell 7 (by show 7 < 14; decide)
    have fw4 := b3.free 7
    have b4 := b3.set 7 (.int .i64 (n : Int))
    have uw4 := grown_set w3 gw 7 (.int .i64 (n : Int))
    generalize hww4 : w3.setCell ⟨gw, 7, none⟩ (.int .i64 (n : Int)) = w4 at b4 uw4
    have b4 : BxS w4 gw 100 #[.int .i64 id, .string nm, .slice a n c, .int .i64 mo, .int .i64 bu, .int .i64 4, .bool false, .int .i64 (n : Int), .slice none 0 0, .int .i64 ti, .int .i64 pa, .int .i64 tr, .int .i64 li, .slice na nn nc] := b4
    go_enter Try.func98, Try.ntmps98
    go_wp2
    first | go_end0 | refine bodyPost_ret (results_none rfl _ _ _) rfl ?_
    exact ⟨rfl, h.set0 (grown_trans (grown_trans (grown_trans (grown_trans uw1 uw5) uw2) uw3) uw4) b4, KpT.bx h.bx (by decide) (grown_trans (grown_trans (grown_trans (grown_trans uw1 uw5) uw2) uw3) uw4)⟩
end

section
/-- one more that has to go once more -/
theorem giF_push (G : List (Int × Int)) (p : Int × Int) (j : Nat) (h : G.length = j) : flG (giF (G ++ [p])) (j + 1) = flG (giF G) j ++ [.int .i64 p.1, .int .i64 p.2] := by
  have e := flG_app G (fun _ => p) j h 1
  have t : tabG (fun _ => p) 1 = [p] := rfl
  rw [t] at e
  rw [e]
  rfl
set_option maxHeartbeats 16000000 in
theorem ga_t5 {u1 u2 u3 u4 u5 u7 u8 u9 u10 u11 u12 u13 u14 u15 u16 u17 u18 u19 u20 u21 u22 u23 u24 u25 u26 u27 u28 u29 u30 u31 u32 u33 u34 u35 u36 u37 u38 u39 u40 u41 u42 u43 u44 u45 u46 u47 u48 u49 u50 u51 u52 u53 u54 u55 u56 : Value} (Q : Exit → Act → World → Prop) (wB w : World) (gw : Nat) (id : Int) (nm : ByteArray) (mo bu st : Int) (fi : Bool) (at' ti pa tr li : Int) (a : Option Addr) (n c : Nat) (L : List Nat) (q : Option Addr) (m d : Nat) (G : List (Int × Int)) (na : Option Addr) (nn nc : Nat) (xs : List Nx) (h : GW wB w gw id nm mo bu st fi at' ti pa tr li a n c L q m d G na nn nc xs) (g6 : Nat) (x y : Int) (b6 : BxS w g6 82 #[.int .i64 x, .int .i64 y]) (h6 : wB.heap.size ≤ g6) (hm : m ≤ 100000) (hq6 : (Value.slice q m d).ownBlock ≠ some g6)
    (hP : ∀ c a a' wz, a.defers = a'.defers → Q (.panic c) a wz → Q (.panic c) a' wz)
    (hQ : ∀ {z44 z45 z46 z47 z48 z49 z50 z51 z52 z53 z54 z55 : Value} w' q' d', GW wB w' gw id nm mo bu st fi at' ti pa tr li a n c L q' (m + 1) d' (G ++ [(x, y)]) na nn nc xs → KpT w w' → Q .normal (Act.mk (List.toArray ((.pointer (some ⟨gw, 0, none⟩)) :: u1 :: u2 :: u3 :: u4 :: u5 :: (.pointer (some ⟨g6, 0, none⟩)) :: u7 :: u8 :: u9 :: u10 :: u11 :: u12 :: u13 :: u14 :: u15 :: u16 :: u17 :: u18 :: u19 :: u20 :: u21 :: u22 :: u23 :: u24 :: u25 :: u26 :: u27 :: u28 :: u29 :: u30 :: u31 :: u32 :: u33 :: u34 :: u35 :: u36 :: u37 :: u38 :: u39 :: u40 :: u41 :: u42 :: u43 :: z44 :: z45 :: z46 :: z47 :: z48 :: z49 :: z50 :: z51 :: z52 :: z53 :: z54 :: z55 :: u56 :: [])) []) w') :
    Code.wp Try.prog (tailR 5 (Try.f99.body.getD .skip)) Q (Act.mk (List.toArray ((.pointer (some ⟨gw, 0, none⟩)) :: u1 :: u2 :: u3 :: u4 :: u5 :: (.pointer (some ⟨g6, 0, none⟩)) :: u7 :: u8 :: u9 :: u10 :: u11 :: u12 :: u13 :: u14 :: u15 :: u16 :: u17 :: u18 :: u19 :: u20 :: u21 :: u22 :: u23 :: u24 :: u25 :: u26 :: u27 :: u28 :: u29 :: u30 :: u31 :: u32 :: u33 :: u34 :: u35 :: u36 :: u37 :: u38 :: u39 :: u40 :: u41 :: u42 :: u43 :: u44 :: u45 :: u46 :: u47 :: u48 :: u49 :: u50 :: u51 :: u52 :: u53 :: u54 :: u55 :: u56 :: [])) []) w := by
  conv => enter [2]; whnf
  have HQ : Hid _ := @hQ
  clear hQ
  have i2 := Try.info_sp
  have u2 := Try.underlying82
  obtain ⟨i0, hi, hz0, hz1, hz2⟩ := info_parts Try.info_pr
  have Gd := grown_drew w none
  have SS : BxS w.drew gw 100 #[.int .i64 id, .string nm, .slice a n c, .int .i64 mo, .int .i64 bu, .int .i64 st, .bool fi, .int .i64 at', .slice q m d, .int .i64 ti, .int .i64 pa, .int .i64 tr, .int .i64 li, .slice na nn nc] ∧ BxS w.drew g6 82 #[.int .i64 x, .int .i64 y] := ⟨h.bx.keep Gd (by simp), b6.keep Gd (by simp)⟩
  refine wp_regionL (fun wz => BxS wz gw 100 #[.int .i64 id, .string nm, .slice a n c, .int .i64 mo, .int .i64 bu, .int .i64 st, .bool fi, .int .i64 at', .slice q m d, .int .i64 ti, .int .i64 pa, .int .i64 tr, .int .i64 li, .slice na nn nc] ∧ BxS wz g6 82 #[.int .i64 x, .int .i64 y]) [12] #[false, false, false, false, false, false, false, false, false, false, false, false, false] rfl (by kernel_rfl) ?_
  refine wpAnyZ_take [12] 0 (.pointer (some ⟨gw, 0, none⟩)) rfl (by kernel_rfl) (fun _ _ _ h => hP _ _ _ _ (by rfl) h) SS rfl (by intro wz hz; go_simp) ?_
  try simp only [zc1, zc2, zc3, Act.put, zc4, zc5, zc6]
  refine wpAnyZ_take [12] 1 (.pointer (some ⟨gw, 0, none⟩)) rfl (by kernel_rfl) (fun _ _ _ h => hP _ _ _ _ (by rfl) h) SS rfl (by intro wz hz; go_simp) ?_
  try simp only [zc1, zc2, zc3, Act.put, zc4, zc5, zc6]
  refine wpAnyZ_take [12] 2 (.pointer (some ⟨gw, 0, none⟩)) rfl (by kernel_rfl) (fun _ _ _ h => hP _ _ _ _ (by rfl) h) SS rfl (by intro wz hz; go_simp) ?_
  try simp only [zc1, zc2, zc3, Act.put, zc4, zc5, zc6]
  refine wpAnyZ_take [12] 3 (.pointer (some ⟨gw, 0, none⟩)) rfl (by kernel_rfl) (fun _ _ _ h => hP _ _ _ _ (by rfl) h) SS rfl (by intro wz hz; go_simp) ?_
  try simp only [zc1, zc2, zc3, Act.put, zc4, zc5, zc6]
  refine wpAnyZ_take [12] 4 (.pointer (some ⟨gw, 8, none⟩)) rfl (by kernel_rfl) (fun _ _ _ h => hP _ _ _ _ (by rfl) h) SS rfl (by intro wz hz; go_simp) ?_
  try simp only [zc1, zc2, zc3, Act.put, zc4, zc5, zc6]
  refine wpAnyZ_take [12] 5 (.slice q m d) rfl (by kernel_rfl) (fun _ _ _ h => hP _ _ _ _ (by rfl) h) SS rfl (by rintro wz ⟨hz, hz2⟩; have z : wz.cell? ⟨gw, 8, none⟩ = some (.slice q m d) := hz.cell 8 (by show 8 < 14; decide); go_simp) ?_
  try simp only [zc1, zc2, zc3, Act.put, zc4, zc5, zc6]
  refine wpAnyZ_take [12] 6 (.agg #[.int .i64 x, .int .i64 y]) rfl (by kernel_rfl) (fun _ _ _ h => hP _ _ _ _ (by rfl) h) SS rfl (by rintro wz ⟨hz, hz2⟩; obtain ⟨z0, z1⟩ := hz2.cell2; go_simp) ?_
  try simp only [zc1, zc2, zc3, Act.put, zc4, zc5, zc6]
  generalize w.drew = w2 at *
  have bA := BxS.new w2 82 #[.int .i64 x, .int .i64 y]
  have yA := World.grownBy_alloc w2 (.cells #[.int .i64 x, .int .i64 y] 82) none
  refine wpAnyZ_oneB 7 rfl (by kernel_rfl) (fun KK hKK => ?_)
  go_simp
  have S3 : BxS (w2.alloc (.cells #[.int .i64 x, .int .i64 y] 82)) gw 100 #[.int .i64 id, .string nm, .slice a n c, .int .i64 mo, .int .i64 bu, .int .i64 st, .bool fi, .int .i64 at', .slice q m d, .int .i64 ti, .int .i64 pa, .int .i64 tr, .int .i64 li, .slice na nn nc] ∧ BxS (w2.alloc (.cells #[.int .i64 x, .int .i64 y] 82)) g6 82 #[.int .i64 x, .int .i64 y] := ⟨SS.1.keep yA (by simp), SS.2.keep yA (by simp)⟩
  refine hKK _ _ (fun _ => S3) ?_
  try simp only [zc1, zc2, zc3, Act.put, zc4, zc5, zc6]
  have G3 := grown_trans Gd yA
  have z2 := Gd.size
  generalize w2.alloc (.cells #[.int .i64 x, .int .i64 y] 82) = w3 at *
  have hO3 := h.O.keep G3
  obtain ⟨v0, v1⟩ := bA.cell2
  refine wpAnyZ_oneB 8 rfl (by kernel_rfl) (fun KK hKK => ?_)
  refine step_apS w3 rfl _ _ 24 82 i0 (.agg #[.int .i64 0, .int .i64 0]) 2 16 Try.underlying24 hi hz0 hz1 hz2 rfl (by decide) rfl (.slice q m d) m (flG (giF G) m) rfl hO3.own ⟨w2.heap.size, 0, none⟩ 1 1 [.int .i64 x, .int .i64 y] rfl rfl bA.newsA (by intro u hu; simp only [List.mem_cons, List.not_mem_nil, or_false] at hu; rcases hu with rfl | rfl <;> rfl) (by decide) (by unfold maxLen; omega) (by omega) ?_
  intro gx cx w4 hor u4 hO4
  have hr4 : ∀ z, (Value.slice q m d).ownBlock = some z → wB.heap.size ≤ z ∧ z < w.heap.size := fun z e => ⟨h.O.new z e, h.O.lt e⟩
  have S4 : BxS w4 gw 100 #[.int .i64 id, .string nm, .slice a n c, .int .i64 mo, .int .i64 bu, .int .i64 st, .bool fi, .int .i64 at', .slice q m d, .int .i64 ti, .int .i64 pa, .int .i64 tr, .int .i64 li, .slice na nn nc] ∧ BxS w4 g6 82 #[.int .i64 x, .int .i64 y] := ⟨S3.1.keep u4 (fun e => own_ty hO3.own S3.1 (by decide) e.symm), S3.2.keep u4 (fun e => hq6 e.symm)⟩
  refine hKK _ _ (fun _ => S4) ?_
  try simp only [zc1, zc2, zc3, Act.put, zc4, zc5, zc6]
  refine wpAnyZ_take [10, 11, 12] 9 (.pointer (some ⟨gw, 0, none⟩)) rfl (by kernel_rfl) (fun _ _ _ h => hP _ _ _ _ (by rfl) h) S4 rfl (by intro wz hz; go_simp) ?_
  try simp only [zc1, zc2, zc3, Act.put, zc4, zc5, zc6]
  refine wpAnyZ_take [11, 12] 10 (.pointer (some ⟨gw, 0, none⟩)) rfl (by kernel_rfl) (fun _ _ _ h => hP _ _ _ _ (by rfl) h) S4 rfl (by intro wz hz; go_simp) ?_
  try simp only [zc1, zc2, zc3, Act.put, zc4, zc5, zc6]
  refine wpAnyZ_take [12] 11 (.pointer (some ⟨gw, 8, none⟩)) rfl (by kernel_rfl) (fun _ _ _ h => hP _ _ _ _ (by rfl) h) S4 rfl (by intro wz hz; go_simp) ?_
  try simp only [zc1, zc2, zc3, Act.put, zc4, zc5, zc6]
  refine wpAnyZ_oneB 12 rfl (by kernel_rfl) (fun KK hKK => ?_)
  refine step_stCd _ rfl _ _ _ rfl gw 8 100 _ #[.int .i64 id, .string nm, .slice a n c, .int .i64 mo, .int .i64 bu, .int .i64 st, .bool fi, .int .i64 at', .slice (some ⟨gx, 0, none⟩) (m + 1) cx, .int .i64 ti, .int .i64 pa, .int .i64 tr, .int .i64 li, .slice na nn nc] (.slice (some ⟨gx, 0, none⟩) (m + 1) cx) rfl rfl S4.1 (fun w' h1 h2 => stc_slG _ _ _ _ _ _ h1 h2) (by show 8 < 14; decide) rfl ?_
  intro w5 b5 u5
  refine hKK _ _ (fun h => absurd (by decide) h) ?_
  try simp only [zc1, zc2, zc3, Act.put, zc4, zc5, zc6]
  refine wpAnyZ_doneB (by kernel_rfl) ?_ _
  have zB := h.g.size
  have hgx : (Value.slice q m d).ownBlock = some gx ∨ w.heap.size ≤ gx := by
    rcases hor with e | e
    · exact .inl e
    · exact .inr (by have := G3.size; omega)
  have hrow : ∀ z, (Value.slice q m d).ownBlock = some z → ∃ cs, BxS w3 z 82 cs := fun z e => own_bxS hO3.own e
  have hA5 : Ans w5 wB.heap.size a n c L := by
    have h3 := h.A.keep G3
    refine (h3.kRR u4 (fun z e e2 => ?_)).kRR u5 (fun z e e2 => ?_)
    · obtain ⟨cs, hb⟩ := hrow z e
      exact own_ty h3.own hb (by decide) e2
    · have e := Option.some.inj e
      subst e
      exact own_ty h3.own S3.1 (by decide) e2
  have hN5 : OwN w5 wB.heap.size na nn nc xs := by
    have h3 := h.N.keep G3
    exact (h3.kR u4 (fun z e hz => h.sO z e hz)).bx S4.1 (by decide) (by decide) (by decide) u5
  have hO5 : OwGi w5 wB.heap.size (some ⟨gx, 0, none⟩) (m + 1) cx (G ++ [(x, y)]) := by
    have hO4' := hO4
    rw [← giF_push G (x, y) m h.O.len] at hO4'
    refine ⟨hO4'.kept u5 (.inr (fun e => own_ty hO4' S4.1 (by decide) e)), by rw [List.length_append, h.O.len]; rfl, fun g e => ?_⟩
    have e : gx = g := Option.some.inj e
    subst e
    rcases hgx with e | e
    · exact h.O.new _ e
    · omega
  refine HQ.out w5 (some ⟨gx, 0, none⟩) cx ⟨b5, hA5, hO5, hN5, h.gl, h.sA, (fun z e hz => ?_), grown_far (grown_far (grown_trans h.g G3) u4 (fun z e => (hr4 z e).1)) u5 (fun z e => by have e := Option.some.inj e; have := h.gl; omega)⟩ ?_
  rotate_left
  · exact fun g9 cs9 hb9 => ((hb9.keep G3 (by simp)).keep u4 (fun e => by obtain ⟨cs, hb⟩ := hrow g9 e.symm; exact BxS.apart (hb9.keep G3 (by simp)) hb (by decide) rfl)).keep u5 (fun e => BxS.apart hb9 h.bx (by decide) (Option.some.inj e))
  have e : gx = z := Option.some.inj e
  subst e
  rcases hgx with e | e
  · exact h.sO _ e hz
  · have := h.N.lt hz; omega
end
end Go.Proofs.Ytnimehkfnpepfaa
