import Derived.BigFrame
import Derived.Test.YtnimehkfnpepfaaGi9
import Derived.Test.YtnimehkfnpepfaaGi10
import Derived.Test.YtnimehkfnpepfaaGi2
import Derived.Test.YtnimehkfnpepfaaGi5
import Derived.Test.YtnimehkfnpepfaaGi4
import Derived.Test.YtnimehkfnpepfaaGi6
import Derived.Test.YtnimehkfnpepfaaGi3
namespace Go.Proofs.Ytnimehkfnpepfaa
open Go.RowKit
set_option maxRecDepth 100000
set_option linter.unusedVariables false
set_option linter.unusedSimpArgs false

section
/-- the document's giver at work: the note's box, the answer's, the giver's -/
structure DG (wB w : World) (g3 g4 g7 : Nat) (NN : Array Value) (id : Int) (nm : ByteArray) (mo bu st : Int) (fi : Bool) (at' ti pa tr li : Int) (a : Option Addr) (n c : Nat) (L : List Nat) (q : Option Addr) (m d : Nat) (G : List (Int × Int)) : Prop where
  b3 : BxS w g3 27 NN
  b4 : ∃ cs : Array Value, cs.size = 13 ∧ BxS w g4 44 cs
  b7 : BxS w g7 44 #[.int .i64 id, .string nm, .slice a n c, .int .i64 mo, .int .i64 bu, .int .i64 st, .bool fi, .int .i64 at', .slice q m d, .int .i64 ti, .int .i64 pa, .int .i64 tr, .int .i64 li]
  A : Ans w wB.heap.size a n c L
  O : OwGi w wB.heap.size q m d G
  l4 : wB.heap.size ≤ g4
  l7 : wB.heap.size ≤ g7
  ne : g4 ≠ g7
  g : wB.grownBy w none
section
variable {wB w w' : World} {g3 g4 g7 : Nat} {NN : Array Value} {id : Int} {nm : ByteArray} {mo bu st : Int} {fi : Bool} {at' ti pa tr li : Int} {a : Option Addr} {n c : Nat} {L : List Nat} {q : Option Addr} {m d : Nat} {G : List (Int × Int)}
theorem DG.set (h : DG wB w g3 g4 g7 NN id nm mo bu st fi at' ti pa tr li a n c L q m d G) (u : w.grownBy w' (some g7)) {st2 : Int} {fi2 : Bool} {at2 ti2 tr2 : Int} (b : BxS w' g7 44 #[.int .i64 id, .string nm, .slice a n c, .int .i64 mo, .int .i64 bu, .int .i64 st2, .bool fi2, .int .i64 at2, .slice q m d, .int .i64 ti2, .int .i64 pa, .int .i64 tr2, .int .i64 li]) : DG wB w' g3 g4 g7 NN id nm mo bu st2 fi2 at2 ti2 pa tr2 li a n c L q m d G := by
  obtain ⟨cs, h1, h2⟩ := h.b4
  exact ⟨h.b3.keep u (fun e => BxS.apart h.b3 h.b7 (by decide) (Option.some.inj e)), ⟨cs, h1, h2.keep u (fun e => h.ne (Option.some.inj e))⟩, b, h.A.kRR u (fun z e e2 => by have e := Option.some.inj e; subst e; exact own_ty h.A.own h.b7 (by decide) e2), h.O.bx h.b7 (by decide) u, h.l4, h.l7, h.ne, grown_far h.g u (fun z e => by have e := Option.some.inj e; have := h.l7; omega)⟩
theorem DG.keepN (h : DG wB w g3 g4 g7 NN id nm mo bu st fi at' ti pa tr li a n c L q m d G) (u : w.grownBy w' none) : DG wB w' g3 g4 g7 NN id nm mo bu st fi at' ti pa tr li a n c L q m d G := by
  obtain ⟨cs, h1, h2⟩ := h.b4
  exact ⟨h.b3.keep u (by simp), ⟨cs, h1, h2.keep u (by simp)⟩, h.b7.keep u (by simp), h.A.keep u, h.O.keep u, h.l4, h.l7, h.ne, grown_trans h.g u⟩
theorem DG.push (h : DG wB w g3 g4 g7 NN id nm mo bu st fi at' ti pa tr li a n c L q m d G) {w8 : World} {gx cx : Nat} {x y : Int} (hor : (Value.slice q m d).ownBlock = some gx ∨ w.heap.size ≤ gx) (u : w.grownBy w8 (Value.slice q m d).ownBlock) (hO8 : w8.ownsRow 0 82 2 (.slice (some ⟨gx, 0, none⟩) (m + 1) cx) (m + 1) (flG (giF G) m ++ [.int .i64 x, .int .i64 y]))
    (u9 : w8.grownBy w' (some g7)) (b9 : BxS w' g7 44 #[.int .i64 id, .string nm, .slice a n c, .int .i64 mo, .int .i64 bu, .int .i64 st, .bool fi, .int .i64 at', .slice (some ⟨gx, 0, none⟩) (m + 1) cx, .int .i64 ti, .int .i64 pa, .int .i64 tr, .int .i64 li]) : DG wB w' g3 g4 g7 NN id nm mo bu st fi at' ti pa tr li a n c L (some ⟨gx, 0, none⟩) (m + 1) cx (G ++ [(x, y)]) := by
  obtain ⟨cs, h1, h2⟩ := h.b4
  have hrow : ∀ z, (Value.slice q m d).ownBlock = some z → ∃ cs, BxS w z 82 cs := fun z e => own_bxS h.O.own e
  have n3 := h.b3.keep u (fun e => by obtain ⟨cs, hb⟩ := hrow _ e.symm; exact BxS.apart h.b3 hb (by decide) rfl)
  have n4 := h2.keep u (fun e => by obtain ⟨cs, hb⟩ := hrow _ e.symm; exact BxS.apart h2 hb (by decide) rfl)
  have n7 := h.b7.keep u (fun e => by obtain ⟨cs, hb⟩ := hrow _ e.symm; exact BxS.apart h.b7 hb (by decide) rfl)
  have hA := h.A.kRR u (fun z e e2 => by obtain ⟨cs, hb⟩ := hrow _ e; exact own_ty h.A.own hb (by decide) e2)
  have hz := h.g.size
  rw [← giF_push G (x, y) m h.O.len] at hO8
  refine ⟨n3.keep u9 (fun e => BxS.apart n3 n7 (by decide) (Option.some.inj e)), ⟨cs, h1, n4.keep u9 (fun e => h.ne (Option.some.inj e))⟩, b9, hA.kRR u9 (fun z e e2 => by have e := Option.some.inj e; subst e; exact own_ty hA.own n7 (by decide) e2), ⟨hO8.kept u9 (.inr (fun e => own_ty hO8 n7 (by decide) e)), by rw [List.length_append, h.O.len]; rfl, fun g e => ?_⟩, h.l4, h.l7, h.ne, grown_far (grown_far h.g u (fun z e => h.O.new z e)) u9 (fun z e => by have e := Option.some.inj e; have := h.l7; omega)⟩
  have e : gx = g := Option.some.inj e
  subst e
  rcases hor with e | e
  · exact h.O.new _ e
  · omega
theorem DG.fin (h : DG wB w g3 g4 g7 NN id nm mo bu st fi at' ti pa tr li a n c L q m d G) (u : w.grownBy w' (some g4)) (E : Nat) : RpA wB id nm mo bu st fi at' ti pa tr li L G [] E (.returned (.tuple #[.agg #[.int .i64 id, .string nm, .slice a n c, .int .i64 mo, .int .i64 bu, .int .i64 st, .bool fi, .int .i64 at', .slice q m d, .int .i64 ti, .int .i64 pa, .int .i64 tr, .int .i64 li], .slice none 0 0, .int .i64 (E : Nat)])) w' := by
  obtain ⟨cs, h1, h2⟩ := h.b4
  have e1 := h.A.len
  have e2 := h.O.len
  subst e1 e2
  exact ⟨a, c, q, d, none, 0, rfl, h.A.kRR u (fun z e e2 => by have e := Option.some.inj e; subst e; exact own_ty h.A.own h2 (by decide) e2), h.O.bx h2 (by decide) u, OwN.nil _ _, (fun z e => nbl_nil), (fun z e => nbl_nil), grown_far h.g u (fun z e => by have e := Option.some.inj e; have := h.l4; omega)⟩
end
theorem alG_at {F : Nat → Int × Int} {s : Int} {n : Nat} (h : alG F s n = true) {j : Nat} (hj : j < n) : (((F j).1 = 0 ∧ (F j).2 = 0) ∨ (0 ≤ (F j).1 ∧ (F j).1 < (F j).2 ∧ (F j).2 ≤ s)) := by
  by_cases hg : gpB (F j).1 (F j).2 s = true
  · unfold gpB at hg; exact of_decide_eq_true hg
  · rw [alG_no F s j (by simpa using hg) n hj] at h; cases h

section
variable {wB w w' : World} {g3 g4 g7 : Nat} {NN : Array Value} {id : Int} {nm : ByteArray} {mo bu st : Int} {fi : Bool} {at' ti pa tr li : Int} {a : Option Addr} {n c : Nat} {L : List Nat} {q : Option Addr} {m d : Nat} {G : List (Int × Int)}
/-- a box of pairs that is none of its own is written -/
theorem DG.box (h : DG wB w g3 g4 g7 NN id nm mo bu st fi at' ti pa tr li a n c L q m d G) {g : Nat} {t : TypeId} {cs : Array Value} (hb : BxS w g t cs) (h1 : 44 ≠ t) (h2 : 27 ≠ t) (h3 : 5 ≠ t) (hq : (Value.slice q m d).ownBlock ≠ some g) (hl : wB.heap.size ≤ g) (u : w.grownBy w' (some g)) : DG wB w' g3 g4 g7 NN id nm mo bu st fi at' ti pa tr li a n c L q m d G := by
  obtain ⟨cs4, k1, k2⟩ := h.b4
  exact ⟨h.b3.keep u (fun e => BxS.apart h.b3 hb h2 (Option.some.inj e)), ⟨cs4, k1, k2.keep u (fun e => BxS.apart k2 hb h1 (Option.some.inj e))⟩, h.b7.keep u (fun e => BxS.apart h.b7 hb h1 (Option.some.inj e)), h.A.kRR u (fun z e e2 => by have e := Option.some.inj e; subst e; exact own_ty h.A.own hb h3 e2), h.O.kR u (fun z e => by have e := Option.some.inj e; subst e; exact hq), h.l4, h.l7, h.ne, grown_far h.g u (fun z e => by have e := Option.some.inj e; omega)⟩
end
end

section
theorem stc_stg (g i : Nat) (n : Int) (w : World) (hc : ∃ u, w.cell? ⟨g, i, none⟩ = some u) (hf : w.frozen? ⟨g, i, none⟩ = false) : (Instr.storeAt 42 (.pointer (some ⟨g, i, none⟩)) (.int .i64 n)).run Try.prog w = .ok () (w.setCell ⟨g, i, none⟩ (.int .i64 n)) := by
  obtain ⟨u, hc⟩ := hc
  simp [go_sem, hc, hf]
section
variable {wB w w' : World} {g3 g4 g7 : Nat} {NN : Array Value} {id : Int} {nm : ByteArray} {mo bu st : Int} {fi : Bool} {at' ti pa tr li : Int} {a : Option Addr} {n c : Nat} {L : List Nat} {q : Option Addr} {m d : Nat} {G : List (Int × Int)}
end
end

section
/-- a giver as data -/
structure Gv where
  id : Int
  nm : ByteArray
  mo : Int
  bu : Int
  st : Int
  fi : Bool
  at' : Int
  ti : Int
  pa : Int
  tr : Int
  li : Int
  L : List Nat
  G : List (Int × Int)
def zGv : Gv := ⟨0, ⟨#[]⟩, 0, 0, 0, false, 0, 0, 0, 0, 0, [], []⟩
theorem gvB_parts {id : Int} {nm n : Nat} {mo bu st : Int} {fi : Bool} {at' : Int} {m : Nat} {al : Bool} {ti pa tr li : Int} (h : gvB id nm n mo bu st fi at' m al ti pa tr li = true) : (0 ≤ st ∧ st ≤ 4) ∧ m ≤ 1000 ∧ al = true := by
  unfold gvB stB at h
  simp only [Bool.and_eq_true, decide_eq_true_eq] at h
  obtain ⟨_, h1, _, h2, h3, _⟩ := h
  refine ⟨?_, h2, h3⟩
  by_cases e : st = 0
  · omega
  · rw [if_neg e] at h1
    by_cases e2 : 1 ≤ st ∧ st ≤ 4
    · omega
    · rw [if_neg e2] at h1; cases h1
end

section
/-- a note's data -/
structure Nt where
  kd : Int
  id : Int
  nm : ByteArray
  si : Int
  su : Int
  at' : Int
  da : List Nat
  ga : List (Int × Int)
  o : Int
  co : Int
def Nx.dt (x : Nx) : Nt := ⟨x.kd, x.id, x.nm, x.si, x.su, x.at', x.da, x.ga, x.o, x.co⟩
theorem OwN.cell {w : World} {lo g n c : Nat} {xs : List Nx} (h : OwN w lo (some ⟨g, 0, none⟩) n c xs) {i : Nat} {x : Nx} (hi : xs[i]? = some x) (j : Nat) (hj : j < 10) : w.cell? ⟨g, i * 10 + j, none⟩ = x.cells[j]? := by
  have hf := flN_at xs i x hi j hj
  have hl : x.cells.length = 10 := rfl
  have hu : x.cells[j]? = some (x.cells[j]'(by omega)) := List.getElem?_eq_getElem (by omega)
  rw [hu] at hf ⊢
  have := h.own.cells (g := g) rfl (i * 10 + j) _ hf
  rw [addr_add, Nat.zero_add] at this
  exact this
theorem OwN.someN {w : World} {lo : Nat} {a : Option Addr} {n c : Nat} {xs : List Nx} (h : OwN w lo a n c xs) (h0 : 0 < n) : ∃ g, a = some ⟨g, 0, none⟩ := by
  rcases h.own.2 with ⟨h1, h2⟩ | ⟨g, cap', cur, h1, _⟩
  · omega
  · simp only [Value.slice.injEq] at h1; exact ⟨g, h1.1⟩
theorem ld_ten {w : World} {o : Oper} {a : Act} {p : Operand} {g off : Nat} {v0 v1 v2 v3 v4 v5 v6 v7 v8 v9 : Value} (hop : o.op = Op.load 27 p) (hp : a.eval p = .pointer (some ⟨g, off, none⟩)) (h0 : w.cell? ⟨g, off, none⟩ = some v0) (h1 : w.cell? ⟨g, off + 1, none⟩ = some v1) (h2 : w.cell? ⟨g, off + 2, none⟩ = some v2) (h3 : w.cell? ⟨g, off + 3, none⟩ = some v3) (h4 : w.cell? ⟨g, off + 4, none⟩ = some v4) (h5 : w.cell? ⟨g, off + 5, none⟩ = some v5) (h6 : w.cell? ⟨g, off + 6, none⟩ = some v6) (h7 : w.cell? ⟨g, off + 7, none⟩ = some v7) (h8 : w.cell? ⟨g, off + 8, none⟩ = some v8) (h9 : w.cell? ⟨g, off + 9, none⟩ = some v9) : (execOp a.eval o).run Try.prog w = .ok (.value (.agg #[v0, v1, v2, v3, v4, v5, v6, v7, v8, v9])) w := by
  have i10 := Try.info_nt
  have u10 := Try.underlying27
  simp [execOp, hop, hp]
  go_simp

set_option maxHeartbeats 16000000 in
theorem sameNotes_any (a b : Option Addr) (n c d la lb : Nat) (xs ys : List Nx) (w : World) (hx : OwN w la a n c xs) (hy : OwN w lb b n d ys) (he : xs.map Nx.dt = ys.map Nx.dt) (hn : n ≤ 100000) :
    Calls Try.prog 64 #[.slice a n c, .slice b n d] w fun e w' => e = .returned (.bool true) ∧ w.grownBy w' none := by
  have HE : Hid _ := he
  have lx := hx.len
  have ly := hy.len
  have LX : Hid _ := lx
  have LY : Hid _ := ly
  clear he lx ly
  go_enter Try.func64, Try.ntmps64
  go_wp2
  go_loopw [5] (fun iv wr => ∃ j : Nat, j ≤ n ∧ iv = .int .i64 j ∧ w.grownBy wr none) (fun iv _ => n - (intOf iv).toNat)
  case atStart => exact ⟨0, Nat.zero_le _, rfl, World.grownBy.refl _ _⟩
  case round =>
    obtain ⟨j, hj, rfl, Gr⟩ := hrel
    by_cases hlt : j < n
    · have lj : (j : Int) < (n : Int) := by omega
      obtain ⟨x, hxj⟩ : ∃ x, xs[j]? = some x := ⟨xs[j]'(by have := LX.out; omega), List.getElem?_eq_getElem _⟩
      obtain ⟨y, hyj⟩ : ∃ y, ys[j]? = some y := ⟨ys[j]'(by have := LY.out; omega), List.getElem?_eq_getElem _⟩
      have hdt : x.dt = y.dt := by
        have h1 : (xs.map Nx.dt)[j]? = some x.dt := by rw [List.getElem?_map, hxj]; rfl
        rw [HE.out, List.getElem?_map, hyj] at h1
        exact (Option.some.inj h1).symm
      unfold Nx.dt at hdt
      simp only [Nt.mk.injEq] at hdt
      obtain ⟨p1, p2, p3, p4, p5, p6, p7, p8, p9, p10⟩ := hdt
      obtain ⟨gx, hgx⟩ := hx.someN (by omega)
      obtain ⟨gy, hgy⟩ := hy.someN (by omega)
      subst hgx hgy
      refine wp_seq_k fun K1 hK1 => ?_
      have HK1 : Hid _ := hK1
      clear hK1
      go_wp2
      refine HK1.out _ _ ?_
      clear HK1
      refine wp_seq_k fun K2 hK2 => ?_
      have HK2 : Hid _ := hK2
      clear hK2
      refine wp_block ?_
      refine wp_seq_k fun K3 hK3 => ?_
      have HK3 : Hid _ := hK3
      clear hK3
      have Gd := grown_drew wr none
      have SS : OwN wr.drew la (some ⟨gx, 0, none⟩) n c xs ∧ OwN wr.drew lb (some ⟨gy, 0, none⟩) n d ys := ⟨(hx.keep Gr).keep Gd, (hy.keep Gr).keep Gd⟩
      have HSN : Calls Try.prog 15 #[.agg #[.int .i64 x.kd, .int .i64 x.id, .string x.nm, .int .i64 x.si, .int .i64 x.su, .int .i64 x.at', .slice x.a x.da.length x.c, .slice x.q x.ga.length x.d, .int .i64 x.o, .int .i64 x.co], .agg #[.int .i64 y.kd, .int .i64 y.id, .string y.nm, .int .i64 y.si, .int .i64 y.su, .int .i64 y.at', .slice y.a y.da.length y.c, .slice y.q y.ga.length y.d, .int .i64 y.o, .int .i64 y.co]] wr.drew fun e w' => e = .returned (.bool true) ∧ wr.drew.grownBy w' none := by
        have hxa := (SS.1.eA x (List.mem_of_getElem? hxj)).rd
        have hxo := (SS.1.eO x (List.mem_of_getElem? hxj)).rd
        rw [p1, p2, p3, p4, p5, p6, p7, p8, p9, p10] at *
        exact sameNote_any y.kd y.id y.nm y.si y.su y.at' y.o y.co x.a y.a x.q y.q y.da.length x.c y.c y.ga.length x.d y.d y.da (giF y.ga) (giF y.ga) wr.drew hxa (SS.2.eA y (List.mem_of_getElem? hyj)).rd hxo (SS.2.eO y (List.mem_of_getElem? hyj)).rd (fun i h => rfl)
      clear p1 p2 p3 p4 p5 p6 p7 p8 p9 p10
      refine wp_regionL (fun wz => OwN wz la (some ⟨gx, 0, none⟩) n c xs ∧ OwN wz lb (some ⟨gy, 0, none⟩) n d ys) [] #[false, false, false, false, false, false, false, false, false, false] rfl (by kernel_rfl) ?_
      refine wpAnyZ_take [] 0 (.slice (some ⟨gx, 0, none⟩) n c) rfl (by kernel_rfl) (fun _ _ _ h => h) SS rfl (by intro wz hz; go_simp) ?_
      try simp only [List.getElem_toArray, List.getElem_cons_succ, List.getElem_cons_zero, Act.put, List.setIfInBounds_toArray, List.set_cons_zero, List.set_cons_succ]
      refine wpAnyZ_take [] 1 (.int .i64 (j : Int)) rfl (by kernel_rfl) (fun _ _ _ h => h) SS rfl (by intro wz hz; go_simp) ?_
      try simp only [List.getElem_toArray, List.getElem_cons_succ, List.getElem_cons_zero, Act.put, List.setIfInBounds_toArray, List.set_cons_zero, List.set_cons_succ]
      refine wpAnyZ_take [] 2 (.pointer (some ⟨gx, j * 10, none⟩)) rfl (by kernel_rfl) (fun _ _ _ h => h) SS rfl (by intro wz hz; go_simp) ?_
      try simp only [List.getElem_toArray, List.getElem_cons_succ, List.getElem_cons_zero, Act.put, List.setIfInBounds_toArray, List.set_cons_zero, List.set_cons_succ]
      refine wpAnyZ_take [] 3 (.agg #[.int .i64 x.kd, .int .i64 x.id, .string x.nm, .int .i64 x.si, .int .i64 x.su, .int .i64 x.at', .slice x.a x.da.length x.c, .slice x.q x.ga.length x.d, .int .i64 x.o, .int .i64 x.co]) rfl (by kernel_rfl) (fun _ _ _ h => h) SS rfl (by rintro wz ⟨ha, hb⟩; exact ld_ten rfl rfl (ha.cell hxj 0 (by decide)) (ha.cell hxj 1 (by decide)) (ha.cell hxj 2 (by decide)) (ha.cell hxj 3 (by decide)) (ha.cell hxj 4 (by decide)) (ha.cell hxj 5 (by decide)) (ha.cell hxj 6 (by decide)) (ha.cell hxj 7 (by decide)) (ha.cell hxj 8 (by decide)) (ha.cell hxj 9 (by decide))) ?_
      try simp only [List.getElem_toArray, List.getElem_cons_succ, List.getElem_cons_zero, Act.put, List.setIfInBounds_toArray, List.set_cons_zero, List.set_cons_succ]
      refine wpAnyZ_take [] 4 (.slice (some ⟨gy, 0, none⟩) n d) rfl (by kernel_rfl) (fun _ _ _ h => h) SS rfl (by intro wz hz; go_simp) ?_
      try simp only [List.getElem_toArray, List.getElem_cons_succ, List.getElem_cons_zero, Act.put, List.setIfInBounds_toArray, List.set_cons_zero, List.set_cons_succ]
      refine wpAnyZ_take [] 5 (.int .i64 (j : Int)) rfl (by kernel_rfl) (fun _ _ _ h => h) SS rfl (by intro wz hz; go_simp) ?_
      try simp only [List.getElem_toArray, List.getElem_cons_succ, List.getElem_cons_zero, Act.put, List.setIfInBounds_toArray, List.set_cons_zero, List.set_cons_succ]
      refine wpAnyZ_take [] 6 (.pointer (some ⟨gy, j * 10, none⟩)) rfl (by kernel_rfl) (fun _ _ _ h => h) SS rfl (by intro wz hz; go_simp) ?_
      try simp only [List.getElem_toArray, List.getElem_cons_succ, List.getElem_cons_zero, Act.put, List.setIfInBounds_toArray, List.set_cons_zero, List.set_cons_succ]
      refine wpAnyZ_take [] 7 (.agg #[.int .i64 y.kd, .int .i64 y.id, .string y.nm, .int .i64 y.si, .int .i64 y.su, .int .i64 y.at', .slice y.a y.da.length y.c, .slice y.q y.ga.length y.d, .int .i64 y.o, .int .i64 y.co]) rfl (by kernel_rfl) (fun _ _ _ h => h) SS rfl (by rintro wz ⟨ha, hb⟩; exact ld_ten rfl rfl (hb.cell hyj 0 (by decide)) (hb.cell hyj 1 (by decide)) (hb.cell hyj 2 (by decide)) (hb.cell hyj 3 (by decide)) (hb.cell hyj 4 (by decide)) (hb.cell hyj 5 (by decide)) (hb.cell hyj 6 (by decide)) (hb.cell hyj 7 (by decide)) (hb.cell hyj 8 (by decide)) (hb.cell hyj 9 (by decide))) ?_
      try simp only [List.getElem_toArray, List.getElem_cons_succ, List.getElem_cons_zero, Act.put, List.setIfInBounds_toArray, List.set_cons_zero, List.set_cons_succ]
      generalize wr.drew = w2 at *
      refine wpAnyZ_oneB 8 rfl (by kernel_rfl) (fun KK hKK => ?_)
      go_simp
      go_at_call 15
      refine HSN.mono ?_
      rintro e w3 ⟨rfl, y3⟩
      dsimp only
      have S3 := And.intro (SS.1.keep y3) (SS.2.keep y3)
      refine hKK _ _ (fun _ => S3) ?_
      try simp only [List.getElem_toArray, List.getElem_cons_succ, List.getElem_cons_zero, Act.put, List.setIfInBounds_toArray, List.set_cons_zero, List.set_cons_succ]
      refine wpAnyZ_take [] 9 (.bool false) rfl (by kernel_rfl) (fun _ _ _ h => h) S3 rfl (by intro wz hz; go_simp) ?_
      try simp only [List.getElem_toArray, List.getElem_cons_succ, List.getElem_cons_zero, Act.put, List.setIfInBounds_toArray, List.set_cons_zero, List.set_cons_succ]
      refine wpAnyZ_doneB (by kernel_rfl) ?_ _
      refine HK3.out _ _ ?_
      clear HK3
      go_wp2
      refine HK2.out _ _ ?_
      clear HK2
      go_wp2
      go_roundw
      case rel => exact ⟨j + 1, by omega, by go_num, grown_trans (grown_trans Gr Gd) y3⟩
      case measure => simp [intOf] <;> omega
    · obtain rfl : j = n := by omega
      have lj : ¬ (j : Int) < (j : Int) := by omega
      go_wp2
      go_ret
      exact ⟨rfl, Gr⟩
end

section
theorem four_cells (w : World) : ∀ j u, ([.int .i64 (-7), .int .i64 (-7), .int .i64 (-7), .int .i64 (-7)] : List Value)[j]? = some u → (w.alloc (.cells #[.int .i64 (-7), .int .i64 (-7), .int .i64 (-7), .int .i64 (-7)] 82)).cell? ((⟨w.heap.size, 0, none⟩ : Addr).add j) = some u := by
  have hb := BxS.new w 82 #[.int .i64 (-7), .int .i64 (-7), .int .i64 (-7), .int .i64 (-7)]
  intro j u hu
  rw [addr_add]
  match j with
  | 0 => exact (hb.cell 0 (by show 0 < 4; decide)).trans hu
  | 1 => exact (hb.cell 1 (by show 1 < 4; decide)).trans hu
  | 2 => exact (hb.cell 2 (by show 2 < 4; decide)).trans hu
  | 3 => exact (hb.cell 3 (by show 3 < 4; decide)).trans hu
  | j + 4 => simp at hu
theorem own_bx {w : World} {g m d : Nat} {A : Array Value} (h : BxS w g 82 A) (hs : A.size = d * 2) (hm : m ≤ d) (hd : d ≤ maxLen) : w.ownsRow 0 82 2 (.slice (some ⟨g, 0, none⟩) m d) m (A.toList.take (m * 2)) :=
  ⟨by rw [List.length_take, Array.length_toList]; omega, .inr ⟨g, d, A, rfl, Nat.zero_le _, h, hm, hd, hs, rfl⟩⟩
end

section
set_option maxHeartbeats 8000000 in
theorem overGi_any (w : World) (lo : Nat) (q : Option Addr) (m d : Nat) (G : List (Int × Int)) (h : OwGi w lo q m d G) (hm : m ≤ 8796093021952) :
    Calls Try.prog 23 #[.slice q m d] w fun e w' => e = .returned (.tuple #[]) ∧ w.grownBy w' (Value.slice q m d).ownBlock := by
  obtain ⟨i0, hi, hz0, hz1, hz2⟩ := info_parts Try.info_pr
  rcases h.own.2 with ⟨h1, h0⟩ | ⟨g, cap, cur, h1, _, hh, hle, hmax, hsz, _⟩
  · subst h0
    cases h1
    go_enter Try.func23, Try.ntmps23
    go_wp2
    go_loopw [2] (fun iv wr => iv = .int .i64 0 ∧ Hid (wr = w)) (fun _ _ => 0)
    case atStart => exact ⟨rfl, rfl⟩
    case round =>
      obtain ⟨rfl, hwr⟩ := hrel
      have hwr := hwr.out
      subst hwr
      have s0 : True := trivial
      go_wp2_with (at_builtin; have _t := s0; clear s0; refine wpList_apS (wr.alloc (.cells #[.int .i64 (-7), .int .i64 (-7), .int .i64 (-7), .int .i64 (-7)] 82)) rfl _ _ 24 82 i0 (.agg #[.int .i64 0, .int .i64 0]) 2 16 Try.underlying24 hi hz0 hz1 hz2 rfl (by decide) rfl (.slice none 0 0) 0 _ rfl (World.ownsRow_nil _ _ _ _) ⟨wr.heap.size, 0, none⟩ 2 2 [.int .i64 (-7), .int .i64 (-7), .int .i64 (-7), .int .i64 (-7)] rfl rfl (four_cells wr) (by intro u hu; simp only [List.mem_cons, List.not_mem_nil, or_false] at hu; rcases hu with rfl | rfl | rfl | rfl <;> rfl) (by decide) (by unfold maxLen; omega) (by omega) ?_; intro gx cx w5 hor u5 hO5)
      first | go_end0 | refine bodyPost_ret (results_none rfl _ _ _) rfl ?_
      exact ⟨rfl, grown_trans (World.grownBy_alloc wr _ none) u5⟩
  · cases h1
    go_enter Try.func23, Try.ntmps23
    go_wp2
    go_loopw [2] (fun iv wr => ∃ (i : Nat) (A : Array Value), i ≤ m ∧ iv = .int .i64 i ∧ BxS wr g 82 A ∧ A.size = d * 2 ∧ w.grownBy wr (some g)) (fun iv _ => m - (intOf iv).toNat)
    case atStart => exact ⟨0, cur, Nat.zero_le _, rfl, hh, hsz, World.grownBy.refl _ _⟩
    case round =>
      obtain ⟨i, A, hi9, rfl, hA, hAs, Gr⟩ := hrel
      by_cases hlt : i < m
      · have li : (i : Int) < (m : Int) := by omega
        have c0 : wr.cell? ⟨g, i * 2, none⟩ = some (A[i * 2]'(by omega)) := hA.cell (i * 2) (by omega)
        have f0 := hA.free (i * 2)
        have hA1 := hA.set (i * 2) (.int .i64 (-7))
        have g1 := grown_set wr g (i * 2) (.int .i64 (-7))
        generalize hw1 : wr.setCell ⟨g, i * 2, none⟩ (.int .i64 (-7)) = w1 at hA1 g1
        have c1 : w1.cell? ⟨g, i * 2 + 1, none⟩ = some ((A.set! (i * 2) (.int .i64 (-7)))[i * 2 + 1]'(by simp; omega)) := hA1.cell (i * 2 + 1) (by simp; omega)
        have f1 := hA1.free (i * 2 + 1)
        have hA2 := hA1.set (i * 2 + 1) (.int .i64 (-7))
        have g2 := grown_set w1 g (i * 2 + 1) (.int .i64 (-7))
        generalize hw2 : w1.setCell ⟨g, i * 2 + 1, none⟩ (.int .i64 (-7)) = w2 at hA2 g2
        go_wp2
        go_roundw
        case rel => exact ⟨i + 1, _, by omega, by go_num, hA2, by simp; exact hAs, grown_trans (grown_trans Gr g1) g2⟩
        case measure => simp [intOf] <;> omega
      · obtain rfl : i = m := by omega
        have li : ¬ (i : Int) < (i : Int) := by omega
        have s0 : True := trivial
        go_wp2_with (at_builtin; have _t := s0; clear s0; refine wpList_apS (wr.alloc (.cells #[.int .i64 (-7), .int .i64 (-7), .int .i64 (-7), .int .i64 (-7)] 82)) rfl _ _ 24 82 i0 (.agg #[.int .i64 0, .int .i64 0]) 2 16 Try.underlying24 hi hz0 hz1 hz2 rfl (by decide) rfl (.slice (some ⟨g, 0, none⟩) i d) i _ rfl ((own_bx hA hAs hle hmax).kept (World.grownBy_alloc wr _ none) (.inr (by simp [Value.ownBlock]))) ⟨wr.heap.size, 0, none⟩ 2 2 [.int .i64 (-7), .int .i64 (-7), .int .i64 (-7), .int .i64 (-7)] rfl rfl (four_cells wr) (by intro u hu; simp only [List.mem_cons, List.not_mem_nil, or_false] at hu; rcases hu with rfl | rfl | rfl | rfl <;> rfl) (by decide) (by unfold maxLen; omega) (by omega) ?_; intro gx cx w5 hor u5 hO5)
        first | go_end0 | refine bodyPost_ret (results_none rfl _ _ _) rfl ?_
        exact ⟨rfl, grown_trans (grown_trans Gr (grown_weak (World.grownBy_alloc wr _ none) _)) u5⟩
end
end Go.Proofs.Ytnimehkfnpepfaa
