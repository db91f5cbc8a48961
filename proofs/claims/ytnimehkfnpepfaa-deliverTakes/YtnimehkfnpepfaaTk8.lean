import Derived.Test.YtnimehkfnpepfaaTk4
import Derived.Test.YtnimehkfnpepfaaTk7
import Derived.Test.YtnimehkfnpepfaaTk6
import Derived.Test.YtnimehkfnpepfaaTk3
import Derived.Test.YtnimehkfnpepfaaTk2
import Derived.Test.YtnimehkfnpepfaaTk5
namespace Go.Proofs.Ytnimehkfnpepfaa
open Go.RowKit
set_option maxRecDepth 100000
set_option linter.unusedVariables false
set_option linter.unusedSimpArgs false

section
/-- a note and where its memory lies -/
structure Nx where
  kd : Int
  id : Int
  nm : ByteArray
  si : Int
  su : Int
  at' : Int
  da : List Nat
  ga : List (Int × Int)
  o : Int
  co : Int
  a : Option Addr
  c : Nat
  q : Option Addr
  d : Nat
def Nx.arr (x : Nx) : Array Value := #[.int .i64 x.kd, .int .i64 x.id, .string x.nm, .int .i64 x.si, .int .i64 x.su, .int .i64 x.at', .slice x.a x.da.length x.c, .slice x.q x.ga.length x.d, .int .i64 x.o, .int .i64 x.co]
def Nx.cells (x : Nx) : List Value := x.arr.toList
def flN (xs : List Nx) : List Value := xs.flatMap Nx.cells
theorem flN_add (xs : List Nx) (x : Nx) : flN (xs ++ [x]) = flN xs ++ x.cells := by
  unfold flN
  rw [List.flatMap_append]
  simp
theorem flN_at : ∀ (xs : List Nx) (i : Nat) (x : Nx), xs[i]? = some x → ∀ j, j < 10 → (flN xs)[i * 10 + j]? = x.cells[j]? := by
  intro xs
  induction xs with
  | nil => intro i x h; cases h
  | cons y xs ih =>
    intro i x h j hj
    have hy : y.cells.length = 10 := rfl
    show (y.cells ++ flN xs)[i * 10 + j]? = _
    cases i with
    | zero =>
      have e : y = x := Option.some.inj h
      subst e
      rw [Nat.zero_mul, Nat.zero_add, List.getElem?_append_left (by omega)]
    | succ i =>
      rw [List.getElem?_append_right (by omega), hy, show (i + 1) * 10 + j - 10 = i * 10 + j by omega]
      exact ih i x h j hj
/-- notes in new memory -/
structure OwN (w : World) (lo : Nat) (a : Option Addr) (n c : Nat) (xs : List Nx) : Prop where
  own : w.ownsRow 0 27 10 (.slice a n c) n (flN xs)
  len : xs.length = n
  new : ∀ g, (Value.slice a n c).ownBlock = some g → lo ≤ g
  eA : ∀ x, x ∈ xs → Ans w lo x.a x.da.length x.c x.da
  eO : ∀ x, x ∈ xs → OwGi w lo x.q x.ga.length x.d x.ga
  pA : xs.Pairwise fun x y => ∀ g, (Value.slice x.a x.da.length x.c).ownBlock = some g → (Value.slice y.a y.da.length y.c).ownBlock ≠ some g
  pO : xs.Pairwise fun x y => ∀ g, (Value.slice x.q x.ga.length x.d).ownBlock = some g → (Value.slice y.q y.ga.length y.d).ownBlock ≠ some g
/-- the blocks of notes -/
def Nbl (a : Option Addr) (n c : Nat) (xs : List Nx) (g : Nat) : Prop := (Value.slice a n c).ownBlock = some g ∨ ∃ x, x ∈ xs ∧ ((Value.slice x.a x.da.length x.c).ownBlock = some g ∨ (Value.slice x.q x.ga.length x.d).ownBlock = some g)
section
variable {w w' : World} {lo lo' : Nat} {a : Option Addr} {n c : Nat} {xs : List Nx} {r : Option Nat}
theorem OwN.nil (w : World) (lo : Nat) : OwN w lo none 0 0 [] := ⟨World.ownsRow_nil _ _ _ _, rfl, (fun g h => by cases h), (fun x h => by cases h), (fun x h => by cases h), List.Pairwise.nil, List.Pairwise.nil⟩
theorem OwN.kR (h : OwN w lo a n c xs) (hg : w.grownBy w' r) (hr : ∀ z, r = some z → ¬ Nbl a n c xs z) : OwN w' lo a n c xs := by
  refine ⟨h.own.kept hg ?_, h.len, h.new, fun x hx => (h.eA x hx).kept hg ?_, fun x hx => (h.eO x hx).kR hg (fun z e e2 => hr z e (.inr ⟨x, hx, .inr e2⟩)), h.pA, h.pO⟩
  · cases hz : (Value.slice a n c).ownBlock with
    | none => exact .inl rfl
    | some z => exact .inr (fun e => hr z e.symm (.inl hz))
  · cases hz : (Value.slice x.a x.da.length x.c).ownBlock with
    | none => exact .inl rfl
    | some z => exact .inr (fun e => hr z e.symm (.inr ⟨x, hx, .inl hz⟩))
theorem OwN.keep (h : OwN w lo a n c xs) (hg : w.grownBy w' none) : OwN w' lo a n c xs := h.kR hg (fun z e => by cases e)
theorem OwN.wide (h : OwN w lo a n c xs) (hl : lo' ≤ lo) : OwN w lo' a n c xs := ⟨h.own, h.len, fun g e => Nat.le_trans hl (h.new g e), fun x hx => (h.eA x hx).wide hl, fun x hx => (h.eO x hx).wide hl, h.pA, h.pO⟩
theorem OwN.low (h : OwN w lo a n c xs) {z : Nat} (hz : Nbl a n c xs z) : lo ≤ z := by
  rcases hz with hz | ⟨x, hx, hz | hz⟩
  · exact h.new z hz
  · exact (h.eA x hx).new z hz
  · exact (h.eO x hx).new z hz
theorem own_ltN {t : TypeId} {k : Nat} {v : Value} {ys : List Value} (h : w.ownsRow 0 t k v n ys) {g : Nat} (e : v.ownBlock = some g) : g < w.heap.size := by
  rcases h.2 with ⟨h1, _⟩ | ⟨g', cap', cur, h1, _, h3, _⟩
  · rw [h1] at e; cases e
  · rw [h1] at e
    have e : g' = g := Option.some.inj e
    subst e
    exact (Array.getElem?_eq_some_iff.1 h3).1
theorem OwN.lt (h : OwN w lo a n c xs) {z : Nat} (hz : Nbl a n c xs z) : z < w.heap.size := by
  rcases hz with hz | ⟨x, hx, hz | hz⟩
  · exact own_ltN h.own hz
  · exact own_ltN (h.eA x hx).own hz
  · exact own_ltN (h.eO x hx).own hz
theorem own_ty {t u : TypeId} {k : Nat} {v : Value} {ys : List Value} {cs : Array Value} (h : w.ownsRow 0 t k v n ys) {g : Nat} (hb : BxS w g u cs) (ht : t ≠ u) : v.ownBlock ≠ some g := by
  intro e
  rcases h.2 with ⟨h1, _⟩ | ⟨g', cap', cur, h1, _, h3, _⟩
  · rw [h1] at e; cases e
  · rw [h1] at e
    have e : g' = g := Option.some.inj e
    subst e
    have hb : w.heap[g']? = some (.cells cs u) := hb
    rw [h3] at hb
    injection hb with hb
    injection hb with _ hb
    exact ht hb
/-- a box of a type of its own -/
theorem OwN.bx {g : Nat} {t : TypeId} {cs : Array Value} (h : OwN w lo a n c xs) (hb : BxS w g t cs) (h1 : 27 ≠ t) (h2 : 5 ≠ t) (h3 : 82 ≠ t) (hg : w.grownBy w' (some g)) : OwN w' lo a n c xs :=
  h.kR hg (fun z e hz => by
    have e := Option.some.inj e
    subst e
    rcases hz with hz | ⟨x, hx, hz | hz⟩
    · exact own_ty h.own hb h1 hz
    · exact own_ty (h.eA x hx).own hb h2 hz
    · exact own_ty (h.eO x hx).own hb h3 hz)
end
end

section
/-- a giver at work; wB: the world when the call began -/
structure GW (wB w : World) (gw : Nat) (id : Int) (nm : ByteArray) (mo bu st : Int) (fi : Bool) (at' ti pa tr li : Int) (a : Option Addr) (n c : Nat) (L : List Nat) (q : Option Addr) (m d : Nat) (G : List (Int × Int)) (na : Option Addr) (nn nc : Nat) (xs : List Nx) : Prop where
  bx : BxS w gw 100 #[.int .i64 id, .string nm, .slice a n c, .int .i64 mo, .int .i64 bu, .int .i64 st, .bool fi, .int .i64 at', .slice q m d, .int .i64 ti, .int .i64 pa, .int .i64 tr, .int .i64 li, .slice na nn nc]
  A : Ans w wB.heap.size a n c L
  O : OwGi w wB.heap.size q m d G
  N : OwN w wB.heap.size na nn nc xs
  gl : wB.heap.size ≤ gw
  sA : ∀ z, (Value.slice a n c).ownBlock = some z → ¬ Nbl na nn nc xs z
  sO : ∀ z, (Value.slice q m d).ownBlock = some z → ¬ Nbl na nn nc xs z
  g : wB.grownBy w none
theorem two_nx (x : Nx) (y : Int) : (x.arr).set! 1 (.int .i64 y) = ({ x with id := y } : Nx).arr := rfl
theorem Try.info_nt3 : (Try.prog.info? 27).map (fun i => (i.zero, i.size, i.bytes)) = some (some (.agg #[.int .i64 0, .int .i64 0, .string ⟨#[]⟩, .int .i64 0, .int .i64 0, .int .i64 0, .slice none 0 0, .slice none 0 0, .int .i64 0, .int .i64 0]), 10, 120) := by kernel_rfl
theorem ld_execD {w : World} {o : Oper} {a : Act} {t : TypeId} {p : Operand} {g : Nat} {cs : Array Value} (hop : o.op = Op.load t p) (hp : a.eval p = .pointer (some ⟨g, 0, none⟩)) (h : BxS w g t cs) {fs : Array Field} (hu : Try.prog.underlying t = some (.struct fs)) (hi : (Try.prog.info? t).map (·.size) = some cs.size) : (execOp a.eval o).run Try.prog w = .ok (.value (.agg cs)) w := by
  have hld : (Instr.loadAt t (.pointer (some ⟨g, 0, none⟩))).run Try.prog w = .ok (.agg cs) w := by
    simp only [Instr.loadAt, Instr.sureAddr, Sem.run_bind, Sem.run_pure, Result.andThen]
    exact h.load hu hi
  simp [execOp, hop, hp, hld, Result.andThen]
theorem stc_slN (g i : Nat) (p : Option Addr) (l c : Nat) (w : World) (hc : ∃ u, w.cell? ⟨g, i, none⟩ = some u) (hf : w.frozen? ⟨g, i, none⟩ = false) : (Instr.storeAt 54 (.pointer (some ⟨g, i, none⟩)) (.slice p l c)).run Try.prog w = .ok () (w.setCell ⟨g, i, none⟩ (.slice p l c)) := by
  obtain ⟨u, hc⟩ := hc
  simp [go_sem, hc, hf]
theorem own_bxS {w : World} {t : TypeId} {k n : Nat} {v : Value} {ys : List Value} (h : w.ownsRow 0 t k v n ys) {g : Nat} (e : v.ownBlock = some g) : ∃ cs, BxS w g t cs := by
  rcases h.2 with ⟨h1, _⟩ | ⟨g', cap', cur, h1, _, h3, _⟩
  · rw [h1] at e; cases e
  · rw [h1] at e
    have e : g' = g := Option.some.inj e
    subst e
    exact ⟨cur, h3⟩
theorem Ans.kRR {w w' : World} {lo : Nat} {a : Option Addr} {n c : Nat} {L : List Nat} {r : Option Nat} (h : Ans w lo a n c L) (hg : w.grownBy w' r) (hr : ∀ z, r = some z → (Value.slice a n c).ownBlock ≠ some z) : Ans w' lo a n c L :=
  h.kept hg (by
    cases hz : (Value.slice a n c).ownBlock with
    | none => exact .inl rfl
    | some z => exact .inr (fun e => hr z e.symm hz))
theorem BxS.newsA {w : World} {g : Nat} {t : TypeId} {A : Array Value} (h : BxS w g t A) : ∀ j u, A.toList[j]? = some u → w.cell? ((⟨g, 0, none⟩ : Addr).add j) = some u := by
  intro j u hu
  have hj : j < A.size := by have := (List.getElem?_eq_some_iff.1 hu).1; rwa [Array.length_toList] at this
  rw [addr_add, Nat.zero_add]
  have := h.cell j hj
  rw [this]
  rw [List.getElem?_eq_getElem (by rw [Array.length_toList]; exact hj)] at hu
  rw [← Option.some.inj hu]
  simp
end

section
/-- boxes of givers lie as they lay -/
def KpT (w w' : World) : Prop := ∀ g cs, BxS w g 44 cs → BxS w' g 44 cs
theorem KpT.none {w w' : World} (u : w.grownBy w' none) : KpT w w' := fun g cs hb => hb.keep u (by simp)
theorem KpT.trans {u v w : World} (h : KpT u v) (k : KpT v w) : KpT u w := fun g cs hb => k g cs (h g cs hb)
theorem KpT.bx {w w' : World} {g : Nat} {t : TypeId} {cs : Array Value} (b : BxS w g t cs) (ht : 44 ≠ t) (u : w.grownBy w' (some g)) : KpT w w' := fun g9 cs9 hb => hb.keep u (fun e => BxS.apart hb b ht (Option.some.inj e))
/-- a giver's own numbers are written -/
theorem GW.set {wB w w' : World} {gw : Nat} {id : Int} {nm : ByteArray} {mo bu st : Int} {fi : Bool} {at' ti pa tr li : Int} {a : Option Addr} {n c : Nat} {L : List Nat} {q : Option Addr} {m d : Nat} {G : List (Int × Int)} {na : Option Addr} {nn nc : Nat} {xs : List Nx} (h : GW wB w gw id nm mo bu st fi at' ti pa tr li a n c L q m d G na nn nc xs) (u : w.grownBy w' (some gw)) {st2 : Int} {fi2 : Bool} {at2 ti2 tr2 : Int} (b : BxS w' gw 100 #[.int .i64 id, .string nm, .slice a n c, .int .i64 mo, .int .i64 bu, .int .i64 st2, .bool fi2, .int .i64 at2, .slice q m d, .int .i64 ti2, .int .i64 pa, .int .i64 tr2, .int .i64 li, .slice na nn nc]) :
    GW wB w' gw id nm mo bu st2 fi2 at2 ti2 pa tr2 li a n c L q m d G na nn nc xs :=
  ⟨b, h.A.kRR u (fun z e e2 => by have e := Option.some.inj e; subst e; exact own_ty h.A.own h.bx (by decide) e2), h.O.bx h.bx (by decide) u, h.N.bx h.bx (by decide) (by decide) (by decide) u, h.gl, h.sA, h.sO, grown_far h.g u (fun z e => by have e := Option.some.inj e; have := h.gl; omega)⟩
end

section
/-- one more that has to go once more -/
theorem giF_push (G : List (Int × Int)) (p : Int × Int) (j : Nat) (h : G.length = j) : flG (giF (G ++ [p])) (j + 1) = flG (giF G) j ++ [.int .i64 p.1, .int .i64 p.2] := by
  have e := flG_app G (fun _ => p) j h 1
  have t : tabG (fun _ => p) 1 = [p] := rfl
  rw [t] at e
  rw [e]
  rfl
end

section
theorem GW.keepN {wB w w' : World} {gw : Nat} {id : Int} {nm : ByteArray} {mo bu st : Int} {fi : Bool} {at' ti pa tr li : Int} {a : Option Addr} {n c : Nat} {L : List Nat} {q : Option Addr} {m d : Nat} {G : List (Int × Int)} {na : Option Addr} {nn nc : Nat} {xs : List Nx} (h : GW wB w gw id nm mo bu st fi at' ti pa tr li a n c L q m d G na nn nc xs) (u : w.grownBy w' none) : GW wB w' gw id nm mo bu st fi at' ti pa tr li a n c L q m d G na nn nc xs :=
  ⟨h.bx.keep u (by simp), h.A.keep u, h.O.keep u, h.N.keep u, h.gl, h.sA, h.sO, grown_trans h.g u⟩
end

section
def xSeen (id : Int) : Nx := ⟨6, id, ⟨#[]⟩, 0, 0, 0, [], [], 5, 0, none, 0, none, 0⟩
end

section
/-- kinds in a row, as they are read -/
def RdK (w : World) (b n : Nat) (K : List Int) : Prop := K.length = n ∧ n ≤ 100 ∧ ∀ i, i < n → w.cell? ⟨b, i, none⟩ = some (.int .i64 (K.getD i 0))
def hasK (K : List Int) (k : Int) : Nat → Bool
  | 0 => false
  | n + 1 => hasK K k n || decide (k = K.getD n 0)
set_option maxHeartbeats 4000000 in
theorem indexK_any (b n c : Nat) (K : List Int) (k : Int) (w : World) (h : RdK w b n K) (hc : n ≤ c) :
    Calls Try.prog 117 #[.slice (some ⟨b, 0, none⟩) n c, .int .i64 k] w fun e w' => (∃ r : Int, e = .returned (.int .i64 r) ∧ decide (0 ≤ r) = hasK K k n) ∧ w' = w := by
  obtain ⟨h1, h2, h3⟩ := h
  have H3 : Hid _ := h3
  clear h3
  go_enter Try.func117, Try.ntmps117
  go_wp2
  go_loopw [8] (fun iv wr => ∃ j : Nat, j ≤ n ∧ iv = .int .i64 j ∧ Hid (hasK K k j = false) ∧ Hid (wr = w)) (fun iv _ => n - (intOf iv).toNat)
  case atStart => exact ⟨0, Nat.zero_le _, rfl, rfl, rfl⟩
  case round =>
    obtain ⟨j, hj, rfl, HK, hwr⟩ := hrel
    have hwr := hwr.out
    subst hwr
    by_cases hlt : j < n
    · have lj : (j : Int) < (n : Int) := by omega
      have cj := H3.out j hlt
      have HS : Hid (hasK K k (j + 1) = (hasK K k j || decide (k = K.getD j 0))) := rfl
      have HUP : Hid (hasK K k (j + 1) = true → hasK K k n = true) := by
        show _ → _
        intro h9
        have : ∀ i, j + 1 ≤ i → hasK K k i = true := by
          intro i hi
          induction i with
          | zero => omega
          | succ i ih =>
            by_cases e : j = i
            · rw [← e]; exact h9
            · show (hasK K k i || _) = true
              rw [ih (by omega)]; rfl
        exact this n (by omega)
      generalize K.getD j 0 = x at *
      by_cases e : k = x
      · subst e
        go_wp2
        go_ret
        exact ⟨⟨(j : Int), rfl, by rw [HUP.out (by rw [HS.out]; simp)]; exact decide_eq_true (by omega)⟩, rfl⟩
      · go_wp2
        go_roundw
        case rel => exact ⟨j + 1, by omega, by go_num, by show _ = _; rw [HS.out, HK.out, decide_eq_false e]; rfl, (by first | exact rfl | exact trivial)⟩
        case measure => simp [intOf] <;> omega
    · obtain rfl : j = n := by omega
      have lj : ¬ (j : Int) < (j : Int) := by omega
      go_wp2
      go_ret
      exact ⟨⟨-1, rfl, by rw [HK.out]; rfl⟩, rfl⟩
set_option maxHeartbeats 4000000 in
theorem containsK_any (b n c : Nat) (K : List Int) (k : Int) (w : World) (h : RdK w b n K) (hc : n ≤ c) :
    Calls Try.prog 96 #[.slice (some ⟨b, 0, none⟩) n c, .int .i64 k] w fun e w' => e = .returned (.bool (hasK K k n)) ∧ w' = w := by
  have k1 := indexK_any b n c K k w h hc
  have s0 : True := trivial
  go_enter Try.func96, Try.ntmps96
  go_wp2_with (go_at_call 117; have _t := s0; clear s0; refine k1.mono ?_; rintro e wx ⟨⟨r, rfl, hr⟩, hwx⟩; have hwx := hwx.symm; subst hwx)
  go_ret
  rw [← hr]
  exact ⟨rfl, rfl⟩
def wnE (may : Bool) (nid id : Int) (has : Bool) : Nat := if may = false then 8 else if nid ≠ id then 10 else if has = false then 6 else 0
set_option maxHeartbeats 8000000 in
theorem wrongNote_any (kd nid : Int) (nm : ByteArray) (si su at' : Int) (a : Option Addr) (n cap : Nat) (q : Option Addr) (m cq : Nat) (o co : Int) (F : Nat → Int × Int) (id : Int) (b kn kc : Nat) (K : List Int) (w : World) (hG : RdG w q m cq F) (hK : RdK w b kn K) (hc : kn ≤ kc) :
    Calls Try.prog 69 #[.agg (ntA kd nid nm si su at' (.slice a n cap) (.slice q m cq) o co), .int .i64 id, .slice (some ⟨b, 0, none⟩) kn kc] w fun e w' => e = .returned (.int .i64 (wnE (ntB kd nid nm.size si su at' n m o co (alG F 65536 m)) nid id (hasK K kd kn) : Nat)) ∧ w.grownBy w' none := by
  have b0 := BxS.new w 27 #[.int .i64 kd, .int .i64 nid, .string nm, .int .i64 si, .int .i64 su, .int .i64 at', .slice a n cap, .slice q m cq, .int .i64 o, .int .i64 co]
  have g0 := World.grownBy_alloc w (.cells #[.int .i64 kd, .int .i64 nid, .string nm, .int .i64 si, .int .i64 su, .int .i64 at', .slice a n cap, .slice q m cq, .int .i64 o, .int .i64 co] 27) none
  have k0 := fun wz (hz : w.grownBy wz none) => noteMay_any kd nid nm si su at' a n cap q m cq o co F wz (hG.keep hz)
  have k1 := fun wz (hz : w.grownBy wz none) => containsK_any b kn kc K kd wz ⟨hK.1, hK.2.1, fun i hi => hz.cell (hK.2.2 i hi) (by simp)⟩ hc
  unfold ntA at k0 ⊢
  generalize hw0 : w.alloc (.cells #[.int .i64 kd, .int .i64 nid, .string nm, .int .i64 si, .int .i64 su, .int .i64 at', .slice a n cap, .slice q m cq, .int .i64 o, .int .i64 co] 27) = w0 at b0 g0
  obtain ⟨e0, e1, e2, e3, e4, e5, e6, e7, e8, e9⟩ := b0.cell10
  generalize ntB kd nid nm.size si su at' n m o co (alG F 65536 m) = B at k0 ⊢
  generalize hasK K kd kn = H at k1 ⊢
  have s0 : True := trivial
  unfold wnE
  cases B
  · rw [if_pos rfl]
    go_enter Try.func69, Try.ntmps69
    go_wp2_with (go_at_call 49; have _t := s0; clear s0; refine (k0 w0 g0).mono ?_; rintro e w1 ⟨rfl, g1⟩)
    go_ret
    exact ⟨rfl, grown_trans g0 g1⟩
  · rw [if_neg (by decide)]
    by_cases hid : nid = id
    · subst hid
      rw [if_neg (by simp)]
      cases H
      · rw [if_pos rfl]
        go_enter Try.func69, Try.ntmps69
        go_wp2_with (first
          | (go_at_call 49; have _t := s0; clear s0; refine (k0 w0 g0).mono ?_; rintro e w1 ⟨rfl, g1⟩; clear e0 e1 e2 e3 e4 e5 e6 e7 e8 e9; obtain ⟨e0, e1, e2, e3, e4, e5, e6, e7, e8, e9⟩ := (b0.keep g1 (by simp)).cell10; have s1 : True := trivial)
          | (go_at_call 96; have _t := s1; clear s1; refine (k1 w1 (grown_trans g0 g1)).mono ?_; rintro e wx ⟨rfl, hwx⟩; have hwx := hwx.symm; subst hwx))
        go_ret
        exact ⟨rfl, grown_trans g0 g1⟩
      · rw [if_neg (by decide)]
        go_enter Try.func69, Try.ntmps69
        go_wp2_with (first
          | (go_at_call 49; have _t := s0; clear s0; refine (k0 w0 g0).mono ?_; rintro e w1 ⟨rfl, g1⟩; clear e0 e1 e2 e3 e4 e5 e6 e7 e8 e9; obtain ⟨e0, e1, e2, e3, e4, e5, e6, e7, e8, e9⟩ := (b0.keep g1 (by simp)).cell10; have s1 : True := trivial)
          | (go_at_call 96; have _t := s1; clear s1; refine (k1 w1 (grown_trans g0 g1)).mono ?_; rintro e wx ⟨rfl, hwx⟩; have hwx := hwx.symm; subst hwx))
        go_ret
        exact ⟨rfl, grown_trans g0 g1⟩
    · rw [if_pos hid]
      go_enter Try.func69, Try.ntmps69
      go_wp2_with (go_at_call 49; have _t := s0; clear s0; refine (k0 w0 g0).mono ?_; rintro e w1 ⟨rfl, g1⟩; clear e0 e1 e2 e3 e4 e5 e6 e7 e8 e9; obtain ⟨e0, e1, e2, e3, e4, e5, e6, e7, e8, e9⟩ := (b0.keep g1 (by simp)).cell10)
      go_ret
      exact ⟨rfl, grown_trans g0 g1⟩
end

section
set_option maxHeartbeats 16000000 in
theorem sameTaker_any (id : Int) (kn : Bool) (nm : ByteArray) (si : Int) (en : Bool) (la su st ti pa tr li : Int) (a a' q q' : Option Addr) (n c c' m d d' : Nat) (L : List Nat) (F F' : Nat → Int × Int) (w : World) (hL : Rd w a n c L) (hL' : Rd w a' n c' L) (hF : RdG w q m d F) (hF' : RdG w q' m d' F') (he : ∀ i, i < m → F i = F' i) :
    Calls Try.prog 29 #[.agg (tkA id kn nm si en la su (.slice q m d) (.slice a n c) st ti pa tr li), .agg (tkA id kn nm si en la su (.slice q' m d') (.slice a' n c') st ti pa tr li)] w fun e w' => e = .returned (.bool true) ∧ w.grownBy w' none := by
  unfold tkA
  have b0 := BxS.new w 48 #[.int .i64 id, .bool kn, .string nm, .int .i64 si, .bool en, .int .i64 la, .int .i64 su, .slice q m d, .slice a n c, .int .i64 st, .int .i64 ti, .int .i64 pa, .int .i64 tr, .int .i64 li]
  have g0 := World.grownBy_alloc w (.cells #[.int .i64 id, .bool kn, .string nm, .int .i64 si, .bool en, .int .i64 la, .int .i64 su, .slice q m d, .slice a n c, .int .i64 st, .int .i64 ti, .int .i64 pa, .int .i64 tr, .int .i64 li] 48) none
  generalize hw0 : w.alloc (.cells #[.int .i64 id, .bool kn, .string nm, .int .i64 si, .bool en, .int .i64 la, .int .i64 su, .slice q m d, .slice a n c, .int .i64 st, .int .i64 ti, .int .i64 pa, .int .i64 tr, .int .i64 li] 48) = w0 at b0 g0
  have hz0 : w0.heap.size = w.heap.size + 1 := by rw [← hw0]; simp
  have b1 := BxS.new w0 48 #[.int .i64 id, .bool kn, .string nm, .int .i64 si, .bool en, .int .i64 la, .int .i64 su, .slice q' m d', .slice a' n c', .int .i64 st, .int .i64 ti, .int .i64 pa, .int .i64 tr, .int .i64 li]
  have g1 := World.grownBy_alloc w0 (.cells #[.int .i64 id, .bool kn, .string nm, .int .i64 si, .bool en, .int .i64 la, .int .i64 su, .slice q' m d', .slice a' n c', .int .i64 st, .int .i64 ti, .int .i64 pa, .int .i64 tr, .int .i64 li] 48) none
  generalize hw1 : w0.alloc (.cells #[.int .i64 id, .bool kn, .string nm, .int .i64 si, .bool en, .int .i64 la, .int .i64 su, .slice q' m d', .slice a' n c', .int .i64 st, .int .i64 ti, .int .i64 pa, .int .i64 tr, .int .i64 li] 48) = w1 at b1 g1
  rw [hz0] at b1
  have b01 := b0.keep g1 (by simp)
  have G1 := grown_trans g0 g1
  obtain ⟨c0, c1, c2, c3, c4, c5, c6, c7, c8, c9, c10, c11, c12, c13⟩ := b01.cell14
  obtain ⟨d0, d1, d2, d3, d4, d5, d6, d7, d8, d9, d10, d11, d12, d13⟩ := b1.cell14
  have hB := fun wz (hz : w1.grownBy wz none) => sameBytes_any a a' n n c c' L wz ((hL.keep G1).keep hz) ((hL'.keep G1).keep hz)
  have hG := fun wz (hz : w1.grownBy wz none) => sameGaps_any q q' m d d' F F' wz ((hF.keep G1).keep hz) ((hF'.keep G1).keep hz) he
  clear b0 hL hL' hF hF' he
  go_enter Try.func29, Try.ntmps29
  go_wp2_with (first
    | (go_at_call 51; refine (hB _ (by first | exact World.grownBy.refl _ _ | exact g2)).mono ?_; rintro e w5 ⟨rfl, hw⟩; have hw := hw.symm; subst hw)
    | (go_at_call 52; refine (hG _ (World.grownBy.refl _ _)).mono ?_; rintro e w2 ⟨rfl, g2⟩; clear c0 d0 c1 d1 c2 d2 c3 d3 c4 d4 c5 d5 c6 d6 c7 d7 c8 d8 c9 d9 c10 d10 c11 d11 c12 d12 c13 d13; obtain ⟨c0, c1, c2, c3, c4, c5, c6, c7, c8, c9, c10, c11, c12, c13⟩ := (b01.keep g2 (by simp)).cell14; obtain ⟨d0, d1, d2, d3, d4, d5, d6, d7, d8, d9, d10, d11, d12, d13⟩ := (b1.keep g2 (by simp)).cell14))
  go_ret
  exact ⟨rfl, grown_trans G1 g2⟩
end

section
theorem results_c1t2 {fn : Func} {p u v : Tmp} {ty : TypeId} (h : fn.results = #[.cell p ty, .tmp u, .tmp v]) (tmps : Array Value) (P : Program) (w : World) (a : Addr) (x y z : Value) (ha : tmps.getD p undef = .pointer (some a)) (hl : (loadVar ty a).run P w = .ok x w) (hy : tmps.getD u undef = y) (hz : tmps.getD v undef = z) :
    (results fn tmps).run P w = .ok (.tuple #[x, y, z]) w := by
  simp only [results, h]
  rw [Array.getD_eq_getD_getElem?] at ha hy hz
  simp [Sem.run_bind, Result.andThen]
  rw [ha]
  simp [asAddr, hl, hy, hz]
end

section
/-- an answer of a giver: the giver, what goes, an error -/
def RpA (w : World) (id : Int) (nm : ByteArray) (mo bu st : Int) (fi : Bool) (at' ti pa tr li : Int) (L : List Nat) (G : List (Int × Int)) (xs : List Nx) (E : Nat) (e : Ending) (w' : World) : Prop :=
  ∃ a c q d na nc, e = .returned (.tuple #[.agg (gvA id nm (.slice a L.length c) mo bu st fi at' (.slice q G.length d) ti pa tr li), .slice na xs.length nc, .int .i64 (E : Nat)]) ∧ Ans w' w.heap.size a L.length c L ∧ OwGi w' w.heap.size q G.length d G ∧ OwN w' w.heap.size na xs.length nc xs ∧ (∀ z, (Value.slice a L.length c).ownBlock = some z → ¬ Nbl na xs.length nc xs z) ∧ (∀ z, (Value.slice q G.length d).ownBlock = some z → ¬ Nbl na xs.length nc xs z) ∧ w.grownBy w' none
end

section
theorem nbl_nil {z : Nat} : ¬ Nbl none 0 0 [] z := fun h => by
  rcases h with h | ⟨x, hx, _⟩
  · cases h
  · cases hx
end

section
/-- the document's giver at work: the note's box, the answer's, the giver's -/
structure DG (wB w : World) (g3 g4 g7 : Nat) (NN : Array Value) (id : Int) (nm : ByteArray) (mo bu st : Int) (fi : Bool) (at' ti pa tr li : Int) (a : Option Addr) (n c : Nat) (L : List Nat) (q : Option Addr) (m d : Nat) (G : List (Int × Int)) : Prop where
  b3 : BxS w g3 27 NN
  b4 : ∃ cs : Array Value, cs.size = 13 ∧ BxS w g4 44 cs
  b7 : BxS w g7 44 #[.int .i64 id, .string nm, .slice a n c, .int .i64 mo, .int .i64 bu, .int .i64 st, .bool fi, .int .i64 at', .slice q m d, .int .i64 ti, .int .i64 pa, .int .i64 tr, .int .i64 li]
  A : Ans w wB.heap.size a n c L
  O : OwGi w wB.heap.size q m d G
  l4 : wB.heap.size ≤ g4
  l7 : wB.heap.size ≤ g7
  ne : g4 ≠ g7
  g : wB.grownBy w none
section
variable {wB w w' : World} {g3 g4 g7 : Nat} {NN : Array Value} {id : Int} {nm : ByteArray} {mo bu st : Int} {fi : Bool} {at' ti pa tr li : Int} {a : Option Addr} {n c : Nat} {L : List Nat} {q : Option Addr} {m d : Nat} {G : List (Int × Int)}
theorem DG.set (h : DG wB w g3 g4 g7 NN id nm mo bu st fi at' ti pa tr li a n c L q m d G) (u : w.grownBy w' (some g7)) {st2 : Int} {fi2 : Bool} {at2 ti2 tr2 : Int} (b : BxS w' g7 44 #[.int .i64 id, .string nm, .slice a n c, .int .i64 mo, .int .i64 bu, .int .i64 st2, .bool fi2, .int .i64 at2, .slice q m d, .int .i64 ti2, .int .i64 pa, .int .i64 tr2, .int .i64 li]) : DG wB w' g3 g4 g7 NN id nm mo bu st2 fi2 at2 ti2 pa tr2 li a n c L q m d G := by
  obtain ⟨cs, h1, h2⟩ := h.b4
  exact ⟨h.b3.keep u (fun e => BxS.apart h.b3 h.b7 (by decide) (Option.some.inj e)), ⟨cs, h1, h2.keep u (fun e => h.ne (Option.some.inj e))⟩, b, h.A.kRR u (fun z e e2 => by have e := Option.some.inj e; subst e; exact own_ty h.A.own h.b7 (by decide) e2), h.O.bx h.b7 (by decide) u, h.l4, h.l7, h.ne, grown_far h.g u (fun z e => by have e := Option.some.inj e; have := h.l7; omega)⟩
theorem DG.keepN (h : DG wB w g3 g4 g7 NN id nm mo bu st fi at' ti pa tr li a n c L q m d G) (u : w.grownBy w' none) : DG wB w' g3 g4 g7 NN id nm mo bu st fi at' ti pa tr li a n c L q m d G := by
  obtain ⟨cs, h1, h2⟩ := h.b4
  exact ⟨h.b3.keep u (by simp), ⟨cs, h1, h2.keep u (by simp)⟩, h.b7.keep u (by simp), h.A.keep u, h.O.keep u, h.l4, h.l7, h.ne, grown_trans h.g u⟩
theorem DG.push (h : DG wB w g3 g4 g7 NN id nm mo bu st fi at' ti pa tr li a n c L q m d G) {w8 : World} {gx cx : Nat} {x y : Int} (hor : (Value.slice q m d).ownBlock = some gx ∨ w.heap.size ≤ gx) (u : w.grownBy w8 (Value.slice q m d).ownBlock) (hO8 : w8.ownsRow 0 82 2 (.slice (some ⟨gx, 0, none⟩) (m + 1) cx) (m + 1) (flG (giF G) m ++ [.int .i64 x, .int .i64 y]))
    (u9 : w8.grownBy w' (some g7)) (b9 : BxS w' g7 44 #[.int .i64 id, .string nm, .slice a n c, .int .i64 mo, .int .i64 bu, .int .i64 st, .bool fi, .int .i64 at', .slice (some ⟨gx, 0, none⟩) (m + 1) cx, .int .i64 ti, .int .i64 pa, .int .i64 tr, .int .i64 li]) : DG wB w' g3 g4 g7 NN id nm mo bu st fi at' ti pa tr li a n c L (some ⟨gx, 0, none⟩) (m + 1) cx (G ++ [(x, y)]) := by
  obtain ⟨cs, h1, h2⟩ := h.b4
  have hrow : ∀ z, (Value.slice q m d).ownBlock = some z → ∃ cs, BxS w z 82 cs := fun z e => own_bxS h.O.own e
  have n3 := h.b3.keep u (fun e => by obtain ⟨cs, hb⟩ := hrow _ e.symm; exact BxS.apart h.b3 hb (by decide) rfl)
  have n4 := h2.keep u (fun e => by obtain ⟨cs, hb⟩ := hrow _ e.symm; exact BxS.apart h2 hb (by decide) rfl)
  have n7 := h.b7.keep u (fun e => by obtain ⟨cs, hb⟩ := hrow _ e.symm; exact BxS.apart h.b7 hb (by decide) rfl)
  have hA := h.A.kRR u (fun z e e2 => by obtain ⟨cs, hb⟩ := hrow _ e; exact own_ty h.A.own hb (by decide) e2)
  have hz := h.g.size
  rw [← giF_push G (x, y) m h.O.len] at hO8
  refine ⟨n3.keep u9 (fun e => BxS.apart n3 n7 (by decide) (Option.some.inj e)), ⟨cs, h1, n4.keep u9 (fun e => h.ne (Option.some.inj e))⟩, b9, hA.kRR u9 (fun z e e2 => by have e := Option.some.inj e; subst e; exact own_ty hA.own n7 (by decide) e2), ⟨hO8.kept u9 (.inr (fun e => own_ty hO8 n7 (by decide) e)), by rw [List.length_append, h.O.len]; rfl, fun g e => ?_⟩, h.l4, h.l7, h.ne, grown_far (grown_far h.g u (fun z e => h.O.new z e)) u9 (fun z e => by have e := Option.some.inj e; have := h.l7; omega)⟩
  have e : gx = g := Option.some.inj e
  subst e
  rcases hor with e | e
  · exact h.O.new _ e
  · omega
theorem DG.fin (h : DG wB w g3 g4 g7 NN id nm mo bu st fi at' ti pa tr li a n c L q m d G) (u : w.grownBy w' (some g4)) (E : Nat) : RpA wB id nm mo bu st fi at' ti pa tr li L G [] E (.returned (.tuple #[.agg #[.int .i64 id, .string nm, .slice a n c, .int .i64 mo, .int .i64 bu, .int .i64 st, .bool fi, .int .i64 at', .slice q m d, .int .i64 ti, .int .i64 pa, .int .i64 tr, .int .i64 li], .slice none 0 0, .int .i64 (E : Nat)])) w' := by
  obtain ⟨cs, h1, h2⟩ := h.b4
  have e1 := h.A.len
  have e2 := h.O.len
  subst e1 e2
  exact ⟨a, c, q, d, none, 0, rfl, h.A.kRR u (fun z e e2 => by have e := Option.some.inj e; subst e; exact own_ty h.A.own h2 (by decide) e2), h.O.bx h2 (by decide) u, OwN.nil _ _, (fun z e => nbl_nil), (fun z e => nbl_nil), grown_far h.g u (fun z e => by have e := Option.some.inj e; have := h.l4; omega)⟩
end
section
variable {wB w w' : World} {g3 g4 g7 : Nat} {NN : Array Value} {id : Int} {nm : ByteArray} {mo bu st : Int} {fi : Bool} {at' ti pa tr li : Int} {a : Option Addr} {n c : Nat} {L : List Nat} {q : Option Addr} {m d : Nat} {G : List (Int × Int)}
/-- a box of pairs that is none of its own is written -/
theorem DG.box (h : DG wB w g3 g4 g7 NN id nm mo bu st fi at' ti pa tr li a n c L q m d G) {g : Nat} {t : TypeId} {cs : Array Value} (hb : BxS w g t cs) (h1 : 44 ≠ t) (h2 : 27 ≠ t) (h3 : 5 ≠ t) (hq : (Value.slice q m d).ownBlock ≠ some g) (hl : wB.heap.size ≤ g) (u : w.grownBy w' (some g)) : DG wB w' g3 g4 g7 NN id nm mo bu st fi at' ti pa tr li a n c L q m d G := by
  obtain ⟨cs4, k1, k2⟩ := h.b4
  exact ⟨h.b3.keep u (fun e => BxS.apart h.b3 hb h2 (Option.some.inj e)), ⟨cs4, k1, k2.keep u (fun e => BxS.apart k2 hb h1 (Option.some.inj e))⟩, h.b7.keep u (fun e => BxS.apart h.b7 hb h1 (Option.some.inj e)), h.A.kRR u (fun z e e2 => by have e := Option.some.inj e; subst e; exact own_ty h.A.own hb h3 e2), h.O.kR u (fun z e => by have e := Option.some.inj e; subst e; exact hq), h.l4, h.l7, h.ne, grown_far h.g u (fun z e => by have e := Option.some.inj e; omega)⟩
end
end

section
theorem OwN.oneN {w : World} {lo g : Nat} {x : Nx} (hb : BxS w g 27 x.arr) (hl : lo ≤ g) (hA : Ans w lo x.a x.da.length x.c x.da) (hO : OwGi w lo x.q x.ga.length x.d x.ga) : OwN w lo (some ⟨g, 0, none⟩) 1 1 [x] :=
  ⟨⟨rfl, .inr ⟨g, 1, x.arr, rfl, Nat.zero_le _, hb, Nat.le_refl _, by unfold maxLen; decide, rfl, by show x.arr.toList.take 10 = x.cells ++ []; rw [List.append_nil]; rfl⟩⟩, rfl, (fun z e => by have e : g = z := Option.some.inj e; omega), (fun y hy => by rw [List.mem_singleton.1 hy]; exact hA), (fun y hy => by rw [List.mem_singleton.1 hy]; exact hO), List.pairwise_singleton _ _, List.pairwise_singleton _ _⟩
theorem stc_stg (g i : Nat) (n : Int) (w : World) (hc : ∃ u, w.cell? ⟨g, i, none⟩ = some u) (hf : w.frozen? ⟨g, i, none⟩ = false) : (Instr.storeAt 42 (.pointer (some ⟨g, i, none⟩)) (.int .i64 n)).run Try.prog w = .ok () (w.setCell ⟨g, i, none⟩ (.int .i64 n)) := by
  obtain ⟨u, hc⟩ := hc
  simp [go_sem, hc, hf]
theorem wpAnyZ_twoD {P : Program} {ops : Array Oper} {Q : Exit → Act → World → Prop} {md : Region.Mode} {S : World → Prop} {Z : List Nat} (i j : Nat) {o o' : Oper} {fuel : Nat} {listed : Array Bool} {a : Act} {w : World} (ho : ops[i]? = some o) (ho' : ops[j]? = some o') (hr : (Region.ready md ops listed == [i, j]) = true)
    (h : ∀ K' : Act → World → Prop, (∀ a w, (i ∉ Z → S w) → wpAnyZ P md ops Q S Z fuel (listed.setIfInBounds i true) a w → K' a w) → if Region.wanted o (yielded ops a.tmps) = true then Oper.wp P o a w K' Q else K' (a.put o.dst undef) w)
    (h' : ∀ K' : Act → World → Prop, (∀ a w, (j ∉ Z → S w) → wpAnyZ P md ops Q S Z fuel (listed.setIfInBounds j true) a w → K' a w) → if Region.wanted o' (yielded ops a.tmps) = true then Oper.wp P o' a w K' Q else K' (a.put o'.dst undef) w) :
    wpAnyZ P md ops Q S Z (fuel + 1) listed a w := by
  have hr := eq_of_beq hr
  refine ⟨fun h0 => (by rw [hr] at h0; cases h0), fun k hk => ?_⟩
  rw [hr] at hk
  rcases List.mem_cons.1 hk with e | hk
  · subst e
    exact wpOp_step ho (fun K' hK => h K' (fun a w hS hW => hK a w ⟨hS, hW⟩))
  · have e := List.mem_singleton.1 hk
    subst e
    exact wpOp_step ho' (fun K' hK => h' K' (fun a w hS hW => hK a w ⟨hS, hW⟩))

section
variable {wB w w' : World} {g3 g4 g7 : Nat} {NN : Array Value} {id : Int} {nm : ByteArray} {mo bu st : Int} {fi : Bool} {at' ti pa tr li : Int} {a : Option Addr} {n c : Nat} {L : List Nat} {q : Option Addr} {m d : Nat} {G : List (Int × Int)}
theorem nbl_one {g : Nat} {z : Nat} (hz : Nbl (some ⟨g, 0, none⟩) 1 1 [xSeen id] z) : z = g := by
  rcases hz with hz | ⟨x, hx, hz | hz⟩
  · exact (Option.some.inj hz).symm
  · rw [List.mem_singleton.1 hx] at hz; cases hz
  · rw [List.mem_singleton.1 hx] at hz; cases hz
theorem DG.fin2 (h : DG wB w g3 g4 g7 NN id nm mo bu st fi at' ti pa tr li a n c L q m d G) {cs4 : Array Value} (b4 : BxS w g4 44 cs4) (hs4 : cs4.size = 13) {w5 : World} (u : w.grownBy w' (some g4)) {gn : Nat} (bB : BxS w5 gn 27 #[.int .i64 6, .int .i64 id, .string ⟨#[]⟩, .int .i64 0, .int .i64 0, .int .i64 0, .slice none 0 0, .slice none 0 0, .int .i64 5, .int .i64 0]) (y : w'.grownBy w5 none) (hl : w.heap.size ≤ gn) : RpA wB id nm mo bu st fi at' ti pa tr li L G [xSeen id] 0 (.returned (.tuple #[.agg #[.int .i64 id, .string nm, .slice a n c, .int .i64 mo, .int .i64 bu, .int .i64 st, .bool fi, .int .i64 at', .slice q m d, .int .i64 ti, .int .i64 pa, .int .i64 tr, .int .i64 li], .slice (some ⟨gn, 0, none⟩) 1 1, .int .i64 0])) w5 := by
  have bA5 : BxS w5 gn 27 (xSeen id).arr := bB
  have e1 := h.A.len
  have e2 := h.O.len
  subst e1 e2
  have hz := h.g.size
  exact ⟨a, c, q, d, _, 1, rfl, (h.A.kRR u (fun z e e2 => by have e := Option.some.inj e; subst e; exact own_ty h.A.own b4 (by decide) e2)).keep y, (h.O.bx b4 (by decide) u).keep y, OwN.oneN bA5 (by omega) (Ans.nil _ _) (OwGi.nil _ _), (fun z e hz => by have := nbl_one hz; subst this; have := own_ltN h.A.own e; omega), (fun z e hz => by have := nbl_one hz; subst this; have := h.O.lt e; omega), grown_trans (grown_far h.g u (fun z e => by have e := Option.some.inj e; have := h.l4; omega)) y⟩
end
end

section
/-- a giver as data -/
structure Gv where
  id : Int
  nm : ByteArray
  mo : Int
  bu : Int
  st : Int
  fi : Bool
  at' : Int
  ti : Int
  pa : Int
  tr : Int
  li : Int
  L : List Nat
  G : List (Int × Int)
theorem ntB_kd {kd id : Int} {nm : Nat} {si su at' : Int} {n m : Nat} {o co : Int} {g : Bool} (h : ntB kd id nm si su at' n m o co g = true) : (kd = 1 ∨ kd = 2 ∨ kd = 3 ∨ kd = 4 ∨ kd = 5 ∨ kd = 6) ∧ (kd = 4 → g = true ∧ o = 0) ∧ (kd ≠ 4 → m = 0) := by
  unfold ntB ptB brB at h
  simp only [Bool.and_eq_true, decide_eq_true_eq] at h
  obtain ⟨⟨_, h1⟩, h2⟩ := h
  refine ⟨by omega, fun hk => ⟨?_, by omega⟩, by omega⟩
  rcases h1 with h | h | h | h | h | h
  · omega
  · omega
  · omega
  · exact h.2.2.2
  · omega
  · omega
end
end Go.Proofs.Ytnimehkfnpepfaa
