import Derived.Test.YtnimehkfnpepfaaVDa
import Derived.Test.YtnimehkfnpepfaaZSub
import Derived.Test.YtnimehkfnpepfaaKxOw
import Derived.Test.YtnimehkfnpepfaaZRs
namespace Go.Proofs.Ytnimehkfnpepfaa
open Go.RowKit
set_option maxRecDepth 100000
set_option linter.unusedVariables false
set_option linter.unusedSimpArgs false

/-- a note, as data -/
structure Nd where
  kd : Nat
  id : Nat
  nm : List Nat
  si : Nat
  su : Nat
  at' : Nat
  da : List Nat
  ga : List (Nat × Nat)
  o : Nat
  co : Nat
/-- pairs that bytes tell -/
def gpR : Nat → List Nat → List (Nat × Nat)
  | 0, _ => []
  | n + 1, c => (hdV c 4, hdV (c.drop 4) 4) :: gpR n (c.drop 8)
/-- what is read of bytes, behind the kind and the ID; what is left -/
def kindR (k id : Nat) (c : List Nat) : Option (Nd × List Nat) :=
  if k = 1 then (if c.length < 4 then none else some (⟨1, id, c.drop 4, hdV c 4, 0, 0, [], [], 0, 0⟩, []))
  else if k = 2 then (if c.length < 4 then none else some (⟨2, id, [], 0, 0, hdV c 4, c.drop 4, [], 0, 0⟩, []))
  else if k = 3 then (if c.length < 8 then none else some (⟨3, id, [], hdV c 4, hdV (c.drop 4) 4, 0, [], [], 0, 0⟩, c.drop 8))
  else if k = 4 then (if c.length % 8 = 0 then some (⟨4, id, [], 0, 0, 0, [], gpR (c.length / 8) c, 0, 0⟩, []) else none)
  else if k = 5 then (if c.length < 1 then none else some (⟨5, id, [], 0, 0, 0, [], [], 0, hdV c 1⟩, c.drop 1))
  else if k = 6 then (if c.length < 1 then none else some (⟨6, id, [], 0, 0, 0, [], [], hdV c 1, 0⟩, c.drop 1))
  else some (⟨k, id, [], 0, 0, 0, [], [], 0, 0⟩, c)
def noteR (D : List Nat) : Option (Nd × List Nat) := if D.length < 3 then none else kindR (hdV D 1) (hdV (D.drop 1) 2) (D.drop 3)
def gpF (G : List (Nat × Nat)) (i : Nat) : Int × Int := (((G.getD i (0, 0)).1 : Int), ((G.getD i (0, 0)).2 : Int))
/-- pairs in new memory -/
structure OwGp (w : World) (lo : Nat) (q : Option Addr) (m d : Nat) (G : List (Nat × Nat)) : Prop where
  own : w.ownsRow 0 82 2 (.slice q m d) m (flG (gpF G) m)
  len : G.length = m
  new : ∀ g, (Value.slice q m d).ownBlock = some g → lo ≤ g
/-- a note in new memory -/
def NtD (w : World) (lo : Nat) (N : Nd) (v : Value) : Prop := ∃ a n c q m d, v = .agg (ntA (N.kd : Int) (N.id : Int) (strB N.nm) (N.si : Int) (N.su : Int) (N.at' : Int) (.slice a n c) (.slice q m d) (N.o : Int) (N.co : Int)) ∧ Ans w lo a n c N.da ∧ OwGp w lo q m d N.ga
def NoteA (w0 w : World) (gr : Nat) (oN : Option (Nd × List Nat)) (e : Ending) (w' : World) : Prop :=
  match oN with
  | none => (∃ x : Int, e = .panicked [{ v := .iface 120 (.int .i64 x), recovered := false }]) ∧ w.grownBy w' (some gr)
  | some (N, R) => (∃ v, e = .returned v ∧ NtD w' w.heap.size N v) ∧ Rdr w0 w' gr R ∧ w.grownBy w' (some gr)
theorem OwGp.nil (w : World) (lo : Nat) : OwGp w lo none 0 0 [] := ⟨World.ownsRow_nil _ _ _ _, rfl, fun g h => by cases h⟩
def ntZ : Array Value := ntA 0 0 ByteArray.empty 0 0 0 (.slice none 0 0) (.slice none 0 0) 0 0
theorem Rdr.keep {w0 w w' : World} {gr : Nat} {D : List Nat} (h : Rdr w0 w gr D) (hg : w.grownBy w' none) : Rdr w0 w' gr D := by
  obtain ⟨a, n, c, b, r⟩ := h.ex
  exact ⟨h.lo, ⟨a, n, c, b.keep hg (by simp), r⟩, grown_trans h.g hg⟩
/-- a note's box is written -/
theorem Rdr.bx {w0 w w' : World} {gr g : Nat} {D : List Nat} {cs : Array Value} (h : Rdr w0 w gr D) (b : BxS w g 27 cs) (hg : w.grownBy w' (some g)) (hl : w0.heap.size ≤ g) : Rdr w0 w' gr D := by
  obtain ⟨a, n, c, b1, r⟩ := h.ex
  exact ⟨h.lo, ⟨a, n, c, b1.keep hg (fun e => BxS.apart b1 b (by decide) (Option.some.inj e)), r⟩, grown_far h.g hg (fun q e => by have e := Option.some.inj e; omega)⟩
theorem Rdr.ne {w0 w : World} {gr g : Nat} {D : List Nat} {cs : Array Value} (h : Rdr w0 w gr D) (b : BxS w g 27 cs) : some g ≠ some gr := by
  obtain ⟨a, n, c, b1, r⟩ := h.ex
  exact fun e => BxS.apart b b1 (by decide) (Option.some.inj e)

set_option maxHeartbeats 8000000 in
theorem nt_t20 {u0 u1 u4 u5 u6 u7 u8 u9 u10 u11 u12 u13 u14 u15 u16 u17 u18 u19 u20 u21 u22 u23 u24 u25 u26 u27 u28 u29 u30 u31 u32 u33 u34 u35 u36 u37 u38 u39 u40 u41 u42 u43 u44 u45 u46 u47 u48 u49 u50 u51 u52 u53 u54 u55 u56 u57 u58 u59 u60 u61 u62 u63 u64 u65 u66 : Value} (P : Ending → World → Prop) (w : World) (g2 g3 : Nat) (kd id : Int) (nm : ByteArray) (si su at' : Int) (a : Option Addr) (n c : Nat) (q : Option Addr) (m d : Nat) (o co : Int) (b3 : BxS w g3 27 (ntA kd id nm si su at' (.slice a n c) (.slice q m d) o co)) (b2 : BxS w g2 27 ntZ)
    (hP : ∀ w', w.grownBy w' (some g2) → P (.returned (.agg (ntA kd id nm si su at' (.slice a n c) (.slice q m d) o co))) w') :
    Code.wp Try.prog (tailR 20 (Try.f89.body.getD .skip)) (bodyPost Try.prog Try.f89 P) (Act.mk (List.toArray (u0 :: u1 :: (.pointer (some ⟨g2, 0, none⟩)) :: (.pointer (some ⟨g3, 0, none⟩)) :: u4 :: u5 :: u6 :: u7 :: u8 :: u9 :: u10 :: u11 :: u12 :: u13 :: u14 :: u15 :: u16 :: u17 :: u18 :: u19 :: u20 :: u21 :: u22 :: u23 :: u24 :: u25 :: u26 :: u27 :: u28 :: u29 :: u30 :: u31 :: u32 :: u33 :: u34 :: u35 :: u36 :: u37 :: u38 :: u39 :: u40 :: u41 :: u42 :: u43 :: u44 :: u45 :: u46 :: u47 :: u48 :: u49 :: u50 :: u51 :: u52 :: u53 :: u54 :: u55 :: u56 :: u57 :: u58 :: u59 :: u60 :: u61 :: u62 :: u63 :: u64 :: u65 :: u66 :: [])) []) w := by
  conv => enter [2]; whnf
  have HP : Hid _ := hP
  clear hP
  have i10 := Try.info_nt
  unfold ntA at b3
  unfold ntZ ntA at b2
  have s0 : True := trivial
  go_wp2_with (first
    | (have _t := s0; clear s0; refine wpList_ldX _ rfl _ (.tmp 3) rfl g3 _ rfl b3 Try.underlying27 i10 ?_; have s1 : True := trivial)
    | (have _t := s1; clear s1; refine wpList_stX _ rfl _ (.tmp 2) (.tmp 66) rfl g2 _ _ rfl rfl b2 i10 rfl (by simp [Value.oneCell']) ?_; intro w3 b33 u3))
  refine bodyPost_ret (results_cellN rfl _ _ _ ⟨g2, 0, none⟩ _ rfl (BxS.load (t := 27) b33 Try.underlying27 Try.info_nt)) rfl ?_
  exact HP.out w3 u3
end Go.Proofs.Ytnimehkfnpepfaa
