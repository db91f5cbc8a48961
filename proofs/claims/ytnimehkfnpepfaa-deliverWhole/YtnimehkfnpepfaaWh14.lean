import Derived.Test.YtnimehkfnpepfaaWh11
import Derived.Test.YtnimehkfnpepfaaWh13
import Derived.Test.YtnimehkfnpepfaaWh0
import Derived.Test.YtnimehkfnpepfaaWh12
namespace Go.Proofs.Ytnimehkfnpepfaa
open Go.RowKit
set_option maxRecDepth 100000
set_option linter.unusedVariables false
set_option linter.unusedSimpArgs false

section
theorem encode_ok (kd id : Nat) (nm : ByteArray) (si su at' o co : Nat) (a q : Option Addr) (n c m d : Nat) (L : List Nat) (F : Nat → Int × Int) (w : World) (hL : Rd w a n c L) (hF : RdG w q m d F) (hm : ntB kd id nm.size si su at' n m o co (alG F 65536 m) = true) :
    Calls Try.prog 13 #[.agg (ntA kd id nm si su at' (.slice a n c) (.slice q m d) o co)] w fun e w' => ∃ a' l' c', e = .returned (.tuple #[.slice a' l' c', .int .i64 0]) ∧ Ans w' w.heap.size a' l' c' (ntL kd id nm si su at' L F m o co) ∧ w.grownBy w' none := by
  have h := fun wz (hz : w.grownBy wz none) => noteMay_any kd id nm si su at' a n c q m d o co F wz (hF.keep hz)
  rw [hm] at h
  have h2 := fun wz (hz : w.grownBy wz none) => noteBytes_any kd id nm si su at' a n c q m d o co L F wz (hL.keep hz) (hF.keep hz) hm
  have bx := BxS.new w 27 #[.int .i64 kd, .int .i64 id, .string nm, .int .i64 si, .int .i64 su, .int .i64 at', .slice a n c, .slice q m d, .int .i64 o, .int .i64 co]
  have g0 := World.grownBy_alloc w (.cells #[.int .i64 kd, .int .i64 id, .string nm, .int .i64 si, .int .i64 su, .int .i64 at', .slice a n c, .slice q m d, .int .i64 o, .int .i64 co] 27) none
  unfold ntA at h h2 ⊢
  generalize hw0 : w.alloc (.cells #[.int .i64 kd, .int .i64 id, .string nm, .int .i64 si, .int .i64 su, .int .i64 at', .slice a n c, .slice q m d, .int .i64 o, .int .i64 co] 27) = w0 at bx g0
  obtain ⟨e0, e1, e2, e3, e4, e5, e6, e7, e8, e9⟩ := bx.cell10
  go_enter Try.func13, Try.ntmps13
  go_wp2_with (first
    | (go_at_call 49; refine (h _ g0).mono ?_; rintro e w1 ⟨rfl, g1⟩; clear e0 e1 e2 e3 e4 e5 e6 e7 e8 e9; obtain ⟨e0, e1, e2, e3, e4, e5, e6, e7, e8, e9⟩ := (bx.keep g1 (by simp)).cell10; have g01 := grown_trans g0 g1)
    | (go_at_call 50; refine (h2 _ g01).mono ?_; rintro e w2 ⟨a2, l2, c2, rfl, A2, g2⟩))
  go_ret2
  exact ⟨a2, l2, c2, rfl, A2.lower g01.size, grown_trans g01 g2⟩

theorem Try.info_pr : (Try.prog.info? 82).map (fun i => (i.zero, i.size, i.bytes)) = some (some (.agg #[.int .i64 0, .int .i64 0]), 2, 16) := by kernel_rfl
/-- pairs as cells in a row -/
def flG (F : Nat → Int × Int) : Nat → List Value
  | 0 => []
  | k + 1 => flG F k ++ [.int .i64 (F k).1, .int .i64 (F k).2]
theorem flG_len (F : Nat → Int × Int) (n : Nat) : (flG F n).length = n * 2 := by
  induction n with
  | zero => rfl
  | succ n ih => show (flG F n ++ _).length = _; rw [List.length_append, ih]; simp; omega
theorem flG_at (F : Nat → Int × Int) (n i : Nat) (hi : i < n) : (flG F n)[i * 2]? = some (.int .i64 (F i).1) ∧ (flG F n)[i * 2 + 1]? = some (.int .i64 (F i).2) := by
  induction n with
  | zero => omega
  | succ n ih =>
    show (flG F n ++ [.int .i64 (F n).1, .int .i64 (F n).2])[i * 2]? = _ ∧ (flG F n ++ [.int .i64 (F n).1, .int .i64 (F n).2])[i * 2 + 1]? = _
    by_cases h : i < n
    · rw [List.getElem?_append_left (by rw [flG_len]; omega), List.getElem?_append_left (by rw [flG_len]; omega)]
      exact ih h
    · obtain rfl : i = n := by omega
      rw [List.getElem?_append_right (by rw [flG_len]; omega), List.getElem?_append_right (by rw [flG_len]; omega), flG_len]
      simp
theorem flG_one (F : Nat → Int × Int) (n : Nat) : ∀ u ∈ flG F n, u.oneCell' = true := by
  induction n with
  | zero => intro u h; cases h
  | succ n ih =>
    intro u h
    rcases List.mem_append.1 h with h | h
    · exact ih u h
    · simp at h
      rcases h with rfl | rfl <;> rfl
theorem RdG.news {w : World} {b off n cap : Nat} {F : Nat → Int × Int} (h : RdG w (some ⟨b, off, none⟩) n cap F) (j : Nat) (u : Value) (hu : (flG F n)[j]? = some u) : w.cell? ((⟨b, off, none⟩ : Addr).add j) = some u := by
  have hj : j < n * 2 := by rw [← flG_len F n]; exact (List.getElem?_eq_some_iff.1 hu).1
  obtain ⟨_, _, e, _, hc⟩ := h.at' (by omega)
  cases e
  obtain ⟨c1, c2⟩ := hc (j / 2) (by omega)
  obtain ⟨f1, f2⟩ := flG_at F n (j / 2) (by omega)
  rw [addr_add]
  by_cases hp : j % 2 = 0
  · rw [show j / 2 * 2 = j by omega] at f1 c1
    rw [f1] at hu
    rw [← hu]; exact c1
  · rw [show j / 2 * 2 + 1 = j by omega] at f2
    rw [show off + j / 2 * 2 + 1 = off + j by omega] at c2
    rw [f2] at hu
    rw [← hu]; exact c2
theorem own_rdG {w : World} {base : Nat} {v : Value} {n : Nat} {F : Nat → Int × Int} (h : w.ownsRow base 82 2 v n (flG F n)) : ∃ q c, v = .slice q n c ∧ RdG w q n c F ∧ (∀ b off, q = some ⟨b, off, none⟩ → base ≤ b) := by
  rcases h.2 with ⟨rfl, h0⟩ | ⟨g, cap, cur, rfl, hb, hg, hle, hmx, hsz, htk⟩
  · subst h0
    exact ⟨none, 0, rfl, RdG.nil0 _ _, fun b off e => by cases e⟩
  · refine ⟨some ⟨g, 0, none⟩, cap, rfl, ⟨hle, hmx, (fun e => by cases e), fun h0 => ⟨g, 0, rfl, (Array.getElem?_eq_some_iff.1 hg).1, fun i hi => ?_⟩⟩, fun b off e => by cases e; exact hb⟩
    obtain ⟨f1, f2⟩ := flG_at F n i hi
    have c1 := h.cells (g := g) rfl _ _ f1
    have c2 := h.cells (g := g) rfl _ _ f2
    rw [addr_add] at c1 c2
    exact ⟨c1, by rw [Nat.add_assoc]; exact c2⟩
theorem stc_slG (g i : Nat) (p : Option Addr) (l c : Nat) (w : World) (hc : ∃ u, w.cell? ⟨g, i, none⟩ = some u) (hf : w.frozen? ⟨g, i, none⟩ = false) : (Instr.storeAt 24 (.pointer (some ⟨g, i, none⟩)) (.slice p l c)).run Try.prog w = .ok () (w.setCell ⟨g, i, none⟩ (.slice p l c)) := by
  obtain ⟨u, hc⟩ := hc
  simp [go_sem, hc, hf]
theorem Try.info_nt : (Try.prog.info? 27).map (fun i => i.size) = some 10 := by kernel_rfl
theorem results_cellN {fn : Func} {p : Tmp} {ty : TypeId} (h : fn.results = #[.cell p ty]) (tmps : Array Value) (P : Program) (w : World) (a : Addr) (v : Value) (ha : tmps.getD p undef = .pointer (some a)) (hl : (loadVar ty a).run P w = .ok v w) :
    (results fn tmps).run P w = .ok v w := by
  simp only [results, h]
  rw [Array.getD_eq_getD_getElem?] at ha
  simp [Sem.run_bind, Result.andThen]
  rw [ha]
  simp [asAddr, hl]
end

section
/-- a note, as data -/
structure Nd where
  kd : Nat
  id : Nat
  nm : List Nat
  si : Nat
  su : Nat
  at' : Nat
  da : List Nat
  ga : List (Nat × Nat)
  o : Nat
  co : Nat
/-- pairs that bytes tell -/
def gpR : Nat → List Nat → List (Nat × Nat)
  | 0, _ => []
  | n + 1, c => (hdV c 4, hdV (c.drop 4) 4) :: gpR n (c.drop 8)
/-- what is read of bytes, behind the kind and the ID; what is left -/
def kindR (k id : Nat) (c : List Nat) : Option (Nd × List Nat) :=
  if k = 1 then (if c.length < 4 then none else some (⟨1, id, c.drop 4, hdV c 4, 0, 0, [], [], 0, 0⟩, []))
  else if k = 2 then (if c.length < 4 then none else some (⟨2, id, [], 0, 0, hdV c 4, c.drop 4, [], 0, 0⟩, []))
  else if k = 3 then (if c.length < 8 then none else some (⟨3, id, [], hdV c 4, hdV (c.drop 4) 4, 0, [], [], 0, 0⟩, c.drop 8))
  else if k = 4 then (if c.length % 8 = 0 then some (⟨4, id, [], 0, 0, 0, [], gpR (c.length / 8) c, 0, 0⟩, []) else none)
  else if k = 5 then (if c.length < 1 then none else some (⟨5, id, [], 0, 0, 0, [], [], 0, hdV c 1⟩, c.drop 1))
  else if k = 6 then (if c.length < 1 then none else some (⟨6, id, [], 0, 0, 0, [], [], hdV c 1, 0⟩, c.drop 1))
  else some (⟨k, id, [], 0, 0, 0, [], [], 0, 0⟩, c)
def noteR (D : List Nat) : Option (Nd × List Nat) := if D.length < 3 then none else kindR (hdV D 1) (hdV (D.drop 1) 2) (D.drop 3)
def gpF (G : List (Nat × Nat)) (i : Nat) : Int × Int := (((G.getD i (0, 0)).1 : Int), ((G.getD i (0, 0)).2 : Int))
/-- pairs in new memory -/
structure OwGp (w : World) (lo : Nat) (q : Option Addr) (m d : Nat) (G : List (Nat × Nat)) : Prop where
  own : w.ownsRow 0 82 2 (.slice q m d) m (flG (gpF G) m)
  len : G.length = m
  new : ∀ g, (Value.slice q m d).ownBlock = some g → lo ≤ g
/-- a note in new memory -/
def NtD (w : World) (lo : Nat) (N : Nd) (v : Value) : Prop := ∃ a n c q m d, v = .agg (ntA (N.kd : Int) (N.id : Int) (strB N.nm) (N.si : Int) (N.su : Int) (N.at' : Int) (.slice a n c) (.slice q m d) (N.o : Int) (N.co : Int)) ∧ Ans w lo a n c N.da ∧ OwGp w lo q m d N.ga
def NoteA (w0 w : World) (gr : Nat) (oN : Option (Nd × List Nat)) (e : Ending) (w' : World) : Prop :=
  match oN with
  | none => (∃ x : Int, e = .panicked [{ v := .iface 120 (.int .i64 x), recovered := false }]) ∧ w.grownBy w' (some gr)
  | some (N, R) => (∃ v, e = .returned v ∧ NtD w' w.heap.size N v) ∧ Rdr w0 w' gr R ∧ w.grownBy w' (some gr)
theorem OwGp.nil (w : World) (lo : Nat) : OwGp w lo none 0 0 [] := ⟨World.ownsRow_nil _ _ _ _, rfl, fun g h => by cases h⟩
def ntZ : Array Value := ntA 0 0 ByteArray.empty 0 0 0 (.slice none 0 0) (.slice none 0 0) 0 0
theorem Rdr.keep {w0 w w' : World} {gr : Nat} {D : List Nat} (h : Rdr w0 w gr D) (hg : w.grownBy w' none) : Rdr w0 w' gr D := by
  obtain ⟨a, n, c, b, r⟩ := h.ex
  exact ⟨h.lo, ⟨a, n, c, b.keep hg (by simp), r⟩, grown_trans h.g hg⟩
/-- a note's box is written -/
theorem Rdr.bx {w0 w w' : World} {gr g : Nat} {D : List Nat} {cs : Array Value} (h : Rdr w0 w gr D) (b : BxS w g 27 cs) (hg : w.grownBy w' (some g)) (hl : w0.heap.size ≤ g) : Rdr w0 w' gr D := by
  obtain ⟨a, n, c, b1, r⟩ := h.ex
  exact ⟨h.lo, ⟨a, n, c, b1.keep hg (fun e => BxS.apart b1 b (by decide) (Option.some.inj e)), r⟩, grown_far h.g hg (fun q e => by have e := Option.some.inj e; omega)⟩
theorem Rdr.ne {w0 w : World} {gr g : Nat} {D : List Nat} {cs : Array Value} (h : Rdr w0 w gr D) (b : BxS w g 27 cs) : some g ≠ some gr := by
  obtain ⟨a, n, c, b1, r⟩ := h.ex
  exact fun e => BxS.apart b b1 (by decide) (Option.some.inj e)

set_option maxHeartbeats 8000000 in
theorem nt_t20 {u0 u1 u4 u5 u6 u7 u8 u9 u10 u11 u12 u13 u14 u15 u16 u17 u18 u19 u20 u21 u22 u23 u24 u25 u26 u27 u28 u29 u30 u31 u32 u33 u34 u35 u36 u37 u38 u39 u40 u41 u42 u43 u44 u45 u46 u47 u48 u49 u50 u51 u52 u53 u54 u55 u56 u57 u58 u59 u60 u61 u62 u63 u64 u65 u66 : Value} (P : Ending → World → Prop) (w : World) (g2 g3 : Nat) (kd id : Int) (nm : ByteArray) (si su at' : Int) (a : Option Addr) (n c : Nat) (q : Option Addr) (m d : Nat) (o co : Int) (b3 : BxS w g3 27 (ntA kd id nm si su at' (.slice a n c) (.slice q m d) o co)) (b2 : BxS w g2 27 ntZ)
    (hP : ∀ w', w.grownBy w' (some g2) → P (.returned (.agg (ntA kd id nm si su at' (.slice a n c) (.slice q m d) o co))) w') :
    Code.wp Try.prog (tailR 20 (Try.f89.body.getD .skip)) (bodyPost Try.prog Try.f89 P) (Act.mk (List.toArray (u0 :: u1 :: (.pointer (some ⟨g2, 0, none⟩)) :: (.pointer (some ⟨g3, 0, none⟩)) :: u4 :: u5 :: u6 :: u7 :: u8 :: u9 :: u10 :: u11 :: u12 :: u13 :: u14 :: u15 :: u16 :: u17 :: u18 :: u19 :: u20 :: u21 :: u22 :: u23 :: u24 :: u25 :: u26 :: u27 :: u28 :: u29 :: u30 :: u31 :: u32 :: u33 :: u34 :: u35 :: u36 :: u37 :: u38 :: u39 :: u40 :: u41 :: u42 :: u43 :: u44 :: u45 :: u46 :: u47 :: u48 :: u49 :: u50 :: u51 :: u52 :: u53 :: u54 :: u55 :: u56 :: u57 :: u58 :: u59 :: u60 :: u61 :: u62 :: u63 :: u64 :: u65 :: u66 :: [])) []) w := by
  conv => enter [2]; whnf
  have HP : Hid _ := hP
  clear hP
  have i10 := Try.info_nt
  unfold ntA at b3
  unfold ntZ ntA at b2
  have s0 : True := trivial
  go_wp2_with (first
    | (have _t := s0; clear s0; refine wpList_ldX _ rfl _ (.tmp 3) rfl g3 _ rfl b3 Try.underlying27 i10 ?_; have s1 : True := trivial)
    | (have _t := s1; clear s1; refine wpList_stX _ rfl _ (.tmp 2) (.tmp 66) rfl g2 _ _ rfl rfl b2 i10 rfl (by simp [Value.oneCell']) ?_; intro w3 b33 u3))
  refine bodyPost_ret (results_cellN rfl _ _ _ ⟨g2, 0, none⟩ _ rfl (BxS.load (t := 27) b33 Try.underlying27 Try.info_nt)) rfl ?_
  exact HP.out w3 u3
end
end Go.Proofs.Ytnimehkfnpepfaa
