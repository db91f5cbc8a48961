import Derived.Test.YtibomgbejpgmiaaVNb
namespace Go.Proofs.Ytibomgbejpgmiaa
open Go.RowKit
set_option maxRecDepth 100000
set_option linter.unusedVariables false
set_option linter.unusedSimpArgs false

set_option maxHeartbeats 16000000 in
theorem sameNote_any (kd id : Int) (nm : ByteArray) (si su at' o co : Int) (a a' q q' : Option Addr) (n c c' m d d' : Nat) (L : List Nat) (F F' : Nat → Int × Int) (w : World) (hL : Rd w a n c L) (hL' : Rd w a' n c' L) (hF : RdG w q m d F) (hF' : RdG w q' m d' F') (he : ∀ i, i < m → F i = F' i) :
    Calls Try.prog 15 #[.agg (ntA kd id nm si su at' (.slice a n c) (.slice q m d) o co), .agg (ntA kd id nm si su at' (.slice a' n c') (.slice q' m d') o co)] w fun e w' => e = .returned (.bool true) ∧ w.grownBy w' none := by
  unfold ntA
  have b0 := BxS.new w 27 #[.int .i64 kd, .int .i64 id, .string nm, .int .i64 si, .int .i64 su, .int .i64 at', .slice a n c, .slice q m d, .int .i64 o, .int .i64 co]
  have g0 := World.grownBy_alloc w (.cells #[.int .i64 kd, .int .i64 id, .string nm, .int .i64 si, .int .i64 su, .int .i64 at', .slice a n c, .slice q m d, .int .i64 o, .int .i64 co] 27) none
  generalize hw0 : w.alloc (.cells #[.int .i64 kd, .int .i64 id, .string nm, .int .i64 si, .int .i64 su, .int .i64 at', .slice a n c, .slice q m d, .int .i64 o, .int .i64 co] 27) = w0 at b0 g0
  have hz0 : w0.heap.size = w.heap.size + 1 := by rw [← hw0]; simp
  have b1 := BxS.new w0 27 #[.int .i64 kd, .int .i64 id, .string nm, .int .i64 si, .int .i64 su, .int .i64 at', .slice a' n c', .slice q' m d', .int .i64 o, .int .i64 co]
  have g1 := World.grownBy_alloc w0 (.cells #[.int .i64 kd, .int .i64 id, .string nm, .int .i64 si, .int .i64 su, .int .i64 at', .slice a' n c', .slice q' m d', .int .i64 o, .int .i64 co] 27) none
  generalize hw1 : w0.alloc (.cells #[.int .i64 kd, .int .i64 id, .string nm, .int .i64 si, .int .i64 su, .int .i64 at', .slice a' n c', .slice q' m d', .int .i64 o, .int .i64 co] 27) = w1 at b1 g1
  rw [hz0] at b1
  have b01 := b0.keep g1 (by simp)
  have G1 := grown_trans g0 g1
  obtain ⟨e0, e1, e2, e3, e4, e5, e6, e7, e8, e9⟩ := b01.cell10
  obtain ⟨d0, d1, d2, d3, d4, d5, d6, d7, d8, d9⟩ := b1.cell10
  have hB := fun wz (hz : w1.grownBy wz none) => sameBytes_any a a' n n c c' L wz ((hL.keep G1).keep hz) ((hL'.keep G1).keep hz)
  have hG := fun wz (hz : w1.grownBy wz none) => sameGaps_any q q' m d d' F F' wz ((hF.keep G1).keep hz) ((hF'.keep G1).keep hz) he
  clear b0 hL hL' hF hF' he
  go_enter Try.func15, Try.ntmps15
  go_wp2_with (first
    | (go_at_call 51; refine (hB _ (by first | exact World.grownBy.refl _ _ | exact g2)).mono ?_; rintro e w5 ⟨rfl, hw⟩; have hw := hw.symm; subst hw)
    | (go_at_call 52; refine (hG _ (World.grownBy.refl _ _)).mono ?_; rintro e w2 ⟨rfl, g2⟩; clear e0 d0 e1 d1 e2 d2 e3 d3 e4 d4 e5 d5 e6 d6 e7 d7 e8 d8 e9 d9; obtain ⟨e0, e1, e2, e3, e4, e5, e6, e7, e8, e9⟩ := (b01.keep g2 (by simp)).cell10; obtain ⟨d0, d1, d2, d3, d4, d5, d6, d7, d8, d9⟩ := (b1.keep g2 (by simp)).cell10))
  go_ret
  exact ⟨rfl, grown_trans G1 g2⟩
/-- what Encode answers -/
def enE (b : Bool) : Nat := if b = true then 0 else 8
theorem encode_no (kd id : Int) (nm : ByteArray) (si su at' o co : Int) (a q : Option Addr) (n c m d : Nat) (F : Nat → Int × Int) (w : World) (hF : RdG w q m d F) (hm : ntB kd id nm.size si su at' n m o co (alG F 65536 m) = false) :
    Calls Try.prog 13 #[.agg (ntA kd id nm si su at' (.slice a n c) (.slice q m d) o co)] w fun e w' => e = .returned (.tuple #[.slice none 0 0, .int .i64 8]) ∧ w.grownBy w' none := by
  have h := fun wz (hz : w.grownBy wz none) => noteMay_any kd id nm si su at' a n c q m d o co F wz (hF.keep hz)
  rw [hm] at h
  unfold ntA at h ⊢
  go_enter Try.func13, Try.ntmps13
  go_wp2_with (go_at_call 49; refine (h _ (by first | exact World.grownBy.refl _ _ | exact World.grownBy_alloc _ _ _)).mono ?_; rintro e w1 ⟨rfl, g1⟩)
  go_ret2
  exact ⟨rfl, grown_trans (World.grownBy_alloc _ _ none) g1⟩
theorem encode_ok (kd id : Nat) (nm : ByteArray) (si su at' o co : Nat) (a q : Option Addr) (n c m d : Nat) (L : List Nat) (F : Nat → Int × Int) (w : World) (hL : Rd w a n c L) (hF : RdG w q m d F) (hm : ntB kd id nm.size si su at' n m o co (alG F 65536 m) = true) :
    Calls Try.prog 13 #[.agg (ntA kd id nm si su at' (.slice a n c) (.slice q m d) o co)] w fun e w' => ∃ a' l' c', e = .returned (.tuple #[.slice a' l' c', .int .i64 0]) ∧ Ans w' w.heap.size a' l' c' (ntL kd id nm si su at' L F m o co) ∧ w.grownBy w' none := by
  have h := fun wz (hz : w.grownBy wz none) => noteMay_any kd id nm si su at' a n c q m d o co F wz (hF.keep hz)
  rw [hm] at h
  have h2 := fun wz (hz : w.grownBy wz none) => noteBytes_any kd id nm si su at' a n c q m d o co L F wz (hL.keep hz) (hF.keep hz) hm
  have bx := BxS.new w 27 #[.int .i64 kd, .int .i64 id, .string nm, .int .i64 si, .int .i64 su, .int .i64 at', .slice a n c, .slice q m d, .int .i64 o, .int .i64 co]
  have g0 := World.grownBy_alloc w (.cells #[.int .i64 kd, .int .i64 id, .string nm, .int .i64 si, .int .i64 su, .int .i64 at', .slice a n c, .slice q m d, .int .i64 o, .int .i64 co] 27) none
  unfold ntA at h h2 ⊢
  generalize hw0 : w.alloc (.cells #[.int .i64 kd, .int .i64 id, .string nm, .int .i64 si, .int .i64 su, .int .i64 at', .slice a n c, .slice q m d, .int .i64 o, .int .i64 co] 27) = w0 at bx g0
  obtain ⟨e0, e1, e2, e3, e4, e5, e6, e7, e8, e9⟩ := bx.cell10
  go_enter Try.func13, Try.ntmps13
  go_wp2_with (first
    | (go_at_call 49; refine (h _ g0).mono ?_; rintro e w1 ⟨rfl, g1⟩; clear e0 e1 e2 e3 e4 e5 e6 e7 e8 e9; obtain ⟨e0, e1, e2, e3, e4, e5, e6, e7, e8, e9⟩ := (bx.keep g1 (by simp)).cell10; have g01 := grown_trans g0 g1)
    | (go_at_call 50; refine (h2 _ g01).mono ?_; rintro e w2 ⟨a2, l2, c2, rfl, A2, g2⟩))
  go_ret2
  exact ⟨a2, l2, c2, rfl, A2.lower g01.size, grown_trans g01 g2⟩

theorem Try.info_pr : (Try.prog.info? 82).map (fun i => (i.zero, i.size, i.bytes)) = some (some (.agg #[.int .i64 0, .int .i64 0]), 2, 16) := by kernel_rfl
/-- pairs as cells in a row -/
def flG (F : Nat → Int × Int) : Nat → List Value
  | 0 => []
  | k + 1 => flG F k ++ [.int .i64 (F k).1, .int .i64 (F k).2]
theorem flG_len (F : Nat → Int × Int) (n : Nat) : (flG F n).length = n * 2 := by
  induction n with
  | zero => rfl
  | succ n ih => show (flG F n ++ _).length = _; rw [List.length_append, ih]; simp; omega
theorem flG_at (F : Nat → Int × Int) (n i : Nat) (hi : i < n) : (flG F n)[i * 2]? = some (.int .i64 (F i).1) ∧ (flG F n)[i * 2 + 1]? = some (.int .i64 (F i).2) := by
  induction n with
  | zero => omega
  | succ n ih =>
    show (flG F n ++ [.int .i64 (F n).1, .int .i64 (F n).2])[i * 2]? = _ ∧ (flG F n ++ [.int .i64 (F n).1, .int .i64 (F n).2])[i * 2 + 1]? = _
    by_cases h : i < n
    · rw [List.getElem?_append_left (by rw [flG_len]; omega), List.getElem?_append_left (by rw [flG_len]; omega)]
      exact ih h
    · obtain rfl : i = n := by omega
      rw [List.getElem?_append_right (by rw [flG_len]; omega), List.getElem?_append_right (by rw [flG_len]; omega), flG_len]
      simp
theorem flG_one (F : Nat → Int × Int) (n : Nat) : ∀ u ∈ flG F n, u.oneCell' = true := by
  induction n with
  | zero => intro u h; cases h
  | succ n ih =>
    intro u h
    rcases List.mem_append.1 h with h | h
    · exact ih u h
    · simp at h
      rcases h with rfl | rfl <;> rfl
theorem RdG.news {w : World} {b off n cap : Nat} {F : Nat → Int × Int} (h : RdG w (some ⟨b, off, none⟩) n cap F) (j : Nat) (u : Value) (hu : (flG F n)[j]? = some u) : w.cell? ((⟨b, off, none⟩ : Addr).add j) = some u := by
  have hj : j < n * 2 := by rw [← flG_len F n]; exact (List.getElem?_eq_some_iff.1 hu).1
  obtain ⟨_, _, e, _, hc⟩ := h.at' (by omega)
  cases e
  obtain ⟨c1, c2⟩ := hc (j / 2) (by omega)
  obtain ⟨f1, f2⟩ := flG_at F n (j / 2) (by omega)
  rw [addr_add]
  by_cases hp : j % 2 = 0
  · rw [show j / 2 * 2 = j by omega] at f1 c1
    rw [f1] at hu
    rw [← hu]; exact c1
  · rw [show j / 2 * 2 + 1 = j by omega] at f2
    rw [show off + j / 2 * 2 + 1 = off + j by omega] at c2
    rw [f2] at hu
    rw [← hu]; exact c2
theorem own_rdG {w : World} {base : Nat} {v : Value} {n : Nat} {F : Nat → Int × Int} (h : w.ownsRow base 82 2 v n (flG F n)) : ∃ q c, v = .slice q n c ∧ RdG w q n c F ∧ (∀ b off, q = some ⟨b, off, none⟩ → base ≤ b) := by
  rcases h.2 with ⟨rfl, h0⟩ | ⟨g, cap, cur, rfl, hb, hg, hle, hmx, hsz, htk⟩
  · subst h0
    exact ⟨none, 0, rfl, RdG.nil0 _ _, fun b off e => by cases e⟩
  · refine ⟨some ⟨g, 0, none⟩, cap, rfl, ⟨hle, hmx, (fun e => by cases e), fun h0 => ⟨g, 0, rfl, (Array.getElem?_eq_some_iff.1 hg).1, fun i hi => ?_⟩⟩, fun b off e => by cases e; exact hb⟩
    obtain ⟨f1, f2⟩ := flG_at F n i hi
    have c1 := h.cells (g := g) rfl _ _ f1
    have c2 := h.cells (g := g) rfl _ _ f2
    rw [addr_add] at c1 c2
    exact ⟨c1, by rw [Nat.add_assoc]; exact c2⟩
/-- 'append([][2]int(nil), x...)' -/
theorem wpList_clG {w : World} {ops : Array Oper} {rest : List Oper} {o : Oper} {a : Act} {Q : Exit → Act → World → Prop} (hg : o.guard = none) (s x : Operand)
    (hop : o.op = Op.call { callee := .builtin .append, args := #[s, x], argTypes := #[24, 24] }) (hs : a.eval s = .slice none 0 0)
    (q : Option Addr) (m c : Nat) (F : Nat → Int × Int) (hx : a.eval x = .slice q m c) (hR : RdG w q m c F) (hb : m ≤ 10000000000000)
    (hK : ∀ q' c' w', RdG w' q' m c' F → (∀ b off, q' = some ⟨b, off, none⟩ → w.heap.size ≤ b) → w.grownBy w' none → wpList Try.prog ops Q rest (a.put o.dst (.slice q' m c')) w') :
    wpList Try.prog ops Q (o :: rest) a w := by
  obtain ⟨i0, hi, hz0, hz1, hz2⟩ := info_parts Try.info_pr
  cases q with
  | none =>
    have hc0 : c = 0 := hR.nil rfl
    have hn0 : m = 0 := by have := hR.le; omega
    subst hc0 hn0
    refine wpList_append_own_none hg s x 24 hop 0 82 i0 2 Try.underlying24 hi (.slice none 0 0) 0 [] hs (World.ownsRow_nil _ _ _ _) hx ?_
    exact hK none 0 w (RdG.nil0 _ _) (fun b off e => by cases e) (World.grownBy.refl _ _)
  | some ad =>
    refine wpList_append_own_wide w hg s x 24 hop w.heap.size 82 i0 (.agg #[.int .i64 0, .int .i64 0]) 2 16 Try.underlying24 hi hz0 hz1 hz2 rfl (by decide) (.slice none 0 0) 0 [] hs (World.ownsRow_nil _ _ _ _) ad m c (flG F m) hx (flG_len F m) ?_ (flG_one F m) (by unfold maxLen; omega) (by omega) (Nat.le_refl _) ?_
    · intro j u hu
      have hj : j < m * 2 := by rw [← flG_len F m]; exact (List.getElem?_eq_some_iff.1 hu).1
      obtain ⟨b, off, e, _, _⟩ := hR.at' (by omega)
      cases e
      exact hR.news j u hu
    · intro v' w' hown hgr _
      rw [Nat.zero_add, List.nil_append] at hown
      obtain ⟨q', c', rfl, h1, h2⟩ := own_rdG hown
      exact hK q' c' w' h1 h2 hgr
theorem stc_slG (g i : Nat) (p : Option Addr) (l c : Nat) (w : World) (hc : ∃ u, w.cell? ⟨g, i, none⟩ = some u) (hf : w.frozen? ⟨g, i, none⟩ = false) : (Instr.storeAt 24 (.pointer (some ⟨g, i, none⟩)) (.slice p l c)).run Try.prog w = .ok () (w.setCell ⟨g, i, none⟩ (.slice p l c)) := by
  obtain ⟨u, hc⟩ := hc
  simp [go_sem, hc, hf]
theorem Try.info_nt : (Try.prog.info? 27).map (fun i => i.size) = some 10 := by kernel_rfl
theorem results_cellN {fn : Func} {p : Tmp} {ty : TypeId} (h : fn.results = #[.cell p ty]) (tmps : Array Value) (P : Program) (w : World) (a : Addr) (v : Value) (ha : tmps.getD p undef = .pointer (some a)) (hl : (loadVar ty a).run P w = .ok v w) :
    (results fn tmps).run P w = .ok v w := by
  simp only [results, h]
  rw [Array.getD_eq_getD_getElem?] at ha
  simp [Sem.run_bind, Result.andThen]
  rw [ha]
  simp [asAddr, hl]
theorem RdG.kept_old {w0 w w' : World} {q : Option Addr} {m d : Nat} {F : Nat → Int × Int} (h0 : RdG w0 q m d F) (h : RdG w q m d F) (hg : w.grownBy w' (some w0.heap.size)) : RdG w' q m d F :=
  ⟨h.le, h.max, h.nil, fun hm => by
    obtain ⟨b, off, e, hb, hc⟩ := h.at' hm
    obtain ⟨b', off', e', hb', _⟩ := h0.at' hm
    rw [e] at e'
    cases e'
    refine ⟨b, off, e, Nat.lt_of_lt_of_le hb hg.size, fun i hi => ?_⟩
    have := hc i hi
    unfold World.cell? at this ⊢
    rw [hg.block b hb (fun e => by have e : b = w0.heap.size := Option.some.inj e; omega)]
    exact this⟩
set_option maxHeartbeats 4000000 in
theorem noteOwn_any (kd id : Int) (nm : ByteArray) (si su at' o co : Int) (a q : Option Addr) (n c m d : Nat) (L : List Nat) (F : Nat → Int × Int) (w : World) (hL : Rd w a n c L) (hF : RdG w q m d F) (hn : n ≤ 140737488351232) (hm : m ≤ 10000000000000) :
    Calls Try.prog 11 #[.agg (ntA kd id nm si su at' (.slice a n c) (.slice q m d) o co)] w fun e w' => ∃ g q' d' D, e = .returned (.agg (ntA kd id nm si su at' (.slice (some ⟨g, 0, none⟩) n (n + 5)) (.slice q' m d') o co)) ∧ w.heap.size ≤ g ∧ Roomy w' g n L D ∧ RdG w' q' m d' F ∧ (∀ b off, q' = some ⟨b, off, none⟩ → w.heap.size ≤ b) ∧ w.grownBy w' none := by
  have b0 := BxS.new w 27 #[.int .i64 kd, .int .i64 id, .string nm, .int .i64 si, .int .i64 su, .int .i64 at', .slice a n c, .slice q m d, .int .i64 o, .int .i64 co]
  have g0 := World.grownBy_alloc w (.cells #[.int .i64 kd, .int .i64 id, .string nm, .int .i64 si, .int .i64 su, .int .i64 at', .slice a n c, .slice q m d, .int .i64 o, .int .i64 co] 27) none
  have i10 := Try.info_nt
  unfold ntA
  generalize hw0 : w.alloc (.cells #[.int .i64 kd, .int .i64 id, .string nm, .int .i64 si, .int .i64 su, .int .i64 at', .slice a n c, .slice q m d, .int .i64 o, .int .i64 co] 27) = w0 at b0 g0
  have hz0 : w0.heap.size = w.heap.size + 1 := by rw [← hw0]; simp
  have b1 := BxS.new w0 27 #[.int .i64 0, .int .i64 0, .string ⟨#[]⟩, .int .i64 0, .int .i64 0, .int .i64 0, .slice none 0 0, .slice none 0 0, .int .i64 0, .int .i64 0]
  have g1 := World.grownBy_alloc w0 (.cells #[.int .i64 0, .int .i64 0, .string ⟨#[]⟩, .int .i64 0, .int .i64 0, .int .i64 0, .slice none 0 0, .slice none 0 0, .int .i64 0, .int .i64 0] 27) none
  generalize hw1 : w0.alloc (.cells #[.int .i64 0, .int .i64 0, .string ⟨#[]⟩, .int .i64 0, .int .i64 0, .int .i64 0, .slice none 0 0, .slice none 0 0, .int .i64 0, .int .i64 0] 27) = w1 at b1 g1
  rw [hz0] at b1
  have b01 := b0.keep g1 (by simp)
  have G1 := grown_trans g0 g1
  have hs1 : w.heap.size + 1 < w1.heap.size := b1.lt
  obtain ⟨e0, e1, e2, e3, e4, e5, e6, e7, e8, e9⟩ := b01.cell10
  have t1 : True := trivial
  go_enter Try.func11, Try.ntmps11
  go_wp2_with (first
    | (go_at_call 16; refine (roomy_any a n c L w1 (hL.keep G1) hn).mono ?_; rintro e w2 ⟨rfl, ⟨D, R2⟩, g2⟩; clear e0 e1 e2 e3 e4 e5 e6 e7 e8 e9; have b02 := b01.keep g2 (by simp); have b12 := b1.keep g2 (by simp); have t2 : True := trivial)
    | (have _t := t2; refine wpList_stC _ rfl _ (.tmp 6) (.tmp 5) rfl w.heap.size 6 _ _ _ _ rfl rfl b02 (stc_sl _ _ _ _ _) (by simp) rfl ?_; clear t2; intro w3 b3 g3; have b3' : BxS w3 w.heap.size 27 #[.int .i64 kd, .int .i64 id, .string nm, .int .i64 si, .int .i64 su, .int .i64 at', .slice (some ⟨w1.heap.size, 0, none⟩) n (n + 5), .slice q m d, .int .i64 o, .int .i64 co] := b3; obtain ⟨e0, e1, e2, e3, e4, e5, e6, e7, e8, e9⟩ := b3'.cell10; have b13 := b12.keep g3 (by simp); have hF3 := (hF.kept_old (hF.keep (grown_trans G1 g2)) g3); have t3 : True := trivial)
    | (at_builtin; have _t := t3; clear t3; refine wpList_clG rfl _ _ rfl rfl q m d F rfl hF3 hm ?_; intro q' c' w4 hq4 hn4 g4; have b4 := b3'.keep g4 (by simp); have b14 := b13.keep g4 (by simp); clear e0 e1 e2 e3 e4 e5 e6 e7 e8 e9; have t4 : True := trivial)
    | (have _t := t4; refine wpList_stC _ rfl _ (.tmp 10) (.tmp 9) rfl w.heap.size 7 _ _ _ _ rfl rfl b4 (stc_slG _ _ _ _ _) (by simp) rfl ?_; clear t4; intro w5 b5 g5; have b5' : BxS w5 w.heap.size 27 #[.int .i64 kd, .int .i64 id, .string nm, .int .i64 si, .int .i64 su, .int .i64 at', .slice (some ⟨w1.heap.size, 0, none⟩) n (n + 5), .slice q' m c', .int .i64 o, .int .i64 co] := b5; have b15 := b14.keep g5 (by simp); have t5 : True := trivial)
    | (have _t := t5; refine wpList_ldX _ rfl _ (.tmp 1) rfl w.heap.size _ rfl b5' Try.underlying27 i10 ?_; clear t5; have t6 : True := trivial)
    | (have _t := t6; refine wpList_stX _ rfl _ (.tmp 2) (.tmp 11) rfl (w.heap.size + 1) _ _ rfl rfl b15 i10 rfl (by simp [Value.oneCell']) ?_; clear t6; intro w9 b9 g9))
  refine bodyPost_ret (results_cellN rfl _ _ _ ⟨w.heap.size + 1, 0, none⟩ _ rfl (BxS.load (t := 27) b9 Try.underlying27 i10)) rfl ?_
  have hs2 := g2.size
  have hs3 := g3.size
  have G2 := grown_trans G1 g2
  have G3 : w.grownBy w3 none := grown_far G2 g3 (fun x e => by have e : w.heap.size = x := Option.some.inj e; omega)
  have G5 : w.grownBy w5 none := grown_far (grown_trans G3 g4) g5 (fun x e => by have e : w.heap.size = x := Option.some.inj e; omega)
  have G9 : w.grownBy w9 none := grown_far G5 g9 (fun x e => by have e : w.heap.size + 1 = x := Option.some.inj e; omega)
  have ne1 : some w1.heap.size ≠ some w.heap.size := fun e => by have e : w1.heap.size = w.heap.size := Option.some.inj e; omega
  have ne2 : some w1.heap.size ≠ some (w.heap.size + 1) := fun e => by have e : w1.heap.size = w.heap.size + 1 := Option.some.inj e; omega
  refine ⟨w1.heap.size, q', c', D, rfl, by omega, (((R2.grown g3 ne1).keep g4).grown g5 ne1).grown g9 ne2, (hq4.grown g5 ?_).grown g9 ?_, ?_, G9⟩
  · intro b off e e2
    have h1 := hn4 b off e
    have e2 : b = w.heap.size := Option.some.inj e2
    omega
  · intro b off e e2
    have h1 := hn4 b off e
    have e2 : b = w.heap.size + 1 := Option.some.inj e2
    omega
  · intro b off e
    have h1 := hn4 b off e
    omega
end Go.Proofs.Ytibomgbejpgmiaa
