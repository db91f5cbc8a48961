import Derived.Test.YtnimehkfnpepfaaTk3
import Derived.Test.YtnimehkfnpepfaaTk2
namespace Go.Proofs.Ytnimehkfnpepfaa
open Go.RowKit
set_option maxRecDepth 100000
set_option linter.unusedVariables false
set_option linter.unusedSimpArgs false

section
set_option maxHeartbeats 16000000 in
theorem sameNote_any (kd id : Int) (nm : ByteArray) (si su at' o co : Int) (a a' q q' : Option Addr) (n c c' m d d' : Nat) (L : List Nat) (F F' : Nat → Int × Int) (w : World) (hL : Rd w a n c L) (hL' : Rd w a' n c' L) (hF : RdG w q m d F) (hF' : RdG w q' m d' F') (he : ∀ i, i < m → F i = F' i) :
    Calls Try.prog 15 #[.agg (ntA kd id nm si su at' (.slice a n c) (.slice q m d) o co), .agg (ntA kd id nm si su at' (.slice a' n c') (.slice q' m d') o co)] w fun e w' => e = .returned (.bool true) ∧ w.grownBy w' none := by
  unfold ntA
  have b0 := BxS.new w 27 #[.int .i64 kd, .int .i64 id, .string nm, .int .i64 si, .int .i64 su, .int .i64 at', .slice a n c, .slice q m d, .int .i64 o, .int .i64 co]
  have g0 := World.grownBy_alloc w (.cells #[.int .i64 kd, .int .i64 id, .string nm, .int .i64 si, .int .i64 su, .int .i64 at', .slice a n c, .slice q m d, .int .i64 o, .int .i64 co] 27) none
  generalize hw0 : w.alloc (.cells #[.int .i64 kd, .int .i64 id, .string nm, .int .i64 si, .int .i64 su, .int .i64 at', .slice a n c, .slice q m d, .int .i64 o, .int .i64 co] 27) = w0 at b0 g0
  have hz0 : w0.heap.size = w.heap.size + 1 := by rw [← hw0]; simp
  have b1 := BxS.new w0 27 #[.int .i64 kd, .int .i64 id, .string nm, .int .i64 si, .int .i64 su, .int .i64 at', .slice a' n c', .slice q' m d', .int .i64 o, .int .i64 co]
  have g1 := World.grownBy_alloc w0 (.cells #[.int .i64 kd, .int .i64 id, .string nm, .int .i64 si, .int .i64 su, .int .i64 at', .slice a' n c', .slice q' m d', .int .i64 o, .int .i64 co] 27) none
  generalize hw1 : w0.alloc (.cells #[.int .i64 kd, .int .i64 id, .string nm, .int .i64 si, .int .i64 su, .int .i64 at', .slice a' n c', .slice q' m d', .int .i64 o, .int .i64 co] 27) = w1 at b1 g1
  rw [hz0] at b1
  have b01 := b0.keep g1 (by simp)
  have G1 := grown_trans g0 g1
  obtain ⟨e0, e1, e2, e3, e4, e5, e6, e7, e8, e9⟩ := b01.cell10
  obtain ⟨d0, d1, d2, d3, d4, d5, d6, d7, d8, d9⟩ := b1.cell10
  have hB := fun wz (hz : w1.grownBy wz none) => sameBytes_any a a' n n c c' L wz ((hL.keep G1).keep hz) ((hL'.keep G1).keep hz)
  have hG := fun wz (hz : w1.grownBy wz none) => sameGaps_any q q' m d d' F F' wz ((hF.keep G1).keep hz) ((hF'.keep G1).keep hz) he
  clear b0 hL hL' hF hF' he
  go_enter Try.func15, Try.ntmps15
  go_wp2_with (first
    | (go_at_call 51; refine (hB _ (by first | exact World.grownBy.refl _ _ | exact g2)).mono ?_; rintro e w5 ⟨rfl, hw⟩; have hw := hw.symm; subst hw)
    | (go_at_call 52; refine (hG _ (World.grownBy.refl _ _)).mono ?_; rintro e w2 ⟨rfl, g2⟩; clear e0 d0 e1 d1 e2 d2 e3 d3 e4 d4 e5 d5 e6 d6 e7 d7 e8 d8 e9 d9; obtain ⟨e0, e1, e2, e3, e4, e5, e6, e7, e8, e9⟩ := (b01.keep g2 (by simp)).cell10; obtain ⟨d0, d1, d2, d3, d4, d5, d6, d7, d8, d9⟩ := (b1.keep g2 (by simp)).cell10))
  go_ret
  exact ⟨rfl, grown_trans G1 g2⟩
theorem Try.info_pr : (Try.prog.info? 82).map (fun i => (i.zero, i.size, i.bytes)) = some (some (.agg #[.int .i64 0, .int .i64 0]), 2, 16) := by kernel_rfl
/-- pairs as cells in a row -/
def flG (F : Nat → Int × Int) : Nat → List Value
  | 0 => []
  | k + 1 => flG F k ++ [.int .i64 (F k).1, .int .i64 (F k).2]
theorem flG_len (F : Nat → Int × Int) (n : Nat) : (flG F n).length = n * 2 := by
  induction n with
  | zero => rfl
  | succ n ih => show (flG F n ++ _).length = _; rw [List.length_append, ih]; simp; omega
theorem flG_at (F : Nat → Int × Int) (n i : Nat) (hi : i < n) : (flG F n)[i * 2]? = some (.int .i64 (F i).1) ∧ (flG F n)[i * 2 + 1]? = some (.int .i64 (F i).2) := by
  induction n with
  | zero => omega
  | succ n ih =>
    show (flG F n ++ [.int .i64 (F n).1, .int .i64 (F n).2])[i * 2]? = _ ∧ (flG F n ++ [.int .i64 (F n).1, .int .i64 (F n).2])[i * 2 + 1]? = _
    by_cases h : i < n
    · rw [List.getElem?_append_left (by rw [flG_len]; omega), List.getElem?_append_left (by rw [flG_len]; omega)]
      exact ih h
    · obtain rfl : i = n := by omega
      rw [List.getElem?_append_right (by rw [flG_len]; omega), List.getElem?_append_right (by rw [flG_len]; omega), flG_len]
      simp
theorem flG_one (F : Nat → Int × Int) (n : Nat) : ∀ u ∈ flG F n, u.oneCell' = true := by
  induction n with
  | zero => intro u h; cases h
  | succ n ih =>
    intro u h
    rcases List.mem_append.1 h with h | h
    · exact ih u h
    · simp at h
      rcases h with rfl | rfl <;> rfl
theorem RdG.news {w : World} {b off n cap : Nat} {F : Nat → Int × Int} (h : RdG w (some ⟨b, off, none⟩) n cap F) (j : Nat) (u : Value) (hu : (flG F n)[j]? = some u) : w.cell? ((⟨b, off, none⟩ : Addr).add j) = some u := by
  have hj : j < n * 2 := by rw [← flG_len F n]; exact (List.getElem?_eq_some_iff.1 hu).1
  obtain ⟨_, _, e, _, hc⟩ := h.at' (by omega)
  cases e
  obtain ⟨c1, c2⟩ := hc (j / 2) (by omega)
  obtain ⟨f1, f2⟩ := flG_at F n (j / 2) (by omega)
  rw [addr_add]
  by_cases hp : j % 2 = 0
  · rw [show j / 2 * 2 = j by omega] at f1 c1
    rw [f1] at hu
    rw [← hu]; exact c1
  · rw [show j / 2 * 2 + 1 = j by omega] at f2
    rw [show off + j / 2 * 2 + 1 = off + j by omega] at c2
    rw [f2] at hu
    rw [← hu]; exact c2
theorem own_rdG {w : World} {base : Nat} {v : Value} {n : Nat} {F : Nat → Int × Int} (h : w.ownsRow base 82 2 v n (flG F n)) : ∃ q c, v = .slice q n c ∧ RdG w q n c F ∧ (∀ b off, q = some ⟨b, off, none⟩ → base ≤ b) := by
  rcases h.2 with ⟨rfl, h0⟩ | ⟨g, cap, cur, rfl, hb, hg, hle, hmx, hsz, htk⟩
  · subst h0
    exact ⟨none, 0, rfl, RdG.nil0 _ _, fun b off e => by cases e⟩
  · refine ⟨some ⟨g, 0, none⟩, cap, rfl, ⟨hle, hmx, (fun e => by cases e), fun h0 => ⟨g, 0, rfl, (Array.getElem?_eq_some_iff.1 hg).1, fun i hi => ?_⟩⟩, fun b off e => by cases e; exact hb⟩
    obtain ⟨f1, f2⟩ := flG_at F n i hi
    have c1 := h.cells (g := g) rfl _ _ f1
    have c2 := h.cells (g := g) rfl _ _ f2
    rw [addr_add] at c1 c2
    exact ⟨c1, by rw [Nat.add_assoc]; exact c2⟩
/-- 'append([][2]int(nil), x...)' -/
theorem wpList_clG {w : World} {ops : Array Oper} {rest : List Oper} {o : Oper} {a : Act} {Q : Exit → Act → World → Prop} (hg : o.guard = none) (s x : Operand)
    (hop : o.op = Op.call { callee := .builtin .append, args := #[s, x], argTypes := #[24, 24] }) (hs : a.eval s = .slice none 0 0)
    (q : Option Addr) (m c : Nat) (F : Nat → Int × Int) (hx : a.eval x = .slice q m c) (hR : RdG w q m c F) (hb : m ≤ 10000000000000)
    (hK : ∀ q' c' w', RdG w' q' m c' F → (∀ b off, q' = some ⟨b, off, none⟩ → w.heap.size ≤ b) → w.grownBy w' none → wpList Try.prog ops Q rest (a.put o.dst (.slice q' m c')) w') :
    wpList Try.prog ops Q (o :: rest) a w := by
  obtain ⟨i0, hi, hz0, hz1, hz2⟩ := info_parts Try.info_pr
  cases q with
  | none =>
    have hc0 : c = 0 := hR.nil rfl
    have hn0 : m = 0 := by have := hR.le; omega
    subst hc0 hn0
    refine wpList_append_own_none hg s x 24 hop 0 82 i0 2 Try.underlying24 hi (.slice none 0 0) 0 [] hs (World.ownsRow_nil _ _ _ _) hx ?_
    exact hK none 0 w (RdG.nil0 _ _) (fun b off e => by cases e) (World.grownBy.refl _ _)
  | some ad =>
    refine wpList_append_own_wide w hg s x 24 hop w.heap.size 82 i0 (.agg #[.int .i64 0, .int .i64 0]) 2 16 Try.underlying24 hi hz0 hz1 hz2 rfl (by decide) (.slice none 0 0) 0 [] hs (World.ownsRow_nil _ _ _ _) ad m c (flG F m) hx (flG_len F m) ?_ (flG_one F m) (by unfold maxLen; omega) (by omega) (Nat.le_refl _) ?_
    · intro j u hu
      have hj : j < m * 2 := by rw [← flG_len F m]; exact (List.getElem?_eq_some_iff.1 hu).1
      obtain ⟨b, off, e, _, _⟩ := hR.at' (by omega)
      cases e
      exact hR.news j u hu
    · intro v' w' hown hgr _
      rw [Nat.zero_add, List.nil_append] at hown
      obtain ⟨q', c', rfl, h1, h2⟩ := own_rdG hown
      exact hK q' c' w' h1 h2 hgr
theorem stc_slG (g i : Nat) (p : Option Addr) (l c : Nat) (w : World) (hc : ∃ u, w.cell? ⟨g, i, none⟩ = some u) (hf : w.frozen? ⟨g, i, none⟩ = false) : (Instr.storeAt 24 (.pointer (some ⟨g, i, none⟩)) (.slice p l c)).run Try.prog w = .ok () (w.setCell ⟨g, i, none⟩ (.slice p l c)) := by
  obtain ⟨u, hc⟩ := hc
  simp [go_sem, hc, hf]
theorem Try.info_nt : (Try.prog.info? 27).map (fun i => i.size) = some 10 := by kernel_rfl
theorem results_cellN {fn : Func} {p : Tmp} {ty : TypeId} (h : fn.results = #[.cell p ty]) (tmps : Array Value) (P : Program) (w : World) (a : Addr) (v : Value) (ha : tmps.getD p undef = .pointer (some a)) (hl : (loadVar ty a).run P w = .ok v w) :
    (results fn tmps).run P w = .ok v w := by
  simp only [results, h]
  rw [Array.getD_eq_getD_getElem?] at ha
  simp [Sem.run_bind, Result.andThen]
  rw [ha]
  simp [asAddr, hl]
theorem RdG.kept_old {w0 w w' : World} {q : Option Addr} {m d : Nat} {F : Nat → Int × Int} (h0 : RdG w0 q m d F) (h : RdG w q m d F) (hg : w.grownBy w' (some w0.heap.size)) : RdG w' q m d F :=
  ⟨h.le, h.max, h.nil, fun hm => by
    obtain ⟨b, off, e, hb, hc⟩ := h.at' hm
    obtain ⟨b', off', e', hb', _⟩ := h0.at' hm
    rw [e] at e'
    cases e'
    refine ⟨b, off, e, Nat.lt_of_lt_of_le hb hg.size, fun i hi => ?_⟩
    have := hc i hi
    unfold World.cell? at this ⊢
    rw [hg.block b hb (fun e => by have e : b = w0.heap.size := Option.some.inj e; omega)]
    exact this⟩
set_option maxHeartbeats 4000000 in
theorem noteOwn_any (kd id : Int) (nm : ByteArray) (si su at' o co : Int) (a q : Option Addr) (n c m d : Nat) (L : List Nat) (F : Nat → Int × Int) (w : World) (hL : Rd w a n c L) (hF : RdG w q m d F) (hn : n ≤ 140737488351232) (hm : m ≤ 10000000000000) :
    Calls Try.prog 11 #[.agg (ntA kd id nm si su at' (.slice a n c) (.slice q m d) o co)] w fun e w' => ∃ g q' d' D, e = .returned (.agg (ntA kd id nm si su at' (.slice (some ⟨g, 0, none⟩) n (n + 5)) (.slice q' m d') o co)) ∧ w.heap.size ≤ g ∧ Roomy w' g n L D ∧ RdG w' q' m d' F ∧ (∀ b off, q' = some ⟨b, off, none⟩ → w.heap.size ≤ b) ∧ w.grownBy w' none := by
  have b0 := BxS.new w 27 #[.int .i64 kd, .int .i64 id, .string nm, .int .i64 si, .int .i64 su, .int .i64 at', .slice a n c, .slice q m d, .int .i64 o, .int .i64 co]
  have g0 := World.grownBy_alloc w (.cells #[.int .i64 kd, .int .i64 id, .string nm, .int .i64 si, .int .i64 su, .int .i64 at', .slice a n c, .slice q m d, .int .i64 o, .int .i64 co] 27) none
  have i10 := Try.info_nt
  unfold ntA
  generalize hw0 : w.alloc (.cells #[.int .i64 kd, .int .i64 id, .string nm, .int .i64 si, .int .i64 su, .int .i64 at', .slice a n c, .slice q m d, .int .i64 o, .int .i64 co] 27) = w0 at b0 g0
  have hz0 : w0.heap.size = w.heap.size + 1 := by rw [← hw0]; simp
  have b1 := BxS.new w0 27 #[.int .i64 0, .int .i64 0, .string ⟨#[]⟩, .int .i64 0, .int .i64 0, .int .i64 0, .slice none 0 0, .slice none 0 0, .int .i64 0, .int .i64 0]
  have g1 := World.grownBy_alloc w0 (.cells #[.int .i64 0, .int .i64 0, .string ⟨#[]⟩, .int .i64 0, .int .i64 0, .int .i64 0, .slice none 0 0, .slice none 0 0, .int .i64 0, .int .i64 0] 27) none
  generalize hw1 : w0.alloc (.cells #[.int .i64 0, .int .i64 0, .string ⟨#[]⟩, .int .i64 0, .int .i64 0, .int .i64 0, .slice none 0 0, .slice none 0 0, .int .i64 0, .int .i64 0] 27) = w1 at b1 g1
  rw [hz0] at b1
  have b01 := b0.keep g1 (by simp)
  have G1 := grown_trans g0 g1
  have hs1 : w.heap.size + 1 < w1.heap.size := b1.lt
  obtain ⟨e0, e1, e2, e3, e4, e5, e6, e7, e8, e9⟩ := b01.cell10
  have t1 : True := trivial
  go_enter Try.func11, Try.ntmps11
  go_wp2_with (first
    | (go_at_call 16; refine (roomy_any a n c L w1 (hL.keep G1) hn).mono ?_; rintro e w2 ⟨rfl, ⟨D, R2⟩, g2⟩; clear e0 e1 e2 e3 e4 e5 e6 e7 e8 e9; have b02 := b01.keep g2 (by simp); have b12 := b1.keep g2 (by simp); have t2 : True := trivial)
    | (have _t := t2; refine wpList_stC _ rfl _ (.tmp 6) (.tmp 5) rfl w.heap.size 6 _ _ _ _ rfl rfl b02 (stc_sl _ _ _ _ _) (by simp) rfl ?_; clear t2; intro w3 b3 g3; have b3' : BxS w3 w.heap.size 27 #[.int .i64 kd, .int .i64 id, .string nm, .int .i64 si, .int .i64 su, .int .i64 at', .slice (some ⟨w1.heap.size, 0, none⟩) n (n + 5), .slice q m d, .int .i64 o, .int .i64 co] := b3; obtain ⟨e0, e1, e2, e3, e4, e5, e6, e7, e8, e9⟩ := b3'.cell10; have b13 := b12.keep g3 (by simp); have hF3 := (hF.kept_old (hF.keep (grown_trans G1 g2)) g3); have t3 : True := trivial)
    | (at_builtin; have _t := t3; clear t3; refine wpList_clG rfl _ _ rfl rfl q m d F rfl hF3 hm ?_; intro q' c' w4 hq4 hn4 g4; have b4 := b3'.keep g4 (by simp); have b14 := b13.keep g4 (by simp); clear e0 e1 e2 e3 e4 e5 e6 e7 e8 e9; have t4 : True := trivial)
    | (have _t := t4; refine wpList_stC _ rfl _ (.tmp 10) (.tmp 9) rfl w.heap.size 7 _ _ _ _ rfl rfl b4 (stc_slG _ _ _ _ _) (by simp) rfl ?_; clear t4; intro w5 b5 g5; have b5' : BxS w5 w.heap.size 27 #[.int .i64 kd, .int .i64 id, .string nm, .int .i64 si, .int .i64 su, .int .i64 at', .slice (some ⟨w1.heap.size, 0, none⟩) n (n + 5), .slice q' m c', .int .i64 o, .int .i64 co] := b5; have b15 := b14.keep g5 (by simp); have t5 : True := trivial)
    | (have _t := t5; refine wpList_ldX _ rfl _ (.tmp 1) rfl w.heap.size _ rfl b5' Try.underlying27 i10 ?_; clear t5; have t6 : True := trivial)
    | (have _t := t6; refine wpList_stX _ rfl _ (.tmp 2) (.tmp 11) rfl (w.heap.size + 1) _ _ rfl rfl b15 i10 rfl (by simp [Value.oneCell']) ?_; clear t6; intro w9 b9 g9))
  refine bodyPost_ret (results_cellN rfl _ _ _ ⟨w.heap.size + 1, 0, none⟩ _ rfl (BxS.load (t := 27) b9 Try.underlying27 i10)) rfl ?_
  have hs2 := g2.size
  have hs3 := g3.size
  have G2 := grown_trans G1 g2
  have G3 : w.grownBy w3 none := grown_far G2 g3 (fun x e => by have e : w.heap.size = x := Option.some.inj e; omega)
  have G5 : w.grownBy w5 none := grown_far (grown_trans G3 g4) g5 (fun x e => by have e : w.heap.size = x := Option.some.inj e; omega)
  have G9 : w.grownBy w9 none := grown_far G5 g9 (fun x e => by have e : w.heap.size + 1 = x := Option.some.inj e; omega)
  have ne1 : some w1.heap.size ≠ some w.heap.size := fun e => by have e : w1.heap.size = w.heap.size := Option.some.inj e; omega
  have ne2 : some w1.heap.size ≠ some (w.heap.size + 1) := fun e => by have e : w1.heap.size = w.heap.size + 1 := Option.some.inj e; omega
  refine ⟨w1.heap.size, q', c', D, rfl, by omega, (((R2.grown g3 ne1).keep g4).grown g5 ne1).grown g9 ne2, (hq4.grown g5 ?_).grown g9 ?_, ?_, G9⟩
  · intro b off e e2
    have h1 := hn4 b off e
    have e2 : b = w.heap.size := Option.some.inj e2
    omega
  · intro b off e e2
    have h1 := hn4 b off e
    have e2 : b = w.heap.size + 1 := Option.some.inj e2
    omega
  · intro b off e
    have h1 := hn4 b off e
    omega
end

section
def giF (G : List (Int × Int)) (i : Nat) : Int × Int := G.getD i (0, 0)
def tabG (F : Nat → Int × Int) (n : Nat) : List (Int × Int) := (List.range n).map F
theorem tabG_len (F : Nat → Int × Int) (n : Nat) : (tabG F n).length = n := by unfold tabG; simp
theorem giF_tab (F : Nat → Int × Int) (n i : Nat) (h : i < n) : giF (tabG F n) i = F i := by
  unfold giF tabG
  rw [List.getD_eq_getElem?_getD, List.getElem?_map, List.getElem?_range h]; rfl
theorem flG_cong (F F' : Nat → Int × Int) : ∀ n, (∀ i, i < n → F i = F' i) → flG F n = flG F' n := by
  intro n
  induction n with
  | zero => intro _; rfl
  | succ n ih => intro h; show flG F n ++ _ = flG F' n ++ _; rw [ih (fun i hi => h i (by omega)), h n (by omega)]
theorem flG_app (G : List (Int × Int)) (F : Nat → Int × Int) (m : Nat) (hm : G.length = m) : ∀ n, flG (giF (G ++ tabG F n)) (m + n) = flG (giF G) m ++ flG F n := by
  intro n
  induction n with
  | zero =>
    show flG (giF (G ++ [])) m = _ ++ []
    rw [List.append_nil, List.append_nil]
  | succ n ih =>
    show flG (giF (G ++ tabG F (n + 1))) (m + n) ++ [.int .i64 (giF (G ++ tabG F (n + 1)) (m + n)).1, .int .i64 (giF (G ++ tabG F (n + 1)) (m + n)).2] = _ ++ (flG F n ++ _)
    have e1 : ∀ i, i < m + n → giF (G ++ tabG F (n + 1)) i = giF (G ++ tabG F n) i := by
      intro i hi
      have e : tabG F (n + 1) = tabG F n ++ [F n] := by unfold tabG; rw [List.range_succ, List.map_append]; rfl
      unfold giF
      rw [e, ← List.append_assoc, List.getD_eq_getElem?_getD, List.getElem?_append_left (by rw [List.length_append, tabG_len]; omega), ← List.getD_eq_getElem?_getD]
    have e2 : giF (G ++ tabG F (n + 1)) (m + n) = F n := by
      have := giF_tab F (n + 1) n (by omega)
      unfold giF at this ⊢
      rw [List.getD_eq_getElem?_getD, List.getElem?_append_right (by omega), hm, Nat.add_sub_cancel_left, ← List.getD_eq_getElem?_getD]
      exact this
    rw [flG_cong _ _ _ e1, ih, e2, List.append_assoc]
/-- pairs in new memory -/
structure OwGi (w : World) (lo : Nat) (q : Option Addr) (m d : Nat) (G : List (Int × Int)) : Prop where
  own : w.ownsRow 0 82 2 (.slice q m d) m (flG (giF G) m)
  len : G.length = m
  new : ∀ g, (Value.slice q m d).ownBlock = some g → lo ≤ g
section
variable {w w' : World} {lo lo' : Nat} {q : Option Addr} {m d : Nat} {G : List (Int × Int)} {r : Option Nat}
theorem OwGi.nil (w : World) (lo : Nat) : OwGi w lo none 0 0 [] := ⟨World.ownsRow_nil _ _ _ _, rfl, fun g h => by cases h⟩
theorem OwGi.rd (h : OwGi w lo q m d G) : RdG w q m d (giF G) := by
  obtain ⟨q', c', e, h1, _⟩ := own_rdG h.own
  cases e
  exact h1
theorem OwGi.wide (h : OwGi w lo q m d G) (hl : lo' ≤ lo) : OwGi w lo' q m d G := ⟨h.own, h.len, fun g e => Nat.le_trans hl (h.new g e)⟩
theorem OwGi.lt (h : OwGi w lo q m d G) {g : Nat} (e : (Value.slice q m d).ownBlock = some g) : g < w.heap.size := by
  rcases h.own.2 with ⟨h1, _⟩ | ⟨g', cap', cur, h1, _, h3, _⟩
  · rw [h1] at e; cases e
  · rw [h1] at e
    have e : g' = g := Option.some.inj e
    subst e
    exact (Array.getElem?_eq_some_iff.1 h3).1
/-- whatever is written elsewhere -/
theorem OwGi.kR (h : OwGi w lo q m d G) (hg : w.grownBy w' r) (hr : ∀ z, r = some z → (Value.slice q m d).ownBlock ≠ some z) : OwGi w' lo q m d G := by
  refine ⟨h.own.kept hg ?_, h.len, h.new⟩
  cases hz : (Value.slice q m d).ownBlock with
  | none => exact .inl rfl
  | some z => exact .inr (fun e => hr z e.symm hz)
theorem OwGi.keep (h : OwGi w lo q m d G) (hg : w.grownBy w' none) : OwGi w' lo q m d G := h.kR hg (fun z e => by cases e)
theorem OwGi.neB {g : Nat} {t : TypeId} {cs : Array Value} (h : OwGi w lo q m d G) (hb : BxS w g t cs) (ht : 82 ≠ t) : (Value.slice q m d).ownBlock ≠ some g := by
  intro e
  rcases h.own.2 with ⟨h1, _⟩ | ⟨g', cap', cur, h1, _, h3, _⟩
  · rw [h1] at e; cases e
  · rw [h1] at e
    have e : g' = g := Option.some.inj e
    subst e
    have hb : w.heap[g']? = some (.cells cs t) := hb
    rw [h3] at hb
    injection hb with hb
    injection hb with _ hb
    exact ht hb
theorem OwGi.bx {g : Nat} {t : TypeId} {cs : Array Value} (h : OwGi w lo q m d G) (hb : BxS w g t cs) (ht : 82 ≠ t) (hg : w.grownBy w' (some g)) : OwGi w' lo q m d G :=
  h.kR hg (fun z e => by have e := Option.some.inj e; subst e; exact h.neB hb ht)
end
theorem own_up {w : World} {lo : Nat} {q : Option Addr} {m d : Nat} {G : List (Int × Int)} (h : OwGi w lo q m d G) : w.ownsRow lo 82 2 (.slice q m d) m (flG (giF G) m) := by
  refine ⟨h.own.1, ?_⟩
  rcases h.own.2 with h2 | ⟨g, cap, cur, h3, _, h5⟩
  · exact .inl h2
  · exact .inr ⟨g, cap, cur, h3, h.new g (by rw [h3]; rfl), h5⟩
theorem own_dn {w : World} {base : Nat} {e : TypeId} {sz : Nat} {v : Value} {n : Nat} {xs : List Value} (h : w.ownsRow base e sz v n xs) : w.ownsRow 0 e sz v n xs := by
  refine ⟨h.1, ?_⟩
  rcases h.2 with h2 | ⟨g, cap, cur, h3, h4, h5⟩
  · exact .inl h2
  · exact .inr ⟨g, cap, cur, h3, Nat.zero_le _, h5⟩
/-- 'append(v, x...)', pairs, v in memory of the call's own -/
theorem wpList_joinG {w : World} {ops : Array Oper} {rest : List Oper} {o : Oper} {a : Act} {Q : Exit → Act → World → Prop} (hg : o.guard = none) (s x : Operand)
    (hop : o.op = Op.call { callee := .builtin .append, args := #[s, x], argTypes := #[24, 24] }) (ao : Option Addr) (m co lo : Nat) (G : List (Int × Int)) (hs : a.eval s = .slice ao m co)
    (hA : OwGi w lo ao m co G) (hlo : lo ≤ w.heap.size) (ax : Option Addr) (nx cx : Nat) (F : Nat → Int × Int) (hx : a.eval x = .slice ax nx cx) (hR : RdG w ax nx cx F) (hb : m + nx ≤ 8796093021952)
    (hK : ∀ a' c' w', OwGi w' lo a' (m + nx) c' (G ++ tabG F nx) → w.grownBy w' (Value.slice ao m co).ownBlock → wpList Try.prog ops Q rest (a.put o.dst (.slice a' (m + nx) c')) w') :
    wpList Try.prog ops Q (o :: rest) a w := by
  obtain ⟨i0, hi, hz0, hz1, hz2⟩ := info_parts Try.info_pr
  cases ax with
  | none =>
    have hc0 : cx = 0 := hR.nil rfl
    have hn0 : nx = 0 := by have := hR.le; omega
    subst hc0 hn0
    refine wpList_append_own_none hg s x 24 hop 0 82 i0 2 Try.underlying24 hi (.slice ao m co) m (flG (giF G) m) hs hA.own hx ?_
    exact hK ao co w (by rw [show G ++ tabG F 0 = G from List.append_nil _]; exact hA) (World.grownBy.refl _ _)
  | some ad =>
    refine wpList_append_own_wide w hg s x 24 hop lo 82 i0 (.agg #[.int .i64 0, .int .i64 0]) 2 16 Try.underlying24 hi hz0 hz1 hz2 rfl (by decide) (.slice ao m co) m (flG (giF G) m) hs (own_up hA) ad nx cx (flG F nx) hx (flG_len F nx) ?_ (flG_one F nx) (by unfold maxLen; omega) (by omega) hlo ?_
    · intro j u hu
      have hj : j < nx * 2 := by rw [← flG_len F nx]; exact (List.getElem?_eq_some_iff.1 hu).1
      obtain ⟨b, off, e, _, _⟩ := hR.at' (by omega)
      cases e
      exact hR.news j u hu
    · intro v' w' hown hgr _
      rw [← flG_app G F m hA.len nx] at hown
      obtain ⟨q', c', rfl, h1, h2⟩ := own_rdG hown
      exact hK q' c' w' ⟨own_dn hown, by rw [List.length_append, hA.len, tabG_len], fun g e => by
        cases q' with
        | none => cases e
        | some b =>
          obtain ⟨bb, bo, bs⟩ := b
          have e : bb = g := Option.some.inj e
          rcases hown.2 with ⟨k1, _⟩ | ⟨g', cap', cur, k1, k2, _⟩
          · cases k1
          · cases k1; omega⟩ hgr
set_option maxHeartbeats 4000000 in
theorem gclone_any (a : Option Addr) (n cap : Nat) (F : Nat → Int × Int) (w : World) (hp : RdG w a n cap F) (hn : n ≤ 8796093021952) :
    Calls Try.prog 93 #[.slice a n cap] w fun e w' => ∃ a' c', e = .returned (.slice a' n c') ∧ OwGi w' w.heap.size a' n c' (tabG F n) ∧ w.grownBy w' none := by
  cases a with
  | none =>
    have hc0 : cap = 0 := hp.nil rfl
    have hn0 : n = 0 := by have := hp.le; omega
    subst hc0 hn0
    have heq := fun w => Lib.run_eql_slice_nil (P := Try.prog) w 24 82 none 0 0 0 0 Try.underlying24
    go_enter Try.func93, Try.ntmps93
    go_wp2
    go_ret
    exact ⟨none, 0, rfl, OwGi.nil _ _, World.grownBy.refl _ _⟩
  | some ad =>
    have gA := World.grownBy_alloc w (.cells #[] 82) none
    have hA := heap_alloc_new w (.cells #[] 82)
    have hown : OwGi (w.alloc (.cells #[] 82)) w.heap.size (some ⟨w.heap.size, 0, none⟩) 0 0 [] := ⟨⟨rfl, .inr ⟨w.heap.size, 0, #[], rfl, Nat.zero_le _, hA, Nat.le_refl _, Nat.zero_le _, rfl, rfl⟩⟩, rfl, fun g h => by have e : w.heap.size = g := Option.some.inj h; omega⟩
    have hpA := hp.keep gA
    have heq := fun w => Lib.run_eql_slice_nil (P := Try.prog) w 24 82 (some ad) n cap 0 0 Try.underlying24
    go_enter Try.func93, Try.ntmps93
    go_wp2_with (at_builtin; refine wpList_joinG rfl _ _ rfl _ 0 0 w.heap.size [] rfl hown (by simp) _ n cap F rfl hpA (by omega) ?_; intro a' c' w2 hA2 hg2)
    go_ret
    rw [Nat.zero_add, List.nil_append] at *
    exact ⟨a', c', rfl, hA2, grown_far gA hg2 (fun x hx => by have e : w.heap.size = x := Option.some.inj hx; omega)⟩
end
end Go.Proofs.Ytnimehkfnpepfaa
