import Derived.Test.YtnimehkfnpepfaaWh12
import Derived.Test.YtnimehkfnpepfaaWh14
import Derived.Test.YtnimehkfnpepfaaWh11
namespace Go.Proofs.Ytnimehkfnpepfaa
open Go.RowKit
set_option maxRecDepth 100000
set_option linter.unusedVariables false
set_option linter.unusedSimpArgs false

section
def giF (G : List (Int × Int)) (i : Nat) : Int × Int := G.getD i (0, 0)
def tabG (F : Nat → Int × Int) (n : Nat) : List (Int × Int) := (List.range n).map F
theorem tabG_len (F : Nat → Int × Int) (n : Nat) : (tabG F n).length = n := by unfold tabG; simp
theorem giF_tab (F : Nat → Int × Int) (n i : Nat) (h : i < n) : giF (tabG F n) i = F i := by
  unfold giF tabG
  rw [List.getD_eq_getElem?_getD, List.getElem?_map, List.getElem?_range h]; rfl
theorem flG_cong (F F' : Nat → Int × Int) : ∀ n, (∀ i, i < n → F i = F' i) → flG F n = flG F' n := by
  intro n
  induction n with
  | zero => intro _; rfl
  | succ n ih => intro h; show flG F n ++ _ = flG F' n ++ _; rw [ih (fun i hi => h i (by omega)), h n (by omega)]
theorem flG_app (G : List (Int × Int)) (F : Nat → Int × Int) (m : Nat) (hm : G.length = m) : ∀ n, flG (giF (G ++ tabG F n)) (m + n) = flG (giF G) m ++ flG F n := by
  intro n
  induction n with
  | zero =>
    show flG (giF (G ++ [])) m = _ ++ []
    rw [List.append_nil, List.append_nil]
  | succ n ih =>
    show flG (giF (G ++ tabG F (n + 1))) (m + n) ++ [.int .i64 (giF (G ++ tabG F (n + 1)) (m + n)).1, .int .i64 (giF (G ++ tabG F (n + 1)) (m + n)).2] = _ ++ (flG F n ++ _)
    have e1 : ∀ i, i < m + n → giF (G ++ tabG F (n + 1)) i = giF (G ++ tabG F n) i := by
      intro i hi
      have e : tabG F (n + 1) = tabG F n ++ [F n] := by unfold tabG; rw [List.range_succ, List.map_append]; rfl
      unfold giF
      rw [e, ← List.append_assoc, List.getD_eq_getElem?_getD, List.getElem?_append_left (by rw [List.length_append, tabG_len]; omega), ← List.getD_eq_getElem?_getD]
    have e2 : giF (G ++ tabG F (n + 1)) (m + n) = F n := by
      have := giF_tab F (n + 1) n (by omega)
      unfold giF at this ⊢
      rw [List.getD_eq_getElem?_getD, List.getElem?_append_right (by omega), hm, Nat.add_sub_cancel_left, ← List.getD_eq_getElem?_getD]
      exact this
    rw [flG_cong _ _ _ e1, ih, e2, List.append_assoc]
/-- pairs in new memory -/
structure OwGi (w : World) (lo : Nat) (q : Option Addr) (m d : Nat) (G : List (Int × Int)) : Prop where
  own : w.ownsRow 0 82 2 (.slice q m d) m (flG (giF G) m)
  len : G.length = m
  new : ∀ g, (Value.slice q m d).ownBlock = some g → lo ≤ g
section
variable {w w' : World} {lo lo' : Nat} {q : Option Addr} {m d : Nat} {G : List (Int × Int)} {r : Option Nat}
theorem OwGi.nil (w : World) (lo : Nat) : OwGi w lo none 0 0 [] := ⟨World.ownsRow_nil _ _ _ _, rfl, fun g h => by cases h⟩
theorem OwGi.rd (h : OwGi w lo q m d G) : RdG w q m d (giF G) := by
  obtain ⟨q', c', e, h1, _⟩ := own_rdG h.own
  cases e
  exact h1
theorem OwGi.wide (h : OwGi w lo q m d G) (hl : lo' ≤ lo) : OwGi w lo' q m d G := ⟨h.own, h.len, fun g e => Nat.le_trans hl (h.new g e)⟩
theorem OwGi.lt (h : OwGi w lo q m d G) {g : Nat} (e : (Value.slice q m d).ownBlock = some g) : g < w.heap.size := by
  rcases h.own.2 with ⟨h1, _⟩ | ⟨g', cap', cur, h1, _, h3, _⟩
  · rw [h1] at e; cases e
  · rw [h1] at e
    have e : g' = g := Option.some.inj e
    subst e
    exact (Array.getElem?_eq_some_iff.1 h3).1
/-- whatever is written elsewhere -/
theorem OwGi.kR (h : OwGi w lo q m d G) (hg : w.grownBy w' r) (hr : ∀ z, r = some z → (Value.slice q m d).ownBlock ≠ some z) : OwGi w' lo q m d G := by
  refine ⟨h.own.kept hg ?_, h.len, h.new⟩
  cases hz : (Value.slice q m d).ownBlock with
  | none => exact .inl rfl
  | some z => exact .inr (fun e => hr z e.symm hz)
theorem OwGi.keep (h : OwGi w lo q m d G) (hg : w.grownBy w' none) : OwGi w' lo q m d G := h.kR hg (fun z e => by cases e)
theorem OwGi.neB {g : Nat} {t : TypeId} {cs : Array Value} (h : OwGi w lo q m d G) (hb : BxS w g t cs) (ht : 82 ≠ t) : (Value.slice q m d).ownBlock ≠ some g := by
  intro e
  rcases h.own.2 with ⟨h1, _⟩ | ⟨g', cap', cur, h1, _, h3, _⟩
  · rw [h1] at e; cases e
  · rw [h1] at e
    have e : g' = g := Option.some.inj e
    subst e
    have hb : w.heap[g']? = some (.cells cs t) := hb
    rw [h3] at hb
    injection hb with hb
    injection hb with _ hb
    exact ht hb
theorem OwGi.bx {g : Nat} {t : TypeId} {cs : Array Value} (h : OwGi w lo q m d G) (hb : BxS w g t cs) (ht : 82 ≠ t) (hg : w.grownBy w' (some g)) : OwGi w' lo q m d G :=
  h.kR hg (fun z e => by have e := Option.some.inj e; subst e; exact h.neB hb ht)
end
theorem own_up {w : World} {lo : Nat} {q : Option Addr} {m d : Nat} {G : List (Int × Int)} (h : OwGi w lo q m d G) : w.ownsRow lo 82 2 (.slice q m d) m (flG (giF G) m) := by
  refine ⟨h.own.1, ?_⟩
  rcases h.own.2 with h2 | ⟨g, cap, cur, h3, _, h5⟩
  · exact .inl h2
  · exact .inr ⟨g, cap, cur, h3, h.new g (by rw [h3]; rfl), h5⟩
theorem own_dn {w : World} {base : Nat} {e : TypeId} {sz : Nat} {v : Value} {n : Nat} {xs : List Value} (h : w.ownsRow base e sz v n xs) : w.ownsRow 0 e sz v n xs := by
  refine ⟨h.1, ?_⟩
  rcases h.2 with h2 | ⟨g, cap, cur, h3, h4, h5⟩
  · exact .inl h2
  · exact .inr ⟨g, cap, cur, h3, Nat.zero_le _, h5⟩
/-- 'append(v, x...)', pairs, v in memory of the call's own -/
theorem wpList_joinG {w : World} {ops : Array Oper} {rest : List Oper} {o : Oper} {a : Act} {Q : Exit → Act → World → Prop} (hg : o.guard = none) (s x : Operand)
    (hop : o.op = Op.call { callee := .builtin .append, args := #[s, x], argTypes := #[24, 24] }) (ao : Option Addr) (m co lo : Nat) (G : List (Int × Int)) (hs : a.eval s = .slice ao m co)
    (hA : OwGi w lo ao m co G) (hlo : lo ≤ w.heap.size) (ax : Option Addr) (nx cx : Nat) (F : Nat → Int × Int) (hx : a.eval x = .slice ax nx cx) (hR : RdG w ax nx cx F) (hb : m + nx ≤ 8796093021952)
    (hK : ∀ a' c' w', OwGi w' lo a' (m + nx) c' (G ++ tabG F nx) → w.grownBy w' (Value.slice ao m co).ownBlock → wpList Try.prog ops Q rest (a.put o.dst (.slice a' (m + nx) c')) w') :
    wpList Try.prog ops Q (o :: rest) a w := by
  obtain ⟨i0, hi, hz0, hz1, hz2⟩ := info_parts Try.info_pr
  cases ax with
  | none =>
    have hc0 : cx = 0 := hR.nil rfl
    have hn0 : nx = 0 := by have := hR.le; omega
    subst hc0 hn0
    refine wpList_append_own_none hg s x 24 hop 0 82 i0 2 Try.underlying24 hi (.slice ao m co) m (flG (giF G) m) hs hA.own hx ?_
    exact hK ao co w (by rw [show G ++ tabG F 0 = G from List.append_nil _]; exact hA) (World.grownBy.refl _ _)
  | some ad =>
    refine wpList_append_own_wide w hg s x 24 hop lo 82 i0 (.agg #[.int .i64 0, .int .i64 0]) 2 16 Try.underlying24 hi hz0 hz1 hz2 rfl (by decide) (.slice ao m co) m (flG (giF G) m) hs (own_up hA) ad nx cx (flG F nx) hx (flG_len F nx) ?_ (flG_one F nx) (by unfold maxLen; omega) (by omega) hlo ?_
    · intro j u hu
      have hj : j < nx * 2 := by rw [← flG_len F nx]; exact (List.getElem?_eq_some_iff.1 hu).1
      obtain ⟨b, off, e, _, _⟩ := hR.at' (by omega)
      cases e
      exact hR.news j u hu
    · intro v' w' hown hgr _
      rw [← flG_app G F m hA.len nx] at hown
      obtain ⟨q', c', rfl, h1, h2⟩ := own_rdG hown
      exact hK q' c' w' ⟨own_dn hown, by rw [List.length_append, hA.len, tabG_len], fun g e => by
        cases q' with
        | none => cases e
        | some b =>
          obtain ⟨bb, bo, bs⟩ := b
          have e : bb = g := Option.some.inj e
          rcases hown.2 with ⟨k1, _⟩ | ⟨g', cap', cur, k1, k2, _⟩
          · cases k1
          · cases k1; omega⟩ hgr
set_option maxHeartbeats 4000000 in
theorem gclone_any (a : Option Addr) (n cap : Nat) (F : Nat → Int × Int) (w : World) (hp : RdG w a n cap F) (hn : n ≤ 8796093021952) :
    Calls Try.prog 93 #[.slice a n cap] w fun e w' => ∃ a' c', e = .returned (.slice a' n c') ∧ OwGi w' w.heap.size a' n c' (tabG F n) ∧ w.grownBy w' none := by
  cases a with
  | none =>
    have hc0 : cap = 0 := hp.nil rfl
    have hn0 : n = 0 := by have := hp.le; omega
    subst hc0 hn0
    have heq := fun w => Lib.run_eql_slice_nil (P := Try.prog) w 24 82 none 0 0 0 0 Try.underlying24
    go_enter Try.func93, Try.ntmps93
    go_wp2
    go_ret
    exact ⟨none, 0, rfl, OwGi.nil _ _, World.grownBy.refl _ _⟩
  | some ad =>
    have gA := World.grownBy_alloc w (.cells #[] 82) none
    have hA := heap_alloc_new w (.cells #[] 82)
    have hown : OwGi (w.alloc (.cells #[] 82)) w.heap.size (some ⟨w.heap.size, 0, none⟩) 0 0 [] := ⟨⟨rfl, .inr ⟨w.heap.size, 0, #[], rfl, Nat.zero_le _, hA, Nat.le_refl _, Nat.zero_le _, rfl, rfl⟩⟩, rfl, fun g h => by have e : w.heap.size = g := Option.some.inj h; omega⟩
    have hpA := hp.keep gA
    have heq := fun w => Lib.run_eql_slice_nil (P := Try.prog) w 24 82 (some ad) n cap 0 0 Try.underlying24
    go_enter Try.func93, Try.ntmps93
    go_wp2_with (at_builtin; refine wpList_joinG rfl _ _ rfl _ 0 0 w.heap.size [] rfl hown (by simp) _ n cap F rfl hpA (by omega) ?_; intro a' c' w2 hA2 hg2)
    go_ret
    rw [Nat.zero_add, List.nil_append] at *
    exact ⟨a', c', rfl, hA2, grown_far gA hg2 (fun x hx => by have e : w.heap.size = x := Option.some.inj hx; omega)⟩
end

section
/-- kinds in a row, as they are read -/
def RdK (w : World) (b n : Nat) (K : List Int) : Prop := K.length = n ∧ n ≤ 100 ∧ ∀ i, i < n → w.cell? ⟨b, i, none⟩ = some (.int .i64 (K.getD i 0))
def hasK (K : List Int) (k : Int) : Nat → Bool
  | 0 => false
  | n + 1 => hasK K k n || decide (k = K.getD n 0)
set_option maxHeartbeats 4000000 in
theorem indexK_any (b n c : Nat) (K : List Int) (k : Int) (w : World) (h : RdK w b n K) (hc : n ≤ c) :
    Calls Try.prog 117 #[.slice (some ⟨b, 0, none⟩) n c, .int .i64 k] w fun e w' => (∃ r : Int, e = .returned (.int .i64 r) ∧ decide (0 ≤ r) = hasK K k n) ∧ w' = w := by
  obtain ⟨h1, h2, h3⟩ := h
  have H3 : Hid _ := h3
  clear h3
  go_enter Try.func117, Try.ntmps117
  go_wp2
  go_loopw [8] (fun iv wr => ∃ j : Nat, j ≤ n ∧ iv = .int .i64 j ∧ Hid (hasK K k j = false) ∧ Hid (wr = w)) (fun iv _ => n - (intOf iv).toNat)
  case atStart => exact ⟨0, Nat.zero_le _, rfl, rfl, rfl⟩
  case round =>
    obtain ⟨j, hj, rfl, HK, hwr⟩ := hrel
    have hwr := hwr.out
    subst hwr
    by_cases hlt : j < n
    · have lj : (j : Int) < (n : Int) := by omega
      have cj := H3.out j hlt
      have HS : Hid (hasK K k (j + 1) = (hasK K k j || decide (k = K.getD j 0))) := rfl
      have HUP : Hid (hasK K k (j + 1) = true → hasK K k n = true) := by
        show _ → _
        intro h9
        have : ∀ i, j + 1 ≤ i → hasK K k i = true := by
          intro i hi
          induction i with
          | zero => omega
          | succ i ih =>
            by_cases e : j = i
            · rw [← e]; exact h9
            · show (hasK K k i || _) = true
              rw [ih (by omega)]; rfl
        exact this n (by omega)
      generalize K.getD j 0 = x at *
      by_cases e : k = x
      · subst e
        go_wp2
        go_ret
        exact ⟨⟨(j : Int), rfl, by rw [HUP.out (by rw [HS.out]; simp)]; exact decide_eq_true (by omega)⟩, rfl⟩
      · go_wp2
        go_roundw
        case rel => exact ⟨j + 1, by omega, by go_num, by show _ = _; rw [HS.out, HK.out, decide_eq_false e]; rfl, (by first | exact rfl | exact trivial)⟩
        case measure => simp [intOf] <;> omega
    · obtain rfl : j = n := by omega
      have lj : ¬ (j : Int) < (j : Int) := by omega
      go_wp2
      go_ret
      exact ⟨⟨-1, rfl, by rw [HK.out]; rfl⟩, rfl⟩
set_option maxHeartbeats 4000000 in
theorem containsK_any (b n c : Nat) (K : List Int) (k : Int) (w : World) (h : RdK w b n K) (hc : n ≤ c) :
    Calls Try.prog 96 #[.slice (some ⟨b, 0, none⟩) n c, .int .i64 k] w fun e w' => e = .returned (.bool (hasK K k n)) ∧ w' = w := by
  have k1 := indexK_any b n c K k w h hc
  have s0 : True := trivial
  go_enter Try.func96, Try.ntmps96
  go_wp2_with (go_at_call 117; have _t := s0; clear s0; refine k1.mono ?_; rintro e wx ⟨⟨r, rfl, hr⟩, hwx⟩; have hwx := hwx.symm; subst hwx)
  go_ret
  rw [← hr]
  exact ⟨rfl, rfl⟩
def wnE (may : Bool) (nid id : Int) (has : Bool) : Nat := if may = false then 8 else if nid ≠ id then 10 else if has = false then 6 else 0
set_option maxHeartbeats 8000000 in
theorem wrongNote_any (kd nid : Int) (nm : ByteArray) (si su at' : Int) (a : Option Addr) (n cap : Nat) (q : Option Addr) (m cq : Nat) (o co : Int) (F : Nat → Int × Int) (id : Int) (b kn kc : Nat) (K : List Int) (w : World) (hG : RdG w q m cq F) (hK : RdK w b kn K) (hc : kn ≤ kc) :
    Calls Try.prog 69 #[.agg (ntA kd nid nm si su at' (.slice a n cap) (.slice q m cq) o co), .int .i64 id, .slice (some ⟨b, 0, none⟩) kn kc] w fun e w' => e = .returned (.int .i64 (wnE (ntB kd nid nm.size si su at' n m o co (alG F 65536 m)) nid id (hasK K kd kn) : Nat)) ∧ w.grownBy w' none := by
  have b0 := BxS.new w 27 #[.int .i64 kd, .int .i64 nid, .string nm, .int .i64 si, .int .i64 su, .int .i64 at', .slice a n cap, .slice q m cq, .int .i64 o, .int .i64 co]
  have g0 := World.grownBy_alloc w (.cells #[.int .i64 kd, .int .i64 nid, .string nm, .int .i64 si, .int .i64 su, .int .i64 at', .slice a n cap, .slice q m cq, .int .i64 o, .int .i64 co] 27) none
  have k0 := fun wz (hz : w.grownBy wz none) => noteMay_any kd nid nm si su at' a n cap q m cq o co F wz (hG.keep hz)
  have k1 := fun wz (hz : w.grownBy wz none) => containsK_any b kn kc K kd wz ⟨hK.1, hK.2.1, fun i hi => hz.cell (hK.2.2 i hi) (by simp)⟩ hc
  unfold ntA at k0 ⊢
  generalize hw0 : w.alloc (.cells #[.int .i64 kd, .int .i64 nid, .string nm, .int .i64 si, .int .i64 su, .int .i64 at', .slice a n cap, .slice q m cq, .int .i64 o, .int .i64 co] 27) = w0 at b0 g0
  obtain ⟨e0, e1, e2, e3, e4, e5, e6, e7, e8, e9⟩ := b0.cell10
  generalize ntB kd nid nm.size si su at' n m o co (alG F 65536 m) = B at k0 ⊢
  generalize hasK K kd kn = H at k1 ⊢
  have s0 : True := trivial
  unfold wnE
  cases B
  · rw [if_pos rfl]
    go_enter Try.func69, Try.ntmps69
    go_wp2_with (go_at_call 49; have _t := s0; clear s0; refine (k0 w0 g0).mono ?_; rintro e w1 ⟨rfl, g1⟩)
    go_ret
    exact ⟨rfl, grown_trans g0 g1⟩
  · rw [if_neg (by decide)]
    by_cases hid : nid = id
    · subst hid
      rw [if_neg (by simp)]
      cases H
      · rw [if_pos rfl]
        go_enter Try.func69, Try.ntmps69
        go_wp2_with (first
          | (go_at_call 49; have _t := s0; clear s0; refine (k0 w0 g0).mono ?_; rintro e w1 ⟨rfl, g1⟩; clear e0 e1 e2 e3 e4 e5 e6 e7 e8 e9; obtain ⟨e0, e1, e2, e3, e4, e5, e6, e7, e8, e9⟩ := (b0.keep g1 (by simp)).cell10; have s1 : True := trivial)
          | (go_at_call 96; have _t := s1; clear s1; refine (k1 w1 (grown_trans g0 g1)).mono ?_; rintro e wx ⟨rfl, hwx⟩; have hwx := hwx.symm; subst hwx))
        go_ret
        exact ⟨rfl, grown_trans g0 g1⟩
      · rw [if_neg (by decide)]
        go_enter Try.func69, Try.ntmps69
        go_wp2_with (first
          | (go_at_call 49; have _t := s0; clear s0; refine (k0 w0 g0).mono ?_; rintro e w1 ⟨rfl, g1⟩; clear e0 e1 e2 e3 e4 e5 e6 e7 e8 e9; obtain ⟨e0, e1, e2, e3, e4, e5, e6, e7, e8, e9⟩ := (b0.keep g1 (by simp)).cell10; have s1 : True := trivial)
          | (go_at_call 96; have _t := s1; clear s1; refine (k1 w1 (grown_trans g0 g1)).mono ?_; rintro e wx ⟨rfl, hwx⟩; have hwx := hwx.symm; subst hwx))
        go_ret
        exact ⟨rfl, grown_trans g0 g1⟩
    · rw [if_pos hid]
      go_enter Try.func69, Try.ntmps69
      go_wp2_with (go_at_call 49; have _t := s0; clear s0; refine (k0 w0 g0).mono ?_; rintro e w1 ⟨rfl, g1⟩; clear e0 e1 e2 e3 e4 e5 e6 e7 e8 e9; obtain ⟨e0, e1, e2, e3, e4, e5, e6, e7, e8, e9⟩ := (b0.keep g1 (by simp)).cell10)
      go_ret
      exact ⟨rfl, grown_trans g0 g1⟩
end

section
set_option maxHeartbeats 16000000 in
theorem nt_k1 {u1 u4 u5 u6 u7 u8 u9 u10 u11 u12 u13 u14 u15 u16 u17 u18 u19 u20 u21 u22 u23 u24 u25 u26 u27 u28 u29 u30 u31 u32 u33 u34 u35 u36 u37 u38 u39 u40 u41 u42 u43 u44 u45 u46 u47 u48 u49 u50 u51 u52 u53 u54 u55 u56 u57 u58 u59 u60 u61 u62 u63 u64 u65 u66 : Value} (w0 w wS : World) (gr g2 g3 id : Nat) (c : List Nat) (hR : Rdr w0 w gr c) (b3 : BxS w g3 27 (ntA (1 : Nat) (id : Int) ByteArray.empty 0 0 0 (.slice none 0 0) (.slice none 0 0) 0 0)) (b2 : BxS w g2 27 ntZ) (h23 : g2 ≠ g3) (h2 : wS.heap.size ≤ g2) (h3 : wS.heap.size ≤ g3) (h02 : w0.heap.size ≤ wS.heap.size) (G : wS.grownBy w (some gr)) (hcl : c.length ≤ 2000) (hl : ¬ c.length < 4) :
    Code.wp Try.prog (tailR 2 (Try.f89.body.getD .skip)) (bodyPost Try.prog Try.f89 (NoteA w0 wS gr (kindR 1 id c))) (Act.mk (List.toArray ((.pointer (some ⟨gr, 0, none⟩)) :: u1 :: (.pointer (some ⟨g2, 0, none⟩)) :: (.pointer (some ⟨g3, 0, none⟩)) :: u4 :: u5 :: u6 :: u7 :: u8 :: u9 :: u10 :: u11 :: u12 :: u13 :: u14 :: u15 :: u16 :: u17 :: u18 :: u19 :: u20 :: u21 :: u22 :: u23 :: u24 :: u25 :: u26 :: u27 :: u28 :: u29 :: u30 :: u31 :: u32 :: u33 :: u34 :: u35 :: u36 :: u37 :: u38 :: u39 :: u40 :: u41 :: u42 :: u43 :: u44 :: u45 :: u46 :: u47 :: u48 :: u49 :: u50 :: u51 :: u52 :: u53 :: u54 :: u55 :: u56 :: u57 :: u58 :: u59 :: u60 :: u61 :: u62 :: u63 :: u64 :: u65 :: u66 :: [])) []) w := by
  conv => enter [2]; whnf
  unfold ntA at b3
  have x0 : w.cell? ⟨g3, 0, none⟩ = some (.int .i64 ((1 : Nat) : Int)) := b3.cell 0 (by show 0 < 10; decide)
  refine wp_seq_k fun K1 hK1 => ?_
  have HK1 : Hid _ := hK1
  clear hK1
  have s0 : True := trivial
  go_wp2_with (first
    | (go_at_call 110; have _t := s0; clear s0; refine (number_ok w0 w gr 4 (c) hR (by omega) (by first | omega | (rw [List.length_drop]; omega))).mono ?_; rintro e w1 ⟨rfl, hR1, yw1⟩; have b31 := b3.keep yw1 (hR.ne b3); have b21 := b2.keep yw1 (hR.ne b2); have G1 := grown_trans G yw1; have xw2 : w1.cell? ⟨g3, 3, none⟩ = some _ := b31.cell 3 (by show 3 < 10; decide); have fw2 := b31.free 3; have b32 := b31.set 3 (.int .i64 ((hdV c 4 : Nat) : Int)); have uw2 := grown_set w1 g3 3 (.int .i64 ((hdV c 4 : Nat) : Int)); generalize hww2 : w1.setCell ⟨g3, 3, none⟩ (.int .i64 ((hdV c 4 : Nat) : Int)) = w2 at b32 uw2; have hR2 := hR1.bx b31 uw2 (by omega); have b22 := b21.keep uw2 (fun e => h23 (Option.some.inj e)); have G2 := grown_mine G1 uw2 (fun q e => .inr (by have e := Option.some.inj e; omega)); have s1 : True := trivial)
    | (go_at_call 111; have _t := s1; clear s1; refine (rest_any w0 w2 gr (c.drop 4) hR2 (by rw [List.length_drop]; omega)).mono ?_; rintro e w3 ⟨a5, c5, rfl, hA5, hR3, yw3⟩; rw [List.length_drop] at hA5; have b33 := b32.keep yw3 (hR2.ne b32); have b23 := b22.keep yw3 (hR2.ne b22); have G3 := grown_trans G2 yw3; have hcv := str_any w3 a5 _ c5 (c.drop 4) hA5.rd; have xw4 : w3.cell? ⟨g3, 2, none⟩ = some _ := b33.cell 2 (by show 2 < 10; decide); have fw4 := b33.free 2; have b34 := b33.set 2 (.string (strB (c.drop 4))); have uw4 := grown_set w3 g3 2 (.string (strB (c.drop 4))); generalize hww4 : w3.setCell ⟨g3, 2, none⟩ (.string (strB (c.drop 4))) = w4 at b34 uw4; have hR4 := hR3.bx b33 uw4 (by omega); have b24 := b23.keep uw4 (fun e => h23 (Option.some.inj e)); have G4 := grown_mine G3 uw4 (fun q e => .inr (by have e := Option.some.inj e; omega))))
  refine HK1.out _ _ ?_
  clear HK1
  refine nt_t20 _ w4 g2 g3 1 id (strB (c.drop 4)) (hdV c 4 : Nat) 0 0 none 0 0 none 0 0 0 0 b34 b24 ?_
  intro w' u
  show NoteA _ _ _ _ _ _
  rw [show kindR 1 id c = some (⟨1, id, c.drop 4, hdV c 4, 0, 0, [], [], 0, 0⟩, []) from by unfold kindR; simp [hl]]
  exact ⟨⟨_, rfl, _, _, _, _, _, _, rfl, Ans.nil _ _, OwGp.nil _ _⟩, hR4.bx b24 u (by omega), grown_mine G4 u (fun q e => .inr (by have e := Option.some.inj e; omega))⟩

set_option maxHeartbeats 16000000 in
theorem nt_n1 {u1 u4 u5 u6 u7 u8 u9 u10 u11 u12 u13 u14 u15 u16 u17 u18 u19 u20 u21 u22 u23 u24 u25 u26 u27 u28 u29 u30 u31 u32 u33 u34 u35 u36 u37 u38 u39 u40 u41 u42 u43 u44 u45 u46 u47 u48 u49 u50 u51 u52 u53 u54 u55 u56 u57 u58 u59 u60 u61 u62 u63 u64 u65 u66 : Value} (w0 w wS : World) (gr g2 g3 id : Nat) (c : List Nat) (hR : Rdr w0 w gr c) (b3 : BxS w g3 27 (ntA (1 : Nat) (id : Int) ByteArray.empty 0 0 0 (.slice none 0 0) (.slice none 0 0) 0 0)) (b2 : BxS w g2 27 ntZ) (h23 : g2 ≠ g3) (h2 : wS.heap.size ≤ g2) (h3 : wS.heap.size ≤ g3) (h02 : w0.heap.size ≤ wS.heap.size) (G : wS.grownBy w (some gr)) (hcl : c.length ≤ 2000) (hl : c.length < 4) :
    Code.wp Try.prog (tailR 2 (Try.f89.body.getD .skip)) (bodyPost Try.prog Try.f89 (NoteA w0 wS gr (kindR 1 id c))) (Act.mk (List.toArray ((.pointer (some ⟨gr, 0, none⟩)) :: u1 :: (.pointer (some ⟨g2, 0, none⟩)) :: (.pointer (some ⟨g3, 0, none⟩)) :: u4 :: u5 :: u6 :: u7 :: u8 :: u9 :: u10 :: u11 :: u12 :: u13 :: u14 :: u15 :: u16 :: u17 :: u18 :: u19 :: u20 :: u21 :: u22 :: u23 :: u24 :: u25 :: u26 :: u27 :: u28 :: u29 :: u30 :: u31 :: u32 :: u33 :: u34 :: u35 :: u36 :: u37 :: u38 :: u39 :: u40 :: u41 :: u42 :: u43 :: u44 :: u45 :: u46 :: u47 :: u48 :: u49 :: u50 :: u51 :: u52 :: u53 :: u54 :: u55 :: u56 :: u57 :: u58 :: u59 :: u60 :: u61 :: u62 :: u63 :: u64 :: u65 :: u66 :: [])) []) w := by
  conv => enter [2]; whnf
  unfold ntA at b3
  have x0 : w.cell? ⟨g3, 0, none⟩ = some (.int .i64 ((1 : Nat) : Int)) := b3.cell 0 (by show 0 < 10; decide)
  have s0 : True := trivial
  go_wp2_with (go_at_call 110; have _t := s0; clear s0; refine (number_no w0 w gr 4 (c) hR (by omega) (by first | omega | (rw [List.length_drop]; omega))).mono ?_; rintro e w1 ⟨rfl, hww1⟩; have hww1 := hww1.symm; subst hww1)
  refine ⟨rfl, ?_⟩
  show NoteA _ _ _ _ _ _
  rw [show kindR 1 id c = none from by unfold kindR; simp [hl]]
  exact ⟨⟨_, rfl⟩, G⟩

set_option maxHeartbeats 16000000 in
theorem nt_k2 {u1 u4 u5 u6 u7 u8 u9 u10 u11 u12 u13 u14 u15 u16 u17 u18 u19 u20 u21 u22 u23 u24 u25 u26 u27 u28 u29 u30 u31 u32 u33 u34 u35 u36 u37 u38 u39 u40 u41 u42 u43 u44 u45 u46 u47 u48 u49 u50 u51 u52 u53 u54 u55 u56 u57 u58 u59 u60 u61 u62 u63 u64 u65 u66 : Value} (w0 w wS : World) (gr g2 g3 id : Nat) (c : List Nat) (hR : Rdr w0 w gr c) (b3 : BxS w g3 27 (ntA (2 : Nat) (id : Int) ByteArray.empty 0 0 0 (.slice none 0 0) (.slice none 0 0) 0 0)) (b2 : BxS w g2 27 ntZ) (h23 : g2 ≠ g3) (h2 : wS.heap.size ≤ g2) (h3 : wS.heap.size ≤ g3) (h02 : w0.heap.size ≤ wS.heap.size) (G : wS.grownBy w (some gr)) (hcl : c.length ≤ 2000) (hl : ¬ c.length < 4) :
    Code.wp Try.prog (tailR 2 (Try.f89.body.getD .skip)) (bodyPost Try.prog Try.f89 (NoteA w0 wS gr (kindR 2 id c))) (Act.mk (List.toArray ((.pointer (some ⟨gr, 0, none⟩)) :: u1 :: (.pointer (some ⟨g2, 0, none⟩)) :: (.pointer (some ⟨g3, 0, none⟩)) :: u4 :: u5 :: u6 :: u7 :: u8 :: u9 :: u10 :: u11 :: u12 :: u13 :: u14 :: u15 :: u16 :: u17 :: u18 :: u19 :: u20 :: u21 :: u22 :: u23 :: u24 :: u25 :: u26 :: u27 :: u28 :: u29 :: u30 :: u31 :: u32 :: u33 :: u34 :: u35 :: u36 :: u37 :: u38 :: u39 :: u40 :: u41 :: u42 :: u43 :: u44 :: u45 :: u46 :: u47 :: u48 :: u49 :: u50 :: u51 :: u52 :: u53 :: u54 :: u55 :: u56 :: u57 :: u58 :: u59 :: u60 :: u61 :: u62 :: u63 :: u64 :: u65 :: u66 :: [])) []) w := by
  conv => enter [2]; whnf
  unfold ntA at b3
  have x0 : w.cell? ⟨g3, 0, none⟩ = some (.int .i64 ((2 : Nat) : Int)) := b3.cell 0 (by show 0 < 10; decide)
  refine wp_seq_k fun K1 hK1 => ?_
  have HK1 : Hid _ := hK1
  clear hK1
  have s0 : True := trivial
  go_wp2_with (first
    | (go_at_call 110; have _t := s0; clear s0; refine (number_ok w0 w gr 4 (c) hR (by omega) (by first | omega | (rw [List.length_drop]; omega))).mono ?_; rintro e w1 ⟨rfl, hR1, yw1⟩; have b31 := b3.keep yw1 (hR.ne b3); have b21 := b2.keep yw1 (hR.ne b2); have G1 := grown_trans G yw1; have xw2 : w1.cell? ⟨g3, 5, none⟩ = some _ := b31.cell 5 (by show 5 < 10; decide); have fw2 := b31.free 5; have b32 := b31.set 5 (.int .i64 ((hdV c 4 : Nat) : Int)); have uw2 := grown_set w1 g3 5 (.int .i64 ((hdV c 4 : Nat) : Int)); generalize hww2 : w1.setCell ⟨g3, 5, none⟩ (.int .i64 ((hdV c 4 : Nat) : Int)) = w2 at b32 uw2; have hR2 := hR1.bx b31 uw2 (by omega); have b22 := b21.keep uw2 (fun e => h23 (Option.some.inj e)); have G2 := grown_mine G1 uw2 (fun q e => .inr (by have e := Option.some.inj e; omega)); have s1 : True := trivial)
    | (go_at_call 111; have _t := s1; clear s1; refine (rest_any w0 w2 gr (c.drop 4) hR2 (by rw [List.length_drop]; omega)).mono ?_; rintro e w3 ⟨a5, c5, rfl, hA5, hR3, yw3⟩; rw [List.length_drop] at hA5; have b33 := b32.keep yw3 (hR2.ne b32); have b23 := b22.keep yw3 (hR2.ne b22); have G3 := grown_trans G2 yw3; have xw4 : w3.cell? ⟨g3, 6, none⟩ = some _ := b33.cell 6 (by show 6 < 10; decide); have fw4 := b33.free 6; have b34 := b33.set 6 (.slice a5 (c.length - 4) c5); have uw4 := grown_set w3 g3 6 (.slice a5 (c.length - 4) c5); generalize hww4 : w3.setCell ⟨g3, 6, none⟩ (.slice a5 (c.length - 4) c5) = w4 at b34 uw4; have hR4 := hR3.bx b33 uw4 (by omega); have b24 := b23.keep uw4 (fun e => h23 (Option.some.inj e)); have G4 := grown_mine G3 uw4 (fun q e => .inr (by have e := Option.some.inj e; omega))))
  refine HK1.out _ _ ?_
  clear HK1
  have z2 := G2.size
  have hA4 : Ans w4 wS.heap.size a5 (c.length - 4) c5 (c.drop 4) := (hA5.kept uw4 (.inr (fun e => by have h1 := hA5.new g3 e; have h2 := b32.lt; omega))).wide z2
  refine nt_t20 _ w4 g2 g3 2 id ByteArray.empty 0 0 (hdV c 4 : Nat) a5 (c.length - 4) c5 none 0 0 0 0 b34 b24 ?_
  intro w' u
  show NoteA _ _ _ _ _ _
  rw [show kindR 2 id c = some (⟨2, id, [], 0, 0, hdV c 4, c.drop 4, [], 0, 0⟩, []) from by unfold kindR; simp [hl]]
  exact ⟨⟨_, rfl, _, _, _, _, _, _, rfl, hA4.kept u (.inr (fun e => by have h1 := hA5.new g2 e; have h2 := b22.lt; omega)), OwGp.nil _ _⟩, hR4.bx b24 u (by omega), grown_mine G4 u (fun q e => .inr (by have e := Option.some.inj e; omega))⟩

set_option maxHeartbeats 16000000 in
theorem nt_n2 {u1 u4 u5 u6 u7 u8 u9 u10 u11 u12 u13 u14 u15 u16 u17 u18 u19 u20 u21 u22 u23 u24 u25 u26 u27 u28 u29 u30 u31 u32 u33 u34 u35 u36 u37 u38 u39 u40 u41 u42 u43 u44 u45 u46 u47 u48 u49 u50 u51 u52 u53 u54 u55 u56 u57 u58 u59 u60 u61 u62 u63 u64 u65 u66 : Value} (w0 w wS : World) (gr g2 g3 id : Nat) (c : List Nat) (hR : Rdr w0 w gr c) (b3 : BxS w g3 27 (ntA (2 : Nat) (id : Int) ByteArray.empty 0 0 0 (.slice none 0 0) (.slice none 0 0) 0 0)) (b2 : BxS w g2 27 ntZ) (h23 : g2 ≠ g3) (h2 : wS.heap.size ≤ g2) (h3 : wS.heap.size ≤ g3) (h02 : w0.heap.size ≤ wS.heap.size) (G : wS.grownBy w (some gr)) (hcl : c.length ≤ 2000) (hl : c.length < 4) :
    Code.wp Try.prog (tailR 2 (Try.f89.body.getD .skip)) (bodyPost Try.prog Try.f89 (NoteA w0 wS gr (kindR 2 id c))) (Act.mk (List.toArray ((.pointer (some ⟨gr, 0, none⟩)) :: u1 :: (.pointer (some ⟨g2, 0, none⟩)) :: (.pointer (some ⟨g3, 0, none⟩)) :: u4 :: u5 :: u6 :: u7 :: u8 :: u9 :: u10 :: u11 :: u12 :: u13 :: u14 :: u15 :: u16 :: u17 :: u18 :: u19 :: u20 :: u21 :: u22 :: u23 :: u24 :: u25 :: u26 :: u27 :: u28 :: u29 :: u30 :: u31 :: u32 :: u33 :: u34 :: u35 :: u36 :: u37 :: u38 :: u39 :: u40 :: u41 :: u42 :: u43 :: u44 :: u45 :: u46 :: u47 :: u48 :: u49 :: u50 :: u51 :: u52 :: u53 :: u54 :: u55 :: u56 :: u57 :: u58 :: u59 :: u60 :: u61 :: u62 :: u63 :: u64 :: u65 :: u66 :: [])) []) w := by
  conv => enter [2]; whnf
  unfold ntA at b3
  have x0 : w.cell? ⟨g3, 0, none⟩ = some (.int .i64 ((2 : Nat) : Int)) := b3.cell 0 (by show 0 < 10; decide)
  have s0 : True := trivial
  go_wp2_with (go_at_call 110; have _t := s0; clear s0; refine (number_no w0 w gr 4 (c) hR (by omega) (by first | omega | (rw [List.length_drop]; omega))).mono ?_; rintro e w1 ⟨rfl, hww1⟩; have hww1 := hww1.symm; subst hww1)
  refine ⟨rfl, ?_⟩
  show NoteA _ _ _ _ _ _
  rw [show kindR 2 id c = none from by unfold kindR; simp [hl]]
  exact ⟨⟨_, rfl⟩, G⟩
end
end Go.Proofs.Ytnimehkfnpepfaa
