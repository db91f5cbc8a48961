import Derived.Test.YthdjpbfknbafgaaTLf
import Derived.Test.YthdjpbfknbafgaaTMb
import Derived.Laws.CopyOwn
namespace Go.Proofs.Ythdjpbfknbafgaa
open Go.RowKit Go.Shelf
set_option maxRecDepth 100000
set_option linter.unusedVariables false
set_option linter.unusedSimpArgs false
attribute [local go_sem] Oper.semAt_some

theorem Frm.gr {w w' : World} (h : Frm (fun _ => False) w w') : w.grownBy w' none := ⟨h.os, h.tape, h.output, h.size, fun k hk _ => h.block k hk (fun h => h)⟩
/-- 'copy(d, s)' into a whole row of the call's own, s as long as it may be -/
theorem wpList_cpT {w : World} {ops : Array Oper} {rest : List Oper} {o : Oper} {a : Act} {Q : Exit → Act → World → Prop} (hgd : o.guard = none) (d s : Operand)
    (ho : o.op = Op.call { callee := .builtin .copy, args := #[d, s], argTypes := #[25, 25] }) (g dLen : Nat) (ad : Option Addr) (n cap : Nat)
    (hd : a.eval d = .slice (some ⟨g, 0, none⟩) dLen dLen) (hs : a.eval s = .slice ad n cap) (D L : List Nat) (hB : Blk w g D) (hDb : IsB D) (hR : Rd w ad n cap L) (hD : D.length = dLen)
    (h : ∀ w' D', Blk w' g D' → D'.length = dLen → IsB D' → w.grownBy w' (some g) → wpList Try.prog ops Q rest (a.put o.dst (.int .i64 (min n dLen : Nat))) w') :
    wpList Try.prog ops Q (o :: rest) a w := by
  by_cases h0 : min n dLen = 0
  · refine wpList_copy_nothing hgd d s 25 25 ho 5 Try.underlying25 Try.size_u8 _ _ dLen dLen n cap hd hs (by exact h0) ?_
    have := h w D hB hD hDb (World.grownBy.refl _ _)
    rw [h0] at this
    exact this
  · obtain ⟨b, off, rfl, hb, hc⟩ := hR.at' (by omega)
    have hl := hR.len
    have hk : (L.take (min n dLen)).length = min n dLen := by rw [List.length_take]; omega
    refine wpList_copy_own hgd d s 25 25 ho 5 Try.underlying25 Try.size_u8 g 0 dLen dLen ⟨b, off, none⟩ n cap hd hs _ _ hB (bys (L.take (min n dLen))) (by rw [bys_length, hk]) ?_ (by simp [bys_length]; omega) (bys_one _) ?_
    · intro j v hv
      have hj : j < (L.take (min n dLen)).length := by
        have := (List.getElem?_eq_some_iff.1 hv).1
        rw [bys_length] at this; exact this
      rw [nth_bys _ j hj] at hv
      rw [← hv]
      have hadd : (⟨b, off, none⟩ : Addr).add j = ⟨b, off + j, none⟩ := by unfold Addr.add; split <;> simp_all
      rw [hadd]
      have hnt : nth (L.take (min n dLen)) j = nth L j := by
        unfold nth
        rw [List.getD_eq_getElem?_getD, List.getD_eq_getElem?_getD, List.getElem?_take]
        rw [if_pos (by omega)]
      rw [hnt]
      exact hc j (by omega)
    · rw [bys_length, hk]
      have e : (List.take 0 (bys D).toArray.toList ++ (bys (L.take (min n dLen)) ++ List.drop (0 + min n dLen) (bys D).toArray.toList)) = bys (L.take (min n dLen) ++ D.drop (min n dLen)) := by simp [bys, List.map_drop]
      rw [e]
      refine h _ _ (setRow_heap w g _ _ _ _ hB) (by simp; omega) (fun x hx => ?_) ⟨rfl, rfl, rfl, by simp, fun k _ hk => setRow_other w g k _ (fun e => hk (by rw [e]))⟩
      rcases List.mem_append.1 hx with h1 | h1
      · exact hR.byte x (List.mem_of_mem_take h1)
      · exact hDb x (List.mem_of_mem_drop h1)
/-- 'append(v, x...)' of bytes, x not empty: where the answer lies -/
theorem wpList_jnT (w : World) {ops : Array Oper} {rest : List Oper} {o : Oper} {a : Act} {Q : Exit → Act → World → Prop} (hg : o.guard = none) (s x : Operand)
    (hop : o.op = Op.call { callee := .builtin .append, args := #[s, x], argTypes := #[25, 25] }) (ao : Option Addr) (m co lo : Nat) (D : List Nat) (hs : a.eval s = .slice ao m co)
    (hA : Ans w lo ao m co D) (hlo : lo ≤ w.heap.size) (ax : Option Addr) (nx cx : Nat) (X : List Nat) (hx : a.eval x = .slice ax nx cx) (hR : Rd w ax nx cx X) (h0 : 0 < nx) (hb : m + nx ≤ 100000000000000)
    (hK : ∀ g c w', Ans w' lo (some ⟨g, 0, none⟩) (m + nx) c (D ++ X) → w.grownBy w' (Value.slice ao m co).ownBlock → ((Value.slice ao m co).ownBlock = some g ∨ w.heap.size ≤ g) → wpList Try.prog ops Q rest (a.put o.dst (.slice (some ⟨g, 0, none⟩) (m + nx) c)) w') :
    wpList Try.prog ops Q (o :: rest) a w := by
  obtain ⟨i0, hi, hz0, hz1, hz2⟩ := info_parts Try.info_u8
  obtain ⟨b, off, rfl, hb', hc⟩ := hR.at' h0
  have hl := hR.len
  refine wpList_apG w hg s x 25 5 i0 (.int .u8 0) 1 1 Try.underlying25 hi hz0 hz1 hz2 rfl (by decide) hop (.slice ao m co) m (bys D) hs hA.own ⟨b, off, none⟩ nx cx (bys X) hx (by rw [bys_length, hl]; omega) (rd_news hR h0) (bys_one _) h0 (by unfold maxLen; omega) (by omega) ?_
  intro g c w' hgx hgr hown
  rw [bys_app] at hown
  refine hK g c w' ⟨hown, fun v hv => ?_, fun y hy => ?_⟩ hgr hgx
  · rcases List.mem_append.1 hv with h | h
    · exact hA.byte v h
    · exact hR.byte v h
  · have e' : g = y := Option.some.inj hy
    subst e'
    rcases hgx with h | h
    · exact hA.new g h
    · omega
/-- the bits of frames, one behind the other -/
def catF (ds : List (List Nat)) : List Nat := ds.flatMap frmL
theorem frmL_len (d : List Nat) : (frmL d).length = 32 + 8 * d.length := by
  unfold frmL
  rw [List.length_append, tab_len, bitL_len, scrL_len]
theorem catF_len {L : Nat} : ∀ ds : List (List Nat), (∀ d, d ∈ ds → d.length = L) → (catF ds).length = ds.length * (32 + 8 * L)
  | [], _ => by simp [catF]
  | d :: ds, h => by
    show (frmL d ++ catF ds).length = _
    rw [List.length_append, frmL_len, h d (List.mem_cons_self ..), catF_len ds (fun x hx => h x (List.mem_cons_of_mem _ hx)), List.length_cons, Nat.add_mul, Nat.one_mul]
    omega
theorem catF_add (ds : List (List Nat)) (d : List Nat) : catF (ds ++ [d]) = catF ds ++ frmL d := by simp [catF]
/-- rows of bytes, told by the slices that tell them; none in the block b -/
structure PiR (w : World) (V : List Value) (Ps : List (List Nat)) (lo : Nat) (b : Nat → Prop) : Prop where
  len : V.length = Ps.length
  at' : ∀ (i : Nat) v B, V[i]? = some v → Ps[i]? = some B → ∃ g c, v = .slice (some ⟨g, 0, none⟩) B.length c ∧ Rd w (some ⟨g, 0, none⟩) B.length c B ∧ lo ≤ g ∧ ¬ b g
theorem PiR.nil (w : World) (lo : Nat) (b : Nat → Prop) : PiR w [] [] lo b := ⟨rfl, fun i v B h _ => by cases h⟩
theorem rd_frm {w w' : World} {p : Nat → Prop} {g off n c : Nat} {L : List Nat} (h : Rd w (some ⟨g, off, none⟩) n c L) (hF : Frm p w w') (hn : ¬ p g) : Rd w' (some ⟨g, off, none⟩) n c L :=
  ⟨h.len, h.le, h.max, h.nil, h.byte, fun h0 => by
    obtain ⟨b, o, e, hb, hc⟩ := h.at' h0
    have e2 : (⟨g, off, none⟩ : Addr) = ⟨b, o, none⟩ := Option.some.inj e
    cases e2
    exact ⟨g, off, rfl, Nat.lt_of_lt_of_le hb hF.size, fun i hi => cell_frm (hc i hi) hF hn⟩⟩
theorem rd_lt {w : World} {g off n c : Nat} {L : List Nat} (h : Rd w (some ⟨g, off, none⟩) n c L) (h0 : 0 < n) : g < w.heap.size := by
  obtain ⟨b, o, e, hb, hc⟩ := h.at' h0
  have e2 : (⟨g, off, none⟩ : Addr) = ⟨b, o, none⟩ := Option.some.inj e
  cases e2
  exact hb
theorem PiR.frm {w w' : World} {p : Nat → Prop} {V : List Value} {Ps : List (List Nat)} {lo : Nat} {b : Nat → Prop} (b' : Nat → Prop) (h : PiR w V Ps lo b) (hF : Frm p w w') (hp : ∀ k, p k → lo ≤ k → k < w.heap.size → b k) (hl : ∀ B, B ∈ Ps → 0 < B.length) (hb : ∀ k, b' k → b k ∨ w.heap.size ≤ k) : PiR w' V Ps lo b' :=
  ⟨h.len, fun i v B h1 h2 => by
    obtain ⟨g, c, e, hr, hg, hn⟩ := h.at' i v B h1 h2
    have hlt := rd_lt hr (hl B (List.mem_of_getElem? h2))
    refine ⟨g, c, e, rd_frm hr hF (fun hpg => hn (hp g hpg hg hlt)), hg, fun e' => ?_⟩
    rcases hb g e' with h3 | h3
    · exact hn h3
    · omega⟩
theorem PiR.add {w : World} {V : List Value} {Ps : List (List Nat)} {lo g c : Nat} {b : Nat → Prop} {B : List Nat} (h : PiR w V Ps lo b) (hr : Rd w (some ⟨g, 0, none⟩) B.length c B) (hg : lo ≤ g) (hn : ¬ b g) : PiR w (V ++ [.slice (some ⟨g, 0, none⟩) B.length c]) (Ps ++ [B]) lo b := by
  refine ⟨by rw [List.length_append, List.length_append, h.len]; rfl, fun i v B' h1 h2 => ?_⟩
  by_cases hi : i < V.length
  · rw [List.getElem?_append_left hi] at h1
    rw [List.getElem?_append_left (by rw [← h.len]; exact hi)] at h2
    exact h.at' i v B' h1 h2
  · rw [List.getElem?_append_right (by omega)] at h1
    rw [List.getElem?_append_right (by rw [← h.len]; omega)] at h2
    have hl : i - V.length < 1 := (List.getElem?_eq_some_iff.1 h1).1
    have e : i - V.length = 0 := by omega
    rw [e] at h1
    rw [← h.len, e] at h2
    cases h1
    cases h2
    exact ⟨g, c, rfl, hr, hg, hn⟩
theorem Try.inf_sb : (Try.prog.info? 25).map (fun i => (i.zero, i.size, i.bytes)) = some (some (.slice none 0 0), 1, 24) := by kernel_rfl

theorem results_tmp3T {fn : Func} {p q r : Tmp} (h : fn.results = #[.tmp p, .tmp q, .tmp r]) (tmps : Array Value) (P : Program) (w : World) :
    (results fn tmps).run P w = .ok (.tuple #[tmps.getD p undef, tmps.getD q undef, tmps.getD r undef]) w := by
  simp only [results, h]
  simp [Sem.run_bind, Result.andThen]
set_option maxHeartbeats 16000000 in
theorem rows_any (ap : Option Addr) (np cp : Nat) (Ps : List (List Nat)) (L : Nat) (w0 : World) (hP : RdPs w0 ap np cp Ps) (hL1 : 1 ≤ L) (hL : L ≤ 2048) (hnp : np ≤ 140737488351232) :
    Calls Try.prog 14 #[.slice ap np cp, .int .i64 (L : Nat)] w0 fun e w' => ∃ a7 n7 c7 a8 c8 V ds, e = .returned (.tuple #[.slice a7 n7 c7, .slice a8 ds.length c8, .bool true]) ∧ Ans w' w0.heap.size a7 n7 c7 (catF ds) ∧ AnsX 25 w' w0.heap.size a8 ds.length c8 V ∧ PiR w' V ds w0.heap.size (fun k => (Value.slice a7 n7 c7).ownBlock = some k) ∧ (∀ d, d ∈ ds → d.length = L ∧ IsB d) ∧ ds.length = min np 20 ∧ w0.grownBy w' none := by
  go_enter Try.func14, Try.ntmps14
  go_wp2
  go_loopw [7, 8, 9] (fun v7 v8 v9 wr => ∃ (i : Nat) (a7 : Option Addr) (n7 c7 : Nat) (a8 : Option Addr) (c8 : Nat) (V : List Value) (ds : List (List Nat)), v7 = .slice a7 n7 c7 ∧ v8 = .slice a8 i c8 ∧ v9 = .int .i64 i ∧ Hid (ds.length = i) ∧ i ≤ np ∧ i ≤ 20 ∧ Ans wr w0.heap.size a7 n7 c7 (catF ds) ∧ AnsX 25 wr w0.heap.size a8 i c8 V ∧ PiR wr V ds w0.heap.size (fun k => (Value.slice a7 n7 c7).ownBlock = some k ∨ (Value.slice a8 i c8).ownBlock = some k) ∧ (∀ d, d ∈ ds → d.length = L ∧ IsB d) ∧ Frm (fun _ => False) w0 wr) (fun _ _ v9 _ => 20 - (intOf v9).toNat)
  case atStart => exact ⟨0, none, 0, 0, none, 0, [], [], rfl, rfl, rfl, rfl, Nat.zero_le _, Nat.zero_le _, ans_nil _ _, AnsX.nil0 _ _ _, PiR.nil _ _ _, (fun d hd => by cases hd), Frm.refl _ _⟩
  case round =>
    obtain ⟨i, a7, n7, c7, a8, c8, V, ds, rfl, rfl, rfl, HD, hi, hi2, hA, hX, hR, hd, F0⟩ := hrel
    have h78 : ∀ x, (Value.slice a8 i c8).ownBlock = some x → (Value.slice a7 n7 c7).ownBlock ≠ some x := fun x hx hy => by
      obtain ⟨_, c1, e1⟩ := row_lt hX.own hx
      obtain ⟨_, c2, e2⟩ := row_lt hA.own hy
      exact cells_ne e1 e2 (by decide)
    have hdl : ∀ d, d ∈ ds → 0 < d.length := fun d h => by rw [(hd d h).1]; omega
    have hn7 : n7 ≤ 400000 := by
      have h1 := hA.len
      rw [catF_len ds (fun d h => (hd d h).1), HD.out] at h1
      have : i * (32 + 8 * L) ≤ 20 * (32 + 8 * 2048) := Nat.mul_le_mul hi2 (by omega)
      omega
    by_cases hlt : i < np
    · have hin : (i : Int) < (np : Int) := by omega
      by_cases h20 : i < 20
      · have hin2 : (i : Int) < 20 := by omega
        obtain ⟨bp, po, rfl, hc⟩ := hP.at' (by omega)
        obtain ⟨B, hB⟩ : ∃ B, Ps[i]? = some B := ⟨_, List.getElem?_eq_getElem (by have := hP.len; omega)⟩
        obtain ⟨a, m, cap, cI, hRd⟩ := hc i B hB
        have cW := cell_frm cI F0 (fun h => h)
        have hRw := Rd.keepF (p := fun _ => False) hRd F0
        have HB : Hid _ := hB
        have HL : Hid _ := hlt
        have H20 : Hid _ := h20
        have HC : Hid _ := hc
        have HF : Hid _ := F0
        clear hB hlt h20 hc F0
        have hz0 := HF.out.size
        have t1 : True := trivial
        have hLi : (L : Int) ≤ 2048 := by omega
        have hLp : (1 : Int) ≤ (L : Int) := by omega
        refine wp_seq_k fun K1 hK1 => ?_
        have HK1 : Hid _ := hK1
        clear hK1
        refine wp_seq_k fun K0 hK0 => ?_
        have HK0 : Hid _ := hK0
        clear hK0
        go_wp2
        refine HK0.out _ _ ?_
        clear HK0
        go_wp2
        refine HK1.out _ _ ?_
        clear HK1
        refine wp_seq_k fun K2 hK2 => ?_
        have HK2 : Hid _ := hK2
        clear hK2
        refine wp_block ?_
        refine wp_seq_k fun K3 hK3 => ?_
        have HK3 : Hid _ := hK3
        clear hK3
        go_wp2_with (at_make; refine wpList_mkB wr rfl _ _ rfl (L : Int) (L : Int) L rfl rfl rfl rfl (by omega) ?_; intro w1 hB1 g1)
        refine HK3.out _ _ ?_
        clear HK3
        have F1 : Frm (fun _ => False) wr w1 := Frm.of g1 (fun k e _ => by cases e)
        have hz1 := hB1.lt
        have cW1 := cell_frm cW F1 (fun h => h)
        have hRw1 := Rd.keepF (p := fun _ => False) hRw F1
        refine wp_seq_k fun K4 hK4 => ?_
        have HK4 : Hid _ := hK4
        clear hK4
        go_wp2_with (refine wpList_cpT rfl _ _ rfl wr.heap.size L a m cap rfl rfl _ B hB1 (fun x hx => by have := (List.mem_replicate.1 hx).2; omega) hRw1 (by simp) ?_; intro w2 D2 hB2 hD2 hb2 g2)
        refine HK4.out _ _ ?_
        clear HK4
        have F2 : Frm (fun k => k = wr.heap.size) w1 w2 := Frm.of g2 (fun k e _ => (Option.some.inj e).symm)
        have hz2 := F2.size
        have F02 : Frm (fun _ => False) wr w2 := F1.trans F2 (fun k hk h => by omega)
        have hRd2 : Rd w2 (some ⟨wr.heap.size, 0, none⟩) L L D2 := hB2.rd hb2 hD2 (by unfold maxLen; omega)
        have hfe : frmE D2 = 0 := by unfold frmE; rw [if_neg (by omega)]
        have hfr : frmR D2 = frmL D2 := by unfold frmR; rw [if_neg (by omega)]
        have hFrame := frame_any (some ⟨wr.heap.size, 0, none⟩) L L D2 w2 hRd2
        rw [hfe, hfr] at hFrame
        have HB2 : Hid _ := hB2
        clear hB2 hB1 hfe hfr
        refine wp_seq_k fun K5 hK5 => ?_
        have HK5 : Hid _ := hK5
        clear hK5
        go_wp2_with (go_at_call 23; refine hFrame.mono ?_; rintro e w3 ⟨ab, nb, cb, rfl, hA3, g3⟩)
        refine HK5.out _ _ ?_
        clear HK5
        have F3 : Frm (fun _ => False) w2 w3 := Frm.of g3 (fun k e _ => by cases e)
        have hz3 := F3.size
        have hnb : nb = 32 + 8 * L := by rw [← hA3.len, frmL_len, hD2]
        subst hnb
        have hRd3 := rd_frm hRd2 F3 (fun h => h)
        have hnb0 : ((32 + 8 * L : Nat) : Int) = 32 + 8 * (L : Int) := by omega
        obtain ⟨NB, hNB⟩ : ∃ NB, NB = 32 + 8 * L := ⟨_, rfl⟩
        rw [← hNB] at hA3 hnb0
        have HNB : Hid _ := hNB
        refine wp_seq_k fun K6 hK6 => ?_
        have HK6 : Hid _ := hK6
        clear hK6
        simp only [← hNB]
        clear hNB
        go_wp2
        refine HK6.out _ _ ?_
        clear HK6
        have F03 : Frm (fun _ => False) wr w3 := F02.trans F3 (fun _ _ h => h)
        have hA7 := hA.frm F03 (fun _ _ h => h)
        have hX8 := hX.frm F03 (fun _ _ h => h)
        have hR8 := hR.frm (fun k => (Value.slice a7 n7 c7).ownBlock = some k ∨ (Value.slice a8 i c8).ownBlock = some k) F03 (fun _ h => h.elim) hdl (fun _ h => .inl h)
        have h7l : ∀ x, (Value.slice a7 n7 c7).ownBlock = some x → x < wr.heap.size := fun x hx => (row_lt hA.own hx).1
        have h8l : ∀ x, (Value.slice a8 i c8).ownBlock = some x → x < wr.heap.size := fun x hx => (row_lt hX.own hx).1
        refine wp_seq_k fun K7 hK7 => ?_
        have HK7 : Hid _ := hK7
        clear hK7
        have hNBp : 40 ≤ NB := by rw [HNB.out]; omega
        have hNBl : NB ≤ 20000 := by rw [HNB.out]; omega
        go_wp2_with (refine wpList_jnT w3 rfl _ _ rfl a7 n7 c7 w0.heap.size (catF ds) rfl hA7 (by omega) ab NB cb (frmL D2) rfl hA3.rd (by omega) (by omega) ?_; intro g7 d7 w4 hA4 g4 hx4)
        refine HK7.out _ _ ?_
        clear HK7
        have F4 : Frm (fun k => (Value.slice a7 n7 c7).ownBlock = some k) w3 w4 := Frm.of g4 (fun k e _ => e)
        have hz4 := F4.size
        have hX4 := hX8.frm F4 h78
        have hR4 := hR8.frm (fun k => g7 = k ∨ (Value.slice a8 i c8).ownBlock = some k) F4 (fun k h _ _ => .inl h) hdl (fun k e => by
          rcases e with rfl | e
          · rcases hx4 with h | h
            · exact .inl (.inl h)
            · exact .inr h
          · exact .inl (.inr e))
        have hRd4 := rd_frm hRd3 F4 (fun h => by have := h7l _ h; omega)
        rw [← catF_add] at hA4
        have OB := heap_alloc_new w4 (.cells #[.slice (some ⟨wr.heap.size, 0, none⟩) L L] 25)
        have F5 : Frm (fun _ => False) w4 (w4.alloc (.cells #[.slice (some ⟨wr.heap.size, 0, none⟩) L L] 25)) := Frm.of (World.grownBy_alloc w4 _ none) (fun k e _ => by cases e)
        have hX5 := hX4.frm F5 (fun _ _ h => h)
        have hz5 := F5.size
        go_wp2_with (refine wpList_psR _ Try.underlying24 Try.inf_sb rfl (by decide) (.slice (some ⟨wr.heap.size, 0, none⟩) L L) rfl rfl _ _ rfl a8 i c8 w0.heap.size V rfl hX5 (by omega) w4.heap.size rfl (cell_of_row _ _ 0 _ _ _ OB) (by omega) ?_; intro g8 d8 w6 hX6 g6 hx6)
        have F6 : Frm (fun k => (Value.slice a8 i c8).ownBlock = some k) (w4.alloc (.cells #[.slice (some ⟨wr.heap.size, 0, none⟩) L L] 25)) w6 := Frm.of g6 (fun k e _ => e)
        have hA5 := hA4.frm F5 (fun _ _ h => h)
        have hA6 := hA5.frm F6 (fun x hx hx2 => by
          obtain ⟨_, c1, e1⟩ := row_lt hX5.own hx2
          obtain ⟨_, c2, e2⟩ := row_lt hA5.own hx
          exact cells_ne e2 e1 (by decide))
        have hR5 := hR4.frm (fun k => g7 = k ∨ (Value.slice a8 i c8).ownBlock = some k) F5 (fun _ h => h.elim) hdl (fun _ h => .inl h)
        have hR6 := hR5.frm (fun k => (Value.slice (some ⟨g7, 0, none⟩) (n7 + NB) d7).ownBlock = some k ∨ (Value.slice (some ⟨g8, 0, none⟩) (i + 1) d8).ownBlock = some k) F6 (fun k h _ _ => .inr h) hdl (fun k e => by
          rcases e with e | e
          · have e2 : g7 = k := Option.some.inj e
            exact .inl (.inl e2)
          · have e2 : g8 = k := Option.some.inj e
            subst e2
            rcases hx6 with h | h
            · exact .inl (.inr h)
            · exact .inr h)
        have hRd6 := rd_frm (rd_frm hRd4 F5 (fun h => h)) F6 (fun h => by have := h8l _ h; omega)
        have hadd := hR6.add (B := D2) (by rw [hD2]; exact hRd6) hz0 (fun e => by
          rcases e with e | e
          · have e2 : g7 = wr.heap.size := Option.some.inj e
            rcases hx4 with h | h
            · have := h7l _ h; omega
            · omega
          · have e2 : g8 = wr.heap.size := Option.some.inj e
            rcases hx6 with h | h
            · have := h8l _ h; omega
            · omega)
        rw [hD2] at hadd
        have F46 : Frm (fun k => (Value.slice a7 n7 c7).ownBlock = some k ∨ (Value.slice a8 i c8).ownBlock = some k) wr w6 := (((F03.weak (q := fun k => (Value.slice a7 n7 c7).ownBlock = some k ∨ (Value.slice a8 i c8).ownBlock = some k) (fun _ _ h => h.elim)).trans F4 (fun k hk h => .inl h)).trans F5 (fun _ _ h => h.elim)).trans F6 (fun _ _ h => .inr h)
        have F06 : Frm (fun _ => False) w0 w6 := HF.out.trans F46 (fun k hk h => by
          rcases h with h | h
          · have := hA.new k h; omega
          · have := hX.new k h; omega)
        have HE : Hid (Ans w6 w0.heap.size (some ⟨g7, 0, none⟩) (n7 + NB) d7 (catF (ds ++ [D2])) ∧ AnsX 25 w6 w0.heap.size (some ⟨g8, 0, none⟩) (i + 1) d8 (V ++ [.slice (some ⟨wr.heap.size, 0, none⟩) L L]) ∧ PiR w6 (V ++ [.slice (some ⟨wr.heap.size, 0, none⟩) L L]) (ds ++ [D2]) w0.heap.size (fun k => (Value.slice (some ⟨g7, 0, none⟩) (n7 + NB) d7).ownBlock = some k ∨ (Value.slice (some ⟨g8, 0, none⟩) (i + 1) d8).ownBlock = some k) ∧ (∀ d, d ∈ ds ++ [D2] → d.length = L ∧ IsB d) ∧ Frm (fun _ => False) w0 w6) := ⟨hA6, hX6, hadd, fun d h => by
          rcases List.mem_append.1 h with h | h
          · exact hd d h
          · rw [List.mem_singleton.1 h]; exact ⟨hD2, hb2⟩, F06⟩
        have HD' : Hid ((ds ++ [D2]).length = i + 1) := by
          show _ = _
          rw [List.length_append, HD.out]; rfl
        clear hA6 hX6 hadd F06 F46 hR6 hR5 hR4 hA hX hR hA7 hX8 hR8 hA4 hA5 hX4 hX5 F1 F2 F3 F4 F5 F6 F02 F03 hd hdl h7l h8l h78 hA3 hFrame hRd2 hRd3 hRd4 hRd6 HD
        (try simp only [Exit.inBlock, Exit.then])
        refine HK2.out _ _ ?_
        clear HK2
        go_wp2
        go_roundw
        case rel => exact ⟨i + 1, _, _, _, _, _, _, ds ++ [D2], rfl, rfl, by go_num, HD', by have := HL.out; omega, by have := H20.out; omega, HE.out.1, HE.out.2.1, HE.out.2.2.1, HE.out.2.2.2.1, HE.out.2.2.2.2⟩
        case measure => simp [intOf]; omega
      · have hge : ¬ ((i : Int) < 20) := by omega
        have HE : Hid _ := (⟨hA, hX, hR, hd, F0⟩ : Ans wr w0.heap.size a7 n7 c7 (catF ds) ∧ AnsX 25 wr w0.heap.size a8 i c8 V ∧ PiR wr V ds w0.heap.size (fun k => (Value.slice a7 n7 c7).ownBlock = some k ∨ (Value.slice a8 i c8).ownBlock = some k) ∧ (∀ d, d ∈ ds → d.length = L ∧ IsB d) ∧ Frm (fun _ => False) w0 wr)
        clear hA hX hR hd F0 h78 hdl hn7
        go_wp2
        refine bodyPost_ret (results_tmp3T (p := 4) (q := 5) (r := 6) (by kernel_rfl) _ _ _) rfl ?_
        obtain ⟨hA, hX, hR, hd, F0⟩ := HE.out
        have hD := HD.out
        have hR' : PiR wr V ds w0.heap.size (fun k => (Value.slice a7 n7 c7).ownBlock = some k) := ⟨hR.len, fun j v B h1 h2 => by
          obtain ⟨g, c, e, h3, h4, h5⟩ := hR.at' j v B h1 h2
          exact ⟨g, c, e, h3, h4, fun h => h5 (.inl h)⟩⟩
        refine ⟨a7, n7, c7, a8, c8, V, ds, by rw [hD]; rfl, hA, by rw [hD]; exact hX, hR', hd, by omega, F0.gr⟩
    · have hge : ¬ ((i : Int) < (np : Int)) := by omega
      have HE : Hid _ := (⟨hA, hX, hR, hd, F0⟩ : Ans wr w0.heap.size a7 n7 c7 (catF ds) ∧ AnsX 25 wr w0.heap.size a8 i c8 V ∧ PiR wr V ds w0.heap.size (fun k => (Value.slice a7 n7 c7).ownBlock = some k ∨ (Value.slice a8 i c8).ownBlock = some k) ∧ (∀ d, d ∈ ds → d.length = L ∧ IsB d) ∧ Frm (fun _ => False) w0 wr)
      clear hA hX hR hd F0 h78 hdl hn7
      go_wp2
      refine bodyPost_ret (results_tmp3T (p := 4) (q := 5) (r := 6) (by kernel_rfl) _ _ _) rfl ?_
      obtain ⟨hA, hX, hR, hd, F0⟩ := HE.out
      have hD := HD.out
      have hR' : PiR wr V ds w0.heap.size (fun k => (Value.slice a7 n7 c7).ownBlock = some k) := ⟨hR.len, fun j v B h1 h2 => by
        obtain ⟨g, c, e, h3, h4, h5⟩ := hR.at' j v B h1 h2
        exact ⟨g, c, e, h3, h4, fun h => h5 (.inl h)⟩⟩
      refine ⟨a7, n7, c7, a8, c8, V, ds, by rw [hD]; rfl, hA, by rw [hD]; exact hX, hR', hd, by omega, F0.gr⟩
end Go.Proofs.Ythdjpbfknbafgaa
