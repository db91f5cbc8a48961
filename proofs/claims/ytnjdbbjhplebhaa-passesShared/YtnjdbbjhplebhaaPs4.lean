import Derived.Test.YtnjdbbjhplebhaaPs3
namespace Go.Proofs.Ytnjdbbjhplebhaa
open Go.RowKit
set_option maxRecDepth 100000
set_option linter.unusedVariables false
set_option linter.unusedSimpArgs false

section
/-- the queue with its row, nil or not -/
structure QV (w : World) (gq : Nat) (v : Value) (H : List Ld) : Prop where
  box : BxS w gq 53 #[v]
  row : w.ownsRow 0 55 4 v H.length (flD H)
  ne : v.ownBlock ≠ some gq
theorem QV.sl {w : World} {gq : Nat} {v : Value} {H : List Ld} (h : QV w gq v H) : ∃ a c, v = .slice a H.length c := by
  rcases h.row.2 with ⟨h1, h2⟩ | ⟨g, cap, cur, h1, _⟩
  · exact ⟨none, 0, by rw [h1, h2]⟩
  · exact ⟨_, _, h1⟩
theorem QV.keep {w w' : World} {gq : Nat} {v : Value} {H : List Ld} (h : QV w gq v H) (hg : w.grownBy w' none) : QV w' gq v H :=
  ⟨h.box.keep hg (by simp), h.row.kept hg (by cases v.ownBlock <;> simp), h.ne⟩
theorem QV.qb {w : World} {gq : Nat} {v : Value} {H : List Ld} (h : QV w gq v H) (h0 : 0 < H.length) : ∃ g cap, v = .slice (some ⟨g, 0, none⟩) H.length cap ∧ QB w gq g cap H ∧ cap ≤ maxLen := by
  rcases h.row.2 with ⟨h1, h2⟩ | ⟨g, cap, cur, h1, _, h3, h4, h5, h6, h7⟩
  · omega
  · subst h1
    refine ⟨g, cap, rfl, ⟨h.box, ⟨cur.toList.drop (H.length * 4), ?_, ?_⟩, fun e => h.ne (by rw [e]; rfl)⟩, h5⟩
    · rw [← h7, List.take_append_drop]
      exact h3
    · rw [← h7, List.take_append_drop]
      simpa using h6
theorem QB.qv {w : World} {gq g cap : Nat} {H : List Ld} (h : QB w gq g cap H) (hm : cap ≤ maxLen) : QV w gq (.slice (some ⟨g, 0, none⟩) H.length cap) H := by
  obtain ⟨rest, hb, hl⟩ := h.row.ex
  refine ⟨h.box, ⟨flD_len H, .inr ⟨g, cap, _, rfl, Nat.zero_le _, hb, h.row.le, hm, by simpa using hl, ?_⟩⟩, fun e => h.ne (Option.some.inj e).symm⟩
  have e : H.length * 4 = (flD H).length := (flD_len H).symm
  rw [e]
  simp
theorem Try.info_ldF : (Try.prog.info? 55).map (fun i => (i.zero, i.size, i.bytes)) = some (some (.agg #[.int .i64 0, .int .i64 0, .int .i64 0, .int .i64 0]), 4, 32) := by kernel_rfl
theorem wpList_psD {w : World} {ops : Array Oper} {rest : List Oper} {o : Oper} {a : Act} {Q : Exit → Act → World → Prop} (hg : o.guard = none) (s x : Operand) (t : TypeId) (ht : Try.prog.underlying t = some (.slice 55))
    (hop : o.op = Op.call { callee := .builtin .append, args := #[s, x], argTypes := #[t, t] }) (v : Value) (H : List Ld) (hs : a.eval s = v)
    (hA : w.ownsRow 0 55 4 v H.length (flD H)) (gA : Nat) (p : Ld) (hx : a.eval x = .slice (some ⟨gA, 0, none⟩) 1 1) (bA : BxS w gA 55 p.cells.toArray) (hm : H.length ≤ 100000)
    (hK : ∀ g c' w', (v.ownBlock = some g ∨ w.heap.size ≤ g) → w'.ownsRow 0 55 4 (.slice (some ⟨g, 0, none⟩) (H.length + 1) c') (H ++ [p]).length (flD (H ++ [p])) → w.grownBy w' v.ownBlock → wpList Try.prog ops Q rest (a.put o.dst (.slice (some ⟨g, 0, none⟩) (H.length + 1) c')) w') :
    wpList Try.prog ops Q (o :: rest) a w := by
  obtain ⟨i0, hi, hz0, hz1, hz2⟩ := info_parts Try.info_ldF
  refine wpList_apS w hg s x t 55 i0 _ 4 32 ht hi hz0 hz1 hz2 rfl (by decide) hop v H.length (flD H) hs hA ⟨gA, 0, none⟩ 1 1 p.cells hx rfl ?_ (by intro u hu; simp only [Ld.cells, List.mem_cons, List.not_mem_nil, or_false] at hu; rcases hu with rfl | rfl | rfl | rfl <;> rfl) (by decide) (by unfold maxLen; omega) (by omega) ?_
  · intro j u hu
    rw [addr_add, cell_of_row _ _ _ _ _ _ bA, Nat.zero_add, List.getElem?_toArray]
    exact hu
  · intro gx cx w8 hor u8 hO8
    refine hK gx cx w8 hor ?_ u8
    rw [flD_app, List.length_append]
    have e : flD [p] = p.cells := by simp [flD]
    rw [e]
    exact hO8
theorem QV.nil {w : World} {gq : Nat} (h : BxS w gq 53 #[.slice none 0 0]) : QV w gq (.slice none 0 0) [] := ⟨h, World.ownsRow_nil _ _ _ _, by simp [Value.ownBlock]⟩

theorem stc_qu (g i : Nat) (p : Option Addr) (l c : Nat) (w : World) (hc : ∃ u, w.cell? ⟨g, i, none⟩ = some u) (hf : w.frozen? ⟨g, i, none⟩ = false) : (Instr.storeAt 53 (.pointer (some ⟨g, i, none⟩)) (.slice p l c)).run Try.prog w = .ok () (w.setCell ⟨g, i, none⟩ (.slice p l c)) := by
  obtain ⟨u, hc⟩ := hc
  simp [go_sem, hc, hf]

set_option maxHeartbeats 16000000 in
theorem qpush_any (gq : Nat) (v : Value) (H : List Ld) (x : Ld) (w : World) (hQ : QV w gq v H) (hn : H.length ≤ 100000) :
    Calls Try.prog 62 #[.pointer (some ⟨gq, 0, none⟩), .iface 55 (.agg #[.int .i64 (x.pl : Int), .int .i64 (x.fr : Int), .int .i64 (x.by' : Int), .int .i64 (x.lf : Int)])] w fun e w' => e = .returned (.tuple #[]) ∧ ∃ g cap, QV w' gq (.slice (some ⟨g, 0, none⟩) (H.length + 1) cap) (H ++ [x]) ∧ (v.ownBlock = some g ∨ w.heap.size ≤ g) ∧ Fz (fun b => b = gq ∨ v.ownBlock = some b) w w' := by
  obtain ⟨ao, c, rfl⟩ := hQ.sl
  have Gd := grown_drew w none
  have hd := hQ.keep Gd
  have SS := hd.box
  obtain ⟨n, hN⟩ : ∃ n, n = H.length := ⟨_, rfl⟩
  have HN : Hid _ := hN
  have HD : Hid _ := hd
  have HQ : Hid _ := hQ
  clear hQ hd
  rw [← hN] at SS hn
  rw [← hN] at HD HQ ⊢
  clear hN
  go_enter Try.func62, Try.ntmps62
  refine wp_regionM (fun wz => BxS wz gq 53 #[.slice ao n c]) [9] #[false, false, false, false, false, false, false, false, false, false] rfl (by kernel_rfl) ?_
  have GD : Hid _ := Gd
  have HSZ : Hid (w.drew.heap.size = w.heap.size) := (rfl : _ = _)
  clear Gd
  generalize w.drew = wd at *
  refine wpAnyY_takeF 0 (.pointer (some ⟨gq, 0, none⟩)) rfl (by kernel_rfl) (fun _ _ _ h => h) rfl (by intro wz; go_simp; try rfl) ?_
  try simp only [List.getElem_toArray, List.getElem_cons_succ, List.getElem_cons_zero, Act.put, List.setIfInBounds_toArray, List.set_cons_zero, List.set_cons_succ]
  refine wpAnyY_takeF 1 (.pointer (some ⟨gq, 0, none⟩)) rfl (by kernel_rfl) (fun _ _ _ h => h) rfl (by intro wz; go_simp; try rfl) ?_
  try simp only [List.getElem_toArray, List.getElem_cons_succ, List.getElem_cons_zero, Act.put, List.setIfInBounds_toArray, List.set_cons_zero, List.set_cons_succ]
  refine wpAnyY_takeF 2 (.pointer (some ⟨gq, 0, none⟩)) rfl (by kernel_rfl) (fun _ _ _ h => h) rfl (by intro wz; go_simp; try rfl) ?_
  try simp only [List.getElem_toArray, List.getElem_cons_succ, List.getElem_cons_zero, Act.put, List.setIfInBounds_toArray, List.set_cons_zero, List.set_cons_succ]
  refine wpAnyY_take [7, 9] 3 (.slice ao n c) rfl (by kernel_rfl) (fun _ _ _ h => h) SS rfl (by intro wz z1; have hc := BxS.cell z1 0 (by simp); simp at hc; go_simp) ?_
  try simp only [List.getElem_toArray, List.getElem_cons_succ, List.getElem_cons_zero, Act.put, List.setIfInBounds_toArray, List.set_cons_zero, List.set_cons_succ]
  refine wpAnyY_takeF 4 (.iface 55 (.agg #[.int .i64 (x.pl : Int), .int .i64 (x.fr : Int), .int .i64 (x.by' : Int), .int .i64 (x.lf : Int)])) rfl (by kernel_rfl) (fun _ _ _ h => h) rfl (by intro wz; go_simp; try rfl) ?_
  try simp only [List.getElem_toArray, List.getElem_cons_succ, List.getElem_cons_zero, Act.put, List.setIfInBounds_toArray, List.set_cons_zero, List.set_cons_succ]
  refine wpAnyY_takeF 5 (.agg #[.int .i64 (x.pl : Int), .int .i64 (x.fr : Int), .int .i64 (x.by' : Int), .int .i64 (x.lf : Int)]) rfl (by kernel_rfl) (fun _ _ _ h => h) rfl (by intro wz; go_simp; try rfl) ?_
  try simp only [List.getElem_toArray, List.getElem_cons_succ, List.getElem_cons_zero, Act.put, List.setIfInBounds_toArray, List.set_cons_zero, List.set_cons_succ]
  refine wpAnyY_oneB 6 rfl (by kernel_rfl) (fun KK hKK => ?_)
  go_simp
  have Ge := World.grownBy_alloc wd (.cells #[.int .i64 (x.pl : Int), .int .i64 (x.fr : Int), .int .i64 (x.by' : Int), .int .i64 (x.lf : Int)] 55) none
  have be := BxS.new wd 55 #[.int .i64 (x.pl : Int), .int .i64 (x.fr : Int), .int .i64 (x.by' : Int), .int .i64 (x.lf : Int)]
  have hle : wd.heap.size ≤ wd.heap.size := Nat.le_refl _
  have hrow := (HD.out.keep Ge).row
  have hbx := (HD.out.keep Ge).box
  generalize hge : wd.heap.size = ge at *
  generalize wd.alloc (.cells #[.int .i64 (x.pl : Int), .int .i64 (x.fr : Int), .int .i64 (x.by' : Int), .int .i64 (x.lf : Int)] 55) = we at *
  refine hKK _ _ (fun _ _ => hbx) ?_
  try simp only [List.getElem_toArray, List.getElem_cons_succ, List.getElem_cons_zero, Act.put, List.setIfInBounds_toArray, List.set_cons_zero, List.set_cons_succ]
  refine wpAnyY_oneB 7 rfl (by kernel_rfl) (fun KK hKK => ?_)
  refine step_of_listR rfl (wpList_psD rfl (.tmp 7) (.tmp 10) 53 Try.underlying53 rfl (.slice ao n c) H rfl hrow ge x rfl be (by rw [← HN.out]; exact hn) ?_)
  intro g c' w1 hor hr1 g1
  refine wpList_nil ?_
  show KK _ _
  have hne := HQ.out.ne
  have hb1 := hbx.keep g1 (fun e => hne e.symm)
  rw [← HN.out]
  refine hKK _ _ (fun _ _ => hb1) ?_
  try simp only [List.getElem_toArray, List.getElem_cons_succ, List.getElem_cons_zero, Act.put, List.setIfInBounds_toArray, List.set_cons_zero, List.set_cons_succ]
  refine wpAnyY_takeF 8 (.pointer (some ⟨gq, 0, none⟩)) rfl (by kernel_rfl) (fun _ _ _ h => h) rfl (by intro wz; go_simp; try rfl) ?_
  try simp only [List.getElem_toArray, List.getElem_cons_succ, List.getElem_cons_zero, Act.put, List.setIfInBounds_toArray, List.set_cons_zero, List.set_cons_succ]
  refine wpAnyY_oneB 9 rfl (by kernel_rfl) (fun KK hKK => ?_)
  refine step_of_listR rfl (wpList_stC _ rfl 53 (.tmp 12) (.tmp 11) rfl gq 0 53 _ #[.slice (some ⟨g, 0, none⟩) (n + 1) c'] (.slice (some ⟨g, 0, none⟩) (n + 1) c') rfl rfl hb1 (stc_qu gq 0 _ _ _) (by simp) rfl ?_)
  intro w2 hb2 g2
  refine wpList_nil ?_
  show KK _ _
  refine hKK _ _ (fun _ h => absurd (by decide) h) ?_
  try simp only [List.getElem_toArray, List.getElem_cons_succ, List.getElem_cons_zero, Act.put, List.setIfInBounds_toArray, List.set_cons_zero, List.set_cons_succ]
  refine wpAnyY_doneB (by kernel_rfl) ?_ _
  go_end0
  have hnq : g ≠ gq := fun e => by
    rcases hor with h | h
    · exact hne (by rw [← e]; exact h)
    · have h1 := HQ.out.box.lt
      have h2 := hbx.lt
      omega
  refine ⟨rfl, g, c', ⟨hb2, ?_, fun e => hnq (Option.some.inj e)⟩, ?_, ?_⟩
  · have hl : (H ++ [x]).length = n + 1 := by rw [List.length_append, ← HN.out]; rfl
    rw [hl] at hr1 ⊢
    rw [← HN.out] at hr1
    exact hr1.kept g2 (.inr (by show some g ≠ some gq; exact fun e => hnq (Option.some.inj e)))
  · rcases hor with h | h
    · exact .inl h
    · have := Ge.size
      have := GD.out.size
      exact .inr (by omega)
  · refine Fz.step (Fz.step (Fz.step (Fz.step (Fz.refl _ _) GD.out (fun k e => by cases e)) Ge (fun k e => by cases e)) g1 (fun k e _ => .inr e)) g2 (fun k e _ => .inl (Option.some.inj e).symm)

set_option maxHeartbeats 16000000 in
theorem qpop_any (gq g cap m : Nat) (H : List Ld) (w : World) (hQ : QB w gq g cap H) (hm : H.length = m + 1) (hn : H.length ≤ 100000) :
    Calls Try.prog 61 #[.pointer (some ⟨gq, 0, none⟩)] w fun e w' => e = .returned (.iface 55 (.agg (H.getD m ld0).cells.toArray)) ∧ QB w' gq g cap (H.take m) ∧ w.grownBy w' (some gq) := by
  have hx := hQ.row.range (i := m) (by omega)
  have HQ : Hid _ := hQ
  have hc0 := hQ.box.cell 0 (by simp)
  simp at hc0
  obtain ⟨n, hnn⟩ : ∃ n, n = H.length := ⟨_, rfl⟩
  rw [← hnn] at hc0 hm
  have hnm : (n : Int) - 1 = (m : Int) := by omega
  have hle : m + 1 ≤ cap := by have := hQ.row.le; omega
  have HM : Hid _ := hm
  have hm1 : (m : Int) < 100000 := by omega
  have hm2 : (m : Int) < (n : Int) := by omega
  have hnc : n ≤ cap := by omega
  have HNN : Hid _ := hnn
  clear hQ hm hn hnn
  generalize H.getD m ld0 = x at *
  have c0 := hx 0 _ rfl
  have c1 := hx 1 _ rfl
  have c2 := hx 2 _ rfl
  have c3 := hx 3 _ rfl
  simp only [Nat.add_zero] at c0
  go_enter Try.func61, Try.ntmps61
  refine wp_seq_k fun K0 hK0 => ?_
  have HK0 : Hid _ := hK0
  clear hK0
  go_wp2
  refine HK0.out _ _ ?_
  clear HK0
  refine wp_seq_k fun K1 hK1 => ?_
  have HK1 : Hid _ := hK1
  clear hK1
  go_wp2
  refine HK1.out _ _ ?_
  clear HK1
  refine wp_seq_k fun K2 hK2 => ?_
  have HK2 : Hid _ := hK2
  clear hK2
  go_wp2
  refine HK2.out _ _ ?_
  clear HK2
  refine wp_seq_k fun K3 hK3 => ?_
  have HK3 : Hid _ := hK3
  clear hK3
  have hgn : gq ≠ g := HQ.out.ne
  have Ge := World.grownBy_alloc w (.cells #[.int .i64 (x.pl : Int), .int .i64 (x.fr : Int), .int .i64 (x.by' : Int), .int .i64 (x.lf : Int)] 55) none
  have be := BxS.new w 55 #[.int .i64 (x.pl : Int), .int .i64 (x.fr : Int), .int .i64 (x.by' : Int), .int .i64 (x.lf : Int)]
  have hb1 := HQ.out.box.keep Ge (by simp)
  rw [← HNN.out] at hb1
  have hc1 := hb1.cell 0 (by simp)
  simp at hc1
  have hmc : m ≤ cap := by omega
  have hgl := HQ.out.box.lt
  generalize hge : w.heap.size = ge at *
  have hne : ge ≠ gq := by omega
  have HNE : Hid _ := hne
  have HGE : Hid _ := hge
  generalize w.alloc (.cells #[.int .i64 (x.pl : Int), .int .i64 (x.fr : Int), .int .i64 (x.by' : Int), .int .i64 (x.lf : Int)] 55) = w1 at *
  clear hle hnc hnm hm2 hc0 hx c0 c1 c2 c3 hgn hne hgl hge
  have s0 : True := trivial
  go_wp2_with (have _t := s0; clear s0; refine wpList_stC _ rfl _ _ _ rfl gq 0 53 _ #[.slice (some ⟨g, 0, none⟩) m cap] (.slice (some ⟨g, 0, none⟩) m cap) rfl rfl hb1 (stc_qu _ _ _ _ _) (by simp) rfl ?_; intro w2 hb2 g2)
  refine HK3.out _ _ ?_
  clear HK3
  have be2 := be.keep g2 (by have := HNE.out; simp; exact this)
  have e0 := be2.cell 0 (by simp)
  have e1 := be2.cell 1 (by simp)
  have e2 := be2.cell 2 (by simp)
  have e3 := be2.cell 3 (by simp)
  simp at e0 e1 e2 e3
  go_wp2
  go_ret
  refine ⟨rfl, ?_, (grown_weak Ge _).trans g2⟩
  have hh := HQ.out
  obtain ⟨rest, hbb, hl⟩ := hh.row.ex
  have e : (H.take m).length = m := by rw [List.length_take]; have := HNN.out; have := HM.out; omega
  refine ⟨by rw [e]; exact hb2, ⟨(flD (H.drop m)) ++ rest, ?_, ?_⟩, hh.ne⟩
  · rw [← List.append_assoc, ← flD_app, List.take_append_drop]
    exact (hbb.keep Ge (by simp)).keep g2 (by simp; exact fun e => hh.ne e.symm)
  · rw [← List.append_assoc, ← flD_app, List.take_append_drop]
    exact hl
end

section
theorem upH_fuel {α : Type} (lt : α → α → Bool) (d : α) : ∀ (f g : Nat) (H : List α) (j : Nat), j ≤ f → j ≤ g → upH lt d f H j = upH lt d g H j
  | 0, 0, H, j, _, _ => rfl
  | 0, g + 1, H, j, h, _ => by
    have : j = 0 := by omega
    subst this
    conv => rhs; unfold upH
    rw [if_pos rfl]
    rfl
  | f + 1, 0, H, j, _, h => by
    have : j = 0 := by omega
    subst this
    conv => lhs; unfold upH
    rw [if_pos rfl]
    rfl
  | f + 1, g + 1, H, j, h1, h2 => by
    unfold upH
    by_cases e : (j - 1) / 2 = j
    · rw [if_pos e, if_pos e]
    · rw [if_neg e, if_neg e]
      split
      · exact upH_fuel lt d f g _ _ (by omega) (by omega)
      · rfl
theorem dnH_fuel {α : Type} (lt : α → α → Bool) (d : α) (n : Nat) : ∀ (f g : Nat) (H : List α) (i : Nat), n ≤ i + f → n ≤ i + g → dnH lt d n f H i = dnH lt d n g H i
  | 0, 0, H, i, _, _ => rfl
  | 0, g + 1, H, i, h, _ => by
    conv => rhs; unfold dnH
    rw [if_pos (by omega)]
    rfl
  | f + 1, 0, H, i, _, h => by
    conv => lhs; unfold dnH
    rw [if_pos (by omega)]
    rfl
  | f + 1, g + 1, H, i, h1, h2 => by
    unfold dnH
    by_cases e : n ≤ 2 * i + 1
    · rw [if_pos e, if_pos e]
    · rw [if_neg e, if_neg e]
      have hc : i + 1 ≤ chH lt d H n i := by unfold chH; split <;> omega
      split
      · exact dnH_fuel lt d n f g _ _ (by omega) (by omega)
      · rfl

set_option maxHeartbeats 16000000 in
theorem hpush_any (gq : Nat) (v : Value) (H : List Ld) (x : Ld) (w : World) (hQ : QV w gq v H) (hn : H.length ≤ 100000) :
    Calls Try.prog 23 #[.iface 52 (.pointer (some ⟨gq, 0, none⟩)), .iface 55 (.agg #[.int .i64 (x.pl : Int), .int .i64 (x.fr : Int), .int .i64 (x.by' : Int), .int .i64 (x.lf : Int)])] w fun e w' => e = .returned (.tuple #[]) ∧ ∃ g cap, QV w' gq (.slice (some ⟨g, 0, none⟩) (pushH ltQ ld0 H x).length cap) (pushH ltQ ld0 H x) ∧ (v.ownBlock = some g ∨ w.heap.size ≤ g) ∧ Fz (fun b => b = gq ∨ v.ownBlock = some b) w w' := by
  have mP := Try.mPush gq w
  have P0 := qpush_any gq v H x w hQ hn
  have HN : Hid _ := hn
  clear hQ hn
  go_enter Try.func23, Try.ntmps23
  refine wp_seq_k fun K0 hK0 => ?_
  have HK0 : Hid _ := hK0
  clear hK0
  go_wp2_with (go_at_call 62; refine P0.mono ?_; rintro e w1 ⟨rfl, g, cap, hv, hor, hF⟩)
  refine HK0.out _ _ ?_
  clear HK0
  clear P0 mP
  have hl : (H ++ [x]).length = H.length + 1 := by simp
  obtain ⟨g', cap', hsl, hB, hcm⟩ := hv.qb (by omega)
  simp only [Value.slice.injEq, Option.some.injEq, Addr.mk.injEq, and_true] at hsl
  obtain ⟨rfl, hln, rfl⟩ := hsl
  have c0 := hB.box.cell 0 (by simp)
  simp at c0
  have mL := Try.mLen c0
  have U0 := hup_any gq g cap (H ++ [x]) H.length w1 (by omega) (by rw [hl]; have := HN.out; omega) hB
  obtain ⟨m, hm⟩ : ∃ m, m = H.length := ⟨_, rfl⟩
  obtain ⟨n, hnn⟩ : ∃ n, n = H.length + 1 := ⟨_, rfl⟩
  have LN := fun (a : Option Addr) (c : Nat) (w : World) => qlen_any n c a w
  have HC : Hid _ := hcm
  have HOR : Hid _ := hor
  have HL : Hid _ := hl
  have HM : Hid _ := hm
  have HFF : Hid _ := hF
  have HBB : Hid _ := hB
  rw [← hnn] at mL
  rw [← hm] at U0
  have d0 : (n : Int) - 1 = (m : Int) := by omega
  have hnb : (m : Int) ≤ 100000 := by have := HN.out; omega
  clear hl hm hcm hv hB hln c0 hF hor hnn
  go_wp2_with (first
    | (go_at_call 59; refine (LN _ _ _).mono ?_; rintro e wx ⟨rfl, hwx⟩; rw [hwx]; clear hwx)
    | (go_at_call 33; refine U0.mono ?_; rintro e w2 ⟨rfl, hB2, hg2⟩))
  go_end0
  refine ⟨rfl, g, cap, ?_, HOR.out, Fz.step HFF.out hg2 (fun k e hk => ?_)⟩
  · have e : upH ltQ ld0 (H ++ [x]).length (H ++ [x]) m = pushH ltQ ld0 H x := by
      rw [HM.out]
      exact upH_fuel _ _ _ _ _ _ (by rw [HL.out]; omega) (Nat.le_refl _)
    rw [e] at hB2
    exact hB2.qv HC.out
  · cases e
    rcases HOR.out with h | h
    · exact .inr h
    · omega
set_option maxHeartbeats 16000000 in
theorem hpop_any (gq g cap : Nat) (H : List Ld) (w : World) (hQ : QB w gq g cap H) (hc : cap ≤ maxLen) (h0 : 0 < H.length) (hn : H.length ≤ 100000) (hh : HpO ltQ ld0 H H.length) :
    Calls Try.prog 34 #[.iface 52 (.pointer (some ⟨gq, 0, none⟩))] w fun e w' => e = .returned (.iface 55 (.agg (H.getD 0 ld0).cells.toArray)) ∧ QB w' gq g cap (popH ltQ ld0 H) ∧ Fz (fun b => b = gq ∨ b = g) w w' := by
  obtain ⟨m, hm⟩ : ∃ m, H.length = m + 1 := ⟨H.length - 1, by omega⟩
  have c0 := hQ.box.cell 0 (by simp)
  simp at c0
  obtain ⟨n, hnn⟩ : ∃ n, n = H.length := ⟨_, rfl⟩
  rw [← hnn] at c0
  have mL := Try.mLen c0
  have LN := fun (a : Option Addr) (c : Nat) (w : World) => qlen_any n c a w
  have d0 : (n : Int) - 1 = (m : Int) := by omega
  obtain ⟨p1, p2, p3, p4⟩ := popH_ok (d := ld0) ltQ_o hh h0
  have hsl := swL_len ld0 H 0 m
  have hdl := dnH_len ltQ ld0 m m (swL ld0 H 0 m) 0
  have e1 : H.length - 1 = m := by omega
  have hpop : popH ltQ ld0 H = (dnH ltQ ld0 m m (swL ld0 H 0 m) 0).take m := by unfold popH; rw [e1]
  rw [e1] at p4
  have hfu : dnH ltQ ld0 m (swL ld0 H 0 m).length (swL ld0 H 0 m) 0 = dnH ltQ ld0 m m (swL ld0 H 0 m) 0 := dnH_fuel _ _ _ _ _ _ _ (by omega) (by omega)
  have S0 := qswap_any g cap 0 m H w (by omega) (by omega) (by omega) hQ.row
  rw [← hnn, show (((0 : Nat) : Nat) : Int) = 0 from rfl] at S0
  have mS := Try.mSwap c0
  have D0 : ∀ wz, QB wz gq g cap (swL ld0 H 0 m) → Calls Try.prog 37 #[.iface 52 (.pointer (some ⟨gq, 0, none⟩)), .int .i64 0, .int .i64 (m : Nat)] wz fun e w' => (∃ b, e = .returned (.bool b)) ∧ QB w' gq g cap (dnH ltQ ld0 m m (swL ld0 H 0 m) 0) ∧ wz.grownBy w' (some g) := fun wz hz => by
    rw [← hfu]
    exact hdown_any gq g cap m (swL ld0 H 0 m) 0 wz (by omega) (by omega) (by omega) hz
  have P0 : ∀ wz, QB wz gq g cap (dnH ltQ ld0 m m (swL ld0 H 0 m) 0) → Calls Try.prog 61 #[.pointer (some ⟨gq, 0, none⟩)] wz fun e w' => e = .returned (.iface 55 (.agg (H.getD 0 ld0).cells.toArray)) ∧ QB w' gq g cap (popH ltQ ld0 H) ∧ wz.grownBy w' (some gq) := fun wz hz => by
    rw [← p4, hpop]
    exact qpop_any gq g cap m _ wz hz (by omega) (by omega)
  have mP := fun wz => Try.mPop gq wz
  have hnb : (m : Int) ≤ 100000 := by omega
  have HQ : Hid _ := hQ
  have HS : Hid _ := hsl
  have HD0 : Hid _ := D0
  have HP0 : Hid _ := P0
  clear hQ hc h0 hn hh hm hnn c0 p1 p2 p3 p4 hsl hdl e1 hpop hfu D0 P0
  go_enter Try.func34, Try.ntmps34
  refine wp_seq_k fun K0 hK0 => ?_
  have HK0 : Hid _ := hK0
  clear hK0
  go_wp2
  refine HK0.out _ _ ?_
  clear HK0
  refine wp_seq_k fun K1 hK1 => ?_
  have HK1 : Hid _ := hK1
  clear hK1
  go_wp2_with (go_at_call 59; refine (LN _ _ _).mono ?_; rintro e wx ⟨rfl, hwx⟩; rw [hwx]; clear hwx)
  refine HK1.out _ _ ?_
  clear HK1
  refine wp_seq_k fun K2 hK2 => ?_
  have HK2 : Hid _ := hK2
  clear hK2
  go_wp2_with (go_at_call 63; refine S0.mono ?_; rintro e w1 ⟨rfl, hr1, hg1⟩)
  refine HK2.out _ _ ?_
  clear HK2
  refine wp_seq_k fun K3 hK3 => ?_
  have HK3 : Hid _ := hK3
  clear hK3
  clear mL mS S0 LN
  have hB1 := QB.swap HQ.out HS.out hr1 hg1
  have D1 := HD0.out w1 hB1
  go_wp2_with (go_at_call 37; refine D1.mono ?_; rintro e w2 ⟨⟨b, rfl⟩, hB2, hg2⟩)
  refine HK3.out _ _ ?_
  clear HK3
  have P1 := HP0.out w2 hB2
  have m2 := mP w2
  clear D1 mP
  go_wp2_with (go_at_call 61; refine P1.mono ?_; rintro e w3 ⟨rfl, hB3, hg3⟩)
  go_ret
  refine ⟨rfl, hB3, Fz.step (Fz.step (Fz.step (Fz.refl _ _) hg1 (fun k e _ => .inr (Option.some.inj e).symm)) hg2 (fun k e _ => .inr (Option.some.inj e).symm)) hg3 (fun k e _ => .inl (Option.some.inj e).symm)⟩
end
end Go.Proofs.Ytnjdbbjhplebhaa
