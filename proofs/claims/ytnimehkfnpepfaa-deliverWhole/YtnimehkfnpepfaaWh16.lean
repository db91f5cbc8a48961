import Derived.Test.YtnimehkfnpepfaaWh0
import Derived.Test.YtnimehkfnpepfaaWh14
namespace Go.Proofs.Ytnimehkfnpepfaa
open Go.RowKit
set_option maxRecDepth 100000
set_option linter.unusedVariables false
set_option linter.unusedSimpArgs false

section
theorem step_stCd (w : World) {ops : Array Oper} {o : Oper} {a : Act} {K : Act → World → Prop} {Q : Exit → Act → World → Prop} {E : Prop} (hg : o.guard = none) (t : TypeId) (p x : Operand) (hop : o.op = Op.store t p x)
    (g i : Nat) (ty : TypeId) (A A' : Array Value) (v : Value) (hp : a.eval p = .pointer (some ⟨g, i, none⟩)) (hx : a.eval x = v) (hB : BxS w g ty A)
    (hst : ∀ w' : World, (∃ u, w'.cell? ⟨g, i, none⟩ = some u) → w'.frozen? ⟨g, i, none⟩ = false → (Instr.storeAt t (.pointer (some ⟨g, i, none⟩)) v).run Try.prog w' = .ok () (w'.setCell ⟨g, i, none⟩ v)) (hi : i < A.size) (hA : A.setIfInBounds i v = A')
    (hK : ∀ w', BxS w' g ty A' → w.grownBy w' (some g) → K (a.put o.dst undef) w') :
    if Region.wanted o (yielded ops a.tmps) = true then Oper.wp Try.prog o a w K Q else E := by
  have hw : Region.wanted o (yielded ops a.tmps) = true := by simp [Region.wanted, hg]
  rw [if_pos hw]
  have hc : ∃ u, w.cell? ⟨g, i, none⟩ = some u := ⟨A[i], by rw [cell_of_row w g i _ _ _ hB]; simp [hi]⟩
  have hf := frozen_of_row w g i _ _ hB
  have hfin := hK _ (by unfold BxS; rw [heap_setCell_same w g i _ _ _ hB, hA]) (grown_set w g i v)
  unfold Oper.wp
  simp [execOp, hop, hp, hx, hst w hc hf, Result.andThen, Oper.upon]
  exact hfin
theorem gpR_len : ∀ (n : Nat) (c : List Nat), (gpR n c).length = n := by
  intro n
  induction n with
  | zero => intro c; rfl
  | succ n ih => intro c; show (_ :: gpR n _).length = _; rw [List.length_cons, ih]
theorem gpR_succ : ∀ (j : Nat) (c : List Nat), gpR (j + 1) c = gpR j c ++ [(hdV (c.drop (8 * j)) 4, hdV (c.drop (8 * j + 4)) 4)] := by
  intro j
  induction j with
  | zero => intro c; rfl
  | succ j ih =>
    intro c
    show (_ :: gpR (j + 1) (c.drop 8)) = (_ :: gpR j (c.drop 8)) ++ _
    rw [ih, List.drop_drop, List.drop_drop, List.cons_append, show 8 + 8 * j = 8 * (j + 1) by omega, show 8 + (8 * j + 4) = 8 * (j + 1) + 4 by omega]
theorem flG_congr (F F' : Nat → Int × Int) : ∀ n, (∀ i, i < n → F i = F' i) → flG F n = flG F' n := by
  intro n
  induction n with
  | zero => intro _; rfl
  | succ n ih => intro h; show flG F n ++ _ = flG F' n ++ _; rw [ih (fun i hi => h i (by omega)), h n (by omega)]
theorem gpF_push (G : List (Nat × Nat)) (p : Nat × Nat) (j : Nat) (h : G.length = j) : flG (gpF (G ++ [p])) (j + 1) = flG (gpF G) j ++ [.int .i64 (p.1 : Int), .int .i64 (p.2 : Int)] := by
  show flG (gpF (G ++ [p])) j ++ _ = _
  have e1 : gpF (G ++ [p]) j = ((p.1 : Int), (p.2 : Int)) := by
    unfold gpF
    rw [List.getD_eq_getElem?_getD, List.getElem?_append_right (by omega), h, Nat.sub_self]; rfl
  rw [e1, flG_congr (gpF (G ++ [p])) (gpF G) j (fun i hi => by
    unfold gpF
    rw [List.getD_eq_getElem?_getD, List.getElem?_append_left (by omega), ← List.getD_eq_getElem?_getD])]
/-- a block of another type is written -/
theorem OwGp.bx {w w' : World} {lo : Nat} {q : Option Addr} {m d g : Nat} {G : List (Nat × Nat)} {t : TypeId} {cs : Array Value} (h : OwGp w lo q m d G) (b : BxS w g t cs) (ht : 82 ≠ t) (hg : w.grownBy w' (some g)) : OwGp w' lo q m d G := by
  refine ⟨h.own.kept hg (.inr (fun e => ?_)), h.len, h.new⟩
  rcases h.own.2 with ⟨h1, _⟩ | ⟨g', cap', cur, h1, _, h3, _⟩
  · rw [h1] at e; cases e
  · rw [h1] at e
    have e : g' = g := Option.some.inj e
    subst e
    have b : w.heap[g']? = some (.cells cs t) := b
    rw [h3] at b
    injection b with b
    injection b with _ b
    exact ht b
theorem OwGp.keep {w w' : World} {lo : Nat} {q : Option Addr} {m d : Nat} {G : List (Nat × Nat)} (h : OwGp w lo q m d G) (hg : w.grownBy w' none) : OwGp w' lo q m d G := ⟨h.own.kept hg (by cases hq : (Value.slice q m d).ownBlock with | none => exact .inl rfl | some z => exact .inr (by simp)), h.len, h.new⟩
def rdM (w : World) (g : Nat) : Nat := match w.cell? ⟨g, 0, none⟩ with
  | some (.slice _ n _) => n
  | _ => 0
theorem rdM_of {w0 w : World} {gr : Nat} {D : List Nat} (h : Rdr w0 w gr D) : rdM w gr = D.length := by
  obtain ⟨a, n, c, b, r⟩ := h.ex
  have hc : w.cell? ⟨gr, 0, none⟩ = some (.slice a n c) := b.cell 0 (by show 0 < 1; decide)
  unfold rdM
  rw [hc]
  exact r.len.symm

set_option maxHeartbeats 16000000 in
theorem nt_k4 {u1 u4 u5 u6 u7 u8 u9 u10 u11 u12 u13 u14 u15 u16 u17 u18 u19 u20 u21 u22 u23 u24 u25 u26 u27 u28 u29 u30 u31 u32 u33 u34 u35 u36 u37 u38 u39 u40 u41 u42 u43 u44 u45 u46 u47 u48 u49 u50 u51 u52 u53 u54 u55 u56 u57 u58 u59 u60 u61 u62 u63 u64 u65 u66 : Value} (w0 w wS : World) (gr g2 g3 id : Nat) (c : List Nat) (hR : Rdr w0 w gr c) (b3 : BxS w g3 27 (ntA (4 : Nat) (id : Int) ByteArray.empty 0 0 0 (.slice none 0 0) (.slice none 0 0) 0 0)) (b2 : BxS w g2 27 ntZ) (h23 : g2 ≠ g3) (h2 : wS.heap.size ≤ g2) (h3 : wS.heap.size ≤ g3) (h02 : w0.heap.size ≤ wS.heap.size) (G : wS.grownBy w (some gr)) (hcl : c.length ≤ 2000)  :
    Code.wp Try.prog (tailR 2 (Try.f89.body.getD .skip)) (bodyPost Try.prog Try.f89 (NoteA w0 wS gr (kindR 4 id c))) (Act.mk (List.toArray ((.pointer (some ⟨gr, 0, none⟩)) :: u1 :: (.pointer (some ⟨g2, 0, none⟩)) :: (.pointer (some ⟨g3, 0, none⟩)) :: u4 :: u5 :: u6 :: u7 :: u8 :: u9 :: u10 :: u11 :: u12 :: u13 :: u14 :: u15 :: u16 :: u17 :: u18 :: u19 :: u20 :: u21 :: u22 :: u23 :: u24 :: u25 :: u26 :: u27 :: u28 :: u29 :: u30 :: u31 :: u32 :: u33 :: u34 :: u35 :: u36 :: u37 :: u38 :: u39 :: u40 :: u41 :: u42 :: u43 :: u44 :: u45 :: u46 :: u47 :: u48 :: u49 :: u50 :: u51 :: u52 :: u53 :: u54 :: u55 :: u56 :: u57 :: u58 :: u59 :: u60 :: u61 :: u62 :: u63 :: u64 :: u65 :: u66 :: [])) []) w := by
  conv => enter [2]; whnf
  unfold ntA at b3
  have x0 : w.cell? ⟨g3, 0, none⟩ = some (.int .i64 ((4 : Nat) : Int)) := b3.cell 0 (by show 0 < 10; decide)
  clear x0
  have i0r := Try.info_pr
  obtain ⟨i0, hi, hz0, hz1, hz2⟩ := info_parts i0r
  have x0 : w.cell? ⟨g3, 0, none⟩ = some (.int .i64 4) := b3.cell 0 (by show 0 < 10; decide)
  refine wp_seq_k fun K1 hK1 => ?_
  have HK1 : Hid _ := hK1
  clear hK1
  go_wp2
  clear x0
  go_loopw [] (fun wr => ∃ (j d : Nat) (q : Option Addr), 8 * j ≤ c.length ∧ Rdr w0 wr gr (c.drop (8 * j)) ∧ BxS wr g3 27 #[.int .i64 ((4 : Nat) : Int), .int .i64 (id : Int), .string ByteArray.empty, .int .i64 0, .int .i64 0, .int .i64 0, .slice none 0 0, .slice q j d, .int .i64 0, .int .i64 0] ∧ BxS wr g2 27 ntZ ∧ OwGp wr wS.heap.size q j d (gpR j c) ∧ wS.grownBy wr (some gr)) (fun wr => rdM wr gr)
  case atStart => exact ⟨0, 0, none, by omega, by rw [Nat.mul_zero, List.drop_zero]; exact hR, b3, b2, OwGp.nil _ _, G⟩
  case round =>
    obtain ⟨j, d, q, hj, hRr, b3r, b2r, hOr, Gr⟩ := hrel
    obtain ⟨a, n, cc, bx, hRd0⟩ := hRr.ex
    have hn : n = c.length - 8 * j := by have := hRd0.len; rw [List.length_drop] at this; omega
    have y0 : wr.cell? ⟨gr, 0, none⟩ = some (.slice a n cc) := bx.cell 0 (by show 0 < 1; decide)
    clear hRd0
    by_cases h0 : n = 0
    · have d0 : ¬ (0 : Int) < (n : Int) := by omega
      go_wp2
      refine HK1.out _ _ ?_
      clear HK1
      have hdiv : c.length / 8 = j := by omega
      have hmod : c.length % 8 = 0 := by omega
      refine nt_t20 _ wr g2 g3 4 id ByteArray.empty 0 0 0 none 0 0 q j d 0 0 b3r b2r ?_
      intro w' u
      show NoteA _ _ _ _ _ _
      rw [show kindR 4 id c = some (⟨4, id, [], 0, 0, 0, [], gpR j c, 0, 0⟩, []) from by unfold kindR; rw [if_neg (by decide), if_neg (by decide), if_neg (by decide), if_pos rfl, if_pos hmod, hdiv]]
      have hR9 := hRr.bx b2r u (by omega)
      rw [List.drop_of_length_le (by omega)] at hR9
      exact ⟨⟨_, rfl, _, _, _, _, _, _, rfl, Ans.nil _ _, hOr.bx b2r (by decide) u⟩, hR9, grown_mine Gr u (fun q e => .inr (by have e := Option.some.inj e; omega))⟩
    · have d0 : (0 : Int) < (n : Int) := by omega
      refine wp_seq_k fun K2 hK2 => ?_
      have HK2 : Hid _ := hK2
      clear hK2
      go_wp2
      clear y0
      refine HK2.out _ _ ?_
      clear HK2
      refine wp_block ?_
      by_cases h4 : n < 4
      · have s0 : True := trivial
        go_wp2_with (go_at_call 110; have _t := s0; clear s0; refine (number_no w0 wr gr 4 (c.drop (8 * j)) hRr (by omega) (by rw [List.length_drop]; omega)).mono ?_; rintro e w1 ⟨rfl, hw1⟩; have hw1 := hw1.symm; subst hw1)
        refine ⟨rfl, ?_⟩
        show NoteA _ _ _ _ _ _
        rw [show kindR 4 id c = none from by unfold kindR; rw [if_neg (by decide), if_neg (by decide), if_neg (by decide), if_pos rfl, if_neg (by omega)]]
        exact ⟨⟨_, rfl⟩, Gr⟩
      · 
        refine wp_seq_k fun K3 hK3 => ?_
        have HK3 : Hid _ := hK3
        clear hK3
        have s0 : True := trivial
        go_wp2_with (go_at_call 110; have _t := s0; clear s0; refine (number_ok w0 wr gr 4 (c.drop (8 * j)) hRr (by omega) (by rw [List.length_drop]; omega)).mono ?_; rintro e w1 ⟨rfl, hR1, y1⟩; have b1 := b3r.keep y1 (hRr.ne b3r); have b21 := b2r.keep y1 (hRr.ne b2r); have G1 := grown_trans Gr y1; have hO1 := hOr.bx bx (by decide) y1)
        rw [List.drop_drop] at hR1
        obtain ⟨x, hx⟩ : ∃ x, hdV (c.drop (8 * j)) 4 = x := ⟨_, rfl⟩
        rw [hx]
        have HX : Hid _ := hx
        clear hx bx
        refine HK3.out _ _ ?_
        clear HK3
        by_cases h8 : n < 8
        · 
          have Gd := grown_drew w1 none
          have SS : BxS w1.drew g3 27 #[.int .i64 ((4 : Nat) : Int), .int .i64 (id : Int), .string ByteArray.empty, .int .i64 0, .int .i64 0, .int .i64 0, .slice none 0 0, .slice q j d, .int .i64 0, .int .i64 0] := b1.keep Gd (by simp)
          have hRd := hR1.keep Gd
          refine wp_regionL (fun wz => BxS wz g3 27 #[.int .i64 ((4 : Nat) : Int), .int .i64 (id : Int), .string ByteArray.empty, .int .i64 0, .int .i64 0, .int .i64 0, .slice none 0 0, .slice q j d, .int .i64 0, .int .i64 0]) [9] #[false, false, false, false, false, false, false, false, false, false] rfl (by kernel_rfl) ?_
          refine wpAnyZ_take [1, 7, 9] 0 (.pointer (some ⟨g3, 7, none⟩)) rfl (by kernel_rfl) (fun _ _ _ h => h) SS rfl (by intro wz hz; go_simp) ?_
          try simp only [zc1, zc2, zc3, Act.put, zc4, zc5, zc6]
          refine wpAnyZ_take [7, 9] 1 (.slice q j d) rfl (by kernel_rfl) (fun _ _ _ h => h) SS rfl (by rintro wz hz; have z7 : wz.cell? ⟨g3, 7, none⟩ = some (.slice q j d) := hz.cell 7 (by show 7 < 10; decide); go_simp) ?_
          try simp only [zc1, zc2, zc3, Act.put, zc4, zc5, zc6]
          refine wpAnyZ_take [5, 6, 7, 9] 2 (.int .i64 (x : Int)) rfl (by kernel_rfl) (fun _ _ _ h => h) SS rfl (by intro wz hz; go_simp) ?_
          try simp only [zc1, zc2, zc3, Act.put, zc4, zc5, zc6]
          refine wpAnyZ_take [4, 5, 6, 7, 9] 3 (.pointer (some ⟨gr, 0, none⟩)) rfl (by kernel_rfl) (fun _ _ _ h => h) SS rfl (by intro wz hz; go_simp) ?_
          try simp only [zc1, zc2, zc3, Act.put, zc4, zc5, zc6]
          generalize w1.drew = w2 at *
          refine wpAnyZ_oneB 4 rfl (by kernel_rfl) (fun KK hKK => ?_)
          go_simp
          go_at_call 110
          refine (number_no w0 w2 gr 4 (c.drop (8 * j + 4)) hRd (by omega) (by rw [List.length_drop]; omega)).mono ?_
          rintro e w3 ⟨rfl, hw3⟩
          have hw3 := hw3.symm
          subst hw3
          dsimp only
          refine ⟨rfl, ?_⟩
          show NoteA _ _ _ _ _ _
          rw [show kindR 4 id c = none from by unfold kindR; rw [if_neg (by decide), if_neg (by decide), if_neg (by decide), if_pos rfl, if_neg (by omega)]]
          exact ⟨⟨_, rfl⟩, grown_trans G1 (grown_weak Gd _)⟩
        · 
          have Gd := grown_drew w1 none
          have SS : BxS w1.drew g3 27 #[.int .i64 ((4 : Nat) : Int), .int .i64 (id : Int), .string ByteArray.empty, .int .i64 0, .int .i64 0, .int .i64 0, .slice none 0 0, .slice q j d, .int .i64 0, .int .i64 0] := b1.keep Gd (by simp)
          have hRd := hR1.keep Gd
          refine wp_regionL (fun wz => BxS wz g3 27 #[.int .i64 ((4 : Nat) : Int), .int .i64 (id : Int), .string ByteArray.empty, .int .i64 0, .int .i64 0, .int .i64 0, .slice none 0 0, .slice q j d, .int .i64 0, .int .i64 0]) [9] #[false, false, false, false, false, false, false, false, false, false] rfl (by kernel_rfl) ?_
          refine wpAnyZ_take [1, 7, 9] 0 (.pointer (some ⟨g3, 7, none⟩)) rfl (by kernel_rfl) (fun _ _ _ h => h) SS rfl (by intro wz hz; go_simp) ?_
          try simp only [zc1, zc2, zc3, Act.put, zc4, zc5, zc6]
          refine wpAnyZ_take [7, 9] 1 (.slice q j d) rfl (by kernel_rfl) (fun _ _ _ h => h) SS rfl (by rintro wz hz; have z7 : wz.cell? ⟨g3, 7, none⟩ = some (.slice q j d) := hz.cell 7 (by show 7 < 10; decide); go_simp) ?_
          try simp only [zc1, zc2, zc3, Act.put, zc4, zc5, zc6]
          refine wpAnyZ_take [5, 6, 7, 9] 2 (.int .i64 (x : Int)) rfl (by kernel_rfl) (fun _ _ _ h => h) SS rfl (by intro wz hz; go_simp) ?_
          try simp only [zc1, zc2, zc3, Act.put, zc4, zc5, zc6]
          refine wpAnyZ_take [4, 5, 6, 7, 9] 3 (.pointer (some ⟨gr, 0, none⟩)) rfl (by kernel_rfl) (fun _ _ _ h => h) SS rfl (by intro wz hz; go_simp) ?_
          try simp only [zc1, zc2, zc3, Act.put, zc4, zc5, zc6]
          have hOd := hO1.keep Gd
          have b2d := b21.keep Gd (by simp)
          have G2 := grown_trans G1 (grown_weak Gd _)
          generalize w1.drew = w2 at *
          obtain ⟨_, _, _, bx2, _⟩ := hRd.ex
          refine wpAnyZ_oneB 4 rfl (by kernel_rfl) (fun KK hKK => ?_)
          go_simp
          go_at_call 110
          refine (number_ok w0 w2 gr 4 (c.drop (8 * j + 4)) hRd (by omega) (by rw [List.length_drop]; omega)).mono ?_
          rintro e w3 ⟨rfl, hR3, y3⟩
          dsimp only
          have S3 := SS.keep y3 (hRd.ne SS)
          have b23 := b2d.keep y3 (hRd.ne b2d)
          have hO3 := hOd.bx bx2 (by decide) y3
          have G3 := grown_trans G2 y3
          rw [List.drop_drop] at hR3
          obtain ⟨y, hy⟩ : ∃ y, hdV (c.drop (8 * j + 4)) 4 = y := ⟨_, rfl⟩
          rw [hy]
          have HY : Hid _ := hy
          clear hy
          refine hKK _ _ (fun _ => S3) ?_
          try simp only [zc1, zc2, zc3, Act.put, zc4, zc5, zc6]
          refine wpAnyZ_take [6, 7, 9] 5 (.agg #[.int .i64 (x : Int), .int .i64 (y : Int)]) rfl (by kernel_rfl) (fun _ _ _ h => h) S3 rfl (by intro wz hz; go_simp) ?_
          try simp only [zc1, zc2, zc3, Act.put, zc4, zc5, zc6]
          have bA := BxS.new w3 82 #[.int .i64 (x : Int), .int .i64 (y : Int)]
          have yA := World.grownBy_alloc w3 (.cells #[.int .i64 (x : Int), .int .i64 (y : Int)] 82) none
          refine wpAnyZ_oneB 6 rfl (by kernel_rfl) (fun KK hKK => ?_)
          go_simp
          have S4 := S3.keep yA (by simp)
          have b24 := b23.keep yA (by simp)
          have hO4 := hO3.keep yA
          have hR4 := hR3.keep yA
          have G4 := grown_trans G3 (grown_weak yA _)
          refine hKK _ _ (fun _ => S4) ?_
          try simp only [zc1, zc2, zc3, Act.put, zc4, zc5, zc6]
          generalize w3.alloc (.cells #[.int .i64 (x : Int), .int .i64 (y : Int)] 82) = w4 at *
          obtain ⟨v0, v1⟩ := bA.cell2
          refine wpAnyZ_oneB 7 rfl (by kernel_rfl) (fun KK hKK => ?_)
          refine step_apS w4 rfl _ _ 24 82 i0 (.agg #[.int .i64 0, .int .i64 0]) 2 16 Try.underlying24 hi hz0 hz1 hz2 rfl (by decide) rfl (.slice q j d) j (flG (gpF (gpR j c)) j) rfl hO4.own ⟨w3.heap.size, 0, none⟩ 1 1 [.int .i64 (x : Int), .int .i64 (y : Int)] rfl rfl ?_ (by intro u hu; simp only [List.mem_cons, List.not_mem_nil, or_false] at hu; rcases hu with rfl | rfl <;> rfl) (by decide) (by unfold maxLen; omega) (by omega) ?_
          · intro i u hu
            match i with
            | 0 => simp only [List.getElem?_cons_zero, Option.some.injEq] at hu; subst hu; exact v0
            | 1 => simp only [List.getElem?_cons_succ, List.getElem?_cons_zero, Option.some.injEq] at hu; subst hu; exact v1
            | i + 2 => simp at hu
          intro gx cx w5 hor u5 hO5
          have hne : ∀ g t cs, BxS w4 g t cs → 82 ≠ t → some g ≠ (Value.slice q j d).ownBlock := by
            intro g t cs hb ht e
            rcases hO4.own.2 with ⟨h1, _⟩ | ⟨g', cap', cur, h1, _, h3, _⟩
            · rw [h1] at e; cases e
            · rw [h1] at e
              have e : g = g' := Option.some.inj e
              subst e
              have hb : w4.heap[g]? = some (.cells cs t) := hb
              rw [h3] at hb
              injection hb with hb
              injection hb with _ hb
              exact ht hb
          have S5 := S4.keep u5 (hne _ _ _ S4 (by decide))
          have b25 := b24.keep u5 (hne _ _ _ b24 (by decide))
          obtain ⟨_, _, _, bx4, _⟩ := hR4.ex
          have z4 := G4.size
          have hw09 : w0.heap.size ≤ wS.heap.size := h02
          have hgx : wS.heap.size ≤ gx := by
            rcases hor with h1 | h1
            · exact hO4.new gx h1
            · omega
          have hR5 : Rdr w0 w5 gr (c.drop (8 * (j + 1))) := by
            obtain ⟨a9, n9, c9, b9, r9⟩ := hR4.ex
            refine ⟨hR4.lo, ⟨a9, n9, c9, b9.keep u5 (hne _ _ _ b9 (by decide)), ?_⟩, grown_far hR4.g u5 (fun q9 e => by have := hO4.new q9 e; omega)⟩
            rw [show 8 * (j + 1) = 8 * j + 4 + 4 by omega]
            exact r9
          have G5 := grown_mine G4 u5 (fun q9 e => .inr (hO4.new q9 e))
          refine hKK _ _ (fun _ => S5) ?_
          try simp only [zc1, zc2, zc3, Act.put, zc4, zc5, zc6]
          refine wpAnyZ_take [9] 8 (.pointer (some ⟨g3, 7, none⟩)) rfl (by kernel_rfl) (fun _ _ _ h => h) S5 rfl (by intro wz hz; go_simp) ?_
          try simp only [zc1, zc2, zc3, Act.put, zc4, zc5, zc6]
          refine wpAnyZ_oneB 9 rfl (by kernel_rfl) (fun KK hKK => ?_)
          refine step_stCd _ rfl _ _ _ rfl g3 7 27 _ #[.int .i64 ((4 : Nat) : Int), .int .i64 (id : Int), .string ByteArray.empty, .int .i64 0, .int .i64 0, .int .i64 0, .slice none 0 0, .slice (some ⟨gx, 0, none⟩) (j + 1) cx, .int .i64 0, .int .i64 0] (.slice (some ⟨gx, 0, none⟩) (j + 1) cx) rfl rfl S5 (fun w' h1 h2 => stc_slG _ _ _ _ _ _ h1 h2) (by show 7 < 10; decide) rfl ?_
          intro w6 b6 u6
          refine hKK _ _ (fun h => absurd (by decide) h) ?_
          try simp only [zc1, zc2, zc3, Act.put, zc4, zc5, zc6]
          refine wpAnyZ_doneB (by kernel_rfl) ?_ _
          have hO6 : OwGp w5 wS.heap.size (some ⟨gx, 0, none⟩) (j + 1) cx (gpR (j + 1) c) := by
            refine ⟨?_, gpR_len _ _, fun g e => by have e : gx = g := Option.some.inj e; omega⟩
            rw [gpR_succ, gpF_push _ _ _ (gpR_len _ _), HX.out, HY.out]
            exact hO5
          have hR6 := hR5.bx S5 u6 (by omega)
          have hO7 := hO6.bx S5 (by decide) u6
          have b26 := b25.keep u6 (fun e => h23 (Option.some.inj e))
          have G6 := grown_mine G5 u6 (fun q9 e => .inr (by have e := Option.some.inj e; omega))
          have M1 := rdM_of hR6
          have M2 := rdM_of hRr
          rw [List.length_drop] at M1 M2
          simp only [Exit.inBlock, Exit.then]
          refine ⟨?_, ?_⟩
          · repeat apply Exists.intro
            refine ⟨?_, rfl⟩
            exact ⟨j + 1, cx, some ⟨gx, 0, none⟩, by omega, hR6, b6, b26, hO7, G6⟩
          · rw [M1, M2]; omega
end
end Go.Proofs.Ytnimehkfnpepfaa
