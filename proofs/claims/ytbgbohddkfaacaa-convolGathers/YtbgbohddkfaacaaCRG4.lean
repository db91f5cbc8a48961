import Derived.Test.YtbgbohddkfaacaaCRG3
namespace Go.Proofs.Ytbgbohddkfaacaa
open Go.RowKit
set_option maxRecDepth 100000
set_option linter.unusedVariables false
set_option linter.unusedSimpArgs false

theorem fs_step (r : Nat) (S : List Int) (q : Nat) : lisI (q + 1) (fiV r S) = lisI q (fiV r S) ++ [fiV r S q] ∧ lisI (q + 1) (seV r S) = lisI q (seV r S) ++ [seV r S q] := ⟨lisI_succ _ _, lisI_succ _ _⟩
theorem wpList_pushZ (w0 w : World) (lo gs : Nat) (hgs : gs = w.heap.size) {ops : Array Oper} {rest : List Oper} {o : Oper} {a : Act} {Q : Exit → Act → World → Prop} (hg : o.guard = none) (s x : Operand)
    (hop : o.op = Op.call { callee := .builtin .append, args := #[s, x], argTypes := #[35, 35] }) (ao : Option Addr) (m co : Nat) (v : Int) (D : List Int) (hs : a.eval s = .slice ao m co)
    (hA : AnsZ w lo ao m co D) (hlo : w0.heap.size ≤ lo) (hlw : lo ≤ w.heap.size) (hG : w0.grownBy w none) (hx : a.eval x = .slice (some ⟨gs, 0, none⟩) 1 1) (hb : m + 1 ≤ 17592186044416)
    (hK : ∀ gx cx w', AnsZ w' lo (some ⟨gx, 0, none⟩) (m + 1) cx (D ++ [v]) → w0.grownBy w' none → ((Value.slice ao m co).ownBlock = some gx ∨ w.heap.size ≤ gx) → w.grownBy w' (Value.slice ao m co).ownBlock → wpList Try.prog ops Q rest (a.put o.dst (.slice (some ⟨gx, 0, none⟩) (m + 1) cx)) w') :
    wpList Try.prog ops Q (o :: rest) a (w.alloc (.cells #[.int .i64 v] 3)) := by
  subst hgs
  exact wpList_pushI w0 w lo hg s x hop ao m co v D hs hA hlo hlw hG hx hb hK
/-- the document's 'pay', at 0 and at 1 -/
theorem pay_0 (i s g1 g2 N : Nat) (X Y : List Int) (w : World) (h : Two w g1 g2 N X Y) (hi : i < N) (hN : N ≤ 20000) (hs : s < 64) (hX : ∀ i, -7 ≤ nthI X i ∧ nthI X i ≤ 7) (hY : ∀ i, -7 ≤ nthI Y i ∧ nthI Y i ≤ 7) :
    Calls Try.prog 41 #[.int .i64 i, .int .i64 0, .int .i64 s, .pointer (some ⟨g1, 0, none⟩), .pointer (some ⟨g2, 0, none⟩)] w fun e w' => e = .returned (.int .i64 (rpay X Y i 0 s)) ∧ ∃ m, w' = w.drewN m :=
  pay_any i 0 s g1 g2 N X Y w h hi hN (by decide) hs hX hY
theorem pay_1 (i s g1 g2 N : Nat) (X Y : List Int) (w : World) (h : Two w g1 g2 N X Y) (hi : i < N) (hN : N ≤ 20000) (hs : s < 64) (hX : ∀ i, -7 ≤ nthI X i ∧ nthI X i ≤ 7) (hY : ∀ i, -7 ≤ nthI Y i ∧ nthI Y i ≤ 7) :
    Calls Try.prog 41 #[.int .i64 i, .int .i64 1, .int .i64 s, .pointer (some ⟨g1, 0, none⟩), .pointer (some ⟨g2, 0, none⟩)] w fun e w' => e = .returned (.int .i64 (rpay X Y i 1 s)) ∧ ∃ m, w' = w.drewN m :=
  pay_any i 1 s g1 g2 N X Y w h hi hN (by decide) hs hX hY
/-- the table: rows from n + 6 - j on are there, and x of the row ahead of them -/
def tbl (r : Nat) (S : List Int) (n j x : Nat) (i : Nat) : Int := if n + 6 - j ≤ i / 64 then rV r S n (n + 6 - i / 64) (i % 64) else if i / 64 = n + 5 - j ∧ i % 64 < x then rV r S n (j + 1) (i % 64) else 0
theorem tbl_read (r : Nat) (S : List Int) (n j x s : Nat) (hj : j < n + 6) (hs : s < 64) : tbl r S n j x ((n + 5 - j + 1) * 64 + s) = rV r S n j s := by
  unfold tbl
  rw [show ((n + 5 - j + 1) * 64 + s) / 64 = n + 6 - j by omega, if_pos (Nat.le_refl _), show n + 6 - (n + 6 - j) = j by omega, show ((n + 5 - j + 1) * 64 + s) % 64 = s by omega]
theorem tbl_step (r : Nat) (S : List Int) (n j x : Nat) (hj : j < n + 6) (hx : x < 64) (i : Nat) : (if i = (n + 5 - j) * 64 + x then rV r S n (j + 1) x else tbl r S n j x i) = tbl r S n j (x + 1) i := by
  unfold tbl
  by_cases e : i = (n + 5 - j) * 64 + x
  · rw [if_pos e, if_neg (by omega), if_pos (by omega), show i % 64 = x by omega]
  · rw [if_neg e]
    by_cases e1 : n + 6 - j ≤ i / 64
    · rw [if_pos e1, if_pos e1]
    · rw [if_neg e1, if_neg e1]
      by_cases e2 : i / 64 = n + 5 - j ∧ i % 64 < x
      · rw [if_pos e2, if_pos (by omega)]
      · rw [if_neg e2, if_neg (by omega)]
theorem tbl_row (r : Nat) (S : List Int) (n j : Nat) (hj : j < n + 6) (i : Nat) : tbl r S n j 64 i = tbl r S n (j + 1) 0 i := by
  unfold tbl
  by_cases e1 : n + 6 - j ≤ i / 64
  · rw [if_pos e1, if_pos (by omega)]
  · rw [if_neg e1]
    by_cases e2 : i / 64 = n + 5 - j ∧ i % 64 < 64
    · rw [if_pos e2, if_pos (by omega), show n + 6 - i / 64 = j + 1 by omega]
    · rw [if_neg e2, if_neg (by omega), if_neg (by omega)]
theorem tbl_zero (r : Nat) (S : List Int) (n i : Nat) (hi : i < (n + 7) * 64) : (if (n + 6) * 64 < i ∧ i < (n + 6) * 64 + 64 then farI else 0) = tbl r S n 0 0 i := by
  unfold tbl
  by_cases e1 : n + 6 - 0 ≤ i / 64
  · rw [if_pos e1, show n + 6 - i / 64 = 0 by omega]
    show _ = if i % 64 = 0 then 0 else farI
    by_cases e2 : i % 64 = 0
    · rw [if_pos e2, if_neg (by omega)]
    · rw [if_neg e2, if_pos (by omega)]
  · rw [if_neg e1, if_neg (by omega), if_neg (by omega)]
theorem rV_step (r : Nat) (S : List Int) (n j s : Nat) : rV r S n (j + 1) s = if j < 6 then rpay (lisI (n + 6) (fiV r S)) (lisI (n + 6) (seV r S)) (n + 5 - j) 0 s + rV r S n j (2 * s % 64)
    else if rpay (lisI (n + 6) (fiV r S)) (lisI (n + 6) (seV r S)) (n + 5 - j) 1 s + rV r S n j ((2 * s + 1) % 64) < rpay (lisI (n + 6) (fiV r S)) (lisI (n + 6) (seV r S)) (n + 5 - j) 0 s + rV r S n j (2 * s % 64)
      then rpay (lisI (n + 6) (fiV r S)) (lisI (n + 6) (seV r S)) (n + 5 - j) 1 s + rV r S n j ((2 * s + 1) % 64)
      else rpay (lisI (n + 6) (fiV r S)) (lisI (n + 6) (seV r S)) (n + 5 - j) 0 s + rV r S n j (2 * s % 64) := rfl
theorem take_snocB (L : List Nat) (k : Nat) (h : k < L.length) : L.take (k + 1) = L.take k ++ [nth L k] := by
  rw [List.take_add_one, List.getElem?_eq_getElem h]
  unfold nth
  rw [List.getD_eq_getElem?_getD, List.getElem?_eq_getElem h]
  rfl
theorem rpay_bd (X Y : List Int) (hX : ∀ i, -7 ≤ nthI X i ∧ nthI X i ≤ 7) (hY : ∀ i, -7 ≤ nthI Y i ∧ nthI Y i ≤ 7) (i b s : Nat) : 0 ≤ rpay X Y i b s ∧ rpay X Y i b s ≤ 28 := by
  have x := hX i; have y := hY i
  unfold rpay
  have h1 := sy1_lt (2 * s + b)
  have h2 := sy2_lt (2 * s + b)
  rcases (by omega : sy1 (2 * s + b) = 0 ∨ sy1 (2 * s + b) = 1) with e | e <;> rcases (by omega : sy2 (2 * s + b) = 0 ∨ sy2 (2 * s + b) = 1) with e' | e' <;> rw [e, e'] <;> simp <;> omega
theorem and_two (s : Nat) (hs : s < 64) : bits .and .i64 ((s : Int) * 2) 63 = ((2 * s % 64 : Nat) : Int) := by
  revert hs; revert s; decide +kernel
theorem and_two1 (s : Nat) (hs : s < 64) : bits .and .i64 ((2 * s + 1 : Nat) : Int) 63 = (((2 * s + 1) % 64 : Nat) : Int) := and_reg (2 * s + 1) (by omega)
set_option maxHeartbeats 16000000 in
theorem rGather_ok (a : Option Addr) (m cap n r : Nat) (S : List Int) (w : World) (hp : RdI w a m cap S) (hn3 : n ≤ 16384) (h1 : 1 ≤ r) (h2 : r ≤ 5) (hm : m = cntN r (n + 6)) (hSb : softOk S = true) :
    Calls Try.prog 18 #[.slice a m cap, .int .i64 n, .int .i64 r] w fun e w' => ∃ a' c', e = .returned (.tuple #[.slice a' n c', .int .i64 (vN (prV r S) n (n + 6) 0), .int .i64 0]) ∧ Ans w' w.heap.size a' n c' (gotN (prV r S) n) ∧ w.grownBy w' none := by
  have hsb := soft_of S hSb
  have hpos := cnt_pos r n h1 h2
  have hcl := cntN_le r (n + 6)
  obtain ⟨b, off, e, hbw, hcc⟩ := hp.at' (by omega)
  subst e
  have hm1 := hp.le; have hm2 := hp.max
  unfold maxLen at hm2
  have HMm := fun w' => rmany_any r n (by omega) h1 h2 w'
  have hne : ((m : Int) != ((cntN r (n + 6) : Nat) : Int)) = false := by rw [hm]; simp
  have HM : Hid (m = cntN r (n + 6)) := hm
  rw [← hm] at HMm hne hpos hcl
  clear hm
  have hmf : ∀ (fn : Fn) (first cap : Array Value) (w : World), (Instr.makeFunc fn first cap).run Try.prog w = .ok (.func fn first cap) w := fun _ _ _ _ => rfl
  have HCC : Hid (∀ i, i < m → w.cell? ⟨b, off + i, none⟩ = some (.int .i64 (nthI S i))) := hcc
  have HSB : Hid (∀ i, -7 ≤ nthI S i ∧ nthI S i ≤ 7) := hsb
  clear hcc hsb hSb
  go_enter Try.func18, Try.ntmps18
  go_wp2_with (go_at_call 40; refine (HMm _).mono ?_; rintro e w1 ⟨rfl, hw⟩; have hw := hw.symm; subst hw)
  clear HMm
  go_loop [9] (fun i => ∃ k : Nat, k ≤ m ∧ i = .int .i64 k) (fun i => m - (intOf i).toNat)
  case atStart => exact ⟨0, by omega, rfl⟩
  case round =>
    obtain ⟨k, hk, rfl⟩ := hrel
    by_cases hlt : k < m
    · have hck := HCC.out k hlt
      obtain ⟨hx1, hx2⟩ := HSB.out k
      generalize nthI S k = x at hck hx1 hx2
      go_wp2
      go_round
      case rel => exact ⟨k + 1, by omega, by go_num⟩
      case measure => simp [intOf]; omega
    · obtain rfl : k = m := by omega
      have hfs := fs_new w
      go_wp2
      generalize (w.alloc (.cells #[.slice none 0 0] 35)).alloc (.cells #[.slice none 0 0] 35) = wb at *
      have HKm : Hid (k = cntN r (n + 6)) := HM
      clear hne
      go_loopw [12, 13] (fun kk i wr => ∃ (q c1 c2 : Nat) (a1 a2 : Option Addr), q ≤ n + 6 ∧ i = .int .i64 q ∧ kk = .int .i64 (cntN r q : Nat) ∧ FS w wr q q c1 c2 a1 a2 (lisI q (fiV r S)) (lisI q (seV r S))) (fun _ i _ => n + 6 - (intOf i).toNat)
      case atStart => exact ⟨0, 0, 0, none, none, by omega, rfl, rfl, hfs⟩
      case round =>
        obtain ⟨q, c1, c2, a1, a2, hq, rfl, rfl, hF⟩ := hrel
        by_cases hlq : q < n + 6
        · have hl := cntN_le r q
          have hmo := cnt_mono r (show q + 1 ≤ n + 6 by omega)
          rw [← HKm.out] at hmo
          have Hf := fun w' => rkept_any r q false (by omega) h1 h2 w'
          have Ht := fun w' => rkept_any r q true (by omega) h1 h2 w'
          obtain ⟨E1, E2⟩ := fs_step r S q
          have HE1 : Hid (lisI (q + 1) (fiV r S) = lisI q (fiV r S) ++ [fiV r S q]) := E1
          have HE2 : Hid (lisI (q + 1) (seV r S) = lisI q (seV r S) ++ [seV r S q]) := E2
          have ef : fiV r S q = if kb (pF r) q then nthI S (cntN r q) else 0 := rfl
          have es : seV r S q = if kb (pS r) q then nthI S (cntN r q + kn (kb (pF r) q)) else 0 := rfl
          obtain ⟨b1, e1⟩ : ∃ b, kb (pF r) q = b := ⟨_, rfl⟩
          obtain ⟨b2, e2⟩ : ∃ b, kb (pS r) q = b := ⟨_, rfl⟩
          rw [e1, e2] at Hf Ht
          rw [e1] at ef es
          rw [e2] at es
          simp only [if_true, Bool.false_eq_true, if_false] at Hf Ht
          have HC : cntN r (q + 1) = cntN r q + kn b1 + kn b2 := cnt_step r q b1 b2 e1 e2
          have HCh : Hid (cntN r (q + 1) = cntN r q + kn b1 + kn b2) := HC
          rw [HC] at hmo
          clear e1 e2 E1 E2 HC
          have v1 := hF.cell1
          have v2 := hF.cell2
          have hcell : ∀ i, i < k → wr.cell? ⟨b, off + i, none⟩ = some (.int .i64 (nthI S i)) := by
            obtain ⟨b', off', e, _, hc⟩ := (hp.keep hF.gr).at' hpos
            cases e
            exact hc
          have hlo := hF.lo
          cases b1 <;> cases b2
          all_goals
            simp only [kn, if_true, Bool.false_eq_true, if_false, Nat.add_zero] at hmo ef es
            have hc1 := hcell (cntN r q)
            have hc2 := hcell (cntN r q + 1)
            generalize cntN r q = c at *
            generalize fiV r S q = x at *
            generalize seV r S q = y at *
            have hc1' : c < k → wr.cell? ⟨b, off + c, none⟩ = some (.int .i64 (nthI S c)) := hc1
            have hc2' : c + 1 < k → wr.cell? ⟨b, off + (c + 1), none⟩ = some (.int .i64 (nthI S (c + 1))) := hc2
            clear hcell hc1 hc2
            first
              | have hcx := hc1' (by omega)
              | skip
            first
              | have hcy := hc2' (by omega)
              | skip
            clear hc1' hc2'
            have t1 : True := trivial
            have t3 : True := trivial
            go_wp2_with (first
              | (go_at_call 37; have _t := t3; clear t3; refine (Hf _).mono ?_; rintro e w3 ⟨rfl, hw⟩; have hw := hw.symm; subst hw)
              | (go_at_call 37; refine (Ht _).mono ?_; rintro e w3 ⟨rfl, hw⟩; have hw := hw.symm; subst hw)
              | (at_builtin; have _t := t1; clear t1; refine wpList_pushI w wr (w.heap.size + 2) rfl (.tmp 88) (.tmp 90) rfl a1 q c1 _ (lisI q (fiV r S)) rfl hF.A1 (by omega) hlo hF.gr rfl (by omega) ?_; intro gx cx w4 hA4 hG4 hgx4 hg4; obtain ⟨⟨u4, hu4⟩, hfz4, hF4⟩ := hF.push1 hA4 hG4 hgx4 hg4; have v2' := hF4.cell2; have hlo4 := hF4.lo)
              | (at_builtin; refine wpList_pushZ w _ (w.heap.size + 2) w4.heap.size (by simp [World.setCell]) rfl (.tmp 92) (.tmp 94) rfl a2 q c2 _ (lisI q (seV r S)) rfl hF4.A2 (by omega) hlo4 hF4.gr rfl (by omega) ?_; intro gy cy w5 hA5 hG5 hgx5 hg5; obtain ⟨⟨u5, hu5⟩, hfz5, hF5⟩ := hF4.push2 hA5 hG5 hgx5 hg5))
            go_roundw
            case rel =>
              have e1 := HCh.out
              simp only [kn, if_true, Bool.false_eq_true, if_false, Nat.add_zero] at e1
              have e2 := HE1.out
              have e3 := HE2.out
              refine ⟨q + 1, cx, cy, some ⟨gx, 0, none⟩, some ⟨gy, 0, none⟩, by omega, by go_num, congrArg (Value.int .i64) (by rw [e1] <;> omega), ?_⟩
              rw [e2, e3, ef, es]
              exact hF5
            case measure => simp [intOf]; omega
        · obtain rfl : q = n + 6 := by omega
          have hX := lisI_bd (n + 6) (fiV r S) (fun i _ => fiV_bd r S HSB.out i)
          have hY := lisI_bd (n + 6) (seV r S) (fun i _ => seV_bd r S HSB.out i)
          have hgrow := hF.gr
          go_wp2_with (at_make; refine wpList_mkR _ rfl _ _ rfl (n + 7) rfl rfl (by omega) ?_; intro w6 hR6 g6)
          have hTw := fun wx (hg : w6.grownBy wx (some wr.heap.size)) => hF.later (grown_trans (grown_weak g6 _) hg) (Nat.le_refl _)
          have hG6 := grown_trans hgrow g6
          have hgrw := hgrow.size
          generalize wr.heap.size = gr at *
          clear hF g6 hgrow hfs
          go_loopw [18] (fun i wx => ∃ x : Nat, 1 ≤ x ∧ x ≤ 64 ∧ i = .int .i64 x ∧ w6.grownBy wx (some gr) ∧ IRow wx gr 66 ((n + 7) * 64) (fun i => if (n + 6) * 64 < i ∧ i < (n + 6) * 64 + x then farI else 0)) (fun i _ => 64 - (intOf i).toNat)
          case atStart => exact ⟨1, by omega, by omega, rfl, World.grownBy.refl _ _, hR6.congr (fun i hi => by rw [if_neg (by omega)])⟩
          case round =>
            obtain ⟨x, hx1, hx2, rfl, hgx, hI⟩ := hrel
            by_cases hlx : x < 64
            · have f1 := hI.free ((n + 6) * 64 + x)
              have d1 := hI.cell ((n + 6) * 64 + x) (by omega)
              have HS := hI.set ((n + 6) * 64 + x) 1099511627776
              have hxi : (x : Int) < 64 := by omega
              have hni : (n : Int) + 6 < (n : Int) + 7 := by omega
              have HF6 : Hid (farI = 1099511627776) := rfl
              go_wp2
              go_roundw
              case rel =>
                refine ⟨x + 1, by omega, by omega, by go_num, grown_trans hgx (grown_set _ _ _ _), HS.congr (fun i hi => ?_)⟩
                by_cases e : i = (n + 6) * 64 + x
                · rw [if_pos e, if_pos (by omega)]; exact HF6.out.symm
                · rw [if_neg e]
                  by_cases e2 : (n + 6) * 64 < i ∧ i < (n + 6) * 64 + x
                  · rw [if_pos e2, if_pos (by omega)]
                  · rw [if_neg e2, if_neg (by omega)]
              case measure => simp [intOf]; omega
            · obtain rfl : x = 64 := by omega
              have hT := hI.congr (fun i hi => tbl_zero r S n i hi)
              clear hI hR6
              go_wp2
              go_loopw [19] (fun i wx => ∃ (j : Nat) (z : Int), j ≤ n + 6 ∧ i = .int .i64 z ∧ z = (n : Int) + 5 - j ∧ w6.grownBy wx (some gr) ∧ IRow wx gr 66 ((n + 7) * 64) (tbl r S n j 0)) (fun i _ => (intOf i + 1).toNat)
              case atStart => exact ⟨0, (n : Int) + 5, by omega, by go_num, by omega, hgx, hT⟩
              case round =>
                obtain ⟨j, z, hj, rfl, hz, hgj, hIj⟩ := hrel
                by_cases hlj : j < n + 6
                · obtain ⟨k', rfl⟩ := Int.eq_ofNat_of_zero_le (a := z) (by omega)
                  have hk : n + 5 - j = k' := by omega
                  have HZ : Hid ((k' : Int) = (n : Int) + 5 - j) := hz
                  have hk1 : (k' : Int) < (n : Int) + 7 := by omega
                  have hk2 : (k' : Int) + 1 < (n : Int) + 7 := by omega
                  have hk3 : k' + 1 < n + 7 := by omega
                  clear hz
                  go_wp2
                  go_loopw [20] (fun i wy => ∃ x : Nat, x ≤ 64 ∧ i = .int .i64 x ∧ w6.grownBy wy (some gr) ∧ IRow wy gr 66 ((n + 7) * 64) (tbl r S n j x)) (fun i _ => 64 - (intOf i).toNat)
                  case atStart => exact ⟨0, by omega, rfl, hgj, hIj⟩
                  case round =>
                    obtain ⟨x, hx, rfl, hgy, hIx⟩ := hrel
                    by_cases hlx : x < 64
                    · have hTT := hTw wr hgy
                      have hP0 := fun w' (hg : wr.grownBy w' none) => pay_0 k' x w.heap.size (w.heap.size + 1) (n + 6) _ _ w' (hTT.keep hg) (by omega) (by omega) hlx hX hY
                      have c0 := hIx.cell ((n + 5 - j + 1) * 64 + 2 * x % 64) (by omega)
                      have c1 := hIx.cell ((n + 5 - j + 1) * 64 + (2 * x + 1) % 64) (by omega)
                      rw [tbl_read r S n j x _ hlj (by omega)] at c0 c1
                      have dk := hIx.cell ((n + 5 - j) * 64 + x) (by omega)
                      have fk := hIx.free ((n + 5 - j) * 64 + x)
                      have hst := rV_step r S n j x
                      have HTS := tbl_step r S n j x hlj hlx
                      have hb0 := rV_bd r S HSB.out n j (2 * x % 64)
                      have hb1 := rV_bd r S HSB.out n j ((2 * x + 1) % 64)
                      have p0 := rpay_bd _ _ hX hY k' 0 x
                      have p1 := rpay_bd _ _ hX hY k' 1 x
                      have hB0 := tbl_read r S n j x (2 * x % 64) hlj (by omega)
                      have hB1 := tbl_read r S n j x ((2 * x + 1) % 64) hlj (by omega)
                      rw [hk] at c0 c1 dk fk hst HTS hB0 hB1
                      have HST : Hid (rV r S n (j + 1) x = if j < 6 then rpay (lisI (n + 6) (fiV r S)) (lisI (n + 6) (seV r S)) k' 0 x + rV r S n j (2 * x % 64)
                        else if rpay (lisI (n + 6) (fiV r S)) (lisI (n + 6) (seV r S)) k' 1 x + rV r S n j ((2 * x + 1) % 64) < rpay (lisI (n + 6) (fiV r S)) (lisI (n + 6) (seV r S)) k' 0 x + rV r S n j (2 * x % 64)
                          then rpay (lisI (n + 6) (fiV r S)) (lisI (n + 6) (seV r S)) k' 1 x + rV r S n j ((2 * x + 1) % 64)
                          else rpay (lisI (n + 6) (fiV r S)) (lisI (n + 6) (seV r S)) k' 0 x + rV r S n j (2 * x % 64)) := hst
                      have HTSh : Hid (∀ i, (if i = k' * 64 + x then rV r S n (j + 1) x else tbl r S n j x i) = tbl r S n j (x + 1) i) := HTS
                      have HIX : Hid (IRow wr gr 66 ((n + 7) * 64) (tbl r S n j x)) := hIx
                      unfold farI at hb0 hb1
                      clear hst HTS hIx
                      have ha := and_two x hlx
                      have ha1 := and_two1 x hlx
                      have hor := or_reg1 x hlx
                      generalize rpay (lisI (n + 6) (fiV r S)) (lisI (n + 6) (seV r S)) k' 0 x = A at *
                      generalize rV r S n j (2 * x % 64) = B at *
                      have hA := p0; have hBb := hb0
                      have hj0 : 2 * x % 64 < 64 := by omega
                      generalize 2 * x % 64 = x2 at *
                      have i1 : (x2 : Int) < 64 := by omega
                      have i2 : (x : Int) < 64 := by omega
                      have i3 : IntKind.i64.wrap ((k' : Int) + 1) = (k' : Int) + 1 := wrap_i64_in _ (by omega) (by omega)
                      have i4 : IntKind.i64.wrap (A + B) = A + B := wrap_i64_in _ (by omega) (by omega)
                      have i5 : (0 : Int) ≤ (k' : Int) + 1 := by omega
                      have i8 : IntKind.i64.wrap ((x : Int) * 2) = (x : Int) * 2 := wrap_i64_in _ (by omega) (by omega)
                      have i9 : IntKind.i64.wrap ((x : Int) * 2 ^ 1) = (x : Int) * 2 := by rw [show ((2 : Int) ^ 1) = 2 by rfl]; exact i8
                      have i6 : ¬ (k' + 1) * 64 + x2 = k' * 64 + x := by omega
                      have i7 : ¬ k' * 64 + x = (k' + 1) * 64 + x2 := by omega
                      have hkeep : ∀ mm, ((wr.drewN (1 + mm)).setCell ⟨gr, k' * 64 + x, none⟩ (.int .i64 (A + B))).cell? ⟨gr, (k' + 1) * 64 + x2, none⟩ = some (.int .i64 B) := by
                        intro mm
                        have t := ((HIX.out.keep (grown_drewN wr (1 + mm) none)).set (k' * 64 + x) (A + B)).cell ((k' + 1) * 64 + x2) (by omega)
                        rw [if_neg i6, hB0] at t
                        exact t
                      have HKE : Hid (∀ mm, ((wr.drewN (1 + mm)).setCell ⟨gr, k' * 64 + x, none⟩ (.int .i64 (A + B))).cell? ⟨gr, (k' + 1) * 64 + x2, none⟩ = some (.int .i64 B)) := hkeep
                      have HB1 : Hid (tbl r S n j x ((k' + 1) * 64 + (2 * x + 1) % 64) = rV r S n j ((2 * x + 1) % 64)) := hB1
                      clear hkeep hB0 hB1
                      go_wp2
                      go_region_held3 (fun w' => w'.cell? ⟨gr, (k' + 1) * 64 + x2, none⟩ = some (.int .i64 B)) (first | go_keep | exact HKE.out _) (first | (go_at_call 41; refine (hP0 _ (by repeat (first | exact World.grownBy.refl _ _ | refine grown_trans ?_ (grown_drew _ _) | refine grown_trans ?_ (grown_drewN _ _ _)))).mono ?_; rintro e w' ⟨rfl, mm, rfl⟩))
                      all_goals
                        have g1 := grown_drewN wr (1 + mm) none
                        have gB := grown_trans hgy (grown_trans (grown_weak g1 _) (grown_set (wr.drewN (1 + mm)) gr (k' * 64 + x) (.int .i64 (A + B))))
                        have K2 := (HIX.out.keep g1).set (k' * 64 + x) (A + B)
                        have HGB : Hid (w6.grownBy ((wr.drewN (1 + mm)).setCell ⟨gr, k' * 64 + x, none⟩ (.int .i64 (A + B))) (some gr)) := gB
                        clear gB
                        generalize (wr.drewN (1 + mm)).setCell ⟨gr, k' * 64 + x, none⟩ (.int .i64 (A + B)) = wc at *
                        clear hP0 c0 c1 dk fk g1 HKE
                        by_cases hj6 : j < 6
                        · have hkn : ¬ (k' : Int) < (n : Int) := by have := HZ.out; omega
                          have HV := HST.out
                          rw [if_pos hj6] at HV
                          have HVh : Hid (rV r S n (j + 1) x = A + B) := HV
                          clear HV HST
                          go_wp2
                          go_roundw
                          case rel =>
                            refine ⟨x + 1, by omega, by go_num, HGB.out, K2.congr (fun i hi => ?_)⟩
                            rw [← HVh.out]; exact HTSh.out i
                          case measure => simp [intOf]; omega
                        · have hkn : (k' : Int) < (n : Int) := by have := HZ.out; omega
                          have HV := HST.out
                          rw [if_neg hj6] at HV
                          have hP1 := fun w' (hg : wc.grownBy w' none) => pay_1 k' x w.heap.size (w.heap.size + 1) (n + 6) _ _ w' ((hTw wc HGB.out).keep hg) (by omega) (by omega) hlx hX hY
                          have hx3 : (2 * x + 1) % 64 < 64 := by omega
                          have e1 := K2.cell ((k' + 1) * 64 + (2 * x + 1) % 64) (by omega)
                          rw [if_neg (by omega), HB1.out] at e1
                          have e2 := K2.cell (k' * 64 + x) (by omega)
                          rw [if_pos rfl] at e2
                          have e3 := K2.free (k' * 64 + x)
                          have HK2 : Hid (IRow wc gr 66 ((n + 7) * 64) (fun i => if i = k' * 64 + x then A + B else tbl r S n j x i)) := K2
                          have HVh : Hid (rV r S n (j + 1) x = if rpay (lisI (n + 6) (fiV r S)) (lisI (n + 6) (seV r S)) k' 1 x + rV r S n j ((2 * x + 1) % 64) < A + B then rpay (lisI (n + 6) (fiV r S)) (lisI (n + 6) (seV r S)) k' 1 x + rV r S n j ((2 * x + 1) % 64) else A + B) := HV
                          clear HV HST HB1 K2
                          generalize rpay (lisI (n + 6) (fiV r S)) (lisI (n + 6) (seV r S)) k' 1 x = P1 at *
                          generalize rV r S n j ((2 * x + 1) % 64) = C1 at *
                          generalize (2 * x + 1) % 64 = x3 at *
                          generalize 2 * x + 1 = rg at *
                          have l1 : (x3 : Int) < 64 := by omega
                          have l2 : IntKind.i64.wrap (P1 + C1) = P1 + C1 := wrap_i64_in _ (by omega) (by omega)
                          by_cases hc : P1 + C1 < A + B
                          · rw [if_pos hc] at HVh
                            have HS2 := fun w' (hg : wc.grownBy w' none) => (HK2.out.keep hg).set (k' * 64 + x) (P1 + C1)
                            go_wp2
                            go_quiet (first | (go_at_call 41; refine Calls.quiet_of (hP1 _ (by repeat (first | exact World.grownBy.refl _ _ | refine grown_trans ?_ (grown_drew _ _) | refine grown_trans ?_ (grown_drewN _ _ _))))))
                            go_wp2
                            refine ⟨?_, ?_⟩
                            · (repeat apply Exists.intro)
                              refine ⟨?_, rfl⟩
                              have g1 := grown_drewN wc nq none
                              refine ⟨x + 1, by omega, by go_num, grown_trans HGB.out (grown_trans (grown_weak g1 _) (grown_set _ _ _ _)), (HS2 _ g1).congr (fun i hi => ?_)⟩
                              rw [← HTSh.out i]
                              by_cases e : i = k' * 64 + x
                              · rw [if_pos e, if_pos e]; exact HVh.out.symm
                              · rw [if_neg e, if_neg e, if_neg e]
                            · simp [intOf]; omega
                          · rw [if_neg hc] at HVh
                            go_wp2
                            go_quiet (first | (go_at_call 41; refine Calls.quiet_of (hP1 _ (by repeat (first | exact World.grownBy.refl _ _ | refine grown_trans ?_ (grown_drew _ _) | refine grown_trans ?_ (grown_drewN _ _ _))))))
                            go_wp2
                            first
                              | (refine ⟨?_, ?_⟩
                                 · (repeat apply Exists.intro)
                                   refine ⟨?_, rfl⟩
                                   have g1 := grown_drewN wc nq none
                                   refine ⟨x + 1, by omega, by go_num, grown_trans HGB.out (grown_weak g1 _), (HK2.out.keep g1).congr (fun i hi => ?_)⟩
                                   rw [← HVh.out]; exact HTSh.out i
                                 · simp [intOf]; omega)
                              | (go_roundw
                                 case rel =>
                                   have g1 := grown_drewN wc nq none
                                   refine ⟨x + 1, by omega, by go_num, grown_trans HGB.out (grown_weak g1 _), (HK2.out.keep g1).congr (fun i hi => ?_)⟩
                                   rw [← HVh.out]; exact HTSh.out i
                                 case measure => simp [intOf]; omega)
                    · obtain rfl : x = 64 := by omega
                      have hI2 := hIx.congr (fun i hi => tbl_row r S n j hlj i)
                      clear hIx
                      go_wp2
                      go_roundw
                      case rel =>
                        have e3 := HZ.out
                        exact ⟨j + 1, (k' : Int) - 1, by omega, by go_num, by omega, hgy, hI2⟩
                      case measure => first | (simp [intOf]; done) | (simp [intOf]; omega)
                · obtain rfl : j = n + 6 := by omega
                  have hgz := grown_far hG6 hgj (fun g e => by cases e; exact hgrw)
                  have htab : ∀ k s, k ≤ n + 6 → s < 64 → wr.cell? ⟨gr, k * 64 + s, none⟩ = some (.int .i64 (rV r S n (n + 6 - k) s)) := by
                    intro k s hk hs
                    have t := hIj.cell (k * 64 + s) (by omega)
                    unfold tbl at t
                    rw [if_pos (by omega), show (k * 64 + s) / 64 = k by omega, show (k * 64 + s) % 64 = s by omega] at t
                    exact t
                  have HTB : Hid (∀ k s, k ≤ n + 6 → s < 64 → wr.cell? ⟨gr, k * 64 + s, none⟩ = some (.int .i64 (rV r S n (n + 6 - k) s))) := htab
                  have hgl := hIj.lt
                  have hTz := hTw wr hgj
                  have hzn : z < 0 := by omega
                  obtain ⟨wz, hwz⟩ : ∃ wz, wz = wr := ⟨_, rfl⟩
                  rw [← hwz] at HTB hgl hTz hgz
                  clear hz htab hIj hgj
                  go_wp2
                  rw [← hwz]
                  clear hwz
                  go_loopw [22, 23, 24] (fun o st i wy => ∃ (q co : Nat) (ao : Option Addr), q ≤ n ∧ i = .int .i64 q ∧ st = .int .i64 (stN (gotN (prV r S) n) q : Nat) ∧ o = .slice ao q co ∧ wz.grownBy wy none ∧ Ans wy wz.heap.size ao q co ((gotN (prV r S) n).take q)) (fun _ _ i _ => n - (intOf i).toNat)
                  case atStart => exact ⟨0, 0, none, by omega, rfl, rfl, rfl, World.grownBy.refl _ _, ans_nil _ _⟩
                  case round =>
                    obtain ⟨q, co, ao, hq, rfl, rfl, rfl, hgy, hA⟩ := hrel
                    by_cases hlq : q < n
                    · have hst := stN_lt (gotN (prV r S) n) q
                      have hat := gotN_at (prV r S) n q hlq
                      have htest := rV_test r S n q (stN (gotN (prV r S) n) q) hlq hst
                      have hchl := chs_lt (prV r S) (vN (prV r S) n (n + 5 - q)) q (stN (gotN (prV r S) n) q)
                      have HSS : Hid (stN (gotN (prV r S) n) (q + 1) = (2 * stN (gotN (prV r S) n) q + nth (gotN (prV r S) n) q) % 64) := rfl
                      have HTK : Hid ((gotN (prV r S) n).take (q + 1) = (gotN (prV r S) n).take q ++ [nth (gotN (prV r S) n) q]) := take_snocB _ _ (by rw [gotN_len]; exact hlq)
                      have hcells : ∀ w', wz.grownBy w' none → w'.cell? ⟨gr, q * 64 + stN (gotN (prV r S) n) q, none⟩ = some (.int .i64 (rV r S n (n + 6 - q) (stN (gotN (prV r S) n) q))) ∧ w'.cell? ⟨gr, (q + 1) * 64 + 2 * stN (gotN (prV r S) n) q % 64, none⟩ = some (.int .i64 (rV r S n (n + 5 - q) (2 * stN (gotN (prV r S) n) q % 64))) := by
                        intro w' hg
                        refine ⟨(World.cell?_of_block (w := wz) (a := ⟨gr, _, none⟩) (hg.block gr hgl (by simp))).trans (HTB.out q _ (by omega) hst), ?_⟩
                        have t := (World.cell?_of_block (w := wz) (a := ⟨gr, (q + 1) * 64 + 2 * stN (gotN (prV r S) n) q % 64, none⟩) (hg.block gr hgl (by simp))).trans (HTB.out (q + 1) _ (by omega) (by omega))
                        rw [show n + 6 - (q + 1) = n + 5 - q by omega] at t
                        exact t
                      obtain ⟨ca, cb⟩ := hcells wr hgy
                      have hb1 := rV_bd r S HSB.out n (n + 6 - q) (stN (gotN (prV r S) n) q)
                      have hb2 := rV_bd r S HSB.out n (n + 5 - q) (2 * stN (gotN (prV r S) n) q % 64)
                      have hP0 := fun w' (hg : wr.grownBy w' none) => pay_0 q (stN (gotN (prV r S) n) q) w.heap.size (w.heap.size + 1) (n + 6) _ _ w' (hTz.keep (grown_trans hgy hg)) (by omega) (by omega) hst hX hY
                      have p0 := rpay_bd _ _ hX hY q 0 (stN (gotN (prV r S) n) q)
                      rw [← hat] at htest hchl
                      have HTT : Hid (rV r S n (n + 6 - q) (stN (gotN (prV r S) n) q) = rpay (lisI (n + 6) (fiV r S)) (lisI (n + 6) (seV r S)) q 0 (stN (gotN (prV r S) n) q) + rV r S n (n + 5 - q) (2 * stN (gotN (prV r S) n) q % 64) ↔ nth (gotN (prV r S) n) q = 0) := htest
                      unfold farI at hb1 hb2
                      clear hcells hat htest
                      generalize rV r S n (n + 6 - q) (stN (gotN (prV r S) n) q) = V1 at *
                      generalize rpay (lisI (n + 6) (fiV r S)) (lisI (n + 6) (seV r S)) q 0 (stN (gotN (prV r S) n) q) = A at *
                      generalize rV r S n (n + 5 - q) (2 * stN (gotN (prV r S) n) q % 64) = B at *
                      generalize stN (gotN (prV r S) n) q = s at *
                      generalize nth (gotN (prV r S) n) q = bt at *
                      have ha := and_two s hst
                      have hs2 : 2 * s % 64 < 64 := by omega
                      generalize hs2e : 2 * s % 64 = s2 at *
                      have i1 : (s2 : Int) < 64 := by omega
                      have i2 : (s : Int) < 64 := by omega
                      have i3 : IntKind.i64.wrap ((q : Int) + 1) = (q : Int) + 1 := wrap_i64_in _ (by omega) (by omega)
                      have i4 : IntKind.i64.wrap (A + B) = A + B := wrap_i64_in _ (by omega) (by omega)
                      have i5 : (0 : Int) ≤ (q : Int) + 1 := by omega
                      have i8 : IntKind.i64.wrap ((s : Int) * 2) = (s : Int) * 2 := wrap_i64_in _ (by omega) (by omega)
                      have i9 : (q : Int) + 1 < (n : Int) + 7 := by omega
                      have i10 : (q : Int) < (n : Int) + 7 := by omega
                      have HS2E : Hid (2 * s % 64 = s2) := hs2e
                      clear hs2e
                      by_cases hbt : bt = 0
                      · have hv : V1 = A + B := HTT.out.2 hbt
                        have hne : (V1 != A + B) = false := by rw [hv]; simp
                        subst hbt
                        go_wp2
                        go_quiet (first | (go_at_call 41; refine Calls.quiet_of (hP0 _ (by repeat (first | exact World.grownBy.refl _ _ | refine grown_trans ?_ (grown_drew _ _) | refine grown_trans ?_ (grown_drewN _ _ _))))))
                        have hA1 := hA.keep (grown_drewN wr nq none)
                        have hG1 := grown_trans hgy (grown_drewN wr nq none)
                        go_wp2_with (at_builtin; refine wpList_push wz (wr.drewN nq) rfl (.tmp 197) (.tmp 200) rfl ao q co 0 _ rfl hA1 hG1 (by decide) rfl (by omega) ?_; intro gx cx w4 hA4 hG4)
                        refine ⟨?_, ?_⟩
                        · (repeat apply Exists.intro)
                          refine ⟨?_, rfl⟩
                          refine ⟨q + 1, cx, some ⟨gx, 0, none⟩, by omega, by go_num, congrArg (Value.int .i64) ?_, rfl, hG4, ?_⟩
                          · show bits .and .i64 (bits .or .i64 ((s : Int) * 2) 0) 63 = _
                            rw [show bits .or .i64 ((s : Int) * 2) 0 = ((2 * s + 0 : Nat) : Int) from or_reg s hst 0 (by decide), and_reg (2 * s + 0) (by omega), HSS.out]
                          · rw [HTK.out]; exact hA4
                        · simp [intOf]; omega
                      · obtain rfl : bt = 1 := by omega
                        have hv : ¬ V1 = A + B := fun h => absurd (HTT.out.1 h) (by decide)
                        have hne : (V1 != A + B) = true := by simp; exact hv
                        go_wp2
                        go_quiet (first | (go_at_call 41; refine Calls.quiet_of (hP0 _ (by repeat (first | exact World.grownBy.refl _ _ | refine grown_trans ?_ (grown_drew _ _) | refine grown_trans ?_ (grown_drewN _ _ _))))))
                        have hA1 := hA.keep (grown_drewN wr nq none)
                        have hG1 := grown_trans hgy (grown_drewN wr nq none)
                        go_wp2_with (at_builtin; refine wpList_push wz (wr.drewN nq) rfl (.tmp 197) (.tmp 200) rfl ao q co 1 _ rfl hA1 hG1 (by decide) rfl (by omega) ?_; intro gx cx w4 hA4 hG4)
                        refine ⟨?_, ?_⟩
                        · (repeat apply Exists.intro)
                          refine ⟨?_, rfl⟩
                          refine ⟨q + 1, cx, some ⟨gx, 0, none⟩, by omega, by go_num, congrArg (Value.int .i64) ?_, rfl, hG4, ?_⟩
                          · show bits .and .i64 (bits .or .i64 ((s : Int) * 2) 1) 63 = _
                            rw [show bits .or .i64 ((s : Int) * 2) 1 = ((2 * s + 1 : Nat) : Int) from or_reg s hst 1 (by decide), and_reg (2 * s + 1) (by omega), HSS.out]
                          · rw [HTK.out]; exact hA4
                        · simp [intOf]; omega
                    · obtain rfl : q = n := by omega
                      have hA2 : Ans wr wz.heap.size ao q co (gotN (prV r S) q) := by
                        rw [List.take_of_length_le (by rw [gotN_len]; exact Nat.le_refl _)] at hA
                        exact hA
                      have c00 := (World.cell?_of_block (w := wz) (a := ⟨gr, 0 * 64 + 0, none⟩) (hgy.block gr hgl (by simp))).trans (HTB.out 0 0 (by omega) (by decide))
                      rw [show 0 * 64 + 0 = 0 by rfl, Nat.sub_zero] at c00
                      have hbv := rV_bd r S HSB.out q (q + 6) 0
                      have hco : Hid (rV r S q (q + 6) 0 - 7 * (2 * ((q : Int) + 6) - k) = vN (prV r S) q (q + 6) 0) := rV_cost r S q k HKm.out
                      unfold farI at hbv
                      generalize rV r S q (q + 6) 0 = V at *
                      have f1 : IntKind.i64.wrap ((q : Int) + 6) = (q : Int) + 6 := wrap_i64_in _ (by omega) (by omega)
                      have f2 : IntKind.i64.wrap (2 * ((q : Int) + 6)) = 2 * ((q : Int) + 6) := wrap_i64_in _ (by omega) (by omega)
                      have f3 : IntKind.i64.wrap (2 * ((q : Int) + 6) - (k : Int)) = 2 * ((q : Int) + 6) - (k : Int) := wrap_i64_in _ (by omega) (by omega)
                      have f4 : IntKind.i64.wrap (7 * (2 * ((q : Int) + 6) - (k : Int))) = 7 * (2 * ((q : Int) + 6) - (k : Int)) := wrap_i64_in _ (by omega) (by omega)
                      have f5 : IntKind.i64.wrap (V - 7 * (2 * ((q : Int) + 6) - (k : Int))) = V - 7 * (2 * ((q : Int) + 6) - (k : Int)) := wrap_i64_in _ (by omega) (by omega)
                      have f6 : (0 : Int) < (q : Int) + 7 := by omega
                      have f7 : 0 < q + 7 := by omega
                      clear hA
                      go_wp2
                      go_quiet (fail)
                      go_wp2
                      go_ret3
                      refine ⟨ao, co, ?_, (hA2.keep (grown_drewN _ _ none)).wide hgz.size, grown_trans hgz (grown_trans hgy (grown_drewN _ _ _))⟩
                      rw [← hco.out]
                      rfl
end Go.Proofs.Ytbgbohddkfaacaa
