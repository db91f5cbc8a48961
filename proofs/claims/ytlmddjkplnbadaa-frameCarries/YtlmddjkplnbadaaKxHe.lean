import Derived.Test.YtlmddjkplnbadaaKxMay
import Derived.Test.YtlmddjkplnbadaaKxTm
namespace Go.Proofs.Ytlmddjkplnbadaa
open Go.RowKit
set_option maxRecDepth 100000
set_option linter.unusedVariables false
set_option linter.unusedSimpArgs false

theorem flag_any (b : Bool) (w : World) : Calls Try.prog 85 #[.bool b] w fun e w' => e = .returned (.int .i64 (b.toNat : Nat)) ∧ w' = w := by
  cases b
  · go_enter Try.func85, Try.ntmps85
    go_wp2
    go_ret
    exact ⟨rfl, rfl⟩
  · go_enter Try.func85, Try.ntmps85
    go_wp2
    go_ret
    exact ⟨rfl, rfl⟩
theorem put_int (kz xz : Int) (k x g h : Nat) (w : World) (ek : kz = k) (ex : xz = x) (hB : BxU w g h) (hk : k ≤ 16) (hx : x < 2 ^ k) (hh : h * 2 ^ k + x < 18446744073709551616) :
    Calls Try.prog 84 #[.int .i64 kz, .int .i64 xz, .pointer (some ⟨g, 0, none⟩)] w fun e w' => e = .returned (.tuple #[]) ∧ BxU w' g (h * 2 ^ k + x) ∧ w.grownBy w' (some g) := by
  subst ek; subst ex; exact put_any k x g h w hB hk hx hh
/-- the head of a packet, as a number and as bytes -/
def hd1 (u s : Nat) : Nat := u * 2 + s
def hdN (u s ap pt ct n : Nat) : Nat := (((hd1 u s * 2048 + ap) * 4 + pt) * 16384 + ct) * 65536 + (n - 1)
def hdB (H i : Nat) : Nat := H / 2 ^ (40 - 8 * i) % 256
theorem hdB_lt (H i : Nat) : hdB H i < 256 := Nat.mod_lt _ (by decide)
def hdL (u s ap pt ct n : Nat) : List Nat := tab 6 (hdB (hdN u s ap pt ct n))
theorem shr_val (H k : Nat) (hH : H < 18446744073709551616) (hk : k < 6) : IntKind.u8.wrap ((H : Int) / 2 ^ (40 - 8 * k)) = (hdB H k : Int) := by
  rw [IntKind.wrap_u8']
  unfold hdB
  have e : ((H : Int) / 2 ^ (40 - 8 * k)) = ((H / 2 ^ (40 - 8 * k) : Nat) : Int) := by simp
  rw [e]
  omega
theorem toNat_le (b : Bool) : b.toNat < 2 := by cases b <;> decide
set_option maxHeartbeats 4000000 in
theorem headOf_any (up se : Bool) (ap pt ct : Nat) (a : Option Addr) (n cap : Nat) (w : World) (hap : ap < 2048) (hpt : pt < 4) (hct : ct < 16384) (hn1 : 1 ≤ n) (hn2 : n ≤ 65536) :
    Calls Try.prog 73 #[pkV up se ap pt ct a n cap] w fun e w' => ∃ a' c', e = .returned (.slice a' 6 c') ∧ Ans w' w.heap.size a' 6 c' (hdL up.toNat se.toNat ap pt ct n) ∧ w.grownBy w' none := by
  unfold pkV hdL
  have hu := toNat_le up
  have hs := toNat_le se
  obtain ⟨H, hH⟩ : ∃ H, H = hdN up.toNat se.toNat ap pt ct n := ⟨_, rfl⟩
  rw [← hH]
  have HH : Hid (H = hdN up.toNat se.toNat ap pt ct n) := hH
  clear hH
  have b0 := BxP.new w up se ap pt ct a n cap
  have g0 := World.grownBy_alloc w (.cells #[.bool up, .bool se, .int .i64 ap, .int .i64 pt, .int .i64 ct, .slice a n cap] 64) none
  generalize hw0 : w.alloc (.cells #[.bool up, .bool se, .int .i64 ap, .int .i64 pt, .int .i64 ct, .slice a n cap] 64) = w0 at b0 g0
  have hz0 : w0.heap.size = w.heap.size + 1 := by rw [← hw0]; simp
  have U0 : BxU (w0.alloc (.cells #[.int .u64 0] 120)) (w.heap.size + 1) 0 := by rw [← hz0]; exact BxU.new w0 0
  have g1 := World.grownBy_alloc w0 (.cells #[.int .u64 0] 120) none
  have b1 := b0.keep g1 (by simp)
  have hne : some w.heap.size ≠ some (w.heap.size + 1) := by simp
  have t1 : True := trivial
  obtain ⟨i0, hi, hi0, hi1, hi2⟩ : ∃ i0, Try.prog.info? 5 = some i0 ∧ i0.zero = some (.int .u8 0) ∧ i0.size = 1 ∧ i0.bytes = 1 := by
    have h := Try.info_u8
    cases hh : Try.prog.info? 5 with
    | none => rw [hh] at h; simp at h
    | some i0 => rw [hh] at h; simp at h; exact ⟨i0, rfl, h.1, h.2.1, h.2.2⟩
  go_enter Try.func73, Try.ntmps73
  go_wp2_with (first
    | (go_at_call 84; have _t := t1; clear t1; refine (put_int _ _ 3 0 _ 0 _ rfl rfl U0 (by decide) (by decide) (by decide)).mono ?_; rintro e w1 ⟨rfl, U1, g2⟩; have b2 := b1.keep g2 hne; clear U0; obtain ⟨c0, c1, c2, c3, c4, c5⟩ := b2.cell; have t2 : True := trivial)
    | (go_at_call 85; have _t := t2; clear t2; refine (flag_any _ _).mono ?_; rintro e wx ⟨rfl, hw⟩; have hw := hw.symm; subst hw; have t3 : True := trivial)
    | (go_at_call 84; have _t := t3; clear t3; refine (put_int _ _ 1 up.toNat _ _ _ rfl rfl U1 (by decide) (by omega) (by omega)).mono ?_; rintro e w2 ⟨rfl, U2, g3⟩; have b3 := b2.keep g3 hne; clear U1 c0 c1 c2 c3 c4 c5; obtain ⟨c0, c1, c2, c3, c4, c5⟩ := b3.cell; have t4 : True := trivial)
    | (go_at_call 85; have _t := t4; clear t4; refine (flag_any _ _).mono ?_; rintro e wx ⟨rfl, hw⟩; have hw := hw.symm; subst hw; have t5 : True := trivial)
    | (go_at_call 84; have _t := t5; clear t5; refine (put_int _ _ 1 se.toNat _ _ _ rfl rfl U2 (by decide) (by omega) (by omega)).mono ?_; rintro e w3 ⟨rfl, U3, g4⟩; have b4 := b3.keep g4 hne; clear U2 c0 c1 c2 c3 c4 c5; obtain ⟨c0, c1, c2, c3, c4, c5⟩ := b4.cell; have t6 : True := trivial)
    | (go_at_call 84; have _t := t6; clear t6; refine (put_int _ _ 11 ap _ _ _ rfl rfl U3 (by decide) (by omega) (by omega)).mono ?_; rintro e w4 ⟨rfl, U4, g5⟩; have b5 := b4.keep g5 hne; clear U3 c0 c1 c2 c3 c4 c5; obtain ⟨c0, c1, c2, c3, c4, c5⟩ := b5.cell; have t7 : True := trivial)
    | (go_at_call 84; have _t := t7; clear t7; refine (put_int _ _ 2 pt _ _ _ rfl rfl U4 (by decide) (by omega) (by omega)).mono ?_; rintro e w5 ⟨rfl, U5, g6⟩; have b6 := b5.keep g6 hne; clear U4 c0 c1 c2 c3 c4 c5; obtain ⟨c0, c1, c2, c3, c4, c5⟩ := b6.cell; have t8 : True := trivial)
    | (go_at_call 84; have _t := t8; clear t8; refine (put_int _ _ 14 ct _ _ _ rfl rfl U5 (by decide) (by omega) (by omega)).mono ?_; rintro e w6 ⟨rfl, U6, g7⟩; have b7 := b6.keep g7 hne; clear U5 c0 c1 c2 c3 c4 c5; obtain ⟨c0, c1, c2, c3, c4, c5⟩ := b7.cell; have t9 : True := trivial)
    | (go_at_call 84; have _t := t9; clear t9; refine (put_int _ _ 16 (n - 1) _ _ _ rfl (by omega) U6 (by decide) (by omega) (by omega)).mono ?_; rintro e w7 ⟨rfl, U7, g8⟩; have b8 := b7.keep g8 hne; clear U6 c0 c1 c2 c3 c4 c5; obtain ⟨c0, c1, c2, c3, c4, c5⟩ := b8.cell; have t10 : True := trivial)
    | (at_make; have _t := t10; clear t10; refine wpList_make_own _ rfl _ _ 22 rfl w.heap.size 5 i0 (.int .u8 0) 1 Try.underlying22 hi hi0 hi1 .i64 .i64 (6 + (n : Int)) (6 + n) rfl rfl (by omega) (by rw [hi2]; omega) (by unfold maxLen; omega) (Nat.le_trans g0.size (Nat.le_trans g1.size (Nat.le_trans g2.size (Nat.le_trans g3.size (Nat.le_trans g4.size (Nat.le_trans g5.size (Nat.le_trans g6.size (Nat.le_trans g7.size g8.size)))))))) ?_; intro w8 hown8 g9))
  have hsz8 : w.heap.size + 1 < w8.heap.size := Nat.lt_of_lt_of_le U7.lt g9.size
  have U8 := U7.keep g9 (by simp)
  have HE : ((((((0 * 2 ^ 3 + 0) * 2 ^ 1 + up.toNat) * 2 ^ 1 + se.toNat) * 2 ^ 11 + ap) * 2 ^ 2 + pt) * 2 ^ 14 + ct) * 2 ^ 16 + (n - 1) = H := by rw [HH.out]; unfold hdN hd1; omega
  have HLt : H < 18446744073709551616 := by rw [HH.out]; unfold hdN hd1; omega
  have U8w := U7
  rw [HE] at U8 U8w
  have hsw7 : w.heap.size ≤ w7.heap.size := by have := U7.lt; omega
  have hA8 := own_nil w8 w.heap.size _ _ hown8 hsw7
  have gx : w.grownBy w7 none := by
    have h1 := grown_trans g0 g1
    have h2 := grown_far h1 g2 (fun g e => by cases e; omega)
    have h3 := grown_far h2 g3 (fun g e => by cases e; omega)
    have h4 := grown_far h3 g4 (fun g e => by cases e; omega)
    have h5 := grown_far h4 g5 (fun g e => by cases e; omega)
    have h6 := grown_far h5 g6 (fun g e => by cases e; omega)
    have h7 := grown_far h6 g7 (fun g e => by cases e; omega)
    exact grown_far h7 g8 (fun g e => by cases e; omega)
  have hM8 : Mine w7 none (some ⟨w7.heap.size, 0, none⟩) 0 (6 + n) := fun g e => by
    have e' : w7.heap.size = g := Option.some.inj e
    exact .inr (by omega)
  have g9' := g9
  clear HE g0 g1 g2 g3 g4 g5 g6 g7 g8 b0 b1 b2 b3 b4 b5 b6 b7 b8 c0 c1 c2 c3 c4 c5 hown8 hz0
  go_loopw [5, 6] (fun out pl wr => ∃ (k : Nat) (ao : Option Addr) (co : Nat), k ≤ 6 ∧ pl = .int .i64 (40 - 8 * (k : Int)) ∧ out = .slice ao k co ∧ Ans wr w.heap.size ao k co (tab k (hdB H)) ∧ w7.grownBy wr none ∧ Mine w7 none ao k co) (fun out pl _ => (intOf pl + 8).toNat)
  case atStart => exact ⟨0, _, _, by omega, rfl, rfl, hA8, g9, hM8⟩
  case round =>
    obtain ⟨k, ao, co, hk, rfl, rfl, hA, hG, hM⟩ := hrel
    by_cases hlt : k < 6
    · obtain ⟨p, hp⟩ : ∃ p : Nat, (40 : Int) - 8 * (k : Int) = p := ⟨40 - 8 * k, by omega⟩
      rw [hp]
      have HP : Hid ((40 : Int) - 8 * (k : Int) = p) := hp
      have hp40 : p ≤ 40 := by omega
      have hp2 : 40 - 8 * k = p := by omega
      have hv := shr_val H k HLt hlt
      rw [hp2] at hv
      have hv2 : IntKind.u8.wrap ((H : Int) / 2 ^ p) = (hdB H k : Int) := hv
      clear hp hp2 hv
      have hU := (U8w.keep hG (by simp)).cell
      have hlo : w.heap.size ≤ w7.heap.size := hsw7
      go_wp2_with (at_builtin; refine wpList_push2 w7 wr rfl (.tmp 47) (.tmp 52) rfl ao k co (hdB H k) w.heap.size none _ rfl hA hG hM hlo (hdB_lt _ _) rfl (by omega) ?_; intro gy cy w9 hA9 hG9 hM9)
      go_roundw
      case rel =>
        rw [← tab_succ] at hA9
        exact ⟨k + 1, _, cy, by omega, by have := HP.out; go_num, rfl, hA9, hG9, hM9⟩
      case measure => simp [intOf]; omega
    · obtain rfl : k = 6 := by omega
      go_wp2
      go_ret
      exact ⟨_, _, rfl, hA, grown_trans gx hG⟩

/-- 'append(v, x...)', v an answer, x other bytes, in a region that draws -/
theorem step_join (w0 w : World) {ops : Array Oper} {o : Oper} {a : Act} {K : Act → World → Prop} {Q : Exit → Act → World → Prop} {E : Prop} (hg : o.guard = none) (s x : Operand)
    (hop : o.op = Op.call { callee := .builtin .append, args := #[s, x], argTypes := #[22, 22] }) (ao : Option Addr) (m co lo : Nat) (r : Option Nat) (D : List Nat) (hs : a.eval s = .slice ao m co)
    (hA : Ans w lo ao m co D) (hG : w0.grownBy w r) (hM : Mine w0 r ao m co) (hlo : lo ≤ w0.heap.size) (ax : Option Addr) (nx cx : Nat) (X : List Nat) (hx : a.eval x = .slice ax nx cx) (hR : Rd w ax nx cx X) (h0 : 0 < nx) (hb : m + nx ≤ 140737488355328)
    (hK : ∀ gx cx w', Ans w' lo (some ⟨gx, 0, none⟩) (m + nx) cx (D ++ X) → w0.grownBy w' r → Mine w0 r (some ⟨gx, 0, none⟩) (m + nx) cx → K (a.put o.dst (.slice (some ⟨gx, 0, none⟩) (m + nx) cx)) w') :
    if Region.wanted o (yielded ops a.tmps) = true then Oper.wp Try.prog o a w K Q else E := by
  obtain ⟨b, off, rfl, _, _⟩ := hR.at' h0
  refine step_apB _ hg s x hop (.slice ao m co) m (bys D) hs hA.own ⟨b, off, none⟩ nx cx (bys X) hx (by rw [bys_length, hR.len]) (rd_news hR h0) (bys_one _) h0 hb ?_
  intro gx cx' w2 hgx hgr2 hown2 _
  rw [bys_app] at hown2
  have hG2 := grown_mine hG hgr2 hM
  have hsz := hG.size
  refine hK gx cx' w2 ⟨hown2, isB_append hA.byte hR.byte, fun g h => ?_⟩ hG2 (fun g h => ?_)
  · have e : gx = g := Option.some.inj h
    subst e
    rcases hgx with h | h
    · exact hA.new gx h
    · exact Nat.le_trans hlo (Nat.le_trans hsz h)
  · have e : gx = g := Option.some.inj h
    subst e
    rcases hgx with h | h
    · exact hM gx h
    · exact .inr (Nat.le_trans hsz h)
/-- what Encode answers -/
def encP (up se : Bool) (ap pt ct : Int) (D : List Nat) : List Nat := if mayE ap pt ct D.length = 0 then hdL up.toNat se.toNat ap.toNat pt.toNat ct.toNat D.length ++ D else []
theorem mayE_ok {ap pt ct : Int} {n : Nat} (h : mayE ap pt ct n = 0) : ((0 ≤ ap ∧ ap ≤ 2047) ∧ (0 ≤ pt ∧ pt ≤ 3) ∧ (0 ≤ ct ∧ ct ≤ 16383)) ∧ 1 ≤ n ∧ n ≤ 65536 := by
  unfold mayE at h
  by_cases h1 : (0 ≤ ap ∧ ap ≤ 2047) ∧ (0 ≤ pt ∧ pt ≤ 3) ∧ (0 ≤ ct ∧ ct ≤ 16383)
  · rw [if_pos h1] at h
    by_cases h2 : n = 0 ∨ 65536 < n
    · rw [if_pos h2] at h; omega
    · exact ⟨h1, by omega, by omega⟩
  · rw [if_neg h1] at h; omega
theorem hdL_len (u s ap pt ct n : Nat) : (hdL u s ap pt ct n).length = 6 := tab_len _ _
set_option maxHeartbeats 4000000 in
theorem encode_any (up se : Bool) (ap pt ct : Int) (a : Option Addr) (n cap : Nat) (D : List Nat) (w : World) (hR : Rd w a n cap D) :
    Calls Try.prog 40 #[pkV up se ap pt ct a n cap] w fun e w' => ∃ a' n' c', e = .returned (.tuple #[.slice a' n' c', .int .i64 (mayE ap pt ct n : Nat)]) ∧ Ans w' w.heap.size a' n' c' (encP up se ap pt ct D) ∧ w.grownBy w' none := by
  have HL : Hid (D.length = n) := hR.len
  have b0 := BxP.new w up se ap pt ct a n cap
  have g0 := World.grownBy_alloc w (.cells #[.bool up, .bool se, .int .i64 ap, .int .i64 pt, .int .i64 ct, .slice a n cap] 64) none
  by_cases hE : mayE ap pt ct n = 0
  · obtain ⟨⟨⟨a1, a2⟩, ⟨p1, p2⟩, c1, c2⟩, n1, n2⟩ := mayE_ok hE
    obtain ⟨ap', rfl⟩ := Int.eq_ofNat_of_zero_le a1
    obtain ⟨pt', rfl⟩ := Int.eq_ofNat_of_zero_le p1
    obtain ⟨ct', rfl⟩ := Int.eq_ofNat_of_zero_le c1
    have HEn : Hid (encP up se (ap' : Int) (pt' : Int) (ct' : Int) D = hdL up.toNat se.toNat ap' pt' ct' n ++ D) := by
      show _ = _
      unfold encP
      rw [HL.out, if_pos hE]; rfl
    have hwr := fun wz => wrong_any up se (ap' : Int) (pt' : Int) (ct' : Int) a n cap wz
    rw [hE] at hwr ⊢
    have hhd := fun wz => headOf_any up se ap' pt' ct' a n cap wz (by omega) (by omega) (by omega) n1 n2
    unfold pkV at hwr hhd ⊢
    generalize hw0 : w.alloc (.cells #[.bool up, .bool se, .int .i64 (ap' : Int), .int .i64 (pt' : Int), .int .i64 (ct' : Int), .slice a n cap] 64) = w0 at b0 g0
    have t1 : True := trivial
    obtain ⟨c0, c1', c2', c3, c4, c5⟩ := b0.cell
    go_enter Try.func40, Try.ntmps40
    go_wp2_with (first
      | (go_at_call 72; have _t := t1; clear t1; refine (hwr _).mono ?_; rintro e w1 ⟨rfl, g1⟩; have b1 := b0.keep g1 (by simp); clear c0 c1' c2' c3 c4 c5; obtain ⟨c0, c1', c2', c3, c4, c5⟩ := b1.cell; have hR1 := hR.keep (grown_trans g0 g1); have hsz1 : w.heap.size ≤ w1.heap.size := (grown_trans g0 g1).size))
    go_region_law (first
      | (go_simp; go_at_call 73; refine (hhd _).mono ?_; rintro e w2 ⟨a2', c2'', rfl, hA2, g2⟩; have g12 := grown_trans (grown_drew w1 none) g2; have hR2 := hR1.keep g12; have hM2 : Mine w1 none a2' 6 c2'' := fun g hg => .inr (hA2.new g hg); have b2 := b1.keep g12 (by simp); have c5b := b2.cell.2.2.2.2.2)
      | (refine step_join w1 w2 rfl (.tmp 11) (.tmp 13) rfl a2' 6 c2'' w1.heap.size none _ rfl hA2 g12 hM2 (Nat.le_refl _) a n cap D rfl hR2 (by omega) (by omega) ?_; intro gx cx w3 hA3 hG3 hM3))
    all_goals
      go_wp2
      go_ret2
      exact ⟨_, _, _, rfl, by rw [HEn.out]; exact hA3.wide hsz1, grown_trans (grown_trans g0 g1) hG3⟩
  · have HEn : Hid (encP up se ap pt ct D = []) := by
      show _ = _
      unfold encP
      rw [HL.out, if_neg hE]
    have hwr := fun wz => wrong_any up se ap pt ct a n cap wz
    generalize mayE ap pt ct n = E at hE hwr ⊢
    unfold pkV at hwr ⊢
    generalize hw0 : w.alloc (.cells #[.bool up, .bool se, .int .i64 ap, .int .i64 pt, .int .i64 ct, .slice a n cap] 64) = w0 at b0 g0
    have t1 : True := trivial
    obtain ⟨c0, c1', c2', c3, c4, c5⟩ := b0.cell
    have hne : (((E : Int) == 0) : Bool) = false := by simp; omega
    go_enter Try.func40, Try.ntmps40
    go_wp2_with (first
      | (go_at_call 72; have _t := t1; clear t1; refine (hwr _).mono ?_; rintro e w1 ⟨rfl, g1⟩))
    go_ret2
    exact ⟨_, _, _, rfl, by rw [HEn.out]; exact ans_nil _ _, grown_trans g0 g1⟩
end Go.Proofs.Ytlmddjkplnbadaa
