import Derived.Test.YtnimehkfnpepfaaWh52
import Derived.Test.YtnimehkfnpepfaaWh48
import Derived.Test.YtnimehkfnpepfaaWh50
namespace Go.Proofs.Ytnimehkfnpepfaa
open Go.RowKit
set_option maxRecDepth 100000
set_option linter.unusedVariables false
set_option linter.unusedSimpArgs false

section
theorem of_in {p m b : Nat} (h1 : p < 9) (h2 : m < 40) (h3 : b < 9) (n : Nat) : ofE 7 (1 + (p : Int)) 100 (1 + (m : Int)) (1 + (b : Int)) 3 n = if n ≤ 65536 then 0 else 1 := by
  have e1 : dsB 7 (1 + (p : Int)) 100 = true := ds_ok (by omega)
  have e2 : kwB (1 + (m : Int)) 1 1024 = true := by unfold kwB; simp; omega
  have e3 : kwB (1 + (b : Int)) 1 50 = true := by unfold kwB; simp; omega
  have e4 : kwB ((3 : Nat) : Int) 1 32 = true := by decide
  unfold ofE ofB ofC
  rw [e1, e2, e3, e4]
  by_cases h : n ≤ 65536 <;> simp [h]
theorem ds_in {p : Nat} (h1 : p < 9) : dsE 7 (1 + (p : Int)) 100 = 0 := by
  unfold dsE
  rw [ds_ok (by omega)]
  rfl
theorem offQ_any {p m b : Nat} (h1 : p < 9) (h2 : m < 40) (h3 : b < 9) (a : Option Addr) (n c : Nat) (L : List Nat) (w : World) (hL : Rd w a n c L) (E : Nat) (hE : E = if n ≤ 65536 then 0 else 1) :
    Calls Try.prog 25 #[.int .i64 7, .string (⟨#[108, 111, 103]⟩ : ByteArray), .slice a n c, .int .i64 (1 + (m : Int)), .int .i64 (1 + (b : Int)), .int .i64 (1 + (p : Int)), .int .i64 100] w fun e w' => ∃ V a' c', e = .returned (.tuple #[.agg (gvC V a' c' none 0).toArray, .int .i64 (E : Nat)]) ∧ (E = 0 → V = g00 ⟨L, (⟨#[108, 111, 103]⟩ : ByteArray), 1 + (m : Int), 1 + (b : Int), 1 + (p : Int)⟩ ∧ Ans w' w.heap.size a' V.L.length c' V.L) ∧ V.G = [] ∧ w.grownBy w' none := by
  refine (offer_any 7 (⟨#[108, 111, 103]⟩ : ByteArray) a n c (1 + (m : Int)) (1 + (b : Int)) (1 + (p : Int)) 100 L w hL).mono ?_
  intro e w' h
  rw [show ((⟨#[108, 111, 103]⟩ : ByteArray)).size = 3 from rfl, of_in h1 h2 h3 n, ← hE] at h
  obtain ⟨a', c', rfl, hA, hg⟩ := h
  refine ⟨⟨ofX E 7, ofS E (⟨#[108, 111, 103]⟩ : ByteArray), ofX E (1 + (m : Int)), ofX E (1 + (b : Int)), 0, decide (E = 0), 0, 0, ofX E (1 + (p : Int)), 0, ofX E 100, ofL E L, []⟩, a', c', rfl, fun e => ?_, rfl, hg⟩
  subst e
  exact ⟨rfl, hA⟩
theorem expQ_any {p : Nat} (h1 : p < 9) (K : Kc) (hp : K.pa = 1 + (p : Int)) (w : World) :
    Calls Try.prog 27 #[.int .i64 7, .int .i64 (1 + (p : Int)), .int .i64 100] w fun e w' => e = .returned (.tuple #[.agg (tkC (t00 K) none 0 none 0).toArray, .int .i64 0]) ∧ w.grownBy w' none := by
  refine (expect_any 7 (1 + (p : Int)) 100 w).mono ?_
  rintro e w' ⟨rfl, hg⟩
  refine ⟨?_, hg⟩
  rw [ds_in h1]
  unfold t00
  rw [hp]
  rfl
theorem pic_any (z : Nat) (n : Int) (w : World) (h1 : (-9223372036854775808 ≤ n ∧ n ≤ 9223372036854775807)) (ho : 0 < z) (ho2 : z ≤ 9223372036854775807) (y : Int) (hy : y = (z : Int)) :
    Calls Try.prog 45 #[.int .i64 n, .int .i64 y] w fun e w' => e = .returned (.int .i64 (pkQ n z : Nat)) ∧ w' = w := by
  subst hy
  exact pickQ_any n z w h1 ho ho2
theorem coF_quiet : coF 0 0 0 1000 = cq := by
  funext W
  have e1 : pkC 0 = fun _ _ => 0 := by
    funext i m
    unfold pkC
    rw [Int.zero_mul]
    have h0 : wrap64 0 = 0 := by unfold wrap64; decide
    rw [h0]
    unfold pkQ
    simp
  have e2 : btC 0 = fun _ => false := by
    funext i
    unfold btC
    rw [Int.zero_ediv]
    decide +kernel
  unfold coF
  rw [e1, e2, co_quiet]
  rfl
set_option maxHeartbeats 16000000 in
theorem whole_walk (fa : Option Addr) (fn fc : Nat) (L : List Nat) (mo bu pa : Int) (la : Option Addr) (ln lc : Nat) (F : Nat → Wv) (w : World) (hF : Rd w fa fn fc L) (hmo : (-9223372036854775808 ≤ mo ∧ mo ≤ 9223372036854775807)) (hbu : (-9223372036854775808 ≤ bu ∧ bu ≤ 9223372036854775807)) (hpa : (-9223372036854775808 ≤ pa ∧ pa ≤ 9223372036854775807)) (hl : RdWv w la ln lc F) :
    Calls Try.prog 10 #[.slice fa fn fc, .int .i64 mo, .int .i64 bu, .int .i64 pa, .slice la ln lc] w fun e w' => e = .returned (.bool true) ∧ w.grownBy w' none := by
  by_cases h60 : 60 < ln
  · have l6 : (60 : Int) < (ln : Int) := by omega
    go_enter Try.func10, Try.ntmps10
    go_wp2
    go_ret
    exact ⟨rfl, World.grownBy.refl _ _⟩
  · have l6 : ¬ (60 : Int) < (ln : Int) := by omega
    have H9p := fun wz => pic_any 9 pa wz hpa (by decide) (by decide) 9 rfl
    have H4m := fun wz => pic_any 40 mo wz hmo (by decide) (by decide) 40 rfl
    have H9b := fun wz => pic_any 9 bu wz hbu (by decide) (by decide) 9 rfl
    have kp := pkQ_lt pa 9 (by decide)
    have km := pkQ_lt mo 40 (by decide)
    have kb := pkQ_lt bu 9 (by decide)
    generalize pkQ pa 9 = p9 at *
    generalize pkQ mo 40 = m4 at *
    generalize pkQ bu 9 = b9 at *
    obtain ⟨E, hE⟩ : ∃ E : Nat, E = if fn ≤ 65536 then 0 else 1 := ⟨_, rfl⟩
    have HOf := fun wz hz => offQ_any kp km kb fa fn fc L wz hz E hE
    obtain ⟨T0, hT0⟩ : ∃ T, T = t00 (⟨L, (⟨#[108, 111, 103]⟩ : ByteArray), 1 + (m4 : Int), 1 + (b9 : Int), 1 + (p9 : Int)⟩ : Kc) := ⟨_, rfl⟩
    have HEx := fun wz => expQ_any kp (⟨L, (⟨#[108, 111, 103]⟩ : ByteArray), 1 + (m4 : Int), 1 + (b9 : Int), 1 + (p9 : Int)⟩ : Kc) rfl wz
    rw [← hT0] at HEx
    have HT0 : Hid _ := hT0
    clear hT0
    have HE : Hid _ := hE
    clear hE
    have hfl := hF.len
    have HFL : Hid _ := hfl
    clear hfl
    go_enter Try.func10, Try.ntmps10
    refine wp_seq_k fun K0 hK0 => ?_
    have HK0 : Hid _ := hK0
    clear hK0
    go_wp2
    refine HK0.out _ _ ?_
    clear HK0
    refine wp_seq_k fun K1 hK1 => ?_
    have HK1 : Hid _ := hK1
    clear hK1
    go_wp2
    refine HK1.out _ _ ?_
    clear HK1
    refine wp_seq_k fun K3 hK3 => ?_
    have HK3 : Hid _ := hK3
    clear hK3
    go_wp2_with (go_at_call 45; refine (H9p _).mono ?_; rintro e wx ⟨rfl, hwx⟩; rw [hwx])
    refine HK3.out _ _ ?_
    clear HK3
    have s1 : True := trivial
    refine wp_seq_k fun K4 hK4 => ?_
    have HK4 : Hid _ := hK4
    clear hK4
    go_wp2_with (first
      | (have _t := s1; clear s1; go_at_call 45; refine (H4m _).mono ?_; rintro e wx ⟨rfl, hwx⟩; rw [hwx]; have s2 : True := trivial)
      | (have _t := s2; clear s2; go_at_call 45; refine (H9b _).mono ?_; rintro e wx ⟨rfl, hwx⟩; rw [hwx]; have s3 : True := trivial)
      | (have _t := s3; clear s3; go_at_call 25; refine (HOf w hF).mono ?_; rintro e wp3 ⟨V, a1, c1, rfl, hV, hVG, y3⟩; have b4 := BxS.new wp3 44 #[.int .i64 0, .string ⟨#[]⟩, .slice none 0 0, .int .i64 0, .int .i64 0, .int .i64 0, .bool false, .int .i64 0, .slice none 0 0, .int .i64 0, .int .i64 0, .int .i64 0, .int .i64 0]; have G4 := World.grownBy_alloc wp3 (.cells #[.int .i64 0, .string ⟨#[]⟩, .slice none 0 0, .int .i64 0, .int .i64 0, .int .i64 0, .bool false, .int .i64 0, .slice none 0 0, .int .i64 0, .int .i64 0, .int .i64 0, .int .i64 0] 44) none; have s4 : True := trivial)
      | (have _t := s4; clear s4; refine wpList_stX _ rfl _ (.tmp 12) (.tmp 38) rfl wp3.heap.size _ ((gvC V a1 c1 none 0).toArray) rfl rfl b4 Try.info_gv rfl (by simp [gvC, Value.oneCell']) ?_; intro wp5 bop u5))
    refine HK4.out _ _ ?_
    clear HK4
    have Gp : w.grownBy wp5 none := grown_far (grown_trans y3 G4) u5 (fun z e => by cases e; exact y3.size)
    obtain ⟨g12, hg12⟩ : ∃ g, wp3.heap.size = g := ⟨_, rfl⟩
    rw [hg12] at bop ⊢
    have hAp : E = 0 → V = g00 (⟨L, (⟨#[108, 111, 103]⟩ : ByteArray), 1 + (m4 : Int), 1 + (b9 : Int), 1 + (p9 : Int)⟩ : Kc) ∧ Ans wp5 w.heap.size a1 V.L.length c1 V.L := fun e => ⟨(hV e).1, ((hV e).2.keep G4).kRR u5 (fun z e9 => by cases e9; exact own_ty ((hV e).2.keep G4).own b4 (by decide))⟩
    clear hg12 b4 u5 G4 y3 hV
    have s1 : True := trivial
    refine wp_seq_k fun K5 hK5 => ?_
    have HK5 : Hid _ := hK5
    clear hK5
    go_wp2_with (first
      | (have _t := s1; clear s1; go_at_call 27; refine (HEx wp5).mono ?_; rintro e wq3 ⟨rfl, y3⟩; have b4 := BxS.new wq3 48 #[.int .i64 0, .bool false, .string ⟨#[]⟩, .int .i64 0, .bool false, .int .i64 0, .int .i64 0, .slice none 0 0, .slice none 0 0, .int .i64 0, .int .i64 0, .int .i64 0, .int .i64 0, .int .i64 0]; have G4 := World.grownBy_alloc wq3 (.cells #[.int .i64 0, .bool false, .string ⟨#[]⟩, .int .i64 0, .bool false, .int .i64 0, .int .i64 0, .slice none 0 0, .slice none 0 0, .int .i64 0, .int .i64 0, .int .i64 0, .int .i64 0, .int .i64 0] 48) none; have s2 : True := trivial)
      | (have _t := s2; clear s2; refine wpList_stX _ rfl _ (.tmp 14) (.tmp 43) rfl wq3.heap.size _ ((tkC T0 none 0 none 0).toArray) rfl rfl b4 Try.info_tk rfl (by simp [tkC, Value.oneCell']) ?_; intro wq5 boq u5))
    refine HK5.out _ _ ?_
    clear HK5
    have Gq : wp5.grownBy wq5 none := grown_far (grown_trans y3 G4) u5 (fun z e => by cases e; exact y3.size)
    obtain ⟨g14, hg14⟩ : ∃ g, wq3.heap.size = g := ⟨_, rfl⟩
    rw [hg14] at boq ⊢
    clear hg14 b4 u5 G4 y3
    have bop2 := bop.keep Gq (by simp)
    have G05 := grown_trans Gp Gq
    by_cases h120 : 120 < fn
    · have l12 : (120 : Int) < (fn : Int) := by omega
      have hE := HE.out
      by_cases h65 : fn ≤ 65536
      · rw [if_pos h65] at hE
        subst hE
        go_wp2
        first | go_ret | skip
        exact ⟨rfl, G05⟩
      · rw [if_neg h65] at hE
        subst hE
        have l65 : (65536 : Int) < (fn : Int) := by omega
        go_wp2
        first | go_ret | skip
        exact ⟨rfl, G05⟩
    · have l12 : ¬ (120 : Int) < (fn : Int) := by omega
      have hE := HE.out
      rw [if_pos (by omega)] at hE
      subst hE
      obtain ⟨hV0, hA5⟩ := hAp rfl
      have HV0 : Hid _ := hV0
      clear hV0 hAp HOf H9p H4m H9b
      refine wp_seq_k fun K6 hK6 => ?_
      have HK6 : Hid _ := hK6
      clear hK6
      go_wp2
      refine HK6.out _ _ ?_
      clear HK6
      refine wp_seq_k fun K8 hK8 => ?_
      have HK8 : Hid _ := hK8
      clear hK8
      go_wp2
      refine HK8.out _ _ ?_
      clear HK8
      refine wp_seq_k fun K10 hK10 => ?_
      have HK10 : Hid _ := hK10
      clear hK10
      have s1 : True := trivial
      go_wp2_with (first
        | (have _t := s1; clear s1; refine wpList_load_mid rfl _ (.tmp 12) rfl g12 0 rfl [.int .i64 V.id, .string V.nm, .slice a1 V.L.length c1, .int .i64 V.mo, .int .i64 V.bu, .int .i64 V.st, .bool V.fi, .int .i64 V.at', .slice none V.G.length 0, .int .i64 V.ti, .int .i64 V.pa, .int .i64 V.tr, .int .i64 V.li] _ (bop2.range 0 [.int .i64 V.id, .string V.nm, .slice a1 V.L.length c1, .int .i64 V.mo, .int .i64 V.bu, .int .i64 V.st, .bool V.fi, .int .i64 V.at', .slice none V.G.length 0, .int .i64 V.ti, .int .i64 V.pa, .int .i64 V.tr, .int .i64 V.li] rfl) Try.underlying44 rfl Try.info_gv ?_; have s2 : True := trivial)
        | (have _t := s2; clear s2; refine wpList_load_mid rfl _ (.tmp 14) rfl g14 0 rfl [.int .i64 T0.id, .bool T0.kn, .string T0.nm, .int .i64 T0.si, .bool T0.en, .int .i64 T0.la, .int .i64 T0.su, .slice none T0.G.length 0, .slice none T0.L.length 0, .int .i64 T0.st, .int .i64 T0.ti, .int .i64 T0.pa, .int .i64 T0.tr, .int .i64 T0.li] _ (boq.range 0 [.int .i64 T0.id, .bool T0.kn, .string T0.nm, .int .i64 T0.si, .bool T0.en, .int .i64 T0.la, .int .i64 T0.su, .slice none T0.G.length 0, .slice none T0.L.length 0, .int .i64 T0.st, .int .i64 T0.ti, .int .i64 T0.pa, .int .i64 T0.tr, .int .i64 T0.li] rfl) Try.underlying48 rfl Try.info_tk ?_))
      refine HK10.out _ _ ?_
      clear HK10
      have hfl := HFL.out
      obtain ⟨K, hKe⟩ : ∃ K, K = (⟨L, (⟨#[108, 111, 103]⟩ : ByteArray), 1 + (m4 : Int), 1 + (b9 : Int), 1 + (p9 : Int)⟩ : Kc) := ⟨_, rfl⟩
      have hK : K.ok := by rw [hKe]; exact ⟨by show L.length ≤ 120; omega, by show 1 ≤ 3 ∧ 3 ≤ 32; omega, by show 1 ≤ 1 + (m4 : Int) ∧ 1 + (m4 : Int) ≤ 1024; omega, by show 1 ≤ 1 + (b9 : Int) ∧ 1 + (b9 : Int) ≤ 9; omega, by show 1 ≤ 1 + (p9 : Int) ∧ 1 + (p9 : Int) ≤ 9; omega⟩
      have HNM : Hid (K.nm = (⟨#[108, 111, 103]⟩ : ByteArray)) := by rw [hKe]; rfl
      have HKX : Hid (∀ wz, w.grownBy wz none → Rd wz fa fn fc K.X) := fun wz gz => by rw [hKe]; exact hF.keep gz
      have e1 := HV0.out
      have e2 := HT0.out
      rw [← hKe] at e1 e2
      clear HV0 HT0 HFL hfl hKe
      subst e1 e2
      change Code.wp Try.prog _ _ _ (wq5.alloc (.cells (crA (g00 K) a1 c1 none 0 (t00 K) none 0 none 0 (.slice none 0 0) (.slice none 0 0)) 75))
      have bc := BxS.new wq5 75 (crA (g00 K) a1 c1 none 0 (t00 K) none 0 none 0 (.slice none 0 0) (.slice none 0 0))
      have Gc := World.grownBy_alloc wq5 (.cells (crA (g00 K) a1 c1 none 0 (t00 K) none 0 none 0 (.slice none 0 0) (.slice none 0 0)) 75) none
      have G08 := grown_trans G05 Gc
      have hC0 : CM w (wq5.alloc (.cells (crA (g00 K) a1 c1 none 0 (t00 K) none 0 none 0 (.slice none 0 0) (.slice none 0 0)) 75)) wq5.heap.size ⟨g00 K, t00 K, [], []⟩ ⟨a1, c1, none, 0, none, 0, none, 0, none, 0, 0, [], none, 0, 0, []⟩ := ⟨bc, G05.size, G08, (hA5.keep Gq).keep Gc, OwGi.nil _ _, Ans.nil _ _, OwGi.nil _ _, WyM.nil _ _, WyM.nil _ _, (rfl : _ = _), (rfl : _ = _), (fun z e => by cases e)⟩
      generalize wq5.alloc (.cells (crA (g00 K) a1 c1 none 0 (t00 K) none 0 none 0 (.slice none 0 0) (.slice none 0 0)) 75) = w8 at *
      obtain ⟨gc, hgc⟩ : ∃ g, wq5.heap.size = g := ⟨_, rfl⟩
      rw [hgc] at hC0 ⊢
      clear hgc bc Gc bop bop2 boq hA5 G08 HE
      go_wp2
      go_loopw [17] (fun v17 wr => ∃ (i : Nat) (c : Cr) (X : Cx), i ≤ ln + 130000 ∧ v17 = .int .i64 i ∧ PH K ln i c ∧ CM w wr gc c X) (fun v17 _ => ln + 130000 - (intOf v17).toNat)
      case atStart => exact ⟨0, _, _, Nat.zero_le _, rfl, ph_zero hK ln, hC0⟩
      case round =>
        obtain ⟨i, c, X, hi, rfl, hPH, hC⟩ := hrel
        by_cases hlt : i < ln + 130000
        · have lj : (i : Int) < (ln : Int) + 130000 := by omega
          have hPO := ph_po (by omega) hPH
          have b18 := BxS.new wr 77 #[.int .i64 0, .int .i64 0, .int .i64 0, .int .i64 0, .int .i64 0]
          have G18 := World.grownBy_alloc wr (.cells #[.int .i64 0, .int .i64 0, .int .i64 0, .int .i64 0, .int .i64 0] 77) none
          refine wp_seq_k fun K1 hK1 => ?_
          have HK1 : Hid _ := hK1
          clear hK1
          go_wp2
          refine HK1.out _ _ ?_
          clear HK1
          refine wp_seq_k fun K2 hK2 => ?_
          have HK2 : Hid _ := hK2
          clear hK2
          refine wp_block ?_
          refine wp_seq_k fun K3 hK3 => ?_
          have HK3 : Hid _ := hK3
          clear hK3
          have s1 : True := trivial
          go_wp2_with (have _t := s1; clear s1; refine wpList_stX _ rfl _ (.tmp 18) (.tmp 72) rfl wr.heap.size _ #[.int .i64 1000, .int .i64 1000, .int .i64 0, .int .i64 0, .int .i64 0] rfl rfl b18 Try.info_wy rfl (by simp [Value.oneCell']) ?_; intro wa ba ua)
          refine HK3.out _ _ ?_
          clear HK3
          have Ga : wr.grownBy wa none := grown_far G18 ua (fun z e => by cases e; exact Nat.le_refl _)
          have hCa := hC.keep Ga
          have h18 : w.heap.size ≤ wr.heap.size := hC.gr.size
          have hge : wr.heap.size ≤ wr.heap.size := Nat.le_refl _
          obtain ⟨g18, hg18⟩ : ∃ g, wr.heap.size = g := ⟨_, rfl⟩
          rw [hg18] at ba h18 ⊢
          have hge : wr.heap.size ≤ g18 := Nat.le_of_eq hg18
          clear hg18 b18 G18 ua
          by_cases hr : i < ln
          · have lr : (i : Int) < (ln : Int) := by omega
            have hla := hl.keep hCa.gr
            obtain ⟨lb, lo, hlae, _, hlc⟩ := hla.at' (by omega)
            have hok := hl.ok i hr
            subst hlae
            have hra : wa.rangeAt lb (lo + i * 5) (F i).cells := fun j v hv => by
              have hj : j < 5 := (List.getElem?_eq_some_iff.1 hv).1
              rw [Nat.add_assoc, hlc i hr j hj]
              exact hv
            generalize F i = fi at *
            obtain ⟨fd, fu, fp, fl, fo⟩ := fi
            obtain ⟨hod, hou, _⟩ := hok
            have hra : wa.rangeAt lb (lo + i * 5) [.int .i64 fd, .int .i64 fu, .int .i64 fp, .int .i64 fl, .int .i64 fo] := hra
            have H12d := fun wz => pic_any 12 fd wz hod (by decide) (by decide) 12 rfl
            have H12u := fun wz => pic_any 12 fu wz hou (by decide) (by decide) 12 rfl
            have kd := pkQ_lt fd 12 (by decide)
            have ku := pkQ_lt fu 12 (by decide)
            generalize pkQ fd 12 = Nd at *
            generalize pkQ fu 12 = Nu at *
            clear hlc hla hod hou
            obtain ⟨q1, q2⟩ := ph_rough hK (by omega) hPH hr (p1 := pkC fp) (q1 := btC fo) (r1 := btC fl) (p2 := pkC fp) (q2 := btC fo) (r2 := btC fl) (nd := Nd) (nu := Nu) (by omega) (by omega)
            have HQ1 : Hid (PH K ln (i + 1) (crT c (coF fp fo fl Nd) (coF fp fo fl Nu))) := q1
            have q2 : (crT c (coF fp fo fl Nd) (coF fp fo fl Nu)).dn.length < 5000 := q2
            have HQ2 : Hid _ := q2
            clear q1 q2
            refine wp_seq_k fun K4 hK4 => ?_
            have HK4 : Hid _ := hK4
            clear hK4
            refine wp_seq_k fun K7 hK7 => ?_
            have HK7 : Hid _ := hK7
            clear hK7
            go_wp2
            refine HK7.out _ _ ?_
            clear HK7
            refine wp_cond_true rfl ?_
            have s1 : True := trivial
            refine wp_seq_k fun K8 hK8 => ?_
            have HK8 : Hid _ := hK8
            clear hK8
            go_wp2_with (first
              | (have _t := s1; clear s1; refine wpList_load_mid rfl _ (.tmp 79) rfl lb (lo + i * 5) rfl [.int .i64 fd, .int .i64 fu, .int .i64 fp, .int .i64 fl, .int .i64 fo] _ hra Try.underlying77 rfl Try.info_wy ?_; have s2 : True := trivial)
              | (have _t := s2; clear s2; refine wpList_stX _ rfl _ (.tmp 18) (.tmp 80) rfl g18 _ #[.int .i64 fd, .int .i64 fu, .int .i64 fp, .int .i64 fl, .int .i64 fo] rfl rfl ba Try.info_wy rfl (by simp [Value.oneCell']) ?_; intro wb bb ub))
            refine HK8.out _ _ ?_
            clear HK8
            have Gb : wr.grownBy wb none := grown_far Ga ub (fun z e => by cases e; exact hge)
            clear hra ub ba
            refine dw_r17 _ (fun _ _ _ _ e h => ⟨e.symm.trans h.1, h.2⟩) wb g18 Nd Nu fd fu fp fl fo bb H12d H12u ?_
            intro v81 v82 v83 v84 v85 v86 v87 v88 wf bf uf
            refine HK4.out _ _ ?_
            clear HK4
            have Gf : wr.grownBy wf none := grown_far Gb uf (fun z e => by cases e; exact hge)
            have hCf := hC.keep Gf
            have s1 : True := trivial
            refine wp_seq_k fun K5 hK5 => ?_
            have HK5 : Hid _ := hK5
            clear hK5
            go_wp2_with (first
              | (have _t := s1; clear s1; refine wpList_ldX _ rfl _ (.tmp 18) rfl g18 _ rfl bf Try.underlying77 Try.info_wy ?_; have s2 : True := trivial)
              | (have _t := s2; clear s2; go_at_call 46; refine (tick_cr hK w wf gc c X hCf Nd Nu fp fl fo (by omega) (by omega) hPO HQ2.out).mono ?_; rintro e w6 ⟨rfl, X6, hC6⟩))
            refine HK5.out _ _ ?_
            clear HK5
            have HSC6 : SC K (crT c (coF fp fo fl Nd) (coF fp fo fl Nu)) := (ph_po (by omega) HQ1.out).sc
            refine dw_t20 _ hK HNM.out w w6 gc _ X6 hC6 HSC6 fa fn fc (HKX.out _ hC6.gr) (some ⟨lb, lo, none⟩) ln lc i ?_ ?_
            · intro hne v19 v20 v21 v93 v94 v95 v96 v97 v98 v99 v100 v101 v102 v103 v104 v105 v106 v107 v108 v109 v110 v111 v112 v113 v114 v115 v116 v117 v118 v119 v120 v121 v122 v123 v124 v125 v126 v127 v128 v129 v130 v131 v132 v133 v134 v135 v136 v137 v138 v139 v140 v141 v142 v143 v144 v145 v146 v147 v148 v149 v150 v151 v152 v153 v154 v155 v156 v157 v158 v159 v160 v161 v162 v163 v164 v165 v166 v167 w9 hC9
              refine HK2.out _ _ ?_
              clear HK2
              go_wp2
              go_roundw
              case rel => exact ⟨i + 1, _, X6, by omega, by go_num, HQ1.out, hC9⟩
              case measure => simp [intOf] <;> omega
            · intro hye v19 v20 v21 v93 v94 v95 v96 v97 v98 v99 v100 v101 v102 v103 v104 v105 v106 v107 v108 v109 v110 v111 v112 v113 v114 v115 v116 v117 v118 v119 v120 v121 v122 v123 v124 v125 v126 v127 v128 v129 v130 v131 v132 v133 v134 v135 v136 v137 v138 v139 v140 v141 v142 v143 v144 v145 v146 v147 v148 v149 v150 v151 v152 v153 v154 v155 v156 v157 v158 v159 v160 v161 v162 v163 v164 v165 v166 v167 w9 hC9
              exact absurd hr (by omega)
          · have lr : ¬ (i : Int) < (ln : Int) := by omega
            obtain ⟨q1, q2, q3⟩ := ph_quiet hK (by omega) hPH (by omega)
            have HQ3 : Hid _ := q3
            clear q3
            refine wp_seq_k fun K4 hK4 => ?_
            have HK4 : Hid _ := hK4
            clear hK4
            go_wp2
            refine HK4.out _ _ ?_
            clear HK4
            have hcq : crT c (coF 0 0 0 1000) (coF 0 0 0 1000) = crQ c := by rw [coF_quiet]; rfl
            have s1 : True := trivial
            refine wp_seq_k fun K5 hK5 => ?_
            have HK5 : Hid _ := hK5
            clear hK5
            go_wp2_with (first
              | (have _t := s1; clear s1; refine wpList_ldX _ rfl _ (.tmp 18) rfl g18 _ rfl ba Try.underlying77 Try.info_wy ?_; have s2 : True := trivial)
              | (have _t := s2; clear s2; go_at_call 46; refine (tick_cr hK w wa gc c X hCa 1000 1000 0 0 0 (by decide) (by decide) hPO (by rw [hcq]; exact q1)).mono ?_; rintro e w6 ⟨rfl, X6, hC6⟩))
            refine HK5.out _ _ ?_
            clear HK5
            have HSC6 : SC K (crT c (coF 0 0 0 1000) (coF 0 0 0 1000)) := (by rw [hcq]; exact q2)
            refine dw_t20 _ hK HNM.out w w6 gc _ X6 hC6 HSC6 fa fn fc (HKX.out _ hC6.gr) la ln lc i ?_ ?_
            · intro hne v19 v20 v21 v93 v94 v95 v96 v97 v98 v99 v100 v101 v102 v103 v104 v105 v106 v107 v108 v109 v110 v111 v112 v113 v114 v115 v116 v117 v118 v119 v120 v121 v122 v123 v124 v125 v126 v127 v128 v129 v130 v131 v132 v133 v134 v135 v136 v137 v138 v139 v140 v141 v142 v143 v144 v145 v146 v147 v148 v149 v150 v151 v152 v153 v154 v155 v156 v157 v158 v159 v160 v161 v162 v163 v164 v165 v166 v167 w9 hC9
              refine HK2.out _ _ ?_
              clear HK2
              go_wp2
              go_roundw
              case rel => exact ⟨i + 1, _, X6, by omega, by go_num, (by rw [hcq] at hne ⊢; exact HQ3.out.resolve_left hne), hC9⟩
              case measure => simp [intOf] <;> omega
            · intro hye v19 v20 v21 v93 v94 v95 v96 v97 v98 v99 v100 v101 v102 v103 v104 v105 v106 v107 v108 v109 v110 v111 v112 v113 v114 v115 v116 v117 v118 v119 v120 v121 v122 v123 v124 v125 v126 v127 v128 v129 v130 v131 v132 v133 v134 v135 v136 v137 v138 v139 v140 v141 v142 v143 v144 v145 v146 v147 v148 v149 v150 v151 v152 v153 v154 v155 v156 v157 v158 v159 v160 v161 v162 v163 v164 v165 v166 v167 w9 hC9
              simp only [Exit.inBlock, Exit.then]; refine bodyPost_ret (results_tmp rfl _ _ _) rfl ?_; exact ⟨rfl, hC9.gr⟩
        · obtain rfl : i = ln + 130000 := by omega
          exact (ph_end hPH).elim
end
end Go.Proofs.Ytnimehkfnpepfaa
