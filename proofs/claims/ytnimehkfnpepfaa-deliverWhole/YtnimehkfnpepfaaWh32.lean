import Derived.Test.YtnimehkfnpepfaaWh27
import Derived.Test.YtnimehkfnpepfaaWh20
namespace Go.Proofs.Ytnimehkfnpepfaa
open Go.RowKit
set_option maxRecDepth 100000
set_option linter.unusedVariables false
set_option linter.unusedSimpArgs false

section
/-- k bytes from x on are noughts -/
def zrN (L : List Nat) (x : Nat) : Nat → Bool
  | 0 => true
  | k + 1 => zrN L x k && decide (nth L (x + k) = 0)
/-- .. in each of so many rows -/
def azR (L : List Nat) (G : List (Int × Int)) : Nat → Bool
  | 0 => true
  | k + 1 => azR L G k && zrN L (giF G k).1.toNat ((giF G k).2.toNat - (giF G k).1.toNat)
def fiB (L : List Nat) (F : Nat → Int × Int) (m : Nat) : Bool := decide ((L.length : Int) = rcN F m) && azR L (uqF F 0 (L.length : Int) m) (uqF F 0 (L.length : Int) m).length
theorem zrN_no {L : List Nat} {x k : Nat} (h : nth L (x + k) ≠ 0) : ∀ n, k < n → zrN L x n = false := by
  intro n
  induction n with
  | zero => intro h; omega
  | succ n ih =>
    intro hk
    show (zrN L x n && _) = false
    by_cases e : k = n
    · subst e; rw [decide_eq_false h, Bool.and_false]
    · rw [ih (by omega), Bool.false_and]
theorem azR_no {L : List Nat} {G : List (Int × Int)} {k : Nat} (h : zrN L (giF G k).1.toNat ((giF G k).2.toNat - (giF G k).1.toNat) = false) : ∀ n, k < n → azR L G n = false := by
  intro n
  induction n with
  | zero => intro h; omega
  | succ n ih =>
    intro hk
    show (azR L G n && _) = false
    by_cases e : k = n
    · subst e; rw [h, Bool.and_false]
    · rw [ih (by omega), Bool.false_and]
/-- rows lie within -/
theorem uqL_in {F : Nat → Int × Int} {hi : Int} : ∀ n, Rise F n → ∀ p, p ∈ uqL F 0 hi n → 0 ≤ p.1 ∧ p.1 < p.2 ∧ p.2 ≤ hi := by
  intro n
  induction n with
  | zero => intro _ p hp; cases hp
  | succ n ih =>
    intro h p hp
    have hp : p ∈ (if uqA F 0 n < minI (F n).1 hi then uqL F 0 hi n ++ [(uqA F 0 n, minI (F n).1 hi)] else uqL F 0 hi n) := hp
    by_cases e : uqA F 0 n < minI (F n).1 hi
    · rw [if_pos e] at hp
      rcases List.mem_append.1 hp with hp | hp
      · exact ih (rise_pre h) p hp
      · rw [List.mem_singleton.1 hp]
        refine ⟨(uqA_rise n (rise_pre h)).1, e, ?_⟩
        show minI (F n).1 hi ≤ hi
        unfold minI
        by_cases e2 : (F n).1 ≤ hi
        · rw [if_pos e2]; exact e2
        · rw [if_neg e2]; omega
    · rw [if_neg e] at hp; exact ih (rise_pre h) p hp
theorem uqF_in {F : Nat → Int × Int} {hi : Int} {n : Nat} (h : Rise F n) : ∀ p, p ∈ uqF F 0 hi n → 0 ≤ p.1 ∧ p.1 < p.2 ∧ p.2 ≤ hi := by
  intro p hp
  unfold uqF at hp
  by_cases e : uqA F 0 n < hi
  · rw [if_pos e] at hp
    rcases List.mem_append.1 hp with hp | hp
    · exact uqL_in n h p hp
    · rw [List.mem_singleton.1 hp]
      exact ⟨(uqA_rise n h).1, e, by show hi ≤ hi; omega⟩
  · rw [if_neg e] at hp; exact uqL_in n h p hp
theorem uqL_len {F : Nat → Int × Int} {lo hi : Int} : ∀ n, (uqL F lo hi n).length ≤ n := by
  intro n
  induction n with
  | zero => exact Nat.le_refl _
  | succ n ih =>
    show (if uqA F lo n < minI (F n).1 hi then uqL F lo hi n ++ [_] else uqL F lo hi n).length ≤ _
    by_cases e : uqA F lo n < minI (F n).1 hi
    · rw [if_pos e, List.length_append]; show _ + 1 ≤ _; omega
    · rw [if_neg e]; omega
theorem uqF_len {F : Nat → Int × Int} {lo hi : Int} {n : Nat} : (uqF F lo hi n).length ≤ n + 1 := by
  have := uqL_len (F := F) (lo := lo) (hi := hi) n
  unfold uqF
  by_cases e : uqA F lo n < hi
  · rw [if_pos e, List.length_append]; show _ + 1 ≤ _; omega
  · rw [if_neg e]; omega

set_option maxHeartbeats 32000000 in
theorem fileMay_any (id : Int) (kn : Bool) (nm : ByteArray) (si : Int) (en : Bool) (la su : Int) (q : Option Addr) (m d : Nat) (a : Option Addr) (n c : Nat) (st ti pa tr li : Int) (F : Nat → Int × Int) (L : List Nat) (w : World) (hL : Rd w a n c L) (hG : RdG w q m d F) (hR : Rise F m) (hm : m ≤ 100000) (hn : n ≤ 140737488351232) :
    Calls Try.prog 102 #[.agg (tkA id kn nm si en la su (.slice q m d) (.slice a n c) st ti pa tr li)] w fun e w' => e = .returned (.bool (fiB L F m)) ∧ w.grownBy w' none := by
  have i2 := Try.info_sp
  have u2 := Try.underlying82
  have b1 := BxS.new w 48 #[.int .i64 id, .bool kn, .string nm, .int .i64 si, .bool en, .int .i64 la, .int .i64 su, .slice q m d, .slice a n c, .int .i64 st, .int .i64 ti, .int .i64 pa, .int .i64 tr, .int .i64 li]
  have y1 := World.grownBy_alloc w (.cells #[.int .i64 id, .bool kn, .string nm, .int .i64 si, .bool en, .int .i64 la, .int .i64 su, .slice q m d, .slice a n c, .int .i64 st, .int .i64 ti, .int .i64 pa, .int .i64 tr, .int .i64 li] 48) none
  unfold tkA
  generalize hw1 : w.alloc (.cells #[.int .i64 id, .bool kn, .string nm, .int .i64 si, .bool en, .int .i64 la, .int .i64 su, .slice q m d, .slice a n c, .int .i64 st, .int .i64 ti, .int .i64 pa, .int .i64 tr, .int .i64 li] 48) = w1 at b1 y1
  have hLn : L.length = n := hL.len
  have HX : Hid (fiB L F m = (decide ((n : Int) = rcN F m) && azR L (uqF F 0 (n : Int) m) (uqF F 0 (n : Int) m).length)) := by show _ = _; unfold fiB; rw [hLn]
  rw [HX.out]
  obtain ⟨rc, hrc⟩ : ∃ rc, rcN F m = rc := ⟨_, rfl⟩
  have HIN : Hid (∀ p, p ∈ uqF F 0 (n : Int) m → 0 ≤ p.1 ∧ p.1 < p.2 ∧ p.2 ≤ (n : Int)) := uqF_in hR
  have HUL : Hid ((uqF F 0 (n : Int) m).length ≤ m + 1) := uqF_len
  rw [hrc]
  go_enter Try.func102, Try.ntmps102
  refine wp_seq_k fun K1 hK1 => ?_
  have HK1 : Hid _ := hK1
  clear hK1
  go_wp2
  refine HK1.out _ _ ?_
  clear HK1
  clear hw1
  obtain ⟨g1, hg1⟩ : ∃ g1, w.heap.size = g1 := ⟨_, rfl⟩
  rw [hg1] at b1 ⊢
  have Gd := grown_drew w1 none
  have SS : BxS w1.drew g1 48 #[.int .i64 id, .bool kn, .string nm, .int .i64 si, .bool en, .int .i64 la, .int .i64 su, .slice q m d, .slice a n c, .int .i64 st, .int .i64 ti, .int .i64 pa, .int .i64 tr, .int .i64 li] := b1.keep Gd (by simp)
  refine wp_seq_k fun K1 hK1 => ?_
  have HK1 : Hid _ := hK1
  clear hK1
  refine wp_seq_k fun K2 hK2 => ?_
  have HK2 : Hid _ := hK2
  clear hK2
  by_cases hnr : (n : Int) = rc
  · have hbn : ((n : Int) == rc) = true := by rw [hnr]; exact beq_self_eq_true _
    have hbb : ((n : Int) != rc) = false := by rw [hnr]; simp
    have HNR : Hid _ := hnr
    clear hnr
    refine wp_regionL (fun wz => BxS wz g1 48 #[.int .i64 id, .bool kn, .string nm, .int .i64 si, .bool en, .int .i64 la, .int .i64 su, .slice q m d, .slice a n c, .int .i64 st, .int .i64 ti, .int .i64 pa, .int .i64 tr, .int .i64 li]) [] #[false, false, false, false, false, false, false] rfl (by kernel_rfl) ?_
    refine wpAnyZ_take [] 0 (.pointer (some ⟨g1, 8, none⟩)) rfl (by kernel_rfl) (fun _ _ _ h => h) SS rfl (by intro wz hz; go_simp) ?_
    try simp only [zc1, zc2, zc3, Act.put, zc4, zc5, zc6]
    refine wpAnyZ_take [] 1 (.slice a n c) rfl (by kernel_rfl) (fun _ _ _ h => h) SS rfl (by intro wz hz; have z : wz.cell? ⟨g1, 8, none⟩ = some (.slice a n c) := hz.cell 8 (by show 8 < 14; decide); go_simp) ?_
    try simp only [zc1, zc2, zc3, Act.put, zc4, zc5, zc6]
    refine wpAnyZ_take [] 2 (.int .i64 (n : Int)) rfl (by kernel_rfl) (fun _ _ _ h => h) SS rfl (by intro wz hz; go_simp) ?_
    try simp only [zc1, zc2, zc3, Act.put, zc4, zc5, zc6]
    refine wpAnyZ_take [] 3 (.pointer (some ⟨g1, 7, none⟩)) rfl (by kernel_rfl) (fun _ _ _ h => h) SS rfl (by intro wz hz; go_simp) ?_
    try simp only [zc1, zc2, zc3, Act.put, zc4, zc5, zc6]
    refine wpAnyZ_take [] 4 (.slice q m d) rfl (by kernel_rfl) (fun _ _ _ h => h) SS rfl (by intro wz hz; have z : wz.cell? ⟨g1, 7, none⟩ = some (.slice q m d) := hz.cell 7 (by show 7 < 14; decide); go_simp) ?_
    try simp only [zc1, zc2, zc3, Act.put, zc4, zc5, zc6]
    refine wpAnyZ_oneB 5 rfl (by kernel_rfl) (fun KK hKK => ?_)
    go_simp
    go_at_call 118
    refine (reach_any q m d F _ ((hG.keep y1).keep Gd) (by omega)).mono ?_
    rintro e w3 ⟨rfl, hw⟩
    have hw := hw.symm
    subst hw
    dsimp only
    rw [hrc]
    refine hKK _ _ (fun _ => SS) ?_
    try simp only [zc1, zc2, zc3, Act.put, zc4, zc5, zc6]
    refine wpAnyZ_take [] 6 (.bool false) rfl (by kernel_rfl) (fun _ _ _ h => h) SS rfl (by intro wz hz; go_simp) ?_
    try simp only [zc1, zc2, zc3, Act.put, zc4, zc5, zc6]
    refine wpAnyZ_doneB (by kernel_rfl) ?_ _
    refine HK2.out _ _ ?_
    clear HK2
    refine wp_cond_false rfl ?_
    refine wp_skip ?_
    try simp only [Exit.then]
    refine HK1.out _ _ ?_
    clear HK1
    have G1 := grown_trans y1 Gd
    clear b1 y1 Gd hbn hbb
    generalize w1.drew = w2 at *
    have x7 : w2.cell? ⟨g1, 7, none⟩ = some (.slice q m d) := SS.cell 7 (by show 7 < 14; decide)
    have x8 : w2.cell? ⟨g1, 8, none⟩ = some (.slice a n c) := SS.cell 8 (by show 8 < 14; decide)
    have HPOST : Hid (∀ bb : Bool, azR L (uqF F 0 (n : Int) m) (uqF F 0 (n : Int) m).length = bb → (decide ((n : Int) = rc) && azR L (uqF F 0 (n : Int) m) (uqF F 0 (n : Int) m).length) = bb) := by
      show ∀ bb, _
      intro bb hbb
      rw [hbb, decide_eq_true HNR.out, Bool.true_and]
    refine wp_seq_k fun K1 hK1 => ?_
    have HK1 : Hid _ := hK1
    clear hK1
    have s0 : True := trivial
    have kU := untold_any q m d F 0 (n : Int) w2 (hG.keep G1) hm
    obtain ⟨U, hU⟩ : ∃ U, uqF F 0 (n : Int) m = U := ⟨_, rfl⟩
    rw [hU] at kU HIN HUL HPOST
    have HU : Hid _ := hU
    clear hU
    go_wp2_with (go_at_call 119; have _t := s0; clear s0; refine Calls.mono kU ?_; rintro e w3 ⟨q3, d3, rfl, hO3, y3⟩)
    have G3 := grown_trans G1 y3
    have b13 := SS.keep y3 (by simp)
    go_loopw [22] (fun rv wr => ∃ r : Nat, r ≤ U.length ∧ rv = .int .i64 r ∧ Hid (azR L U r = true) ∧ w3.grownBy wr none) (fun rv _ => U.length - (intOf rv).toNat)
    case atStart => exact ⟨0, Nat.zero_le _, rfl, rfl, World.grownBy.refl _ _⟩
    case round =>
      obtain ⟨r, hr9, rfl, HAZ, Gr⟩ := hrel
      have hul := HUL.out
      by_cases hlt : r < U.length
      · have lr : (r : Int) < (U.length : Int) := by omega
        obtain ⟨bq, oq, rfl, hbq, hcq⟩ := ((hO3.keep Gr).rd).at' (by omega)
        obtain ⟨p0, p1⟩ := hcq r hlt
        have hin := HIN.out (giF U r) (by unfold giF; rw [List.getD_eq_getElem?_getD, List.getElem?_eq_getElem hlt]; exact List.getElem_mem _)
        obtain ⟨x, hx⟩ : ∃ x : Nat, (giF U r).1 = (x : Int) := ⟨(giF U r).1.toNat, by omega⟩
        obtain ⟨y, hy⟩ : ∃ y : Nat, (giF U r).2 = (y : Int) := ⟨(giF U r).2.toNat, by omega⟩
        have HSTP : Hid (azR L U (r + 1) = (azR L U r && zrN L x (y - x))) := by
          show (azR L U r && zrN L (giF U r).1.toNat ((giF U r).2.toNat - (giF U r).1.toNat)) = _
          rw [hx, hy, Int.toNat_natCast, Int.toNat_natCast]
        have HNO : Hid (zrN L x (y - x) = false → azR L U U.length = false) := by
          show _ → _
          intro h9
          refine azR_no (k := r) ?_ U.length hlt
          rw [hx, hy, Int.toNat_natCast, Int.toNat_natCast]
          exact h9
        rw [hx] at p0 hin
        rw [hy] at p1 hin
        have hxy : x < y := by omega
        have hyn : y ≤ n := by omega
        clear hcq hx hy hin
        obtain ⟨ga, go, hga⟩ : ∃ ga go, a = some ⟨ga, go, none⟩ := by
          obtain ⟨b, off, e, _⟩ := hL.at' (by omega)
          exact ⟨b, off, e⟩
        have hle := hL.le
        have k1 : ¬ c = x := by omega
        have k2 : (x : Int) ≤ (y : Int) := by omega
        have k3 : (y : Int) ≤ (c : Int) := by omega
        have k4 : x ≤ y := by omega
        have k5 : y ≤ c := by omega
        obtain ⟨z, hz⟩ : ∃ z, y - x = z := ⟨_, rfl⟩
        rw [hz] at HSTP HNO
        have hzb : z ≤ 140737488351232 := by omega
        have HZ : Hid _ := hz
        refine wp_seq_k fun K2 hK2 => ?_
        have HK2 : Hid _ := hK2
        clear hK2
        go_wp2
        refine HK2.out _ _ ?_
        clear HK2
        refine wp_seq_k fun K2 hK2 => ?_
        have HK2 : Hid _ := hK2
        clear hK2
        go_wp2
        refine HK2.out _ _ ?_
        clear HK2
        refine wp_seq_k fun K2 hK2 => ?_
        have HK2 : Hid _ := hK2
        clear hK2
        refine wp_block ?_
        refine wp_seq_k fun K3 hK3 => ?_
        have HK3 : Hid _ := hK3
        clear hK3
        have bn0 := BxS.new wr 82 #[.int .i64 0, .int .i64 0]
        have gn0 := World.grownBy_alloc wr (.cells #[.int .i64 0, .int .i64 0] 82) none
        generalize hw5 : wr.alloc (.cells #[.int .i64 0, .int .i64 0] 82) = w5 at bn0 gn0
        have s0 : True := trivial
        go_wp2_with (have _t := s0; clear s0; refine wpList_stX _ rfl _ (.tmp 4) (.tmp 25) rfl wr.heap.size _ _ rfl rfl bn0 i2 rfl (by simp [Value.oneCell']) ?_; intro w6 b46 u6)
        refine HK3.out _ _ ?_
        clear HK3
        have G6 : wr.grownBy w6 none := grown_far gn0 u6 (fun z e => by have e := Option.some.inj e; omega)
        obtain ⟨g4, hg4⟩ : ∃ g4, wr.heap.size = g4 := ⟨_, rfl⟩
        rw [hg4] at b46 ⊢
        clear u6 bn0 gn0 hw5 p0 p1 hg4
        obtain ⟨v0, v1⟩ := b46.cell2
        have b16 := (b13.keep Gr (by simp)).keep G6 (by simp)
        have x86 : w6.cell? ⟨g1, 8, none⟩ = some (.slice a n c) := b16.cell 8 (by show 8 < 14; decide)
        rw [hga] at x86
        have HGA : Hid _ := hga
        clear hga
        refine wp_seq_k fun K3 hK3 => ?_
        have HK3 : Hid _ := hK3
        clear hK3
        go_wp2
        refine HK3.out _ _ ?_
        clear HK3
        clear hz k1 k2 k3 k4 k5 v0 v1 x86
        go_wp2
        go_loopw [34] (fun kv wz => ∃ k : Nat, k ≤ z ∧ kv = .int .i64 k ∧ Hid (zrN L x k = true) ∧ w6.grownBy wz none) (fun kv _ => z - (intOf kv).toNat)
        case atStart => exact ⟨0, Nat.zero_le _, rfl, rfl, World.grownBy.refl _ _⟩
        case round =>
          obtain ⟨k, hk9, rfl, HZR, Gk⟩ := hrel
          have GW9 := grown_trans (grown_trans (grown_trans G3 Gr) G6) Gk
          by_cases hkz : k < z
          · have lk : (k : Int) < (z : Int) := by omega
            have hxk : x + k < n := by have := HZ.out; omega
            have pk : wr.cell? ⟨ga, go + x + k, none⟩ = some (.int .u8 (nth L (x + k) : Nat)) := by
              obtain ⟨b', off', e', _, hc'⟩ := (hL.keep GW9).at' (by omega)
              rw [HGA.out] at e'
              cases e'
              have := hc' (x + k) hxk
              rw [show go + x + k = go + (x + k) by omega]
              exact this
            have HZS : Hid (zrN L x (k + 1) = (zrN L x k && decide (nth L (x + k) = 0))) := rfl
            have HZN : Hid (nth L (x + k) ≠ 0 → zrN L x z = false) := fun h9 => zrN_no h9 z hkz
            obtain ⟨bv, hbv⟩ : ∃ bv, nth L (x + k) = bv := ⟨_, rfl⟩
            rw [hbv] at pk HZS HZN
            clear hbv
            by_cases hb0 : bv = 0
            · have HZT : Hid (zrN L x (k + 1) = true) := by show _ = _; rw [HZS.out, HZR.out, decide_eq_true hb0]; rfl
              subst hb0
              clear HZN
              go_wp2
              go_roundw
              case rel => exact ⟨k + 1, by omega, by go_num, HZT, Gk⟩
              case measure => simp [intOf] <;> omega
            · have HAF : Hid (azR L U U.length = false) := HNO.out (HZN.out hb0)
              go_wp2
              go_ret
              refine ⟨?_, GW9⟩
              rw [HU.out, HPOST.out false HAF.out]
              rfl
          · obtain rfl : k = z := by omega
            have lk : ¬ (k : Int) < (k : Int) := by omega
            have HAN : Hid (azR L U (r + 1) = true) := by show _ = _; rw [HSTP.out, HAZ.out, HZR.out]; rfl
            go_wp2
            try simp only [Exit.inBlock, Exit.then]
            refine HK2.out _ _ ?_
            clear HK2
            go_wp2
            go_roundw
            case rel => exact ⟨r + 1, by omega, by go_num, HAN, grown_trans (grown_trans (by assumption) G6) Gk⟩
            case measure => simp [intOf] <;> omega
      · obtain rfl : r = U.length := by omega
        have lr : ¬ ((U.length : Nat) : Int) < ((U.length : Nat) : Int) := by omega
        go_wp2
        try simp only [Exit.inBlock, Exit.then]
        refine HK1.out _ _ ?_
        clear HK1
        go_wp2
        try go_ret
        refine ⟨?_, grown_trans G3 Gr⟩
        rw [HU.out, HPOST.out true HAZ.out]
        rfl
  · have hbn : ((n : Int) == rc) = false := beq_eq_false_iff_ne.2 hnr
    have hbb : ((n : Int) != rc) = true := by simp [hnr]
    have HNR : Hid _ := hnr
    clear hnr
    refine wp_regionL (fun wz => BxS wz g1 48 #[.int .i64 id, .bool kn, .string nm, .int .i64 si, .bool en, .int .i64 la, .int .i64 su, .slice q m d, .slice a n c, .int .i64 st, .int .i64 ti, .int .i64 pa, .int .i64 tr, .int .i64 li]) [] #[false, false, false, false, false, false, false] rfl (by kernel_rfl) ?_
    refine wpAnyZ_take [] 0 (.pointer (some ⟨g1, 8, none⟩)) rfl (by kernel_rfl) (fun _ _ _ h => h) SS rfl (by intro wz hz; go_simp) ?_
    try simp only [zc1, zc2, zc3, Act.put, zc4, zc5, zc6]
    refine wpAnyZ_take [] 1 (.slice a n c) rfl (by kernel_rfl) (fun _ _ _ h => h) SS rfl (by intro wz hz; have z : wz.cell? ⟨g1, 8, none⟩ = some (.slice a n c) := hz.cell 8 (by show 8 < 14; decide); go_simp) ?_
    try simp only [zc1, zc2, zc3, Act.put, zc4, zc5, zc6]
    refine wpAnyZ_take [] 2 (.int .i64 (n : Int)) rfl (by kernel_rfl) (fun _ _ _ h => h) SS rfl (by intro wz hz; go_simp) ?_
    try simp only [zc1, zc2, zc3, Act.put, zc4, zc5, zc6]
    refine wpAnyZ_take [] 3 (.pointer (some ⟨g1, 7, none⟩)) rfl (by kernel_rfl) (fun _ _ _ h => h) SS rfl (by intro wz hz; go_simp) ?_
    try simp only [zc1, zc2, zc3, Act.put, zc4, zc5, zc6]
    refine wpAnyZ_take [] 4 (.slice q m d) rfl (by kernel_rfl) (fun _ _ _ h => h) SS rfl (by intro wz hz; have z : wz.cell? ⟨g1, 7, none⟩ = some (.slice q m d) := hz.cell 7 (by show 7 < 14; decide); go_simp) ?_
    try simp only [zc1, zc2, zc3, Act.put, zc4, zc5, zc6]
    refine wpAnyZ_oneB 5 rfl (by kernel_rfl) (fun KK hKK => ?_)
    go_simp
    go_at_call 118
    refine (reach_any q m d F _ ((hG.keep y1).keep Gd) (by omega)).mono ?_
    rintro e w3 ⟨rfl, hw⟩
    have hw := hw.symm
    subst hw
    dsimp only
    rw [hrc]
    refine hKK _ _ (fun _ => SS) ?_
    try simp only [zc1, zc2, zc3, Act.put, zc4, zc5, zc6]
    refine wpAnyZ_take [] 6 (.bool true) rfl (by kernel_rfl) (fun _ _ _ h => h) SS rfl (by intro wz hz; go_simp) ?_
    try simp only [zc1, zc2, zc3, Act.put, zc4, zc5, zc6]
    refine wpAnyZ_doneB (by kernel_rfl) ?_ _
    refine HK2.out _ _ ?_
    clear HK2
    refine wp_cond_true rfl ?_
    clear HK1
    go_wp2
    try simp only [Exit.then]
    try go_ret
    refine ⟨?_, grown_trans y1 Gd⟩
    rw [decide_eq_false HNR.out, Bool.false_and]
    rfl
end

section
/-- .. in each row of a list -/
def azA (L : List Nat) (G : List (Int × Int)) : Bool := G.all (fun p => zrN L p.1.toNat (p.2.toNat - p.1.toNat))
theorem azR_take {L : List Nat} {G : List (Int × Int)} : ∀ k, k ≤ G.length → azR L G k = azA L (G.take k) := by
  intro k
  induction k with
  | zero => intro _; rw [List.take_zero]; rfl
  | succ k ih =>
    intro h
    have e : G.take (k + 1) = G.take k ++ [giF G k] := by
      rw [List.take_add_one]
      unfold giF
      rw [List.getD_eq_getElem?_getD, List.getElem?_eq_getElem (by omega)]
      rfl
    show (azR L G k && _) = _
    rw [ih (by omega), e]
    unfold azA
    rw [List.all_append, List.all_cons, List.all_nil, Bool.and_true]
theorem azR_all {L : List Nat} {G : List (Int × Int)} : azR L G G.length = azA L G := by
  rw [azR_take _ (Nat.le_refl _), List.take_length]
/-- is every byte that has not come a nought? -/
def byB (L : List Nat) (b : Nat → Bool) : Nat → Bool
  | 0 => true
  | i + 1 => byB L b i && (b i || decide (nth L i = 0))
theorem exR_in {l : List (Int × Int)} {i : Nat} (h : ∀ p, p ∈ l → 0 ≤ p.1 ∧ p.1 < p.2 ∧ p.2 ≤ (i : Int)) : ∀ p, p ∈ exR l i → 0 ≤ p.1 ∧ p.1 < p.2 ∧ p.2 ≤ (i : Int) + 1 := by
  intro p hp
  rcases List.eq_nil_or_concat l with e | ⟨l', x, e⟩
  · subst e
    rw [exR_new (fun p hp => by cases hp)] at hp
    rw [List.nil_append, List.mem_singleton] at hp
    subst hp
    exact ⟨by show (0 : Int) ≤ (i : Int); omega, by show (i : Int) < (i : Int) + 1; omega, Int.le_refl _⟩
  · rw [List.concat_eq_append] at e
    subst e
    have hx := h x (by simp)
    by_cases ex : x.2 = (i : Int)
    · obtain ⟨x1, x2⟩ := x
      have ex : x2 = (i : Int) := ex
      subst ex
      rw [exR_more] at hp
      rcases List.mem_append.1 hp with hp | hp
      · have := h p (by simp [hp]); exact ⟨this.1, this.2.1, by omega⟩
      · rw [List.mem_singleton] at hp
        subst hp
        have hx : 0 ≤ x1 ∧ x1 < (i : Int) ∧ _ := hx
        exact ⟨hx.1, by show x1 < (i : Int) + 1; omega, Int.le_refl _⟩
    · rw [exR_new (fun p hp => by rw [List.getLast?_concat] at hp; cases hp; exact ex)] at hp
      rcases List.mem_append.1 hp with hp | hp
      · have := h p hp; exact ⟨this.1, this.2.1, by omega⟩
      · rw [List.mem_singleton] at hp
        subst hp
        exact ⟨by show (0 : Int) ≤ (i : Int); omega, by show (i : Int) < (i : Int) + 1; omega, Int.le_refl _⟩
theorem rwN_in {b : Nat → Bool} {c : Bool} : ∀ n p, p ∈ rwN b c n → 0 ≤ p.1 ∧ p.1 < p.2 ∧ p.2 ≤ (n : Int) := by
  intro n
  induction n with
  | zero => intro p hp; cases hp
  | succ n ih =>
    intro p hp
    have hp : p ∈ (if b n = c then exR (rwN b c n) n else rwN b c n) := hp
    by_cases e : b n = c
    · rw [if_pos e] at hp
      have := exR_in ih p hp
      exact ⟨this.1, this.2.1, by omega⟩
    · rw [if_neg e] at hp
      have := ih p hp
      exact ⟨this.1, this.2.1, by omega⟩
theorem azA_ex {L l} {i : Nat} (h : ∀ p, p ∈ l → 0 ≤ p.1 ∧ p.1 < p.2 ∧ p.2 ≤ (i : Int)) : azA L (exR l i) = (azA L l && decide (nth L i = 0)) := by
  have one : zrN L ((i : Int)).toNat (((i : Int) + 1).toNat - ((i : Int)).toNat) = decide (nth L i = 0) := by
    rw [Int.toNat_natCast, show ((i : Int) + 1).toNat - i = 1 by omega]
    show (true && decide (nth L (i + 0) = 0)) = _
    rw [Bool.true_and, Nat.add_zero]
  rcases List.eq_nil_or_concat l with e | ⟨l', x, e⟩
  · subst e
    rw [exR_new (fun p hp => by cases hp)]
    unfold azA
    rw [List.all_append, List.all_cons, List.all_nil, Bool.and_true, one]
  · rw [List.concat_eq_append] at e
    subst e
    have hx := h x (by simp)
    by_cases ex : x.2 = (i : Int)
    · obtain ⟨x1, x2⟩ := x
      have ex : x2 = (i : Int) := ex
      subst ex
      have hx : 0 ≤ x1 ∧ x1 < (i : Int) ∧ _ := hx
      rw [exR_more]
      unfold azA
      rw [List.all_append, List.all_append, List.all_cons, List.all_nil, Bool.and_true, List.all_cons, List.all_nil, Bool.and_true, Bool.and_assoc]
      congr 1
      obtain ⟨y, hy⟩ : ∃ y : Nat, x1 = (y : Int) := ⟨x1.toNat, by omega⟩
      subst hy
      show zrN L ((y : Int)).toNat (((i : Int) + 1).toNat - ((y : Int)).toNat) = (zrN L ((y : Int)).toNat (((i : Int)).toNat - ((y : Int)).toNat) && _)
      rw [Int.toNat_natCast, Int.toNat_natCast, show ((i : Int) + 1).toNat - y = (i - y) + 1 by omega]
      show (zrN L y (i - y) && decide (nth L (y + (i - y)) = 0)) = _
      rw [show y + (i - y) = i by omega]
    · rw [exR_new (fun p hp => by rw [List.getLast?_concat] at hp; cases hp; exact ex)]
      unfold azA
      rw [List.all_append (xs := l' ++ [x]), List.all_cons (a := ((i : Int), (i : Int) + 1)), List.all_nil, Bool.and_true, one]
theorem rw_by {L : List Nat} {b : Nat → Bool} : ∀ n, azA L (rwN b false n) = byB L b n := by
  intro n
  induction n with
  | zero => rfl
  | succ n ih =>
    show azA L (if b n = false then exR (rwN b false n) n else rwN b false n) = (byB L b n && (b n || decide (nth L n = 0)))
    by_cases e : b n = false
    · rw [if_pos e, azA_ex (rwN_in n), ih, e, Bool.false_or]
    · rw [if_neg e, ih, Bool.not_eq_false _ |>.mp e, Bool.true_or, Bool.and_true]
/-- THE CODE'S CHECK OF A FILE IS THE DOCUMENT'S -/
theorem fi_by {L : List Nat} {F : Nat → Int × Int} {m : Nat} (hR : Rise F m) : fiB L F m = (decide ((L.length : Int) = rcN F m) && byB L (fun i => cvB F i m) L.length) := by
  unfold fiB
  rw [azR_all, ← rows_un m hR, rw_by]
end
end Go.Proofs.Ytnimehkfnpepfaa
