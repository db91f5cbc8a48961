import Derived.Test.YtnimehkfnpepfaaTk12
import Derived.Test.YtnimehkfnpepfaaTk7
import Derived.Test.YtnimehkfnpepfaaTk2
import Derived.Test.YtnimehkfnpepfaaTk4
import Derived.Test.YtnimehkfnpepfaaTk9
import Derived.Test.YtnimehkfnpepfaaTk6
namespace Go.Proofs.Ytnimehkfnpepfaa
open Go.RowKit
set_option maxRecDepth 100000
set_option linter.unusedVariables false
set_option linter.unusedSimpArgs false

section
/-- behind the last byte that spans tell -/
def rcN (F : Nat → Int × Int) (m : Nat) : Int := if m = 0 then 0 else (F (m - 1)).2
/-- have all bytes come? -/
def haB (F : Nat → Int × Int) (si : Int) (m : Nat) : Bool := decide ((uqF F 0 si m).length = 0)

set_option maxHeartbeats 8000000 in
theorem reach_any (q : Option Addr) (m d : Nat) (F : Nat → Int × Int) (w : World) (hG : RdG w q m d F) (hm : m ≤ 8796093021952) :
    Calls Try.prog 118 #[.slice q m d] w fun e w' => e = .returned (.int .i64 (rcN F m)) ∧ w' = w := by
  by_cases h0 : m = 0
  · subst h0
    have HX : Hid (rcN F 0 = 0) := rfl
    rw [HX.out]
    go_enter Try.func118, Try.ntmps118
    go_wp2
    try go_ret
    exact ⟨rfl, rfl⟩
  · have HX : Hid (rcN F m = (F (m - 1)).2) := if_neg h0
    rw [HX.out]
    obtain ⟨b, off, rfl, hb, hc⟩ := hG.at' (by omega)
    obtain ⟨p0, p1⟩ := hc (m - 1) (by omega)
    obtain ⟨mm, hmm⟩ : ∃ mm, m - 1 = mm := ⟨_, rfl⟩
    rw [hmm] at p1 ⊢
    have hw : IntKind.i64.wrap ((m : Int) - 1) = (mm : Int) := by rw [show (m : Int) - 1 = (mm : Int) by omega]; exact wrap_i64_in _ (by omega) (by omega)
    have l1 : mm < m := by omega
    have l2 : (mm : Int) < (m : Int) := by omega
    have l3 : ¬ (m : Int) = 0 := by omega
    have l4 : ((m : Int) == 0) = false := beq_eq_false_iff_ne.2 l3
    have HMM : Hid _ := hmm
    clear hmm hc p0
    go_enter Try.func118, Try.ntmps118
    go_wp2
    try go_ret
    exact ⟨rfl, rfl⟩

set_option maxHeartbeats 8000000 in
theorem hasAll_any (id : Int) (kn : Bool) (nm : ByteArray) (si : Int) (en : Bool) (la su : Int) (q : Option Addr) (m d : Nat) (a : Option Addr) (n c : Nat) (st ti pa tr li : Int) (F : Nat → Int × Int) (w : World) (hG : RdG w q m d F) (hm : m ≤ 100000) :
    Calls Try.prog 120 #[.agg (tkA id kn nm si en la su (.slice q m d) (.slice a n c) st ti pa tr li)] w fun e w' => e = .returned (.bool (haB F si m)) ∧ w.grownBy w' none := by
  have b1 := BxS.new w 48 #[.int .i64 id, .bool kn, .string nm, .int .i64 si, .bool en, .int .i64 la, .int .i64 su, .slice q m d, .slice a n c, .int .i64 st, .int .i64 ti, .int .i64 pa, .int .i64 tr, .int .i64 li]
  have y1 := World.grownBy_alloc w (.cells #[.int .i64 id, .bool kn, .string nm, .int .i64 si, .bool en, .int .i64 la, .int .i64 su, .slice q m d, .slice a n c, .int .i64 st, .int .i64 ti, .int .i64 pa, .int .i64 tr, .int .i64 li] 48) none
  unfold tkA
  generalize hw1 : w.alloc (.cells #[.int .i64 id, .bool kn, .string nm, .int .i64 si, .bool en, .int .i64 la, .int .i64 su, .slice q m d, .slice a n c, .int .i64 st, .int .i64 ti, .int .i64 pa, .int .i64 tr, .int .i64 li] 48) = w1 at b1 y1
  obtain ⟨e0, e1, e2, e3, e4, e5, e6, e7, e8, e9, e10, e11, e12, e13⟩ := (b1).cell14
  have HX : Hid (haB F si m = decide ((uqF F 0 si m).length = 0)) := rfl
  rw [HX.out]
  have s0 : True := trivial
  go_enter Try.func120, Try.ntmps120
  refine wp_seq_k fun K1 hK1 => ?_
  have HK1 : Hid _ := hK1
  clear hK1
  go_wp2
  refine HK1.out _ _ ?_
  clear HK1
  refine wp_seq_k fun K1 hK1 => ?_
  have HK1 : Hid _ := hK1
  clear hK1
  go_wp2_with (go_at_call 119; have _t := s0; clear s0; refine (untold_any q m d F 0 si w1 (hG.keep y1) hm).mono ?_; rintro e w2 ⟨q2, d2, rfl, hO2, y2⟩)
  refine HK1.out _ _ ?_
  clear HK1
  go_wp2
  try go_ret
  refine ⟨?_, grown_trans y1 y2⟩
  have hx : ((((uqF F 0 si m).length : Nat) : Int) == 0) = decide ((uqF F 0 si m).length = 0) := by
    by_cases e : (uqF F 0 si m).length = 0
    · rw [decide_eq_true e, e]; rfl
    · rw [decide_eq_false e]; exact beq_eq_false_iff_ne.2 (by omega)
  rw [← hx]
  rfl

/-- in which stage a taker may be -/
def tsB (st : Int) (kn ha : Bool) : Bool := if st = 0 ∨ st = 4 then true else if st = 3 then (kn && ha) else false
set_option maxHeartbeats 8000000 in
theorem tkStage_any (id : Int) (kn : Bool) (nm : ByteArray) (si : Int) (en : Bool) (la su : Int) (q : Option Addr) (m d : Nat) (a : Option Addr) (n c : Nat) (st ti pa tr li : Int) (F : Nat → Int × Int) (w : World) (hG : RdG w q m d F) (hm : m ≤ 100000) :
    Calls Try.prog 103 #[.agg (tkA id kn nm si en la su (.slice q m d) (.slice a n c) st ti pa tr li)] w fun e w' => e = .returned (.bool (tsB st kn (haB F si m))) ∧ w.grownBy w' none := by
  have b1 := BxS.new w 48 #[.int .i64 id, .bool kn, .string nm, .int .i64 si, .bool en, .int .i64 la, .int .i64 su, .slice q m d, .slice a n c, .int .i64 st, .int .i64 ti, .int .i64 pa, .int .i64 tr, .int .i64 li]
  have y1 := World.grownBy_alloc w (.cells #[.int .i64 id, .bool kn, .string nm, .int .i64 si, .bool en, .int .i64 la, .int .i64 su, .slice q m d, .slice a n c, .int .i64 st, .int .i64 ti, .int .i64 pa, .int .i64 tr, .int .i64 li] 48) none
  unfold tkA
  generalize hw1 : w.alloc (.cells #[.int .i64 id, .bool kn, .string nm, .int .i64 si, .bool en, .int .i64 la, .int .i64 su, .slice q m d, .slice a n c, .int .i64 st, .int .i64 ti, .int .i64 pa, .int .i64 tr, .int .i64 li] 48) = w1 at b1 y1
  obtain ⟨e0, e1, e2, e3, e4, e5, e6, e7, e8, e9, e10, e11, e12, e13⟩ := (b1).cell14
  have kH := fun wz (k : RdG wz q m d F) => hasAll_any id kn nm si en la su q m d a n c st ti pa tr li F wz k hm
  unfold tkA at kH
  by_cases h0 : st = 0
  · subst h0
    have HX : Hid (tsB 0 kn (haB F si m) = true) := rfl
    rw [HX.out]
    go_enter Try.func103, Try.ntmps103
    go_wp2
    try go_ret
    exact ⟨rfl, y1⟩
  · by_cases h4 : st = 4
    · subst h4
      have HX : Hid (tsB 4 kn (haB F si m) = true) := rfl
      rw [HX.out]
      go_enter Try.func103, Try.ntmps103
      go_wp2
      try go_ret
      exact ⟨rfl, y1⟩
    · by_cases h3 : st = 3
      · subst h3
        have HX : Hid (tsB 3 kn (haB F si m) = (kn && haB F si m)) := rfl
        rw [HX.out]
        generalize haB F si m = hb at kH
        have s0 : True := trivial
        cases kn with
        | false =>
          go_enter Try.func103, Try.ntmps103
          go_wp2
          try go_ret
          exact ⟨rfl, y1⟩
        | true =>
          go_enter Try.func103, Try.ntmps103
          go_wp2_with (go_at_call 120; have _t := s0; clear s0; refine (kH w1 (hG.keep y1)).mono ?_; rintro e w2 ⟨rfl, y2⟩)
          try go_ret
          exact ⟨rfl, grown_trans y1 y2⟩
      · have HX : Hid (tsB st kn (haB F si m) = false) := by show _ = _; unfold tsB; rw [if_neg (by omega), if_neg h3]
        rw [HX.out]
        have b0 : (st == 0) = false := beq_eq_false_iff_ne.2 h0
        have b3 : (st == 3) = false := beq_eq_false_iff_ne.2 h3
        have b4 : (st == 4) = false := beq_eq_false_iff_ne.2 h4
        go_enter Try.func103, Try.ntmps103
        go_wp2
        try go_ret
        exact ⟨rfl, y1⟩
end

section
/-- k bytes from x on are noughts -/
def zrN (L : List Nat) (x : Nat) : Nat → Bool
  | 0 => true
  | k + 1 => zrN L x k && decide (nth L (x + k) = 0)
/-- .. in each of so many rows -/
def azR (L : List Nat) (G : List (Int × Int)) : Nat → Bool
  | 0 => true
  | k + 1 => azR L G k && zrN L (giF G k).1.toNat ((giF G k).2.toNat - (giF G k).1.toNat)
def fiB (L : List Nat) (F : Nat → Int × Int) (m : Nat) : Bool := decide ((L.length : Int) = rcN F m) && azR L (uqF F 0 (L.length : Int) m) (uqF F 0 (L.length : Int) m).length
theorem zrN_no {L : List Nat} {x k : Nat} (h : nth L (x + k) ≠ 0) : ∀ n, k < n → zrN L x n = false := by
  intro n
  induction n with
  | zero => intro h; omega
  | succ n ih =>
    intro hk
    show (zrN L x n && _) = false
    by_cases e : k = n
    · subst e; rw [decide_eq_false h, Bool.and_false]
    · rw [ih (by omega), Bool.false_and]
theorem azR_no {L : List Nat} {G : List (Int × Int)} {k : Nat} (h : zrN L (giF G k).1.toNat ((giF G k).2.toNat - (giF G k).1.toNat) = false) : ∀ n, k < n → azR L G n = false := by
  intro n
  induction n with
  | zero => intro h; omega
  | succ n ih =>
    intro hk
    show (azR L G n && _) = false
    by_cases e : k = n
    · subst e; rw [h, Bool.and_false]
    · rw [ih (by omega), Bool.false_and]
/-- rows lie within -/
theorem uqL_in {F : Nat → Int × Int} {hi : Int} : ∀ n, Rise F n → ∀ p, p ∈ uqL F 0 hi n → 0 ≤ p.1 ∧ p.1 < p.2 ∧ p.2 ≤ hi := by
  intro n
  induction n with
  | zero => intro _ p hp; cases hp
  | succ n ih =>
    intro h p hp
    have hp : p ∈ (if uqA F 0 n < minI (F n).1 hi then uqL F 0 hi n ++ [(uqA F 0 n, minI (F n).1 hi)] else uqL F 0 hi n) := hp
    by_cases e : uqA F 0 n < minI (F n).1 hi
    · rw [if_pos e] at hp
      rcases List.mem_append.1 hp with hp | hp
      · exact ih (rise_pre h) p hp
      · rw [List.mem_singleton.1 hp]
        refine ⟨(uqA_rise n (rise_pre h)).1, e, ?_⟩
        show minI (F n).1 hi ≤ hi
        unfold minI
        by_cases e2 : (F n).1 ≤ hi
        · rw [if_pos e2]; exact e2
        · rw [if_neg e2]; omega
    · rw [if_neg e] at hp; exact ih (rise_pre h) p hp
theorem uqF_in {F : Nat → Int × Int} {hi : Int} {n : Nat} (h : Rise F n) : ∀ p, p ∈ uqF F 0 hi n → 0 ≤ p.1 ∧ p.1 < p.2 ∧ p.2 ≤ hi := by
  intro p hp
  unfold uqF at hp
  by_cases e : uqA F 0 n < hi
  · rw [if_pos e] at hp
    rcases List.mem_append.1 hp with hp | hp
    · exact uqL_in n h p hp
    · rw [List.mem_singleton.1 hp]
      exact ⟨(uqA_rise n h).1, e, by show hi ≤ hi; omega⟩
  · rw [if_neg e] at hp; exact uqL_in n h p hp
theorem uqL_len {F : Nat → Int × Int} {lo hi : Int} : ∀ n, (uqL F lo hi n).length ≤ n := by
  intro n
  induction n with
  | zero => exact Nat.le_refl _
  | succ n ih =>
    show (if uqA F lo n < minI (F n).1 hi then uqL F lo hi n ++ [_] else uqL F lo hi n).length ≤ _
    by_cases e : uqA F lo n < minI (F n).1 hi
    · rw [if_pos e, List.length_append]; show _ + 1 ≤ _; omega
    · rw [if_neg e]; omega
theorem uqF_len {F : Nat → Int × Int} {lo hi : Int} {n : Nat} : (uqF F lo hi n).length ≤ n + 1 := by
  have := uqL_len (F := F) (lo := lo) (hi := hi) n
  unfold uqF
  by_cases e : uqA F lo n < hi
  · rw [if_pos e, List.length_append]; show _ + 1 ≤ _; omega
  · rw [if_neg e]; omega

set_option maxHeartbeats 32000000 in
theorem fileMay_any (id : Int) (kn : Bool) (nm : ByteArray) (si : Int) (en : Bool) (la su : Int) (q : Option Addr) (m d : Nat) (a : Option Addr) (n c : Nat) (st ti pa tr li : Int) (F : Nat → Int × Int) (L : List Nat) (w : World) (hL : Rd w a n c L) (hG : RdG w q m d F) (hR : Rise F m) (hm : m ≤ 100000) (hn : n ≤ 140737488351232) :
    Calls Try.prog 102 #[.agg (tkA id kn nm si en la su (.slice q m d) (.slice a n c) st ti pa tr li)] w fun e w' => e = .returned (.bool (fiB L F m)) ∧ w.grownBy w' none := by
  have i2 := Try.info_sp
  have u2 := Try.underlying82
  have b1 := BxS.new w 48 #[.int .i64 id, .bool kn, .string nm, .int .i64 si, .bool en, .int .i64 la, .int .i64 su, .slice q m d, .slice a n c, .int .i64 st, .int .i64 ti, .int .i64 pa, .int .i64 tr, .int .i64 li]
  have y1 := World.grownBy_alloc w (.cells #[.int .i64 id, .bool kn, .string nm, .int .i64 si, .bool en, .int .i64 la, .int .i64 su, .slice q m d, .slice a n c, .int .i64 st, .int .i64 ti, .int .i64 pa, .int .i64 tr, .int .i64 li] 48) none
  unfold tkA
  generalize hw1 : w.alloc (.cells #[.int .i64 id, .bool kn, .string nm, .int .i64 si, .bool en, .int .i64 la, .int .i64 su, .slice q m d, .slice a n c, .int .i64 st, .int .i64 ti, .int .i64 pa, .int .i64 tr, .int .i64 li] 48) = w1 at b1 y1
  have hLn : L.length = n := hL.len
  have HX : Hid (fiB L F m = (decide ((n : Int) = rcN F m) && azR L (uqF F 0 (n : Int) m) (uqF F 0 (n : Int) m).length)) := by show _ = _; unfold fiB; rw [hLn]
  rw [HX.out]
  obtain ⟨rc, hrc⟩ : ∃ rc, rcN F m = rc := ⟨_, rfl⟩
  have HIN : Hid (∀ p, p ∈ uqF F 0 (n : Int) m → 0 ≤ p.1 ∧ p.1 < p.2 ∧ p.2 ≤ (n : Int)) := uqF_in hR
  have HUL : Hid ((uqF F 0 (n : Int) m).length ≤ m + 1) := uqF_len
  rw [hrc]
  go_enter Try.func102, Try.ntmps102
  refine wp_seq_k fun K1 hK1 => ?_
  have HK1 : Hid _ := hK1
  clear hK1
  go_wp2
  refine HK1.out _ _ ?_
  clear HK1
  clear hw1
  obtain ⟨g1, hg1⟩ : ∃ g1, w.heap.size = g1 := ⟨_, rfl⟩
  rw [hg1] at b1 ⊢
  have Gd := grown_drew w1 none
  have SS : BxS w1.drew g1 48 #[.int .i64 id, .bool kn, .string nm, .int .i64 si, .bool en, .int .i64 la, .int .i64 su, .slice q m d, .slice a n c, .int .i64 st, .int .i64 ti, .int .i64 pa, .int .i64 tr, .int .i64 li] := b1.keep Gd (by simp)
  refine wp_seq_k fun K1 hK1 => ?_
  have HK1 : Hid _ := hK1
  clear hK1
  refine wp_seq_k fun K2 hK2 => ?_
  have HK2 : Hid _ := hK2
  clear hK2
  by_cases hnr : (n : Int) = rc
  · have hbn : ((n : Int) == rc) = true := by rw [hnr]; exact beq_self_eq_true _
    have hbb : ((n : Int) != rc) = false := by rw [hnr]; simp
    have HNR : Hid _ := hnr
    clear hnr
    refine wp_regionL (fun wz => BxS wz g1 48 #[.int .i64 id, .bool kn, .string nm, .int .i64 si, .bool en, .int .i64 la, .int .i64 su, .slice q m d, .slice a n c, .int .i64 st, .int .i64 ti, .int .i64 pa, .int .i64 tr, .int .i64 li]) [] #[false, false, false, false, false, false, false] rfl (by kernel_rfl) ?_
    refine wpAnyZ_take [] 0 (.pointer (some ⟨g1, 8, none⟩)) rfl (by kernel_rfl) (fun _ _ _ h => h) SS rfl (by intro wz hz; go_simp) ?_
    try simp only [List.getElem_toArray, List.getElem_cons_succ, List.getElem_cons_zero, Act.put, List.setIfInBounds_toArray, List.set_cons_zero, List.set_cons_succ]
    refine wpAnyZ_take [] 1 (.slice a n c) rfl (by kernel_rfl) (fun _ _ _ h => h) SS rfl (by intro wz hz; have z : wz.cell? ⟨g1, 8, none⟩ = some (.slice a n c) := hz.cell 8 (by show 8 < 14; decide); go_simp) ?_
    try simp only [List.getElem_toArray, List.getElem_cons_succ, List.getElem_cons_zero, Act.put, List.setIfInBounds_toArray, List.set_cons_zero, List.set_cons_succ]
    refine wpAnyZ_take [] 2 (.int .i64 (n : Int)) rfl (by kernel_rfl) (fun _ _ _ h => h) SS rfl (by intro wz hz; go_simp) ?_
    try simp only [List.getElem_toArray, List.getElem_cons_succ, List.getElem_cons_zero, Act.put, List.setIfInBounds_toArray, List.set_cons_zero, List.set_cons_succ]
    refine wpAnyZ_take [] 3 (.pointer (some ⟨g1, 7, none⟩)) rfl (by kernel_rfl) (fun _ _ _ h => h) SS rfl (by intro wz hz; go_simp) ?_
    try simp only [List.getElem_toArray, List.getElem_cons_succ, List.getElem_cons_zero, Act.put, List.setIfInBounds_toArray, List.set_cons_zero, List.set_cons_succ]
    refine wpAnyZ_take [] 4 (.slice q m d) rfl (by kernel_rfl) (fun _ _ _ h => h) SS rfl (by intro wz hz; have z : wz.cell? ⟨g1, 7, none⟩ = some (.slice q m d) := hz.cell 7 (by show 7 < 14; decide); go_simp) ?_
    try simp only [List.getElem_toArray, List.getElem_cons_succ, List.getElem_cons_zero, Act.put, List.setIfInBounds_toArray, List.set_cons_zero, List.set_cons_succ]
    refine wpAnyZ_oneB 5 rfl (by kernel_rfl) (fun KK hKK => ?_)
    go_simp
    go_at_call 118
    refine (reach_any q m d F _ ((hG.keep y1).keep Gd) (by omega)).mono ?_
    rintro e w3 ⟨rfl, hw⟩
    have hw := hw.symm
    subst hw
    dsimp only
    rw [hrc]
    refine hKK _ _ (fun _ => SS) ?_
    try simp only [List.getElem_toArray, List.getElem_cons_succ, List.getElem_cons_zero, Act.put, List.setIfInBounds_toArray, List.set_cons_zero, List.set_cons_succ]
    refine wpAnyZ_take [] 6 (.bool false) rfl (by kernel_rfl) (fun _ _ _ h => h) SS rfl (by intro wz hz; go_simp) ?_
    try simp only [List.getElem_toArray, List.getElem_cons_succ, List.getElem_cons_zero, Act.put, List.setIfInBounds_toArray, List.set_cons_zero, List.set_cons_succ]
    refine wpAnyZ_doneB (by kernel_rfl) ?_ _
    refine HK2.out _ _ ?_
    clear HK2
    refine wp_cond_false rfl ?_
    refine wp_skip ?_
    try simp only [Exit.then]
    refine HK1.out _ _ ?_
    clear HK1
    have G1 := grown_trans y1 Gd
    clear b1 y1 Gd hbn hbb
    generalize w1.drew = w2 at *
    have x7 : w2.cell? ⟨g1, 7, none⟩ = some (.slice q m d) := SS.cell 7 (by show 7 < 14; decide)
    have x8 : w2.cell? ⟨g1, 8, none⟩ = some (.slice a n c) := SS.cell 8 (by show 8 < 14; decide)
    have HPOST : Hid (∀ bb : Bool, azR L (uqF F 0 (n : Int) m) (uqF F 0 (n : Int) m).length = bb → (decide ((n : Int) = rc) && azR L (uqF F 0 (n : Int) m) (uqF F 0 (n : Int) m).length) = bb) := by
      show ∀ bb, _
      intro bb hbb
      rw [hbb, decide_eq_true HNR.out, Bool.true_and]
    refine wp_seq_k fun K1 hK1 => ?_
    have HK1 : Hid _ := hK1
    clear hK1
    have s0 : True := trivial
    have kU := untold_any q m d F 0 (n : Int) w2 (hG.keep G1) hm
    obtain ⟨U, hU⟩ : ∃ U, uqF F 0 (n : Int) m = U := ⟨_, rfl⟩
    rw [hU] at kU HIN HUL HPOST
    have HU : Hid _ := hU
    clear hU
    go_wp2_with (go_at_call 119; have _t := s0; clear s0; refine Calls.mono kU ?_; rintro e w3 ⟨q3, d3, rfl, hO3, y3⟩)
    have G3 := grown_trans G1 y3
    have b13 := SS.keep y3 (by simp)
    go_loopw [22] (fun rv wr => ∃ r : Nat, r ≤ U.length ∧ rv = .int .i64 r ∧ Hid (azR L U r = true) ∧ w3.grownBy wr none) (fun rv _ => U.length - (intOf rv).toNat)
    case atStart => exact ⟨0, Nat.zero_le _, rfl, rfl, World.grownBy.refl _ _⟩
    case round =>
      obtain ⟨r, hr9, rfl, HAZ, Gr⟩ := hrel
      have hul := HUL.out
      by_cases hlt : r < U.length
      · have lr : (r : Int) < (U.length : Int) := by omega
        obtain ⟨bq, oq, rfl, hbq, hcq⟩ := ((hO3.keep Gr).rd).at' (by omega)
        obtain ⟨p0, p1⟩ := hcq r hlt
        have hin := HIN.out (giF U r) (by unfold giF; rw [List.getD_eq_getElem?_getD, List.getElem?_eq_getElem hlt]; exact List.getElem_mem _)
        obtain ⟨x, hx⟩ : ∃ x : Nat, (giF U r).1 = (x : Int) := ⟨(giF U r).1.toNat, by omega⟩
        obtain ⟨y, hy⟩ : ∃ y : Nat, (giF U r).2 = (y : Int) := ⟨(giF U r).2.toNat, by omega⟩
        have HSTP : Hid (azR L U (r + 1) = (azR L U r && zrN L x (y - x))) := by
          show (azR L U r && zrN L (giF U r).1.toNat ((giF U r).2.toNat - (giF U r).1.toNat)) = _
          rw [hx, hy, Int.toNat_natCast, Int.toNat_natCast]
        have HNO : Hid (zrN L x (y - x) = false → azR L U U.length = false) := by
          show _ → _
          intro h9
          refine azR_no (k := r) ?_ U.length hlt
          rw [hx, hy, Int.toNat_natCast, Int.toNat_natCast]
          exact h9
        rw [hx] at p0 hin
        rw [hy] at p1 hin
        have hxy : x < y := by omega
        have hyn : y ≤ n := by omega
        clear hcq hx hy hin
        obtain ⟨ga, go, hga⟩ : ∃ ga go, a = some ⟨ga, go, none⟩ := by
          obtain ⟨b, off, e, _⟩ := hL.at' (by omega)
          exact ⟨b, off, e⟩
        have hle := hL.le
        have k1 : ¬ c = x := by omega
        have k2 : (x : Int) ≤ (y : Int) := by omega
        have k3 : (y : Int) ≤ (c : Int) := by omega
        have k4 : x ≤ y := by omega
        have k5 : y ≤ c := by omega
        obtain ⟨z, hz⟩ : ∃ z, y - x = z := ⟨_, rfl⟩
        rw [hz] at HSTP HNO
        have hzb : z ≤ 140737488351232 := by omega
        have HZ : Hid _ := hz
        refine wp_seq_k fun K2 hK2 => ?_
        have HK2 : Hid _ := hK2
        clear hK2
        go_wp2
        refine HK2.out _ _ ?_
        clear HK2
        refine wp_seq_k fun K2 hK2 => ?_
        have HK2 : Hid _ := hK2
        clear hK2
        go_wp2
        refine HK2.out _ _ ?_
        clear HK2
        refine wp_seq_k fun K2 hK2 => ?_
        have HK2 : Hid _ := hK2
        clear hK2
        refine wp_block ?_
        refine wp_seq_k fun K3 hK3 => ?_
        have HK3 : Hid _ := hK3
        clear hK3
        have bn0 := BxS.new wr 82 #[.int .i64 0, .int .i64 0]
        have gn0 := World.grownBy_alloc wr (.cells #[.int .i64 0, .int .i64 0] 82) none
        generalize hw5 : wr.alloc (.cells #[.int .i64 0, .int .i64 0] 82) = w5 at bn0 gn0
        have s0 : True := trivial
        go_wp2_with (have _t := s0; clear s0; refine wpList_stX _ rfl _ (.tmp 4) (.tmp 25) rfl wr.heap.size _ _ rfl rfl bn0 i2 rfl (by simp [Value.oneCell']) ?_; intro w6 b46 u6)
        refine HK3.out _ _ ?_
        clear HK3
        have G6 : wr.grownBy w6 none := grown_far gn0 u6 (fun z e => by have e := Option.some.inj e; omega)
        obtain ⟨g4, hg4⟩ : ∃ g4, wr.heap.size = g4 := ⟨_, rfl⟩
        rw [hg4] at b46 ⊢
        clear u6 bn0 gn0 hw5 p0 p1 hg4
        obtain ⟨v0, v1⟩ := b46.cell2
        have b16 := (b13.keep Gr (by simp)).keep G6 (by simp)
        have x86 : w6.cell? ⟨g1, 8, none⟩ = some (.slice a n c) := b16.cell 8 (by show 8 < 14; decide)
        rw [hga] at x86
        have HGA : Hid _ := hga
        clear hga
        refine wp_seq_k fun K3 hK3 => ?_
        have HK3 : Hid _ := hK3
        clear hK3
        go_wp2
        refine HK3.out _ _ ?_
        clear HK3
        clear hz k1 k2 k3 k4 k5 v0 v1 x86
        go_wp2
        go_loopw [34] (fun kv wz => ∃ k : Nat, k ≤ z ∧ kv = .int .i64 k ∧ Hid (zrN L x k = true) ∧ w6.grownBy wz none) (fun kv _ => z - (intOf kv).toNat)
        case atStart => exact ⟨0, Nat.zero_le _, rfl, rfl, World.grownBy.refl _ _⟩
        case round =>
          obtain ⟨k, hk9, rfl, HZR, Gk⟩ := hrel
          have GW9 := grown_trans (grown_trans (grown_trans G3 Gr) G6) Gk
          by_cases hkz : k < z
          · have lk : (k : Int) < (z : Int) := by omega
            have hxk : x + k < n := by have := HZ.out; omega
            have pk : wr.cell? ⟨ga, go + x + k, none⟩ = some (.int .u8 (nth L (x + k) : Nat)) := by
              obtain ⟨b', off', e', _, hc'⟩ := (hL.keep GW9).at' (by omega)
              rw [HGA.out] at e'
              cases e'
              have := hc' (x + k) hxk
              rw [show go + x + k = go + (x + k) by omega]
              exact this
            have HZS : Hid (zrN L x (k + 1) = (zrN L x k && decide (nth L (x + k) = 0))) := rfl
            have HZN : Hid (nth L (x + k) ≠ 0 → zrN L x z = false) := fun h9 => zrN_no h9 z hkz
            obtain ⟨bv, hbv⟩ : ∃ bv, nth L (x + k) = bv := ⟨_, rfl⟩
            rw [hbv] at pk HZS HZN
            clear hbv
            by_cases hb0 : bv = 0
            · have HZT : Hid (zrN L x (k + 1) = true) := by show _ = _; rw [HZS.out, HZR.out, decide_eq_true hb0]; rfl
              subst hb0
              clear HZN
              go_wp2
              go_roundw
              case rel => exact ⟨k + 1, by omega, by go_num, HZT, Gk⟩
              case measure => simp [intOf] <;> omega
            · have HAF : Hid (azR L U U.length = false) := HNO.out (HZN.out hb0)
              go_wp2
              go_ret
              refine ⟨?_, GW9⟩
              rw [HU.out, HPOST.out false HAF.out]
              rfl
          · obtain rfl : k = z := by omega
            have lk : ¬ (k : Int) < (k : Int) := by omega
            have HAN : Hid (azR L U (r + 1) = true) := by show _ = _; rw [HSTP.out, HAZ.out, HZR.out]; rfl
            go_wp2
            try simp only [Exit.inBlock, Exit.then]
            refine HK2.out _ _ ?_
            clear HK2
            go_wp2
            go_roundw
            case rel => exact ⟨r + 1, by omega, by go_num, HAN, grown_trans (grown_trans (by assumption) G6) Gk⟩
            case measure => simp [intOf] <;> omega
      · obtain rfl : r = U.length := by omega
        have lr : ¬ ((U.length : Nat) : Int) < ((U.length : Nat) : Int) := by omega
        go_wp2
        try simp only [Exit.inBlock, Exit.then]
        refine HK1.out _ _ ?_
        clear HK1
        go_wp2
        try go_ret
        refine ⟨?_, grown_trans G3 Gr⟩
        rw [HU.out, HPOST.out true HAZ.out]
        rfl
  · have hbn : ((n : Int) == rc) = false := beq_eq_false_iff_ne.2 hnr
    have hbb : ((n : Int) != rc) = true := by simp [hnr]
    have HNR : Hid _ := hnr
    clear hnr
    refine wp_regionL (fun wz => BxS wz g1 48 #[.int .i64 id, .bool kn, .string nm, .int .i64 si, .bool en, .int .i64 la, .int .i64 su, .slice q m d, .slice a n c, .int .i64 st, .int .i64 ti, .int .i64 pa, .int .i64 tr, .int .i64 li]) [] #[false, false, false, false, false, false, false] rfl (by kernel_rfl) ?_
    refine wpAnyZ_take [] 0 (.pointer (some ⟨g1, 8, none⟩)) rfl (by kernel_rfl) (fun _ _ _ h => h) SS rfl (by intro wz hz; go_simp) ?_
    try simp only [List.getElem_toArray, List.getElem_cons_succ, List.getElem_cons_zero, Act.put, List.setIfInBounds_toArray, List.set_cons_zero, List.set_cons_succ]
    refine wpAnyZ_take [] 1 (.slice a n c) rfl (by kernel_rfl) (fun _ _ _ h => h) SS rfl (by intro wz hz; have z : wz.cell? ⟨g1, 8, none⟩ = some (.slice a n c) := hz.cell 8 (by show 8 < 14; decide); go_simp) ?_
    try simp only [List.getElem_toArray, List.getElem_cons_succ, List.getElem_cons_zero, Act.put, List.setIfInBounds_toArray, List.set_cons_zero, List.set_cons_succ]
    refine wpAnyZ_take [] 2 (.int .i64 (n : Int)) rfl (by kernel_rfl) (fun _ _ _ h => h) SS rfl (by intro wz hz; go_simp) ?_
    try simp only [List.getElem_toArray, List.getElem_cons_succ, List.getElem_cons_zero, Act.put, List.setIfInBounds_toArray, List.set_cons_zero, List.set_cons_succ]
    refine wpAnyZ_take [] 3 (.pointer (some ⟨g1, 7, none⟩)) rfl (by kernel_rfl) (fun _ _ _ h => h) SS rfl (by intro wz hz; go_simp) ?_
    try simp only [List.getElem_toArray, List.getElem_cons_succ, List.getElem_cons_zero, Act.put, List.setIfInBounds_toArray, List.set_cons_zero, List.set_cons_succ]
    refine wpAnyZ_take [] 4 (.slice q m d) rfl (by kernel_rfl) (fun _ _ _ h => h) SS rfl (by intro wz hz; have z : wz.cell? ⟨g1, 7, none⟩ = some (.slice q m d) := hz.cell 7 (by show 7 < 14; decide); go_simp) ?_
    try simp only [List.getElem_toArray, List.getElem_cons_succ, List.getElem_cons_zero, Act.put, List.setIfInBounds_toArray, List.set_cons_zero, List.set_cons_succ]
    refine wpAnyZ_oneB 5 rfl (by kernel_rfl) (fun KK hKK => ?_)
    go_simp
    go_at_call 118
    refine (reach_any q m d F _ ((hG.keep y1).keep Gd) (by omega)).mono ?_
    rintro e w3 ⟨rfl, hw⟩
    have hw := hw.symm
    subst hw
    dsimp only
    rw [hrc]
    refine hKK _ _ (fun _ => SS) ?_
    try simp only [List.getElem_toArray, List.getElem_cons_succ, List.getElem_cons_zero, Act.put, List.setIfInBounds_toArray, List.set_cons_zero, List.set_cons_succ]
    refine wpAnyZ_take [] 6 (.bool true) rfl (by kernel_rfl) (fun _ _ _ h => h) SS rfl (by intro wz hz; go_simp) ?_
    try simp only [List.getElem_toArray, List.getElem_cons_succ, List.getElem_cons_zero, Act.put, List.setIfInBounds_toArray, List.set_cons_zero, List.set_cons_succ]
    refine wpAnyZ_doneB (by kernel_rfl) ?_ _
    refine HK2.out _ _ ?_
    clear HK2
    refine wp_cond_true rfl ?_
    clear HK1
    go_wp2
    try simp only [Exit.then]
    try go_ret
    refine ⟨?_, grown_trans y1 Gd⟩
    rw [decide_eq_false HNR.out, Bool.false_and]
    rfl
end

section
theorem bytes_nil {s : ByteArray} (h : s.data.toList = []) : s = ⟨#[]⟩ := by
  obtain ⟨d⟩ := s
  have e : d = #[] := Array.toList_eq_nil_iff.1 h
  rw [e]
/-- may what a taker's Meta told be so? -/
def toA (kn : Bool) (nm : ByteArray) (si : Int) : Bool := if kn = true then kwB nm.size 1 32 else (decide (nm = ⟨#[]⟩) && decide (si = 0))
/-- may what its End told be so? -/
def toE (en : Bool) (la su : Int) : Bool := if en = true then true else (decide (la = 0) && decide (su = 0))
/-- are the numbers in their bounds? -/
def toC (si la su : Int) : Bool := kwB si 0 65536 && kwB la 0 65536 && kwB su 0 4294967295
def toB (kn : Bool) (nm : ByteArray) (si : Int) (en : Bool) (la su : Int) : Bool := toA kn nm si && toE en la su && toC si la su

set_option maxHeartbeats 16000000 in
theorem toldMay_any (id : Int) (kn : Bool) (nm : ByteArray) (si : Int) (en : Bool) (la su : Int) (q : Option Addr) (m d : Nat) (a : Option Addr) (n c : Nat) (st ti pa tr li : Int) (w : World) :
    Calls Try.prog 100 #[.agg (tkA id kn nm si en la su (.slice q m d) (.slice a n c) st ti pa tr li)] w fun e w' => e = .returned (.bool (toB kn nm si en la su)) ∧ w.grownBy w' none := by
  have k0 := fun wz => nameMay_any nm wz
  have k3 := fun wz => dwithin_any si 0 65536 wz
  have k4 := fun wz => dwithin_any la 0 65536 wz
  have k5 := fun wz => dwithin_any su 0 4294967295 wz
  have b1 := BxS.new w 48 #[.int .i64 id, .bool kn, .string nm, .int .i64 si, .bool en, .int .i64 la, .int .i64 su, .slice q m d, .slice a n c, .int .i64 st, .int .i64 ti, .int .i64 pa, .int .i64 tr, .int .i64 li]
  have y1 := World.grownBy_alloc w (.cells #[.int .i64 id, .bool kn, .string nm, .int .i64 si, .bool en, .int .i64 la, .int .i64 su, .slice q m d, .slice a n c, .int .i64 st, .int .i64 ti, .int .i64 pa, .int .i64 tr, .int .i64 li] 48) none
  unfold tkA
  generalize hw1 : w.alloc (.cells #[.int .i64 id, .bool kn, .string nm, .int .i64 si, .bool en, .int .i64 la, .int .i64 su, .slice q m d, .slice a n c, .int .i64 st, .int .i64 ti, .int .i64 pa, .int .i64 tr, .int .i64 li] 48) = w1 at b1 y1
  obtain ⟨e0, e1, e2, e3, e4, e5, e6, e7, e8, e9, e10, e11, e12, e13⟩ := (b1).cell14
  have HX : Hid (toB kn nm si en la su = (toA kn nm si && toE en la su && toC si la su)) := rfl
  rw [HX.out]
  clear HX
  obtain ⟨A, hA⟩ : ∃ A, toA kn nm si = A := ⟨_, rfl⟩
  obtain ⟨B, hB⟩ : ∃ B, toE en la su = B := ⟨_, rfl⟩
  have HA : Hid _ := hA
  have HB : Hid _ := hB
  rw [hA, hB]
  clear hA hB
  unfold toC
  go_enter Try.func100, Try.ntmps100
  refine wp_seq_k fun K1 hK1 => ?_
  have HK1 : Hid _ := hK1
  clear hK1
  go_wp2
  refine HK1.out _ _ ?_
  clear HK1
  clear hw1
  obtain ⟨g1, hg1⟩ : ∃ g1, w.heap.size = g1 := ⟨_, rfl⟩
  rw [hg1] at e0 e1 e2 e3 e4 e5 e6 e7 e8 e9 e10 e11 e12 e13 b1 ⊢
  clear hg1
  refine wp_seq_k fun K1 hK1 => ?_
  have HK1 : Hid _ := hK1
  clear hK1
  have HT : Hid (∀ u3 u4 u5 u6 u7 u8 u9 u10 u11 u12 u13 u14 u15 u16 u17 u18 u19 u20 u21 u22 u23 u24 u25 u26 u27 u28 u29 u30 u31 u32 u33 u34 u35 u36 u37 u38 u39 u40 u41 u42 u43 u44 u45 u46 u47 u48 u49 u50 u51 : Value, A = true → K1 (Act.mk #[.agg #[.int .i64 id, .bool kn, .string nm, .int .i64 si, .bool en, .int .i64 la, .int .i64 su, .slice q m d, .slice a n c, .int .i64 st, .int .i64 ti, .int .i64 pa, .int .i64 tr, .int .i64 li], .pointer (some ⟨g1, 0, none⟩), .bool false, u3, u4, u5, u6, u7, u8, u9, u10, u11, u12, u13, u14, u15, u16, u17, u18, u19, u20, u21, u22, u23, u24, u25, u26, u27, u28, u29, u30, u31, u32, u33, u34, u35, u36, u37, u38, u39, u40, u41, u42, u43, u44, u45, u46, u47, u48, u49, u50, u51] []) w1) := by
    show ∀ u3 u4 u5 u6 u7 u8 u9 u10 u11 u12 u13 u14 u15 u16 u17 u18 u19 u20 u21 u22 u23 u24 u25 u26 u27 u28 u29 u30 u31 u32 u33 u34 u35 u36 u37 u38 u39 u40 u41 u42 u43 u44 u45 u46 u47 u48 u49 u50 u51 : Value, _
    intro u3 u4 u5 u6 u7 u8 u9 u10 u11 u12 u13 u14 u15 u16 u17 u18 u19 u20 u21 u22 u23 u24 u25 u26 u27 u28 u29 u30 u31 u32 u33 u34 u35 u36 u37 u38 u39 u40 u41 u42 u43 u44 u45 u46 u47 u48 u49 u50 u51 hA
    subst hA
    clear HA k0
    refine HK1.out _ _ ?_
    clear HK1
    refine wp_seq_k fun K1 hK1 => ?_
    have HK1 : Hid _ := hK1
    clear hK1
    have HT : Hid (∀ u3 u4 u5 u6 u7 u8 u9 u10 u11 u12 u13 u14 u15 u16 u17 u18 u19 u20 u21 u22 u23 u24 u25 u26 u27 u28 u29 u30 u31 u32 u33 u34 u35 u36 u37 u38 u39 u40 u41 u42 u43 u44 u45 u46 u47 u48 u49 u50 u51 : Value, B = true → K1 (Act.mk #[.agg #[.int .i64 id, .bool kn, .string nm, .int .i64 si, .bool en, .int .i64 la, .int .i64 su, .slice q m d, .slice a n c, .int .i64 st, .int .i64 ti, .int .i64 pa, .int .i64 tr, .int .i64 li], .pointer (some ⟨g1, 0, none⟩), .bool false, u3, u4, u5, u6, u7, u8, u9, u10, u11, u12, u13, u14, u15, u16, u17, u18, u19, u20, u21, u22, u23, u24, u25, u26, u27, u28, u29, u30, u31, u32, u33, u34, u35, u36, u37, u38, u39, u40, u41, u42, u43, u44, u45, u46, u47, u48, u49, u50, u51] []) w1) := by
      show ∀ u3 u4 u5 u6 u7 u8 u9 u10 u11 u12 u13 u14 u15 u16 u17 u18 u19 u20 u21 u22 u23 u24 u25 u26 u27 u28 u29 u30 u31 u32 u33 u34 u35 u36 u37 u38 u39 u40 u41 u42 u43 u44 u45 u46 u47 u48 u49 u50 u51 : Value, _
      intro u3 u4 u5 u6 u7 u8 u9 u10 u11 u12 u13 u14 u15 u16 u17 u18 u19 u20 u21 u22 u23 u24 u25 u26 u27 u28 u29 u30 u31 u32 u33 u34 u35 u36 u37 u38 u39 u40 u41 u42 u43 u44 u45 u46 u47 u48 u49 u50 u51 hB
      subst hB
      clear HB
      refine HK1.out _ _ ?_
      clear HK1
      generalize kwB si 0 65536 = b3 at k3 ⊢
      generalize kwB la 0 65536 = b4 at k4 ⊢
      generalize kwB su 0 4294967295 = b5 at k5 ⊢
      have s3 : True := trivial
      cases b3 <;> cases b4 <;> cases b5 <;>
      · go_wp2_with (first
      | (go_at_call 84; have _t := s3; clear s3; refine (k3 _).mono ?_; rintro e wx ⟨rfl, hwx⟩; have hwx := hwx.symm; subst hwx; have s4 : True := trivial)
      | (go_at_call 84; have _t := s4; clear s4; refine (k4 _).mono ?_; rintro e wx ⟨rfl, hwx⟩; have hwx := hwx.symm; subst hwx; have s5 : True := trivial)
      | (go_at_call 84; have _t := s5; clear s5; refine (k5 _).mono ?_; rintro e wx ⟨rfl, hwx⟩; have hwx := hwx.symm; subst hwx))
        try go_ret
        exact ⟨rfl, y1⟩
    cases en with
    | true =>
      have hB : B = true := HB.out.symm
      go_wp2
      try simp only [Exit.then]
      exact HT.out _ _ _ _ _ _ _ _ _ _ _ _ _ _ _ _ _ _ _ _ _ _ _ _ _ _ _ _ _ _ _ _ _ _ _ _ _ _ _ _ _ _ _ _ _ _ _ _ _ hB
    | false =>
      have hBe : (decide (la = 0) && decide (su = 0)) = B := HB.out
      by_cases h5 : la = 0
      · by_cases h6 : su = 0
        · have hB : B = true := by rw [← hBe, decide_eq_true h5, decide_eq_true h6]; rfl
          subst h5 h6
          have HBB : Hid _ := hB
          clear hBe hB HB
          go_wp2
          try simp only [Exit.then]
          exact HT.out _ _ _ _ _ _ _ _ _ _ _ _ _ _ _ _ _ _ _ _ _ _ _ _ _ _ _ _ _ _ _ _ _ _ _ _ _ _ _ _ _ _ _ _ _ _ _ _ _ HBB.out
        · have hB : B = false := by rw [← hBe, decide_eq_false h6, Bool.and_false]
          have b6 : (su == 0) = false := beq_eq_false_iff_ne.2 h6
          subst h5
          clear hBe HB
          subst hB
          clear HT HK1
          go_wp2
          try simp only [Exit.then]
          try go_ret
          exact ⟨rfl, y1⟩
      · have hB : B = false := by rw [← hBe, decide_eq_false h5, Bool.false_and]
        have b5 : (la == 0) = false := beq_eq_false_iff_ne.2 h5
        clear hBe HB
        subst hB
        clear HT HK1
        go_wp2
        try simp only [Exit.then]
        try go_ret
        exact ⟨rfl, y1⟩
  have s0 : True := trivial
  cases kn with
  | true =>
    have hAe : kwB nm.size 1 32 = A := HA.out
    rw [hAe] at k0
    clear hAe HA
    cases A with
    | true =>
      go_wp2_with (go_at_call 90; have _t := s0; clear s0; refine (k0 _).mono ?_; rintro e wx ⟨rfl, hwx⟩; have hwx := hwx.symm; subst hwx)
      try simp only [Exit.then]
      exact HT.out _ _ _ _ _ _ _ _ _ _ _ _ _ _ _ _ _ _ _ _ _ _ _ _ _ _ _ _ _ _ _ _ _ _ _ _ _ _ _ _ _ _ _ _ _ _ _ _ _ (by first | rfl | trivial)
    | false =>
      clear HT HK1
      go_wp2_with (go_at_call 90; have _t := s0; clear s0; refine (k0 _).mono ?_; rintro e wx ⟨rfl, hwx⟩; have hwx := hwx.symm; subst hwx)
      try simp only [Exit.then]
      try go_ret
      exact ⟨rfl, y1⟩
  | false =>
    have hAe : (decide (nm = ⟨#[]⟩) && decide (si = 0)) = A := HA.out
    clear k0
    by_cases h2 : nm = ⟨#[]⟩
    · by_cases h3 : si = 0
      · have hA : A = true := by rw [← hAe, decide_eq_true h2, decide_eq_true h3]; rfl
        subst h2 h3
        have HBB : Hid _ := hA
        clear hAe hA HA
        go_wp2
        try simp only [Exit.then]
        exact HT.out _ _ _ _ _ _ _ _ _ _ _ _ _ _ _ _ _ _ _ _ _ _ _ _ _ _ _ _ _ _ _ _ _ _ _ _ _ _ _ _ _ _ _ _ _ _ _ _ _ HBB.out
      · have hA : A = false := by rw [← hAe, decide_eq_false h3, Bool.and_false]
        have b3 : (si == 0) = false := beq_eq_false_iff_ne.2 h3
        subst h2
        clear hAe HA
        subst hA
        clear HT HK1
        go_wp2
        try simp only [Exit.then]
        try go_ret
        exact ⟨rfl, y1⟩
    · have hA : A = false := by rw [← hAe, decide_eq_false h2, Bool.false_and]
      have b2 : nm.toList.isEmpty = false := by
        rw [ByteArray.toList_eq]
        cases hl : nm.data.toList with
        | nil => exact absurd (bytes_nil hl) h2
        | cons _ _ => rfl
      have b2' : ¬ nm.toList = [] := by intro e; rw [e] at b2; exact absurd b2 (by decide)
      clear hAe HA
      subst hA
      clear HT HK1
      go_wp2
      try simp only [Exit.then]
      try go_ret
      exact ⟨rfl, y1⟩
end
end Go.Proofs.Ytnimehkfnpepfaa
