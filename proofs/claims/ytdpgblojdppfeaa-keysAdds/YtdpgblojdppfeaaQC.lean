import Derived.Test.YtdpgblojdppfeaaQB
import Derived.Maps.OwnOps
import Derived.Maps.OwnSet
import Derived.Maps.Views
namespace Go.Proofs.Ytdpgblojdppfeaa
open Go.RowKit Go.Maps
set_option maxRecDepth 100000
set_option linter.unusedVariables false
set_option linter.unusedSimpArgs false
/-- may a key be? -/
def kdB (k : Kd) : Bool := kmB k.id k.W.length k.W k.tp k.sn
def kd0 : Kd := ⟨0, [], 0, 0⟩
/-- has one of the first k keys that ID? -/
def hasI (R : List Kd) (k : Nat) (z : Int) : Bool := (R.take k).any (fun x => decide (x.id = z))
def rmA (R : List Kd) : Nat → Bool
  | 0 => true
  | k + 1 => rmA R k && (kdB (R.getD k kd0) && !hasI R k (R.getD k kd0).id)
/-- may a ring be? -/
def rmB (R : List Kd) : Bool := decide (R.length ≤ 8) && rmA R R.length
theorem rmA_false (R : List Kd) {k : Nat} (h : rmA R k = false) (n : Nat) (hn : k ≤ n) : rmA R n = false := by
  induction n with
  | zero => obtain rfl : k = 0 := by omega
            exact h
  | succ n ih =>
    by_cases e : k = n + 1
    · subst e; exact h
    · show (rmA R n && _) = false
      rw [ih (by omega)]; rfl
theorem hasI_step (R : List Kd) (k : Nat) (x : Kd) (h : R[k]? = some x) (z : Int) : hasI R (k + 1) z = (hasI R k z || decide (x.id = z)) := by
  unfold hasI
  rw [List.take_add_one, h, List.any_append]
  simp
theorem law3 : Keyed Try.prog 3 := int_keyed Try.underlying3
theorem zero3 (w : World) : (zeroValue 3).run Try.prog w = .ok (.int .i64 0) w := by kernel_rfl
/-- a map that counts the IDs of the first k keys -/
structure Mc (w : World) (B : Nat) (R : List Kd) (k : Nat) (D : DataW Unit) : Prop where
  own : w.ownsMap Try.prog 3 (plainElem Try.prog 3) B k D
  cnt : ∀ z, D.atKey (.int .i64 z) (.lit (.int .i64 0)) = .lit (.int .i64 (if hasI R k z = true then 1 else 0))
theorem Mc.keep {w w' : World} {B k : Nat} {R : List Kd} {D : DataW Unit} {r : Option Nat} (h : Mc w B R k D) (hg : w.grownBy w' r) (hne : some B ≠ r) : Mc w' B R k D := ⟨h.own.kept hg hne, h.cnt⟩
theorem Mc.at' {w : World} {B k : Nat} {R : List Kd} {D : DataW Unit} (h : Mc w B R k D) {z c : Int} (hat : D.atKey (.int .i64 z) (.lit (.int .i64 0)) = .lit (.int .i64 c)) : c = if hasI R k z = true then 1 else 0 := by
  rw [h.cnt z] at hat
  injection hat with hat
  injection hat with _ hat
  exact hat.symm
theorem Mc.put {w w' : World} {B k : Nat} {R : List Kd} {D : DataW Unit} (h : Mc w B R k D) {x : Kd} (hx : R[k]? = some x) (hn : hasI R k x.id = false) (hI : (Lit.int .i64 x.id).wf = true) (ho : w'.ownsMap Try.prog 3 (plainElem Try.prog 3) B (k + 1) (D.put (.int .i64 x.id) (.lit (.int .i64 1)))) : Mc w' B R (k + 1) (D.put (.int .i64 x.id) (.lit (.int .i64 1))) := by
  refine ⟨ho, fun z => ?_⟩
  rw [hasI_step R k x hx]
  by_cases e : z = x.id
  · subst e
    rw [Maps.atKey_put_same h.own.isMap (by trivial)]
    simp
  · rw [Maps.atKey_put_other (fun e2 => e (by injection e2)), h.cnt z]
    have e' : decide (x.id = z) = false := decide_eq_false (fun h => e h.symm)
    rw [e', Bool.or_false]
set_option maxHeartbeats 32000000 in
theorem ringMayBe_any (a : Option Addr) (n c : Nat) (R : List Kd) (w : World) (h : RdG w a n c R) :
    Calls Try.prog 19 #[.agg #[.slice a n c]] w fun e w' => e = .returned (.bool (rmB R)) ∧ w.grownBy w' none := by
  obtain ⟨ks, h1, h2⟩ := h.ex
  have hl1 := h1.len
  have hlR := h.len
  have b0 := BxS.new w 24 #[.slice a n c]
  have g0 := World.grownBy_alloc w (.cells #[.slice a n c] 24) none
  generalize hw0 : w.alloc (.cells #[.slice a n c] 24) = w0 at b0 g0
  have hz0 : w0.heap.size = w.heap.size + 1 := by rw [← hw0]; simp
  have x0 : w0.cell? ⟨w.heap.size, 0, none⟩ = some (.slice a n c) := b0.cell 0 (by show 0 < 1; decide)
  by_cases h8 : n ≤ 8
  · have h8' : ¬ (8 : Int) < (n : Int) := by omega
    have HRB : Hid (rmB R = rmA R n) := by show _ = _; unfold rmB; rw [hlR, decide_eq_true h8]; rfl
    have hmm := @run_makeMap Try.prog
    have gm := World.grownBy_alloc w0 (.map #[] 0) none
    have hm0 : Mc (w0.alloc (.map #[] 0)) w0.heap.size R 0 (.map []) := ⟨World.ownsMap_made _ _ _ _, fun z => by simp [hasI]; rfl⟩
    have B0 := b0.keep gm (by simp)
    have G1 := grown_trans g0 gm
    have i4 := Try.info_ky4
    go_enter Try.func19, Try.ntmps19
    go_wp2
    clear x0
    generalize w0.alloc (.map #[] 0) = w1 at *
    rw [hz0] at hm0
    have hle := h1.le
    have hmx := h1.max
    clear h B0
    go_loopw [14] (fun iv wr => ∃ (k : Nat) (D : DataW Unit), iv = .int .i64 k ∧ k ≤ n ∧ rmA R k = true ∧ Mc wr (w.heap.size + 1) R k D ∧ w0.grownBy wr none) (fun iv _ => n - (intOf iv).toNat)
    case atStart => exact ⟨0, _, by go_num, Nat.zero_le _, rfl, hm0, gm⟩
    case round =>
      obtain ⟨k, D, rfl, hk, hok, hM, yr⟩ := hrel
      by_cases hlt : k < n
      · have hlt' : (k : Int) < (n : Int) := by omega
        obtain ⟨kk, hi, hd1⟩ := map_d_at h2 k (by omega)
        have hm1 : kk ∈ ks := List.mem_of_getElem? hi
        have H0 := (h1.keep g0).keep yr
        obtain ⟨ba, oa, ea, _⟩ := H0.at' (by omega)
        subst ea
        obtain ⟨q0, q1, q2, q3⟩ := H0.four hi
        have hW := H0.ws kk hm1
        have hI := WalkArith.wf_i64 (H0.bd kk hm1).1
        have hkey : keyOf Try.prog 3 (.int .i64 kk.id) = some (.int .i64 kk.id) := keyOf_int_mk Try.underlying3 hI
        have hwk : IntKind.i64.wrap ((k : Int) + 1) = (k : Int) + 1 := wrap_i64_in _ (by omega) (by omega)
        have eg : R.getD k kd0 = kk.d := by rw [List.getD_eq_getElem?_getD, hd1]; rfl
        have HS : Hid (rmA R (k + 1) = (kdB kk.d && !hasI R k kk.id)) := by show (rmA R k && (kdB (R.getD k kd0) && !hasI R k (R.getD k kd0).id)) = _; rw [hok, eg]; rfl
        have kM := fun wz hz => keyMayBe_any kk.id kk.a kk.n kk.c kk.tp kk.sn kk.W wz hz
        have ekb : kmB kk.id kk.n kk.W kk.tp kk.sn = kdB kk.d := by unfold kdB; rw [← hW.len]; rfl
        rw [ekb] at kM
        have HD1 : Hid (R[k]? = some kk.d) := hd1
        clear eg ekb hd1
        have b5 := BxS.new wr 27 #[.int .i64 0, .slice none 0 0, .int .i64 0, .int .i64 0]
        have g5 := World.grownBy_alloc wr (.cells #[.int .i64 0, .slice none 0 0, .int .i64 0, .int .i64 0] 27) none
        have szr := yr.size
        have hBl := hM.own.lt
        obtain ⟨cc, hcc⟩ : ∃ cc : Int, cc = if hasI R k kk.id = true then 1 else 0 := ⟨_, rfl⟩
        have hc01 : 0 ≤ cc ∧ cc ≤ 1 := by rw [hcc]; split <;> omega
        have hwc1 : IntKind.i64.wrap (cc + 1) = cc + 1 := wrap_i64_in _ (by omega) (by omega)
        have HCC : Hid (cc = if hasI R k kk.id = true then 1 else 0) := hcc
        clear hcc
        cases hkb : kdB kk.d with
        | false =>
          rw [hkb] at kM
          have s0 : True := trivial
          go_wp2_with (first
            | (have _t := s0; clear s0; refine wpList_stX _ rfl _ (.tmp 5) (.tmp 17) rfl wr.heap.size _ _ rfl rfl b5 i4 rfl (by simp [Value.oneCell']) ?_; intro w5 b5 u5; have Y5 := grown_far g5 u5 (fun q e => by have e := Option.some.inj e; omega); have hM5 := hM.keep Y5 (by simp); obtain ⟨t0, t1, t2, t3⟩ := BxS.cell4 b5; clear q0 q1 q2 q3; have s1 : True := trivial)
            | (at_lookup; have _t := s1; clear s1; refine wpList_lookup_own_int _ rfl _ _ 53 rfl 3 3 .i64 law3 Try.underlying53 Try.underlying3 (zero3 _) (w.heap.size + 1) k D rfl hM5.own _ _ rfl hkey ?_; intro c hat hwc; have ec := hM5.at' hat; rw [← HCC.out] at ec; subst ec; have s2 : True := trivial)
            | (at_mapUpdate; have _t := s2; clear s2; refine wpList_mapUpdate_own _ rfl _ _ _ 53 rfl 3 3 law3 Try.underlying53 _ (w.heap.size + 1) k D rfl hM5.own (by unfold maxLen; omega) _ _ _ rfl rfl hkey _ [] (plainElem_int Try.underlying3 (WalkArith.wf_i64 (by omega))) ?_; intro w6 hown6 u6; have b6 := b5.keep u6 (fun e => by have e := Option.some.inj e; omega); clear t0 t1 t2 t3; obtain ⟨t0, t1, t2, t3⟩ := BxS.cell4 b6; have s3 : True := trivial)
            | (go_at_call 21; have _t := s3; clear s3; refine (kM _ (((h1.keep g0).keep (grown_far (grown_trans yr Y5) u6 (fun q e => by have e := Option.some.inj e; omega))).ws kk hm1)).mono ?_; rintro e w7 ⟨rfl, y7⟩; have b7 := b6.keep y7 (by simp); clear t0 t1 t2 t3; obtain ⟨t0, t1, t2, t3⟩ := BxS.cell4 b7; skip))
          go_ret
          have YF := grown_trans (grown_far (grown_trans yr Y5) u6 (fun q e => by have e := Option.some.inj e; omega)) y7
          exact ⟨by rw [HRB.out, rmA_false R (k := k + 1) (by rw [HS.out, hkb]; rfl) n (by omega)]; rfl, grown_trans g0 YF⟩
        | true =>
          cases hhi : hasI R k kk.id with
          | true =>
            have HHI : Hid (hasI R k kk.id = true) := hhi
            obtain rfl : cc = 1 := by rw [HCC.out, hhi]; rfl
            clear hhi
            rw [hkb] at kM
            have s0 : True := trivial
            go_wp2_with (first
              | (have _t := s0; clear s0; refine wpList_stX _ rfl _ (.tmp 5) (.tmp 17) rfl wr.heap.size _ _ rfl rfl b5 i4 rfl (by simp [Value.oneCell']) ?_; intro w5 b5 u5; have Y5 := grown_far g5 u5 (fun q e => by have e := Option.some.inj e; omega); have hM5 := hM.keep Y5 (by simp); obtain ⟨t0, t1, t2, t3⟩ := BxS.cell4 b5; clear q0 q1 q2 q3; have s1 : True := trivial)
              | (at_lookup; have _t := s1; clear s1; refine wpList_lookup_own_int _ rfl _ _ 53 rfl 3 3 .i64 law3 Try.underlying53 Try.underlying3 (zero3 _) (w.heap.size + 1) k D rfl hM5.own _ _ rfl hkey ?_; intro c hat hwc; have ec := hM5.at' hat; rw [← HCC.out] at ec; subst ec; have s2 : True := trivial)
              | (at_mapUpdate; have _t := s2; clear s2; refine wpList_mapUpdate_own _ rfl _ _ _ 53 rfl 3 3 law3 Try.underlying53 _ (w.heap.size + 1) k D rfl hM5.own (by unfold maxLen; omega) _ _ _ rfl rfl hkey _ [] (plainElem_int Try.underlying3 (WalkArith.wf_i64 (by omega))) ?_; intro w6 hown6 u6; have b6 := b5.keep u6 (fun e => by have e := Option.some.inj e; omega); clear t0 t1 t2 t3; obtain ⟨t0, t1, t2, t3⟩ := BxS.cell4 b6; have s3 : True := trivial)
              | (go_at_call 21; have _t := s3; clear s3; refine (kM _ (((h1.keep g0).keep (grown_far (grown_trans yr Y5) u6 (fun q e => by have e := Option.some.inj e; omega))).ws kk hm1)).mono ?_; rintro e w7 ⟨rfl, y7⟩; have b7 := b6.keep y7 (by simp); clear t0 t1 t2 t3; obtain ⟨t0, t1, t2, t3⟩ := BxS.cell4 b7; obtain ⟨c2, hrun, hat2, _⟩ := (hown6.kept y7 (by simp)).lookup_int law3 Try.underlying53 Try.underlying3 (zero3 _) hkey; rw [Maps.atKey_put_same hM5.own.isMap (by trivial)] at hat2; injection hat2 with hat2; injection hat2 with _ hat2; subst hat2))
            go_ret
            have YF := grown_trans (grown_far (grown_trans yr Y5) u6 (fun q e => by have e := Option.some.inj e; omega)) y7
            exact ⟨by rw [HRB.out, rmA_false R (k := k + 1) (by rw [HS.out, hkb, HHI.out]; rfl) n (by omega)]; rfl, grown_trans g0 YF⟩
          | false =>
            have HHI : Hid (hasI R k kk.id = false) := hhi
            obtain rfl : cc = 0 := by rw [HCC.out, hhi]; rfl
            clear hhi
            rw [hkb] at kM
            have s0 : True := trivial
            go_wp2_with (first
              | (have _t := s0; clear s0; refine wpList_stX _ rfl _ (.tmp 5) (.tmp 17) rfl wr.heap.size _ _ rfl rfl b5 i4 rfl (by simp [Value.oneCell']) ?_; intro w5 b5 u5; have Y5 := grown_far g5 u5 (fun q e => by have e := Option.some.inj e; omega); have hM5 := hM.keep Y5 (by simp); obtain ⟨t0, t1, t2, t3⟩ := BxS.cell4 b5; clear q0 q1 q2 q3; have s1 : True := trivial)
              | (at_lookup; have _t := s1; clear s1; refine wpList_lookup_own_int _ rfl _ _ 53 rfl 3 3 .i64 law3 Try.underlying53 Try.underlying3 (zero3 _) (w.heap.size + 1) k D rfl hM5.own _ _ rfl hkey ?_; intro c hat hwc; have ec := hM5.at' hat; rw [← HCC.out] at ec; subst ec; have s2 : True := trivial)
              | (at_mapUpdate; have _t := s2; clear s2; refine wpList_mapUpdate_own _ rfl _ _ _ 53 rfl 3 3 law3 Try.underlying53 _ (w.heap.size + 1) k D rfl hM5.own (by unfold maxLen; omega) _ _ _ rfl rfl hkey _ [] (plainElem_int Try.underlying3 (WalkArith.wf_i64 (by omega))) ?_; intro w6 hown6 u6; have b6 := b5.keep u6 (fun e => by have e := Option.some.inj e; omega); clear t0 t1 t2 t3; obtain ⟨t0, t1, t2, t3⟩ := BxS.cell4 b6; have s3 : True := trivial)
              | (go_at_call 21; have _t := s3; clear s3; refine (kM _ (((h1.keep g0).keep (grown_far (grown_trans yr Y5) u6 (fun q e => by have e := Option.some.inj e; omega))).ws kk hm1)).mono ?_; rintro e w7 ⟨rfl, y7⟩; have b7 := b6.keep y7 (by simp); clear t0 t1 t2 t3; obtain ⟨t0, t1, t2, t3⟩ := BxS.cell4 b7; obtain ⟨c2, hrun, hat2, _⟩ := (hown6.kept y7 (by simp)).lookup_int law3 Try.underlying53 Try.underlying3 (zero3 _) hkey; rw [Maps.atKey_put_same hM5.own.isMap (by trivial)] at hat2; injection hat2 with hat2; injection hat2 with _ hat2; subst hat2))
            have hM7 := (hM5.put (x := kk.d) HD1.out HHI.out hI hown6).keep y7 (by simp)
            have YF := grown_trans (grown_far (grown_trans yr Y5) u6 (fun q e => by have e := Option.some.inj e; omega)) y7
            refine ⟨⟨k + 1, _, by go_num, by omega, by rw [HS.out, hkb, HHI.out]; rfl, hM7, YF⟩, by simp [intOf]; omega⟩
      · have hlt' : ¬ (k : Int) < (n : Int) := by omega
        obtain rfl : k = n := by omega
        go_wp2
        go_ret
        exact ⟨by rw [HRB.out, hok]; rfl, grown_trans g0 yr⟩
  · have h8' : (8 : Int) < (n : Int) := by omega
    have HRB : Hid (rmB R = false) := by show _ = _; unfold rmB; rw [hlR, decide_eq_false h8]; rfl
    go_enter Try.func19, Try.ntmps19
    go_wp2
    go_ret
    exact ⟨by rw [HRB.out]; rfl, g0⟩
end Go.Proofs.Ytdpgblojdppfeaa
