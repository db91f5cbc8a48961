import Derived.Test.YtemlkgllbioigaaFDivL
import Derived.Deep.RegionLawGrows
namespace Go.Proofs.Ytemlkgllbioigaa
open Go.RowKit
set_option maxRecDepth 100000
set_option linter.unusedVariables false
set_option linter.unusedSimpArgs false

set_option maxHeartbeats 40000000 in
theorem divides_walk (a b : Option Addr) (n m cap cap' : Nat) (P Q : List Nat) (w : World) (hp : Rd w a n cap P) (hq : Rd w b m cap' Q) (hn : n ≤ 256) (hm : m ≤ 256) (hz : trimN Q m ≠ 0) :
    Calls Try.prog 9 #[.slice a n cap, .slice b m cap'] w fun e w' => e = .returned (.bool true) ∧ Below w.heap.size w w' := by
  have hz' : trimN Q Q.length ≠ 0 := by rw [hq.len]; exact hz
  have hPl : P.length ≤ 512 := by rw [hp.len]; omega
  have hQl : Q.length ≤ 512 := by rw [hq.len]; omega
  have hE : ovE P Q = 0 := by unfold ovE; rw [if_pos ⟨hPl, hQl⟩, if_neg hz']
  have hCl : (timR P Q).length ≤ 512 := by
    unfold timR; rw [if_pos ⟨hPl, hQl⟩]
    have h := trimL_le (timL P Q)
    have e : (timL P Q).length = P.length + Q.length := timN_length P Q _
    rw [e, hp.len, hq.len] at h
    omega
  have hE2 : ovE (timR P Q) Q = 0 := by unfold ovE; rw [if_pos ⟨hCl, hQl⟩, if_neg hz']
  have hAl : (ovQ P Q).length ≤ 512 := by have := ovQ_small (P := P) hz'; omega
  have HS := div_sum hp.byte hq.byte hPl hQl hz'
  have HR := div_rest hp.byte hq.byte hPl hQl hz'
  have HB := div_back hp.byte hq.byte hPl hQl hCl hz'
  have HN : (trimL (sumL Q [])).length = (trimL Q).length := by rw [trim_self]
  obtain ⟨Z, hZ⟩ : ∃ Z, Z = trimL (sumL P []) := ⟨_, rfl⟩
  rw [← hZ] at HS HB
  have HZ : Hid (Z = trimL (sumL P [])) := hZ
  have HSh : Hid (trimL (sumL (timR (ovQ P Q) Q) (ovT P Q)) = Z) := HS
  have HBh : Hid (ovQ (timR P Q) Q = Z ∧ ovT (timR P Q) Q = []) := HB
  have HE : Hid (ovE P Q = 0 ∧ ovE (timR P Q) Q = 0) := ⟨hE, hE2⟩
  have hl0 : 0 < (trimL Q).length := by rw [trimL_len]; omega
  have hte1 : terr n m = 0 := by unfold terr; rw [if_pos (by omega)]
  have hte2 : ∀ na, na ≤ 512 → terr na m = 0 := fun na h => by unfold terr; rw [if_pos (by omega)]
  have HT : Hid (terr n m = 0 ∧ ∀ na, na ≤ 512 → terr na m = 0) := ⟨hte1, hte2⟩
  clear HS HB hZ hE hE2 hte1 hte2
  have t1 : True := trivial
  go_enter Try.func9, Try.ntmps9
  go_wp2_with (first
    | (go_at_call 25; have _t := t1; clear t1; refine (sum_any b none m 0 cap' 0 Q [] w hq (rd_nil w) (by omega) (by omega)).mono ?_; rintro e w1 ⟨a1, n1, c1, rfl, hs1, g01⟩; have hn1 := hs1.len.symm.trans HN; have hn1z : ((n1 : Int) == 0) = false := (by simp; omega); have hp1 := hp.keep g01; have hq1 := hq.keep g01; have t2 : True := trivial)
    | (go_at_call 29; have _t := t2; clear t2; refine (over_all a b n m cap cap' P Q w1 hp1 hq1).mono ?_; rintro e w2 ⟨aa, na, ca, ar, nr, cr, rfl, ha2, hr2, g12, _⟩; rw [HE.out.1]; have hna := ha2.len; have hnr := hr2.len; have g02 := grown_trans g01 g12; have hq2 := hq.keep g02; have hp2 := hp.keep g02; have t3 : True := trivial)
    | (go_at_call 23; have _t := t3; clear t3; refine (times_all aa b na m ca cap' (ovQ P Q) Q w2 ha2.rd hq2).mono ?_; rintro e w3 ⟨ab, nb, cb, rfl, hb3, g23⟩; rw [HT.out.2 na (by omega)]; have hp3 := hp2.keep g23; have hq3 := hq2.keep g23; have t4 : True := trivial)
    | (go_at_call 23; have _t := t4; clear t4; refine (times_all a b n m cap cap' P Q w3 hp3 hq3).mono ?_; rintro e w4 ⟨ac, nc, cc, rfl, hc4, g34⟩; rw [HT.out.1]; have hp4 := hp3.keep g34; have hq4 := hq3.keep g34; have t5 : True := trivial)
    | (go_at_call 29; have _t := t5; clear t5; refine (over_all ac b nc m cc cap' (timR P Q) Q w4 hc4.rd hq4).mono ?_; rintro e w5 ⟨ak, nk, ck, as_, ns, cs, rfl, hk5, hs5, g45, _⟩; rw [HE.out.2]; rw [HBh.out.1] at hk5; rw [HBh.out.2] at hs5; have hns : ns = 0 := hs5.len.symm; subst hns; have t6 : True := trivial))
  have hb5 := (hb3.keep (grown_trans g34 g45)).rd.keep (grown_drew w5 none)
  have hr5 := (hr2.keep (grown_trans g23 (grown_trans g34 g45))).rd.keep (grown_drew w5 none)
  have g25 := grown_trans g23 (grown_trans g34 g45)
  have hp5 := (hp2.keep g25).keep (grown_drew w5 none)
  have hnb := hb3.len
  have htl := timR_le (ovQ P Q) Q
  have hlt : (nr : Int) < ((trimL Q).length : Int) := by omega
  have hltN : nr < (trimL Q).length := by omega
  have hQt := trimL_le Q
  have hZl := sumL_le P []
  have HZl : Hid ((trimL (sumL P [])).length ≤ 512) := by show _ ≤ _; simp at hZl; omega
  clear hZl
  have H7 := sum_any ab ar nb nr cb cr (timR (ovQ P Q) Q) (ovT P Q) w5.drew hb5 hr5 (by omega) (by omega)
  have H8 : ∀ w7, Rd w7 a n cap P → _ := fun w7 h => sum_any a none n 0 cap 0 P [] w7 h (rd_nil w7) (by omega) (by omega)
  rw [HSh.out] at H7
  rw [← HZ.out] at H8
  have hk5d := hk5.keep (grown_drew w5 none)
  have GG := grown_trans g02 (grown_trans g25 (grown_drew w5 none))
  clear hs1 ha2 hq1 hp1 hq2 hq3 hp3 hq4 hp4 hc4 hb5 hr5 hr2 hb3 hk5 hQt
  clear hp hq hn hm hz hz' hPl hQl hCl hAl HR HN HZ HSh HBh HE hl0 HT g01 hn1z g12 hna hnr g02 hp2 g23 g34 g45 hs5 g25 hnb htl HZl hn1
  go_region_held (fun _ => True) (trivial) (first
    | (go_at_call 25; have _t := t6; clear t6; refine H7.mono ?_; rintro e w7 ⟨a7, n7, c7, rfl, hs7, g57⟩; have e7 := str_any w7 a7 n7 c7 Z hs7.rd; have hp7 := hp5.keep g57; have hk7 := hk5d.keep g57; have ek7 := str_any w7 ak nk ck Z hk7.rd; have t7 : True := trivial)
    | (go_at_call 25; have _t := t7; clear t7; refine (H8 w7 hp7).mono ?_; rintro e w8 ⟨a8, n8, c8, rfl, hs8, g78⟩; have e78 := str_any w8 a7 n7 c7 Z (hs7.keep g78).rd; have e8 := str_any w8 a8 n8 c8 Z hs8.rd; have hp8 := hp7.keep g78; have hk8 := hk7.keep g78; have ek8 := str_any w8 ak nk ck Z hk8.rd; have t8 : True := trivial)
    | (go_at_call 25; have _t := t8; clear t8; refine (H8 w8 hp8).mono ?_; rintro e w9 ⟨a9, n9, c9, rfl, hs9, g89⟩; have e9 := str_any w9 a9 n9 c9 Z hs9.rd; have ek9 := str_any w9 ak nk ck Z (hk8.keep g89).rd))
  all_goals
    go_wp2
    go_ret
    exact ⟨rfl, below_of (grown_trans GG (grown_trans g57 (grown_trans g78 g89)))⟩
end Go.Proofs.Ytemlkgllbioigaa
