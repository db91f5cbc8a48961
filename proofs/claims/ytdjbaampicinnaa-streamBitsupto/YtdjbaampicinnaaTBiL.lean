import Derived.Test.YtdjbaampicinnaaTBy3
namespace Go.Proofs.Ytdjbaampicinnaa
open Go.RowKit
set_option maxRecDepth 100000
set_option linter.unusedVariables false
set_option linter.unusedSimpArgs false

theorem bytR_le (B : List Nat) : (bytR B).length ≤ B.length := by
  unfold bytR bytL
  split
  · rw [tab_len]; omega
  · simp
set_option maxHeartbeats 4000000 in
theorem bits_walk (a b : Option Addr) (n m cap cap' : Nat) (P Q : List Nat) (w : World) (hp : Rd w a n cap P) (hq : Rd w b m cap' Q) (hn : n ≤ 1048576) (hm : m ≤ 1048576) :
    Calls Try.prog 3 #[.slice a n cap, .slice b m cap'] w fun e w' => e = .returned (.bool true) ∧ Below w.heap.size w w' := by
  have t1 : True := trivial
  have sle := bytR_le Q
  have hql := hq.len
  have s1 := scrL_len P
  have s2 := bitL_len P
  have hpl := hp.len
  go_enter Try.func3, Try.ntmps3
  go_wp2_with (first
    | (go_at_call 4; have _t := t1; clear t1; refine (roomy_any a n cap P w hp (by omega)).mono ?_; rintro e w1 ⟨rfl, ⟨Dh, hh1⟩, g01⟩; have hq1 := hq.keep g01; have t2 : True := trivial)
    | (go_at_call 4; have _t := t2; clear t2; refine (roomy_any b m cap' Q w1 hq1 (by omega)).mono ?_; rintro e w2 ⟨rfl, ⟨Dk, hk2⟩, g12⟩; have hh2 := hh1.keep g12; have hq2 := hq1.keep g12; have g02 := grown_trans g01 g12; have t3 : True := trivial)
    | (go_at_call 5; have _t := t3; clear t3; refine (rbytes_any b m cap' Q w2 hq2 (by omega)).mono ?_; rintro e w3 ⟨aw, nw, cw, rfl, hw3, g23⟩; have hK3 := (hk2.keep g23).rd hq.byte hq.len (by omega); have t4 : True := trivial)
    | (go_at_call 6; have _t := t4; clear t4; refine (bytes_any _ m _ Q w3 hK3 (by omega)).mono ?_; rintro e w4 ⟨aa, na, ca, rfl, ha4, g34⟩; have hK4 := hK3.keep g34; have t5 : True := trivial)
    | (go_at_call 6; have _t := t5; clear t5; refine (bytes_any _ m _ Q w4 hK4 (by omega)).mono ?_; rintro e w5 ⟨ab, nb, cb, rfl, hb5, g45⟩; have hna := ha4.len; have t6 : True := trivial)
    | (go_at_call 7; have _t := t6; clear t6; refine (twice_any aa ab aw na nb nw ca cb cw w3.heap.size _ w5 (ha4.keep g45) hb5.rd (hw3.keep (grown_trans g34 g45)).rd (by omega) (ha4.later hb5 (Nat.le_refl _)) (ha4.earlier hw3 (Nat.le_refl _))).mono ?_; rintro e w6 ⟨rfl, g56⟩; have g26 := grown_far (grown_trans g23 (grown_trans g34 g45)) g56 (ha4.far _ g23.size); have g06 := grown_trans g02 g26; have t7 : True := trivial)
    | (go_at_call 8; have _t := t7; clear t7; refine (left_any w1.heap.size b m cap' Q Dk w6 (hk2.keep g26) (hq.keep g06) (by omega)).mono ?_; rintro e w7 ⟨rfl, g67⟩; have g27 := grown_trans g26 g67; have g07 := grown_trans g02 g27; have hH7 := (hh2.keep g27).rd hp.byte hp.len (by omega); have hp7 := hp.keep g07; have t8 : True := trivial)
    | (go_at_call 9; have _t := t8; clear t8; refine (scramble_any _ n _ P w7 hH7 (by omega)).mono ?_; rintro e w8 ⟨ac, rfl, hc8, g78⟩; have hH8 := hH7.keep g78; have t9 : True := trivial)
    | (go_at_call 9; have _t := t9; clear t9; refine (scramble_any _ n _ P w8 hH8 (by omega)).mono ?_; rintro e w9 ⟨ad, rfl, hd9, g89⟩; have hp9 := hp7.keep (grown_trans g78 g89); have t10 : True := trivial)
    | (go_at_call 10; have _t := t10; clear t10; refine (rscramble_any a n cap P w9 hp9 (by omega)).mono ?_; rintro e w10 ⟨ae, ce, rfl, he10, g910⟩; have t11 : True := trivial)
    | (go_at_call 7; have _t := t11; clear t11; refine (twice_any ac ad ae n n n n n ce w7.heap.size _ w10 (hc8.keep (grown_trans g89 g910)) (hd9.keep g910).rd he10.rd (by omega) (hc8.later hd9 (Nat.le_refl _)) (hc8.later he10 g89.size)).mono ?_; rintro e w11 ⟨rfl, g1011⟩; have g711 := grown_far (grown_trans g78 (grown_trans g89 g910)) g1011 (hc8.far _ (Nat.le_refl _)); have hH11 := hH7.keep g711; have hp11 := hp7.keep g711; have t12 : True := trivial)
    | (go_at_call 11; have _t := t12; clear t12; refine (sbits_any _ n _ P w11 hH11 (by omega)).mono ?_; rintro e w12 ⟨af, cf, rfl, hf12, g1112⟩; have hH12 := hH11.keep g1112; have t13 : True := trivial)
    | (go_at_call 11; have _t := t13; clear t13; refine (sbits_any _ n _ P w12 hH12 (by omega)).mono ?_; rintro e w13 ⟨ag, cg, rfl, hg13, g1213⟩; have hp13 := hp11.keep (grown_trans g1112 g1213); have t14 : True := trivial)
    | (go_at_call 12; have _t := t14; clear t14; refine (rbits_any a n cap P w13 hp13 (by omega)).mono ?_; rintro e w14 ⟨ah, ch, rfl, hh14, g1314⟩; have t15 : True := trivial)
    | (go_at_call 7; have _t := t15; clear t15; refine (twice_any af ag ah (8 * n) (8 * n) (8 * n) cf cg ch w11.heap.size _ w14 (hf12.keep (grown_trans g1213 g1314)) (hg13.keep g1314).rd hh14.rd (by omega) (hf12.later hg13 (Nat.le_refl _)) (hf12.later hh14 g1213.size)).mono ?_; rintro e w15 ⟨rfl, g1415⟩; have g1115 := grown_far (grown_trans g1112 (grown_trans g1213 g1314)) g1415 (hf12.far _ (Nat.le_refl _)); have g215 := grown_trans g27 (grown_trans g711 g1115); have g015 := grown_trans g02 g215; have t16 : True := trivial)
    | (go_at_call 8; have _t := t16; clear t16; refine (left_any w.heap.size a n cap P Dh w15 (hh2.keep g215) (hp.keep g015) (by omega)).mono ?_; rintro e w16 ⟨rfl, g1516⟩))
  go_ret
  exact ⟨rfl, (Below.refl _ _).grown (grown_trans g015 g1516) (Nat.le_refl _) (fun k hk => by cases hk)⟩
end Go.Proofs.Ytdjbaampicinnaa
