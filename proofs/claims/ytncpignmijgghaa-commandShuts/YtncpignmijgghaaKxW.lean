import Derived.Test.YtncpignmijgghaaKxA
import Derived.Test.YtncpignmijgghaaKxZ
import Derived.Test.YtncpignmijgghaaKxF
import Derived.Test.YtncpignmijgghaaKxD
import Derived.Test.YtncpignmijgghaaYZi
import Derived.Test.YtncpignmijgghaaZOp
namespace Go.Proofs.Ytncpignmijgghaa
open Go.RowKit
set_option maxRecDepth 100000
set_option linter.unusedVariables false
set_option linter.unusedSimpArgs false

theorem pickK_any (n of : Int) (w : World) (h1 : -9223372036854775808 ≤ n) (h2 : n ≤ 9223372036854775807) (ho : 0 < of) (ho2 : of ≤ 9223372036854775807) :
    Calls Try.prog 8 #[.int .i64 n, .int .i64 of] w fun e w' => ∃ v : Nat, (v : Int) < of ∧ e = .returned (.int .i64 v) ∧ w' = w := by
  by_cases hn : n < 0
  · have hnz : ¬ of = 0 := by omega
    go_enter Try.func8, Try.ntmps8
    go_wp2
    go_ret
    have p1 := Int.emod_nonneg (-(n + 1)) (show of ≠ 0 by omega)
    have p2 := Int.emod_lt_of_pos (-(n + 1)) ho
    have e : -((n + 1).tmod of) = (-(n + 1)) % of := by rw [← Int.neg_tmod, Int.tmod_eq_emod_of_nonneg (by omega)]
    refine ⟨((-(n + 1)) % of).toNat, by omega, ?_, rfl⟩
    refine congrArg (fun z => Ending.returned (Value.int .i64 z)) (?_ : -((n + 1).tmod of) = _)
    rw [e]; omega
  · have hnz : ¬ of = 0 := by omega
    go_enter Try.func8, Try.ntmps8
    go_wp2
    go_ret
    have p1 := Int.emod_nonneg n (show of ≠ 0 by omega)
    have p2 := Int.emod_lt_of_pos n ho
    refine ⟨(n % of).toNat, by omega, ?_, rfl⟩
    refine congrArg (fun z => Ending.returned (Value.int .i64 z)) (?_ : n % of = _)
    omega
theorem guardK_any (h : Int) (w : World) (h2 : 1 ≤ h) (h3 : h ≤ 127) : Calls Try.prog 9 #[.int .i64 9, .int .i64 h] w fun e w' => e = .returned (.tuple #[.agg #[.int .i64 9, .int .i64 0, .int .i64 h, .bool false, .bool false, .bool false, .int .i64 0], .int .i64 0]) ∧ w.grownBy w' none := by
  have hk : (kwB 9 0 1023 && kwB h 1 127) = true := by rw [kwB_i (by decide) (by decide), kwB_i h2 h3]; rfl
  refine (guard_any 9 h w).mono ?_
  rintro e w' ⟨rfl, g⟩
  refine ⟨?_, g⟩
  unfold guX guE gtA
  simp [hk]
theorem acFar (n h d : Int) (h0 : 0 ≤ n) (h1 : n ≤ 255) (h2 : 1 ≤ h) (h3 : h ≤ 127) (d0 : h ≤ d) (d1 : d < 256 - h) (x : Nat) (a : Option Addr) (c : Nat) (wz : World) (hz : Rd wz a 1 c [x]) : Calls Try.prog 10 #[.agg #[.int .i64 9, .int .i64 n, .int .i64 h, .bool false, .bool false, .bool false, .int .i64 0], .agg #[.int .i64 9, .bool false, .bool false, .int .i64 ((n + d) % 256), .slice a 1 c], .bool true] wz fun e w' => e = .returned (.tuple #[.agg #[.int .i64 9, .int .i64 n, .int .i64 h, .bool true, .bool false, .bool false, .int .i64 0], .bool false, .int .i64 15]) ∧ wz.grownBy w' none := by
  have hAc := accept_any ⟨9, n, h, false, false, false, 0⟩ 9 false false ((n + d) % 256) a 1 c [x] true wz hz
  rw [acc_far n h d h0 h1 h2 h3 d0 d1 x] at hAc
  exact hAc
theorem acPast (n h ct : Int) (wa ag : Bool) (h0 : 0 ≤ n) (h1 : n ≤ 255) (h2 : 1 ≤ h) (h3 : h ≤ 127) (c0 : 0 ≤ ct) (c1 : ct ≤ 3) (sq : Int) (s0 : 0 ≤ sq) (s1 : sq ≤ 255) (x : Nat) (a : Option Addr) (c : Nat) (wz : World) (hz : Rd wz a 1 c [x]) : Calls Try.prog 10 #[.agg #[.int .i64 9, .int .i64 n, .int .i64 h, .bool true, .bool wa, .bool ag, .int .i64 ct], .agg #[.int .i64 9, .bool true, .bool false, .int .i64 sq, .slice a 1 c], .bool true] wz fun e w' => e = .returned (.tuple #[.agg #[.int .i64 9, .int .i64 n, .int .i64 h, .bool true, .bool wa, .bool ag, .int .i64 ((ct + 1) % 4)], .bool true, .int .i64 0]) ∧ wz.grownBy w' none := by
  have hAc := accept_any ⟨9, n, h, true, wa, ag, ct⟩ 9 true false sq a 1 c [x] true wz hz
  rw [acc_past n h ct wa ag h0 h1 h2 h3 c0 c1 sq s0 s1 x] at hAc
  exact hAc
theorem acShut (n h ct : Int) (wa ag : Bool) (h0 : 0 ≤ n) (h1 : n ≤ 255) (h2 : 1 ≤ h) (h3 : h ≤ 127) (c0 : 0 ≤ ct) (c1 : ct ≤ 3) (sq : Int) (s0 : 0 ≤ sq) (s1 : sq ≤ 255) (x : Nat) (a : Option Addr) (c : Nat) (wz : World) (hz : Rd wz a 1 c [x]) : Calls Try.prog 10 #[.agg #[.int .i64 9, .int .i64 n, .int .i64 h, .bool true, .bool wa, .bool ag, .int .i64 ct], .agg #[.int .i64 9, .bool false, .bool false, .int .i64 sq, .slice a 1 c], .bool true] wz fun e w' => e = .returned (.tuple #[.agg #[.int .i64 9, .int .i64 n, .int .i64 h, .bool true, .bool wa, .bool ag, .int .i64 ct], .bool false, .int .i64 15]) ∧ wz.grownBy w' none := by
  have hAc := accept_any ⟨9, n, h, true, wa, ag, ct⟩ 9 false false sq a 1 c [x] true wz hz
  rw [acc_shut n h ct wa ag h0 h1 h2 h3 c0 c1 sq s0 s1 x] at hAc
  exact hAc
theorem acFree (n h ct : Int) (wa ag : Bool) (h0 : 0 ≤ n) (h1 : n ≤ 255) (h2 : 1 ≤ h) (h3 : h ≤ 127) (c0 : 0 ≤ ct) (c1 : ct ≤ 3) (a : Option Addr) (c : Nat) (wz : World) (hz : Rd wz a 1 c [0]) : Calls Try.prog 10 #[.agg #[.int .i64 9, .int .i64 n, .int .i64 h, .bool true, .bool wa, .bool ag, .int .i64 ct], .agg #[.int .i64 9, .bool true, .bool true, .int .i64 0, .slice a 1 c], .bool true] wz fun e w' => e = .returned (.tuple #[.agg #[.int .i64 9, .int .i64 n, .int .i64 h, .bool false, .bool false, .bool false, .int .i64 ((ct + 1) % 4)], .bool false, .int .i64 0]) ∧ wz.grownBy w' none := by
  have hAc := accept_any ⟨9, n, h, true, wa, ag, ct⟩ 9 true true 0 a 1 c [0] true wz hz
  rw [acc_free n _ ct wa ag h0 h1 h2 h3 c0 c1] at hAc
  exact hAc
theorem acNext (n h ct : Int) (h0 : 0 ≤ n) (h1 : n ≤ 255) (h2 : 1 ≤ h) (h3 : h ≤ 127) (c0 : 0 ≤ ct) (c1 : ct ≤ 3) (x : Nat) (a : Option Addr) (c : Nat) (wz : World) (hz : Rd wz a 1 c [x]) : Calls Try.prog 10 #[.agg #[.int .i64 9, .int .i64 n, .int .i64 h, .bool false, .bool false, .bool false, .int .i64 ct], .agg #[.int .i64 9, .bool false, .bool false, .int .i64 n, .slice a 1 c], .bool true] wz fun e w' => ∃ g : Gt, e = .returned (.tuple #[.agg #[.int .i64 g.cr, .int .i64 g.nx, .int .i64 g.ha, .bool g.sh, .bool g.wa, .bool g.ag, .int .i64 g.ct], .bool true, .int .i64 0]) ∧ wz.grownBy w' none := by
  have hAc := accept_any ⟨9, n, h, false, false, false, ct⟩ 9 false false n a 1 c [x] true wz hz
  obtain ⟨g, e⟩ := acc_next n _ ct h0 h1 h2 h3 c0 c1 x
  rw [e] at hAc
  refine hAc.mono ?_
  rintro e w' ⟨rfl, hg⟩
  exact ⟨g, rfl, hg⟩
/-- two may come up -/
theorem wpAnyZ_twoB8 {P : Program} {ops : Array Oper} {Q : Exit → Act → World → Prop} {md : Region.Mode} {S : World → Prop} {Z : List Nat} (i j : Nat) {o o' : Oper} {fuel : Nat} {listed : Array Bool} {a : Act} {w : World} (ho : ops[i]? = some o) (ho' : ops[j]? = some o') (hr : (Region.ready md ops listed == [i, j]) = true)
    (h : ∀ K' : Act → World → Prop, (∀ a w, (i ∉ Z → S w) → wpAnyZ P md ops Q S Z fuel (listed.setIfInBounds i true) a w → K' a w) → if Region.wanted o (yielded ops a.tmps) = true then Oper.wp P o a w K' Q else K' (a.put o.dst undef) w)
    (h' : ∀ K' : Act → World → Prop, (∀ a w, (j ∉ Z → S w) → wpAnyZ P md ops Q S Z fuel (listed.setIfInBounds j true) a w → K' a w) → if Region.wanted o' (yielded ops a.tmps) = true then Oper.wp P o' a w K' Q else K' (a.put o'.dst undef) w) :
    wpAnyZ P md ops Q S Z (fuel + 1) listed a w := by
  have hr := eq_of_beq hr
  refine ⟨fun h0 => (by rw [hr] at h0; cases h0), fun k hk => ?_⟩
  rw [hr] at hk
  rcases List.mem_cons.1 hk with e | hk
  · subst e
    exact wpOp_step ho (fun K' hK => h K' (fun a w hS hW => hK a w ⟨hS, hW⟩))
  · have e := List.mem_singleton.1 hk
    subst e
    exact wpOp_step ho' (fun K' hK => h' K' (fun a w hS hW => hK a w ⟨hS, hW⟩))
theorem step_run8 {w w' : World} {ops : Array Oper} {o : Oper} {a : Act} {K : Act → World → Prop} {Q : Exit → Act → World → Prop} {E : Prop} (v : Value) (hw : Region.wanted o (yielded ops a.tmps) = true) (hy : (execOp a.eval o).run Try.prog w = .ok (.value v) w') (h : K (a.put o.dst v) w') :
    if Region.wanted o (yielded ops a.tmps) = true then Oper.wp Try.prog o a w K Q else E := by
  rw [if_pos hw]
  unfold Oper.wp
  rw [hy]
  exact h
theorem below_of_grownK {w w' : World} (h : w.grownBy w' none) : Below w.heap.size w w' := (Below.refl _ _).grown h (Nat.le_refl _) (fun k hk => by cases hk)
theorem rd_one (w : World) (x : Nat) (hx : x < 256) : Rd (w.alloc (.cells #[.int .u8 (x : Int)] 5)) (some ⟨w.heap.size, 0, none⟩) 1 1 [x] := by
  have hB : Blk (w.alloc (.cells #[.int .u8 (x : Int)] 5)) w.heap.size [x] := heap_alloc_new w _
  exact hB.rd (by intro y hy; simp at hy; omega) rfl (by decide)
set_option maxHeartbeats 32000000 in
theorem shuts_core (B : List Nat) (hFree : ∀ wz, Calls Try.prog 7 #[.agg #[.int .i64 9, .int .i64 0, .int .i64 1, .slice none 0 0, .slice none 0 0, .int .i64 0, .int .i64 1, .int .i64 0, .int .i64 1, .int .i64 0, .int .i64 0, .int .i64 15]] wz fun e w' => ∃ aS cS aq cq bu uc ra rn rc, e = .returned (.tuple #[.agg #[.int .i64 9, .int .i64 0, .int .i64 1, .slice aS 0 cS, .slice aq 0 cq, .int .i64 0, .int .i64 1, .int .i64 0, .int .i64 1, .int .i64 0, .int .i64 0, .int .i64 0], .slice (some ⟨bu, 0, none⟩) 1 uc, .int .i64 0]) ∧ bu < w'.heap.size ∧ w'.cell? ⟨bu, 0, none⟩ = some (.slice ra rn rc) ∧ Rd w' ra rn rc B ∧ wz.grownBy w' none)
    (hDec : ∀ a n c wz, Rd wz a n c B → Calls Try.prog 11 #[.slice a n c] wz fun e w' => ∃ a' c', e = .returned (.tuple #[.agg #[.int .i64 9, .bool true, .bool true, .int .i64 0, .slice a' 1 c'], .int .i64 0]) ∧ Ans w' wz.heap.size a' 1 c' [0] ∧ wz.grownBy w' none)
    (ha nx fa : Int) (a1 : Option Addr) (n1 cl : Nat) (S : List Int) (w : World) (hL : RdI w a1 n1 cl S) (hLb : ∀ i, -9223372036854775808 ≤ nthI S i ∧ nthI S i ≤ 9223372036854775807) (hr1 : -9223372036854775808 ≤ ha) (hr2 : ha ≤ 9223372036854775807) (hr3 : -9223372036854775808 ≤ nx) (hr4 : nx ≤ 9223372036854775807) (hr5 : -9223372036854775808 ≤ fa) (hr6 : fa ≤ 9223372036854775807) :
    Calls Try.prog 4 #[.int .i64 ha, .int .i64 nx, .int .i64 fa, .slice a1 n1 cl] w fun e w' => e = .returned (.bool true) ∧ Below w.heap.size w w' := by
  have t1 : True := trivial
  have i7 := Try.info_gt
  go_enter Try.func4, Try.ntmps4
  go_wp2_with (first
    | (go_at_call 8; have _t := t1; clear t1; with_reducible refine (pickK_any nx 256 _ hr3 hr4 (by decide) (by decide)).mono ?_; rintro e w' ⟨n, hn, rfl, hw'⟩; replace hw' := hw'.symm; subst hw'; have t2 : True := trivial)
    | (go_at_call 8; have _t := t2; clear t2; with_reducible refine (pickK_any ha 127 _ hr1 hr2 (by decide) (by decide)).mono ?_; rintro e w' ⟨h', hh', rfl, hw'⟩; replace hw' := hw'.symm; subst hw'; have t3 : True := trivial)
    | (go_at_call 9; have _t := t3; clear t3; refine (guardK_any (1 + (h' : Int)) _ (by omega) (by omega)).mono ?_; rintro e w1 ⟨rfl, g1⟩; have hof : (0 : Int) < 256 - 2 * (1 + (h' : Int)) := (by omega); have p1 := BxS.new w1 33 #[.int .i64 9, .int .i64 0, .int .i64 (1 + (h' : Int)), .bool false, .bool false, .bool false, .int .i64 0]; have y1 := World.grownBy_alloc w1 (.cells #[.int .i64 9, .int .i64 0, .int .i64 (1 + (h' : Int)), .bool false, .bool false, .bool false, .int .i64 0] 33) none; have t4 : True := trivial)
    | (have _t := t4; refine wpList_stC _ rfl _ _ _ rfl w1.heap.size 1 33 _ #[.int .i64 9, .int .i64 (n : Int), .int .i64 (1 + (h' : Int)), .bool false, .bool false, .bool false, .int .i64 0] (.int .i64 (n : Int)) rfl rfl p1 (stc_int _ _ _) (by show 1 < 7; decide) rfl ?_; clear t4; intro w2 b2 u2; obtain ⟨c0, c1, c2, c3, c4, c5, c6⟩ := b2.cell7; have t5 : True := trivial)
    | (go_at_call 8; have _t := t5; clear t5; with_reducible refine (pickK_any fa (256 - 2 * (1 + (h' : Int))) _ hr5 hr6 hof (by omega)).mono ?_; rintro e w' ⟨d', hd', rfl, hw'⟩; replace hw' := hw'.symm; subst hw'; have hd1 : (1 + (h' : Int)) + (d' : Int) < 256 - (1 + (h' : Int)) := (by omega); have ya := World.grownBy_alloc w2 (.cells #[.int .u8 1] 5) none; have rd1 := rd_one w2 1 (by decide); have b2a := b2.keep ya (by simp); have t6 : True := trivial)
    | (go_at_call 10; have _t := t6; clear t6; refine (acFar (n : Int) (1 + (h' : Int)) (1 + (h' : Int) + (d' : Int)) (by omega) (by omega) (by omega) (by omega) (by omega) (by omega) 1 _ 1 _ rd1).mono ?_; rintro e w3 ⟨rfl, g3⟩; clear c0 c1 c2 c3 c4 c5 c6; have b3 := b2a.keep g3 (by simp); have t7 : True := trivial)
    | (have _t := t7; refine wpList_stX _ rfl _ (.tmp 11) (.tmp 53) rfl w1.heap.size _ _ rfl rfl b3 i7 rfl (by simp [Value.oneCell']) ?_; clear t7; intro w4 b4 g4; obtain ⟨c0, c1, c2, c3, c4, c5, c6⟩ := b4.cell7))
  have Gw4 : w.grownBy w4 none := by
    have s1 := g1.size
    exact grown_far (grown_trans (grown_trans (grown_far (grown_trans g1 y1) u2 (fun q e => by have e : w1.heap.size = q := Option.some.inj e; omega)) ya) g3) g4 (fun q e => by have e : w1.heap.size = q := Option.some.inj e; omega)
  have hm1 := hL.le
  have hm2 := hL.max
  unfold maxLen at hm2
  have sz1 := g1.size
  clear c0 c1 c2 c3 c4 c5 c6 p1 y1 b2 u2 ya rd1 b2a g3 b3
  go_loopw [12, 15, 16, 17] (fun s12 s15 s16 s17 wr => ∃ (k : Nat) (ct : Int), s16 = .int .i64 k ∧ k ≤ n1 ∧ k ≤ 300 ∧ 0 ≤ ct ∧ ct ≤ 3 ∧ BxS wr w1.heap.size 33 #[.int .i64 9, .int .i64 (n : Int), .int .i64 (1 + (h' : Int)), .bool true, .bool false, .bool false, .int .i64 ct] ∧ w.grownBy wr none) (fun _ _ s16 _ _ => 300 - (intOf s16).toNat)
  case atStart => exact ⟨0, 0, by go_num, by omega, by omega, by decide, by decide, b4, Gw4⟩
  case round =>
    obtain ⟨k, ct, rfl, hk, hk3, hct0, hct3, hB, hgr⟩ := hrel
    obtain ⟨c0, c1, c2, c3, c4, c5, c6⟩ := hB.cell7
    clear Gw4 b4 g4
    by_cases hlt : k < n1 ∧ k < 300
    · obtain ⟨hl1, hl2⟩ := hlt
      have hl1' : (k : Int) < (n1 : Int) := by omega
      have hl2' : (k : Int) < 300 := by omega
      obtain ⟨lb, lo, rfl, hlb, hc⟩ := (hL.keep hgr).at' (by omega)
      have ck := hc k hl1
      clear hc
      obtain ⟨z0, z1⟩ := hLb k
      generalize nthI S k = zz at *
      have t7 : True := trivial
      go_wp2_with (go_at_call 8; have _t := t7; clear t7; with_reducible refine (pickK_any zz 2 _ z0 z1 (by decide) (by decide)).mono ?_; rintro e w' ⟨pp, hpp, rfl, hw'⟩; replace hw' := hw'.symm; subst hw'; rcases (show pp = 0 ∨ pp = 1 by omega) with rfl | rfl)
      · have SS := grown_drew wr none
        refine wp_regionL (fun wz => wr.grownBy wz none) [12, 13, 14, 15, 16, 17] #[false, false, false, false, false, false, false, false, false, false, false, false, false, false, false, false, false, false] rfl (by kernel_rfl) ?_
        refine wpAnyZ_take [10, 11, 12, 13, 14, 15, 16, 17] 0 (.agg #[.int .i64 9, .int .i64 (n : Int), .int .i64 (1 + (h' : Int)), .bool true, .bool false, .bool false, .int .i64 ct]) rfl (by kernel_rfl) (fun _ _ _ h => h) SS rfl (by intro wz hz; have ckz : wz.cell? ⟨lb, lo + k, none⟩ = some (.int .i64 zz) := (World.cell?_of_block (w := wr) (hz.block lb hlb (by simp))).trans ck; obtain ⟨y0, y1, y2, y3, y4, y5, y6⟩ := (hB.keep hz (by simp)).cell7; go_simp) ?_
        try simp only [List.getElem_toArray, List.getElem_cons_succ, List.getElem_cons_zero, Act.put, List.setIfInBounds_toArray, List.set_cons_zero, List.set_cons_succ]
        refine wpAnyZ_take [9, 10, 11, 12, 13, 14, 15, 16, 17] 1 (.bool false) rfl (by kernel_rfl) (fun _ _ _ h => h) SS rfl (by intro wz hz; have ckz : wz.cell? ⟨lb, lo + k, none⟩ = some (.int .i64 zz) := (World.cell?_of_block (w := wr) (hz.block lb hlb (by simp))).trans ck; obtain ⟨y0, y1, y2, y3, y4, y5, y6⟩ := (hB.keep hz (by simp)).cell7; go_simp) ?_
        try simp only [List.getElem_toArray, List.getElem_cons_succ, List.getElem_cons_zero, Act.put, List.setIfInBounds_toArray, List.set_cons_zero, List.set_cons_succ]
        refine wpAnyZ_take [4, 5, 6, 10, 11, 12, 13, 14, 15, 16, 17] 2 ((.slice (some ⟨lb, lo, none⟩) n1 cl)) rfl (by kernel_rfl) (fun _ _ _ h => h) SS rfl (by intro wz hz; have ckz : wz.cell? ⟨lb, lo + k, none⟩ = some (.int .i64 zz) := (World.cell?_of_block (w := wr) (hz.block lb hlb (by simp))).trans ck; obtain ⟨y0, y1, y2, y3, y4, y5, y6⟩ := (hB.keep hz (by simp)).cell7; go_simp) ?_
        try simp only [List.getElem_toArray, List.getElem_cons_succ, List.getElem_cons_zero, Act.put, List.setIfInBounds_toArray, List.set_cons_zero, List.set_cons_succ]
        refine wpAnyZ_take [4, 5, 6, 10, 11, 12, 13, 14, 15, 16, 17] 3 (.int .i64 (k : Int)) rfl (by kernel_rfl) (fun _ _ _ h => h) SS rfl (by intro wz hz; have ckz : wz.cell? ⟨lb, lo + k, none⟩ = some (.int .i64 zz) := (World.cell?_of_block (w := wr) (hz.block lb hlb (by simp))).trans ck; obtain ⟨y0, y1, y2, y3, y4, y5, y6⟩ := (hB.keep hz (by simp)).cell7; go_simp) ?_
        try simp only [List.getElem_toArray, List.getElem_cons_succ, List.getElem_cons_zero, Act.put, List.setIfInBounds_toArray, List.set_cons_zero, List.set_cons_succ]
        refine wpAnyZ_take [5, 6, 10, 11, 12, 13, 14, 15, 16, 17] 4 (.pointer (some ⟨lb, lo + k, none⟩)) rfl (by kernel_rfl) (fun _ _ _ h => h) SS rfl (by intro wz hz; have ckz : wz.cell? ⟨lb, lo + k, none⟩ = some (.int .i64 zz) := (World.cell?_of_block (w := wr) (hz.block lb hlb (by simp))).trans ck; obtain ⟨y0, y1, y2, y3, y4, y5, y6⟩ := (hB.keep hz (by simp)).cell7; go_simp) ?_
        try simp only [List.getElem_toArray, List.getElem_cons_succ, List.getElem_cons_zero, Act.put, List.setIfInBounds_toArray, List.set_cons_zero, List.set_cons_succ]
        refine wpAnyZ_take [6, 10, 11, 12, 13, 14, 15, 16, 17] 5 (.int .i64 zz) rfl (by kernel_rfl) (fun _ _ _ h => h) SS rfl (by intro wz hz; have ckz : wz.cell? ⟨lb, lo + k, none⟩ = some (.int .i64 zz) := (World.cell?_of_block (w := wr) (hz.block lb hlb (by simp))).trans ck; obtain ⟨y0, y1, y2, y3, y4, y5, y6⟩ := (hB.keep hz (by simp)).cell7; go_simp) ?_
        try simp only [List.getElem_toArray, List.getElem_cons_succ, List.getElem_cons_zero, Act.put, List.setIfInBounds_toArray, List.set_cons_zero, List.set_cons_succ]
        refine wpAnyZ_twoB8 6 8 rfl rfl (by kernel_rfl) (fun K hK => ?_) (fun K hK => ?_)
        · go_simp
          go_at_call 8
          with_reducible refine (pickK_any zz 512 _ z0 z1 (by decide) (by decide)).mono ?_
          rintro e w' ⟨p, hp, rfl, hw'⟩
          replace hw' := hw'.symm
          subst hw'
          dsimp only
          refine hK _ _ (fun _ => SS) ?_
          try simp only [List.getElem_toArray, List.getElem_cons_succ, List.getElem_cons_zero, Act.put, List.setIfInBounds_toArray, List.set_cons_zero, List.set_cons_succ]
          obtain ⟨p2, hp2⟩ : ∃ p2 : Nat, p2 = p / 2 := ⟨_, rfl⟩
          have hd1 : ((p : Int)).tdiv 2 = (p2 : Int) := by rw [Int.tdiv_eq_ediv_of_nonneg (by omega)]; omega
          have hd2 : ((p : Int)) / 2 = (p2 : Int) := by omega
          have hd3 : IntKind.i64.wrap (p2 : Int) = (p2 : Int) := wrap_i64_in _ (by omega) (by omega)
          have hp3 : p2 ≤ 255 := by omega
          clear hp2
          refine wpAnyZ_take [9, 10, 11, 12, 13, 14, 15, 16, 17] 7 (.int .i64 (p2 : Int)) rfl (by kernel_rfl) (fun _ _ _ h => h) SS rfl (by intro wz hz; have ckz : wz.cell? ⟨lb, lo + k, none⟩ = some (.int .i64 zz) := (World.cell?_of_block (w := wr) (hz.block lb hlb (by simp))).trans ck; obtain ⟨y0, y1, y2, y3, y4, y5, y6⟩ := (hB.keep hz (by simp)).cell7; go_simp) ?_
          try simp only [List.getElem_toArray, List.getElem_cons_succ, List.getElem_cons_zero, Act.put, List.setIfInBounds_toArray, List.set_cons_zero, List.set_cons_succ]
          refine wpAnyZ_oneB 8 rfl (by kernel_rfl) (fun K hK => ?_)
          refine step_run8 (w' := wr.drew.alloc (.cells #[.int .u8 2] 5)) (.slice (some ⟨wr.drew.heap.size, 0, none⟩) 1 1) rfl (by go_simp) ?_
          have yb := World.grownBy_alloc wr.drew (.cells #[.int .u8 2] 5) none
          have rdb := rd_one wr.drew 2 (by decide)
          have SB := grown_trans SS yb
          refine hK _ _ (fun _ => SB) ?_
          try simp only [List.getElem_toArray, List.getElem_cons_succ, List.getElem_cons_zero, Act.put, List.setIfInBounds_toArray, List.set_cons_zero, List.set_cons_succ]
          refine wpAnyZ_take [10, 11, 12, 13, 14, 15, 16, 17] 9 (.agg #[.int .i64 9, .bool false, .bool false, .int .i64 (p2 : Int), .slice (some ⟨wr.drew.heap.size, 0, none⟩) 1 1]) rfl (by kernel_rfl) (fun _ _ _ h => h) SB rfl (by intro wz hz; have ckz : wz.cell? ⟨lb, lo + k, none⟩ = some (.int .i64 zz) := (World.cell?_of_block (w := wr) (hz.block lb hlb (by simp))).trans ck; obtain ⟨y0, y1, y2, y3, y4, y5, y6⟩ := (hB.keep hz (by simp)).cell7; go_simp) ?_
          try simp only [List.getElem_toArray, List.getElem_cons_succ, List.getElem_cons_zero, Act.put, List.setIfInBounds_toArray, List.set_cons_zero, List.set_cons_succ]
          refine wpAnyZ_oneB 10 rfl (by kernel_rfl) (fun K hK => ?_)
          go_simp
          go_at_call 10
          refine (acShut (n : Int) (1 + (h' : Int)) ct false false (by omega) (by omega) (by omega) (by omega) hct0 hct3 (p2 : Int) (by omega) (by omega) 2 _ 1 _ rdb).mono ?_
          rintro e w5 ⟨rfl, g5⟩
          dsimp only
          have S5 := grown_trans SB g5
          refine hK _ _ (fun _ => S5) ?_
          try simp only [List.getElem_toArray, List.getElem_cons_succ, List.getElem_cons_zero, Act.put, List.setIfInBounds_toArray, List.set_cons_zero, List.set_cons_succ]
          refine wpAnyZ_take [12, 13, 14, 15, 16, 17] 11 (.tuple #[.agg #[.int .i64 9, .int .i64 (n : Int), .int .i64 (1 + (h' : Int)), .bool true, .bool false, .bool false, .int .i64 ct], .bool false, .int .i64 15]) rfl (by kernel_rfl) (fun _ _ _ h => h) S5 rfl (by intro wz hz; have ckz : wz.cell? ⟨lb, lo + k, none⟩ = some (.int .i64 zz) := (World.cell?_of_block (w := wr) (hz.block lb hlb (by simp))).trans ck; obtain ⟨y0, y1, y2, y3, y4, y5, y6⟩ := (hB.keep hz (by simp)).cell7; go_simp) ?_
          try simp only [List.getElem_toArray, List.getElem_cons_succ, List.getElem_cons_zero, Act.put, List.setIfInBounds_toArray, List.set_cons_zero, List.set_cons_succ]
          refine wpAnyZ_takeF 12 (.agg #[.int .i64 9, .int .i64 (n : Int), .int .i64 (1 + (h' : Int)), .bool true, .bool false, .bool false, .int .i64 ct]) rfl (by kernel_rfl) (fun _ _ _ h => h) rfl (by intro wz; go_simp) ?_
          try simp only [List.getElem_toArray, List.getElem_cons_succ, List.getElem_cons_zero, Act.put, List.setIfInBounds_toArray, List.set_cons_zero, List.set_cons_succ]
          refine wpAnyZ_takeF 13 (.bool false) rfl (by kernel_rfl) (fun _ _ _ h => h) rfl (by intro wz; go_simp) ?_
          try simp only [List.getElem_toArray, List.getElem_cons_succ, List.getElem_cons_zero, Act.put, List.setIfInBounds_toArray, List.set_cons_zero, List.set_cons_succ]
          refine wpAnyZ_takeF 14 (.int .i64 15) rfl (by kernel_rfl) (fun _ _ _ h => h) rfl (by intro wz; go_simp) ?_
          try simp only [List.getElem_toArray, List.getElem_cons_succ, List.getElem_cons_zero, Act.put, List.setIfInBounds_toArray, List.set_cons_zero, List.set_cons_succ]
          refine wpAnyZ_oneB 15 rfl (by kernel_rfl) (fun K hK => ?_)
          refine step_stX _ rfl 33 (.tmp 11) (.tmp 94) rfl w1.heap.size _ _ rfl rfl (hB.keep S5 (by simp)) i7 rfl (by simp [Value.oneCell']) ?_
          intro w9 b9 g9
          refine hK _ _ (fun h => absurd (by decide) h) ?_
          try simp only [List.getElem_toArray, List.getElem_cons_succ, List.getElem_cons_zero, Act.put, List.setIfInBounds_toArray, List.set_cons_zero, List.set_cons_succ]
          refine wpAnyZ_takeF 16 (.bool false) rfl (by kernel_rfl) (fun _ _ _ h => h) rfl (by intro wz; go_simp) ?_
          try simp only [List.getElem_toArray, List.getElem_cons_succ, List.getElem_cons_zero, Act.put, List.setIfInBounds_toArray, List.set_cons_zero, List.set_cons_succ]
          refine wpAnyZ_takeF 17 (.int .i64 15) rfl (by kernel_rfl) (fun _ _ _ h => h) rfl (by intro wz; go_simp) ?_
          try simp only [List.getElem_toArray, List.getElem_cons_succ, List.getElem_cons_zero, Act.put, List.setIfInBounds_toArray, List.set_cons_zero, List.set_cons_succ]
          refine wpAnyZ_doneB (by kernel_rfl) ?_ _
          clear c0 c1 c2 c3 c4 c5 c6
          obtain ⟨c0, c1, c2, c3, c4, c5, c6⟩ := b9.cell7
          have G9 := grown_far (grown_trans hgr S5) g9 (fun q e => by have e : w1.heap.size = q := Option.some.inj e; omega)
          go_wp2
          go_roundw
          case rel => exact ⟨k + 1, _, by go_num, by omega, by omega, by omega, by omega, b9, G9⟩
          case measure => simp [intOf]; omega
        · refine step_run8 (w' := wr.drew.alloc (.cells #[.int .u8 2] 5)) (.slice (some ⟨wr.drew.heap.size, 0, none⟩) 1 1) rfl (by go_simp) ?_
          have yb := World.grownBy_alloc wr.drew (.cells #[.int .u8 2] 5) none
          have rdb := rd_one wr.drew 2 (by decide)
          have SB := grown_trans SS yb
          refine hK _ _ (fun _ => SB) ?_
          try simp only [List.getElem_toArray, List.getElem_cons_succ, List.getElem_cons_zero, Act.put, List.setIfInBounds_toArray, List.set_cons_zero, List.set_cons_succ]
          refine wpAnyZ_oneB 6 rfl (by kernel_rfl) (fun K hK => ?_)
          go_simp
          go_at_call 8
          with_reducible refine (pickK_any zz 512 _ z0 z1 (by decide) (by decide)).mono ?_
          rintro e w' ⟨p, hp, rfl, hw'⟩
          replace hw' := hw'.symm
          subst hw'
          dsimp only
          refine hK _ _ (fun _ => SB) ?_
          try simp only [List.getElem_toArray, List.getElem_cons_succ, List.getElem_cons_zero, Act.put, List.setIfInBounds_toArray, List.set_cons_zero, List.set_cons_succ]
          obtain ⟨p2, hp2⟩ : ∃ p2 : Nat, p2 = p / 2 := ⟨_, rfl⟩
          have hd1 : ((p : Int)).tdiv 2 = (p2 : Int) := by rw [Int.tdiv_eq_ediv_of_nonneg (by omega)]; omega
          have hd2 : ((p : Int)) / 2 = (p2 : Int) := by omega
          have hd3 : IntKind.i64.wrap (p2 : Int) = (p2 : Int) := wrap_i64_in _ (by omega) (by omega)
          have hp3 : p2 ≤ 255 := by omega
          clear hp2
          refine wpAnyZ_take [9, 10, 11, 12, 13, 14, 15, 16, 17] 7 (.int .i64 (p2 : Int)) rfl (by kernel_rfl) (fun _ _ _ h => h) SB rfl (by intro wz hz; have ckz : wz.cell? ⟨lb, lo + k, none⟩ = some (.int .i64 zz) := (World.cell?_of_block (w := wr) (hz.block lb hlb (by simp))).trans ck; obtain ⟨y0, y1, y2, y3, y4, y5, y6⟩ := (hB.keep hz (by simp)).cell7; go_simp) ?_
          try simp only [List.getElem_toArray, List.getElem_cons_succ, List.getElem_cons_zero, Act.put, List.setIfInBounds_toArray, List.set_cons_zero, List.set_cons_succ]
          refine wpAnyZ_take [10, 11, 12, 13, 14, 15, 16, 17] 9 (.agg #[.int .i64 9, .bool false, .bool false, .int .i64 (p2 : Int), .slice (some ⟨wr.drew.heap.size, 0, none⟩) 1 1]) rfl (by kernel_rfl) (fun _ _ _ h => h) SB rfl (by intro wz hz; have ckz : wz.cell? ⟨lb, lo + k, none⟩ = some (.int .i64 zz) := (World.cell?_of_block (w := wr) (hz.block lb hlb (by simp))).trans ck; obtain ⟨y0, y1, y2, y3, y4, y5, y6⟩ := (hB.keep hz (by simp)).cell7; go_simp) ?_
          try simp only [List.getElem_toArray, List.getElem_cons_succ, List.getElem_cons_zero, Act.put, List.setIfInBounds_toArray, List.set_cons_zero, List.set_cons_succ]
          refine wpAnyZ_oneB 10 rfl (by kernel_rfl) (fun K hK => ?_)
          go_simp
          go_at_call 10
          refine (acShut (n : Int) (1 + (h' : Int)) ct false false (by omega) (by omega) (by omega) (by omega) hct0 hct3 (p2 : Int) (by omega) (by omega) 2 _ 1 _ rdb).mono ?_
          rintro e w5 ⟨rfl, g5⟩
          dsimp only
          have S5 := grown_trans SB g5
          refine hK _ _ (fun _ => S5) ?_
          try simp only [List.getElem_toArray, List.getElem_cons_succ, List.getElem_cons_zero, Act.put, List.setIfInBounds_toArray, List.set_cons_zero, List.set_cons_succ]
          refine wpAnyZ_take [12, 13, 14, 15, 16, 17] 11 (.tuple #[.agg #[.int .i64 9, .int .i64 (n : Int), .int .i64 (1 + (h' : Int)), .bool true, .bool false, .bool false, .int .i64 ct], .bool false, .int .i64 15]) rfl (by kernel_rfl) (fun _ _ _ h => h) S5 rfl (by intro wz hz; have ckz : wz.cell? ⟨lb, lo + k, none⟩ = some (.int .i64 zz) := (World.cell?_of_block (w := wr) (hz.block lb hlb (by simp))).trans ck; obtain ⟨y0, y1, y2, y3, y4, y5, y6⟩ := (hB.keep hz (by simp)).cell7; go_simp) ?_
          try simp only [List.getElem_toArray, List.getElem_cons_succ, List.getElem_cons_zero, Act.put, List.setIfInBounds_toArray, List.set_cons_zero, List.set_cons_succ]
          refine wpAnyZ_takeF 12 (.agg #[.int .i64 9, .int .i64 (n : Int), .int .i64 (1 + (h' : Int)), .bool true, .bool false, .bool false, .int .i64 ct]) rfl (by kernel_rfl) (fun _ _ _ h => h) rfl (by intro wz; go_simp) ?_
          try simp only [List.getElem_toArray, List.getElem_cons_succ, List.getElem_cons_zero, Act.put, List.setIfInBounds_toArray, List.set_cons_zero, List.set_cons_succ]
          refine wpAnyZ_takeF 13 (.bool false) rfl (by kernel_rfl) (fun _ _ _ h => h) rfl (by intro wz; go_simp) ?_
          try simp only [List.getElem_toArray, List.getElem_cons_succ, List.getElem_cons_zero, Act.put, List.setIfInBounds_toArray, List.set_cons_zero, List.set_cons_succ]
          refine wpAnyZ_takeF 14 (.int .i64 15) rfl (by kernel_rfl) (fun _ _ _ h => h) rfl (by intro wz; go_simp) ?_
          try simp only [List.getElem_toArray, List.getElem_cons_succ, List.getElem_cons_zero, Act.put, List.setIfInBounds_toArray, List.set_cons_zero, List.set_cons_succ]
          refine wpAnyZ_oneB 15 rfl (by kernel_rfl) (fun K hK => ?_)
          refine step_stX _ rfl 33 (.tmp 11) (.tmp 94) rfl w1.heap.size _ _ rfl rfl (hB.keep S5 (by simp)) i7 rfl (by simp [Value.oneCell']) ?_
          intro w9 b9 g9
          refine hK _ _ (fun h => absurd (by decide) h) ?_
          try simp only [List.getElem_toArray, List.getElem_cons_succ, List.getElem_cons_zero, Act.put, List.setIfInBounds_toArray, List.set_cons_zero, List.set_cons_succ]
          refine wpAnyZ_takeF 16 (.bool false) rfl (by kernel_rfl) (fun _ _ _ h => h) rfl (by intro wz; go_simp) ?_
          try simp only [List.getElem_toArray, List.getElem_cons_succ, List.getElem_cons_zero, Act.put, List.setIfInBounds_toArray, List.set_cons_zero, List.set_cons_succ]
          refine wpAnyZ_takeF 17 (.int .i64 15) rfl (by kernel_rfl) (fun _ _ _ h => h) rfl (by intro wz; go_simp) ?_
          try simp only [List.getElem_toArray, List.getElem_cons_succ, List.getElem_cons_zero, Act.put, List.setIfInBounds_toArray, List.set_cons_zero, List.set_cons_succ]
          refine wpAnyZ_doneB (by kernel_rfl) ?_ _
          clear c0 c1 c2 c3 c4 c5 c6
          obtain ⟨c0, c1, c2, c3, c4, c5, c6⟩ := b9.cell7
          have G9 := grown_far (grown_trans hgr S5) g9 (fun q e => by have e : w1.heap.size = q := Option.some.inj e; omega)
          go_wp2
          go_roundw
          case rel => exact ⟨k + 1, _, by go_num, by omega, by omega, by omega, by omega, b9, G9⟩
          case measure => simp [intOf]; omega
      · have SS := grown_drew wr none
        refine wp_regionL (fun wz => wr.grownBy wz none) [12, 13, 14, 15, 16, 17] #[false, false, false, false, false, false, false, false, false, false, false, false, false, false, false, false, false, false] rfl (by kernel_rfl) ?_
        refine wpAnyZ_take [10, 11, 12, 13, 14, 15, 16, 17] 0 (.agg #[.int .i64 9, .int .i64 (n : Int), .int .i64 (1 + (h' : Int)), .bool true, .bool false, .bool false, .int .i64 ct]) rfl (by kernel_rfl) (fun _ _ _ h => h) SS rfl (by intro wz hz; have ckz : wz.cell? ⟨lb, lo + k, none⟩ = some (.int .i64 zz) := (World.cell?_of_block (w := wr) (hz.block lb hlb (by simp))).trans ck; obtain ⟨y0, y1, y2, y3, y4, y5, y6⟩ := (hB.keep hz (by simp)).cell7; go_simp) ?_
        try simp only [List.getElem_toArray, List.getElem_cons_succ, List.getElem_cons_zero, Act.put, List.setIfInBounds_toArray, List.set_cons_zero, List.set_cons_succ]
        refine wpAnyZ_take [9, 10, 11, 12, 13, 14, 15, 16, 17] 1 (.bool true) rfl (by kernel_rfl) (fun _ _ _ h => h) SS rfl (by intro wz hz; have ckz : wz.cell? ⟨lb, lo + k, none⟩ = some (.int .i64 zz) := (World.cell?_of_block (w := wr) (hz.block lb hlb (by simp))).trans ck; obtain ⟨y0, y1, y2, y3, y4, y5, y6⟩ := (hB.keep hz (by simp)).cell7; go_simp) ?_
        try simp only [List.getElem_toArray, List.getElem_cons_succ, List.getElem_cons_zero, Act.put, List.setIfInBounds_toArray, List.set_cons_zero, List.set_cons_succ]
        refine wpAnyZ_take [4, 5, 6, 10, 11, 12, 13, 14, 15, 16, 17] 2 ((.slice (some ⟨lb, lo, none⟩) n1 cl)) rfl (by kernel_rfl) (fun _ _ _ h => h) SS rfl (by intro wz hz; have ckz : wz.cell? ⟨lb, lo + k, none⟩ = some (.int .i64 zz) := (World.cell?_of_block (w := wr) (hz.block lb hlb (by simp))).trans ck; obtain ⟨y0, y1, y2, y3, y4, y5, y6⟩ := (hB.keep hz (by simp)).cell7; go_simp) ?_
        try simp only [List.getElem_toArray, List.getElem_cons_succ, List.getElem_cons_zero, Act.put, List.setIfInBounds_toArray, List.set_cons_zero, List.set_cons_succ]
        refine wpAnyZ_take [4, 5, 6, 10, 11, 12, 13, 14, 15, 16, 17] 3 (.int .i64 (k : Int)) rfl (by kernel_rfl) (fun _ _ _ h => h) SS rfl (by intro wz hz; have ckz : wz.cell? ⟨lb, lo + k, none⟩ = some (.int .i64 zz) := (World.cell?_of_block (w := wr) (hz.block lb hlb (by simp))).trans ck; obtain ⟨y0, y1, y2, y3, y4, y5, y6⟩ := (hB.keep hz (by simp)).cell7; go_simp) ?_
        try simp only [List.getElem_toArray, List.getElem_cons_succ, List.getElem_cons_zero, Act.put, List.setIfInBounds_toArray, List.set_cons_zero, List.set_cons_succ]
        refine wpAnyZ_take [5, 6, 10, 11, 12, 13, 14, 15, 16, 17] 4 (.pointer (some ⟨lb, lo + k, none⟩)) rfl (by kernel_rfl) (fun _ _ _ h => h) SS rfl (by intro wz hz; have ckz : wz.cell? ⟨lb, lo + k, none⟩ = some (.int .i64 zz) := (World.cell?_of_block (w := wr) (hz.block lb hlb (by simp))).trans ck; obtain ⟨y0, y1, y2, y3, y4, y5, y6⟩ := (hB.keep hz (by simp)).cell7; go_simp) ?_
        try simp only [List.getElem_toArray, List.getElem_cons_succ, List.getElem_cons_zero, Act.put, List.setIfInBounds_toArray, List.set_cons_zero, List.set_cons_succ]
        refine wpAnyZ_take [6, 10, 11, 12, 13, 14, 15, 16, 17] 5 (.int .i64 zz) rfl (by kernel_rfl) (fun _ _ _ h => h) SS rfl (by intro wz hz; have ckz : wz.cell? ⟨lb, lo + k, none⟩ = some (.int .i64 zz) := (World.cell?_of_block (w := wr) (hz.block lb hlb (by simp))).trans ck; obtain ⟨y0, y1, y2, y3, y4, y5, y6⟩ := (hB.keep hz (by simp)).cell7; go_simp) ?_
        try simp only [List.getElem_toArray, List.getElem_cons_succ, List.getElem_cons_zero, Act.put, List.setIfInBounds_toArray, List.set_cons_zero, List.set_cons_succ]
        refine wpAnyZ_twoB8 6 8 rfl rfl (by kernel_rfl) (fun K hK => ?_) (fun K hK => ?_)
        · go_simp
          go_at_call 8
          with_reducible refine (pickK_any zz 512 _ z0 z1 (by decide) (by decide)).mono ?_
          rintro e w' ⟨p, hp, rfl, hw'⟩
          replace hw' := hw'.symm
          subst hw'
          dsimp only
          refine hK _ _ (fun _ => SS) ?_
          try simp only [List.getElem_toArray, List.getElem_cons_succ, List.getElem_cons_zero, Act.put, List.setIfInBounds_toArray, List.set_cons_zero, List.set_cons_succ]
          obtain ⟨p2, hp2⟩ : ∃ p2 : Nat, p2 = p / 2 := ⟨_, rfl⟩
          have hd1 : ((p : Int)).tdiv 2 = (p2 : Int) := by rw [Int.tdiv_eq_ediv_of_nonneg (by omega)]; omega
          have hd2 : ((p : Int)) / 2 = (p2 : Int) := by omega
          have hd3 : IntKind.i64.wrap (p2 : Int) = (p2 : Int) := wrap_i64_in _ (by omega) (by omega)
          have hp3 : p2 ≤ 255 := by omega
          clear hp2
          refine wpAnyZ_take [9, 10, 11, 12, 13, 14, 15, 16, 17] 7 (.int .i64 (p2 : Int)) rfl (by kernel_rfl) (fun _ _ _ h => h) SS rfl (by intro wz hz; have ckz : wz.cell? ⟨lb, lo + k, none⟩ = some (.int .i64 zz) := (World.cell?_of_block (w := wr) (hz.block lb hlb (by simp))).trans ck; obtain ⟨y0, y1, y2, y3, y4, y5, y6⟩ := (hB.keep hz (by simp)).cell7; go_simp) ?_
          try simp only [List.getElem_toArray, List.getElem_cons_succ, List.getElem_cons_zero, Act.put, List.setIfInBounds_toArray, List.set_cons_zero, List.set_cons_succ]
          refine wpAnyZ_oneB 8 rfl (by kernel_rfl) (fun K hK => ?_)
          refine step_run8 (w' := wr.drew.alloc (.cells #[.int .u8 2] 5)) (.slice (some ⟨wr.drew.heap.size, 0, none⟩) 1 1) rfl (by go_simp) ?_
          have yb := World.grownBy_alloc wr.drew (.cells #[.int .u8 2] 5) none
          have rdb := rd_one wr.drew 2 (by decide)
          have SB := grown_trans SS yb
          refine hK _ _ (fun _ => SB) ?_
          try simp only [List.getElem_toArray, List.getElem_cons_succ, List.getElem_cons_zero, Act.put, List.setIfInBounds_toArray, List.set_cons_zero, List.set_cons_succ]
          refine wpAnyZ_take [10, 11, 12, 13, 14, 15, 16, 17] 9 (.agg #[.int .i64 9, .bool true, .bool false, .int .i64 (p2 : Int), .slice (some ⟨wr.drew.heap.size, 0, none⟩) 1 1]) rfl (by kernel_rfl) (fun _ _ _ h => h) SB rfl (by intro wz hz; have ckz : wz.cell? ⟨lb, lo + k, none⟩ = some (.int .i64 zz) := (World.cell?_of_block (w := wr) (hz.block lb hlb (by simp))).trans ck; obtain ⟨y0, y1, y2, y3, y4, y5, y6⟩ := (hB.keep hz (by simp)).cell7; go_simp) ?_
          try simp only [List.getElem_toArray, List.getElem_cons_succ, List.getElem_cons_zero, Act.put, List.setIfInBounds_toArray, List.set_cons_zero, List.set_cons_succ]
          refine wpAnyZ_oneB 10 rfl (by kernel_rfl) (fun K hK => ?_)
          go_simp
          go_at_call 10
          refine (acPast (n : Int) (1 + (h' : Int)) ct false false (by omega) (by omega) (by omega) (by omega) hct0 hct3 (p2 : Int) (by omega) (by omega) 2 _ 1 _ rdb).mono ?_
          rintro e w5 ⟨rfl, g5⟩
          dsimp only
          have S5 := grown_trans SB g5
          refine hK _ _ (fun _ => S5) ?_
          try simp only [List.getElem_toArray, List.getElem_cons_succ, List.getElem_cons_zero, Act.put, List.setIfInBounds_toArray, List.set_cons_zero, List.set_cons_succ]
          refine wpAnyZ_take [12, 13, 14, 15, 16, 17] 11 (.tuple #[.agg #[.int .i64 9, .int .i64 (n : Int), .int .i64 (1 + (h' : Int)), .bool true, .bool false, .bool false, .int .i64 ((ct + 1) % 4)], .bool true, .int .i64 0]) rfl (by kernel_rfl) (fun _ _ _ h => h) S5 rfl (by intro wz hz; have ckz : wz.cell? ⟨lb, lo + k, none⟩ = some (.int .i64 zz) := (World.cell?_of_block (w := wr) (hz.block lb hlb (by simp))).trans ck; obtain ⟨y0, y1, y2, y3, y4, y5, y6⟩ := (hB.keep hz (by simp)).cell7; go_simp) ?_
          try simp only [List.getElem_toArray, List.getElem_cons_succ, List.getElem_cons_zero, Act.put, List.setIfInBounds_toArray, List.set_cons_zero, List.set_cons_succ]
          refine wpAnyZ_takeF 12 (.agg #[.int .i64 9, .int .i64 (n : Int), .int .i64 (1 + (h' : Int)), .bool true, .bool false, .bool false, .int .i64 ((ct + 1) % 4)]) rfl (by kernel_rfl) (fun _ _ _ h => h) rfl (by intro wz; go_simp) ?_
          try simp only [List.getElem_toArray, List.getElem_cons_succ, List.getElem_cons_zero, Act.put, List.setIfInBounds_toArray, List.set_cons_zero, List.set_cons_succ]
          refine wpAnyZ_takeF 13 (.bool true) rfl (by kernel_rfl) (fun _ _ _ h => h) rfl (by intro wz; go_simp) ?_
          try simp only [List.getElem_toArray, List.getElem_cons_succ, List.getElem_cons_zero, Act.put, List.setIfInBounds_toArray, List.set_cons_zero, List.set_cons_succ]
          refine wpAnyZ_takeF 14 (.int .i64 0) rfl (by kernel_rfl) (fun _ _ _ h => h) rfl (by intro wz; go_simp) ?_
          try simp only [List.getElem_toArray, List.getElem_cons_succ, List.getElem_cons_zero, Act.put, List.setIfInBounds_toArray, List.set_cons_zero, List.set_cons_succ]
          refine wpAnyZ_oneB 15 rfl (by kernel_rfl) (fun K hK => ?_)
          refine step_stX _ rfl 33 (.tmp 11) (.tmp 94) rfl w1.heap.size _ _ rfl rfl (hB.keep S5 (by simp)) i7 rfl (by simp [Value.oneCell']) ?_
          intro w9 b9 g9
          refine hK _ _ (fun h => absurd (by decide) h) ?_
          try simp only [List.getElem_toArray, List.getElem_cons_succ, List.getElem_cons_zero, Act.put, List.setIfInBounds_toArray, List.set_cons_zero, List.set_cons_succ]
          refine wpAnyZ_takeF 16 (.bool true) rfl (by kernel_rfl) (fun _ _ _ h => h) rfl (by intro wz; go_simp) ?_
          try simp only [List.getElem_toArray, List.getElem_cons_succ, List.getElem_cons_zero, Act.put, List.setIfInBounds_toArray, List.set_cons_zero, List.set_cons_succ]
          refine wpAnyZ_takeF 17 (.int .i64 0) rfl (by kernel_rfl) (fun _ _ _ h => h) rfl (by intro wz; go_simp) ?_
          try simp only [List.getElem_toArray, List.getElem_cons_succ, List.getElem_cons_zero, Act.put, List.setIfInBounds_toArray, List.set_cons_zero, List.set_cons_succ]
          refine wpAnyZ_doneB (by kernel_rfl) ?_ _
          clear c0 c1 c2 c3 c4 c5 c6
          obtain ⟨c0, c1, c2, c3, c4, c5, c6⟩ := b9.cell7
          have G9 := grown_far (grown_trans hgr S5) g9 (fun q e => by have e : w1.heap.size = q := Option.some.inj e; omega)
          go_wp2
          go_roundw
          case rel => exact ⟨k + 1, _, by go_num, by omega, by omega, by omega, by omega, b9, G9⟩
          case measure => simp [intOf]; omega
        · refine step_run8 (w' := wr.drew.alloc (.cells #[.int .u8 2] 5)) (.slice (some ⟨wr.drew.heap.size, 0, none⟩) 1 1) rfl (by go_simp) ?_
          have yb := World.grownBy_alloc wr.drew (.cells #[.int .u8 2] 5) none
          have rdb := rd_one wr.drew 2 (by decide)
          have SB := grown_trans SS yb
          refine hK _ _ (fun _ => SB) ?_
          try simp only [List.getElem_toArray, List.getElem_cons_succ, List.getElem_cons_zero, Act.put, List.setIfInBounds_toArray, List.set_cons_zero, List.set_cons_succ]
          refine wpAnyZ_oneB 6 rfl (by kernel_rfl) (fun K hK => ?_)
          go_simp
          go_at_call 8
          with_reducible refine (pickK_any zz 512 _ z0 z1 (by decide) (by decide)).mono ?_
          rintro e w' ⟨p, hp, rfl, hw'⟩
          replace hw' := hw'.symm
          subst hw'
          dsimp only
          refine hK _ _ (fun _ => SB) ?_
          try simp only [List.getElem_toArray, List.getElem_cons_succ, List.getElem_cons_zero, Act.put, List.setIfInBounds_toArray, List.set_cons_zero, List.set_cons_succ]
          obtain ⟨p2, hp2⟩ : ∃ p2 : Nat, p2 = p / 2 := ⟨_, rfl⟩
          have hd1 : ((p : Int)).tdiv 2 = (p2 : Int) := by rw [Int.tdiv_eq_ediv_of_nonneg (by omega)]; omega
          have hd2 : ((p : Int)) / 2 = (p2 : Int) := by omega
          have hd3 : IntKind.i64.wrap (p2 : Int) = (p2 : Int) := wrap_i64_in _ (by omega) (by omega)
          have hp3 : p2 ≤ 255 := by omega
          clear hp2
          refine wpAnyZ_take [9, 10, 11, 12, 13, 14, 15, 16, 17] 7 (.int .i64 (p2 : Int)) rfl (by kernel_rfl) (fun _ _ _ h => h) SB rfl (by intro wz hz; have ckz : wz.cell? ⟨lb, lo + k, none⟩ = some (.int .i64 zz) := (World.cell?_of_block (w := wr) (hz.block lb hlb (by simp))).trans ck; obtain ⟨y0, y1, y2, y3, y4, y5, y6⟩ := (hB.keep hz (by simp)).cell7; go_simp) ?_
          try simp only [List.getElem_toArray, List.getElem_cons_succ, List.getElem_cons_zero, Act.put, List.setIfInBounds_toArray, List.set_cons_zero, List.set_cons_succ]
          refine wpAnyZ_take [10, 11, 12, 13, 14, 15, 16, 17] 9 (.agg #[.int .i64 9, .bool true, .bool false, .int .i64 (p2 : Int), .slice (some ⟨wr.drew.heap.size, 0, none⟩) 1 1]) rfl (by kernel_rfl) (fun _ _ _ h => h) SB rfl (by intro wz hz; have ckz : wz.cell? ⟨lb, lo + k, none⟩ = some (.int .i64 zz) := (World.cell?_of_block (w := wr) (hz.block lb hlb (by simp))).trans ck; obtain ⟨y0, y1, y2, y3, y4, y5, y6⟩ := (hB.keep hz (by simp)).cell7; go_simp) ?_
          try simp only [List.getElem_toArray, List.getElem_cons_succ, List.getElem_cons_zero, Act.put, List.setIfInBounds_toArray, List.set_cons_zero, List.set_cons_succ]
          refine wpAnyZ_oneB 10 rfl (by kernel_rfl) (fun K hK => ?_)
          go_simp
          go_at_call 10
          refine (acPast (n : Int) (1 + (h' : Int)) ct false false (by omega) (by omega) (by omega) (by omega) hct0 hct3 (p2 : Int) (by omega) (by omega) 2 _ 1 _ rdb).mono ?_
          rintro e w5 ⟨rfl, g5⟩
          dsimp only
          have S5 := grown_trans SB g5
          refine hK _ _ (fun _ => S5) ?_
          try simp only [List.getElem_toArray, List.getElem_cons_succ, List.getElem_cons_zero, Act.put, List.setIfInBounds_toArray, List.set_cons_zero, List.set_cons_succ]
          refine wpAnyZ_take [12, 13, 14, 15, 16, 17] 11 (.tuple #[.agg #[.int .i64 9, .int .i64 (n : Int), .int .i64 (1 + (h' : Int)), .bool true, .bool false, .bool false, .int .i64 ((ct + 1) % 4)], .bool true, .int .i64 0]) rfl (by kernel_rfl) (fun _ _ _ h => h) S5 rfl (by intro wz hz; have ckz : wz.cell? ⟨lb, lo + k, none⟩ = some (.int .i64 zz) := (World.cell?_of_block (w := wr) (hz.block lb hlb (by simp))).trans ck; obtain ⟨y0, y1, y2, y3, y4, y5, y6⟩ := (hB.keep hz (by simp)).cell7; go_simp) ?_
          try simp only [List.getElem_toArray, List.getElem_cons_succ, List.getElem_cons_zero, Act.put, List.setIfInBounds_toArray, List.set_cons_zero, List.set_cons_succ]
          refine wpAnyZ_takeF 12 (.agg #[.int .i64 9, .int .i64 (n : Int), .int .i64 (1 + (h' : Int)), .bool true, .bool false, .bool false, .int .i64 ((ct + 1) % 4)]) rfl (by kernel_rfl) (fun _ _ _ h => h) rfl (by intro wz; go_simp) ?_
          try simp only [List.getElem_toArray, List.getElem_cons_succ, List.getElem_cons_zero, Act.put, List.setIfInBounds_toArray, List.set_cons_zero, List.set_cons_succ]
          refine wpAnyZ_takeF 13 (.bool true) rfl (by kernel_rfl) (fun _ _ _ h => h) rfl (by intro wz; go_simp) ?_
          try simp only [List.getElem_toArray, List.getElem_cons_succ, List.getElem_cons_zero, Act.put, List.setIfInBounds_toArray, List.set_cons_zero, List.set_cons_succ]
          refine wpAnyZ_takeF 14 (.int .i64 0) rfl (by kernel_rfl) (fun _ _ _ h => h) rfl (by intro wz; go_simp) ?_
          try simp only [List.getElem_toArray, List.getElem_cons_succ, List.getElem_cons_zero, Act.put, List.setIfInBounds_toArray, List.set_cons_zero, List.set_cons_succ]
          refine wpAnyZ_oneB 15 rfl (by kernel_rfl) (fun K hK => ?_)
          refine step_stX _ rfl 33 (.tmp 11) (.tmp 94) rfl w1.heap.size _ _ rfl rfl (hB.keep S5 (by simp)) i7 rfl (by simp [Value.oneCell']) ?_
          intro w9 b9 g9
          refine hK _ _ (fun h => absurd (by decide) h) ?_
          try simp only [List.getElem_toArray, List.getElem_cons_succ, List.getElem_cons_zero, Act.put, List.setIfInBounds_toArray, List.set_cons_zero, List.set_cons_succ]
          refine wpAnyZ_takeF 16 (.bool true) rfl (by kernel_rfl) (fun _ _ _ h => h) rfl (by intro wz; go_simp) ?_
          try simp only [List.getElem_toArray, List.getElem_cons_succ, List.getElem_cons_zero, Act.put, List.setIfInBounds_toArray, List.set_cons_zero, List.set_cons_succ]
          refine wpAnyZ_takeF 17 (.int .i64 0) rfl (by kernel_rfl) (fun _ _ _ h => h) rfl (by intro wz; go_simp) ?_
          try simp only [List.getElem_toArray, List.getElem_cons_succ, List.getElem_cons_zero, Act.put, List.setIfInBounds_toArray, List.set_cons_zero, List.set_cons_succ]
          refine wpAnyZ_doneB (by kernel_rfl) ?_ _
          clear c0 c1 c2 c3 c4 c5 c6
          obtain ⟨c0, c1, c2, c3, c4, c5, c6⟩ := b9.cell7
          have G9 := grown_far (grown_trans hgr S5) g9 (fun q e => by have e : w1.heap.size = q := Option.some.inj e; omega)
          go_wp2
          go_roundw
          case rel => exact ⟨k + 1, _, by go_num, by omega, by omega, by omega, by omega, b9, G9⟩
          case measure => simp [intOf]; omega
    · by_cases hl1 : k < n1
      · have hl1' : (k : Int) < (n1 : Int) := by omega
        have hl2' : ¬ (k : Int) < 300 := by omega
        have t8 : True := trivial
        have q0 : 0 ≤ (ct + 1) % 4 := by omega
        have q1 : (ct + 1) % 4 ≤ 3 := by omega
        have yh := World.grownBy_alloc wr (.cells #[.int .i64 9, .int .i64 0, .int .i64 1, .slice none 0 0, .slice none 0 0, .int .i64 0, .int .i64 1, .int .i64 0, .int .i64 1, .int .i64 0, .int .i64 0, .int .i64 15] 25) none
        clear c0 c1 c2 c3 c4 c5 c6
        have lt1 := hB.lt
        go_wp2_with (first
          | (go_at_call 7; have _t := t8; clear t8; refine (hFree _).mono ?_; rintro e w5 ⟨aS, cS, aq, cq, bu, uc, ra, rn, rc, rfl, hbu, cu, rdu, g5⟩; have y5 := World.grownBy_alloc w5 (.cells #[.int .i64 9, .int .i64 0, .int .i64 1, .slice aS 0 cS, .slice aq 0 cq, .int .i64 0, .int .i64 1, .int .i64 0, .int .i64 1, .int .i64 0, .int .i64 0, .int .i64 0] 25) none; have S5 := grown_trans (grown_trans yh g5) y5; have cu5 : (w5.alloc (.cells #[.int .i64 9, .int .i64 0, .int .i64 1, .slice aS 0 cS, .slice aq 0 cq, .int .i64 0, .int .i64 1, .int .i64 0, .int .i64 1, .int .i64 0, .int .i64 0, .int .i64 0] 25)).cell? ⟨bu, 0, none⟩ = some (.slice ra rn rc) := ((World.cell?_of_block (w := w5) (y5.block bu hbu (by simp))).trans cu); have t9 : True := trivial)
          | (go_at_call 11; have _t := t9; clear t9; refine (hDec ra rn rc _ (rdu.keep y5)).mono ?_; rintro e w6 ⟨a', c', rfl, A6, g6⟩; have y6 := World.grownBy_alloc w6 (.cells #[.int .i64 9, .bool true, .bool true, .int .i64 0, .slice a' 1 c'] 40) none; have S6 := grown_trans (grown_trans S5 g6) y6; have b6 := hB.keep S6 (by simp); obtain ⟨c0, c1, c2, c3, c4, c5, c6⟩ := b6.cell7; have o6 := BxS.new w6 40 #[.int .i64 9, .bool true, .bool true, .int .i64 0, .slice a' 1 c']; obtain ⟨o0, o1, o2, o3, o4⟩ := o6.cell5; have rd6 := (A6.keep y6).rd; have t10 : True := trivial)
          | (go_at_call 10; have _t := t10; clear t10; refine (acFree (n : Int) (1 + (h' : Int)) ct false false (by omega) (by omega) (by omega) (by omega) hct0 hct3 a' c' _ rd6).mono ?_; rintro e w7 ⟨rfl, g7⟩; clear c0 c1 c2 c3 c4 c5 c6 o0 o1 o2 o3 o4; have b7 := b6.keep g7 (by simp); have t11 : True := trivial)
          | (have _t := t11; refine wpList_stX _ rfl _ (.tmp 11) (.tmp 144) rfl w1.heap.size _ _ rfl rfl b7 i7 rfl (by simp [Value.oneCell']) ?_; clear t11; intro w8 b8 g8; obtain ⟨c0, c1, c2, c3, c4, c5, c6⟩ := b8.cell7; have yb := World.grownBy_alloc w8 (.cells #[.int .u8 3] 5) none; have rdb := rd_one w8 3 (by decide); have t12 : True := trivial)
          | (go_at_call 10; have _t := t12; clear t12; refine (acNext (n : Int) (1 + (h' : Int)) ((ct + 1) % 4) (by omega) (by omega) (by omega) (by omega) q0 q1 3 _ 1 _ rdb).mono ?_; rintro e w9 ⟨gg, rfl, g9⟩))
        go_ret
        refine ⟨rfl, below_of_grownK (grown_trans (grown_trans (grown_far (grown_trans (grown_trans hgr S6) g7) g8 (fun q e => by have e : w1.heap.size = q := Option.some.inj e; omega)) yb) g9)⟩
      · have hl1' : ¬ (k : Int) < (n1 : Int) := by omega
        have t8 : True := trivial
        have q0 : 0 ≤ (ct + 1) % 4 := by omega
        have q1 : (ct + 1) % 4 ≤ 3 := by omega
        have yh := World.grownBy_alloc wr (.cells #[.int .i64 9, .int .i64 0, .int .i64 1, .slice none 0 0, .slice none 0 0, .int .i64 0, .int .i64 1, .int .i64 0, .int .i64 1, .int .i64 0, .int .i64 0, .int .i64 15] 25) none
        clear c0 c1 c2 c3 c4 c5 c6
        have lt1 := hB.lt
        go_wp2_with (first
          | (go_at_call 7; have _t := t8; clear t8; refine (hFree _).mono ?_; rintro e w5 ⟨aS, cS, aq, cq, bu, uc, ra, rn, rc, rfl, hbu, cu, rdu, g5⟩; have y5 := World.grownBy_alloc w5 (.cells #[.int .i64 9, .int .i64 0, .int .i64 1, .slice aS 0 cS, .slice aq 0 cq, .int .i64 0, .int .i64 1, .int .i64 0, .int .i64 1, .int .i64 0, .int .i64 0, .int .i64 0] 25) none; have S5 := grown_trans (grown_trans yh g5) y5; have cu5 : (w5.alloc (.cells #[.int .i64 9, .int .i64 0, .int .i64 1, .slice aS 0 cS, .slice aq 0 cq, .int .i64 0, .int .i64 1, .int .i64 0, .int .i64 1, .int .i64 0, .int .i64 0, .int .i64 0] 25)).cell? ⟨bu, 0, none⟩ = some (.slice ra rn rc) := ((World.cell?_of_block (w := w5) (y5.block bu hbu (by simp))).trans cu); have t9 : True := trivial)
          | (go_at_call 11; have _t := t9; clear t9; refine (hDec ra rn rc _ (rdu.keep y5)).mono ?_; rintro e w6 ⟨a', c', rfl, A6, g6⟩; have y6 := World.grownBy_alloc w6 (.cells #[.int .i64 9, .bool true, .bool true, .int .i64 0, .slice a' 1 c'] 40) none; have S6 := grown_trans (grown_trans S5 g6) y6; have b6 := hB.keep S6 (by simp); obtain ⟨c0, c1, c2, c3, c4, c5, c6⟩ := b6.cell7; have o6 := BxS.new w6 40 #[.int .i64 9, .bool true, .bool true, .int .i64 0, .slice a' 1 c']; obtain ⟨o0, o1, o2, o3, o4⟩ := o6.cell5; have rd6 := (A6.keep y6).rd; have t10 : True := trivial)
          | (go_at_call 10; have _t := t10; clear t10; refine (acFree (n : Int) (1 + (h' : Int)) ct false false (by omega) (by omega) (by omega) (by omega) hct0 hct3 a' c' _ rd6).mono ?_; rintro e w7 ⟨rfl, g7⟩; clear c0 c1 c2 c3 c4 c5 c6 o0 o1 o2 o3 o4; have b7 := b6.keep g7 (by simp); have t11 : True := trivial)
          | (have _t := t11; refine wpList_stX _ rfl _ (.tmp 11) (.tmp 144) rfl w1.heap.size _ _ rfl rfl b7 i7 rfl (by simp [Value.oneCell']) ?_; clear t11; intro w8 b8 g8; obtain ⟨c0, c1, c2, c3, c4, c5, c6⟩ := b8.cell7; have yb := World.grownBy_alloc w8 (.cells #[.int .u8 3] 5) none; have rdb := rd_one w8 3 (by decide); have t12 : True := trivial)
          | (go_at_call 10; have _t := t12; clear t12; refine (acNext (n : Int) (1 + (h' : Int)) ((ct + 1) % 4) (by omega) (by omega) (by omega) (by omega) q0 q1 3 _ 1 _ rdb).mono ?_; rintro e w9 ⟨gg, rfl, g9⟩))
        go_ret
        refine ⟨rfl, below_of_grownK (grown_trans (grown_trans (grown_far (grown_trans (grown_trans hgr S6) g7) g8 (fun q e => by have e : w1.heap.size = q := Option.some.inj e; omega)) yb) g9)⟩

theorem rdr_nil (w : World) : RdR w none 0 0 (fun _ => kr0) := ⟨Nat.le_refl _, Nat.zero_le _, fun h => absurd h (by decide), fun i h => absurd h (by omega)⟩
theorem hn_sh : hnB ((9 : Nat) : Int) 0 1 0 (fun _ => kr0) 0 (fun _ => kr0) 0 1 0 1 0 0 15 = true := by decide +kernel
theorem free_sh (wz : World) : Calls Try.prog 7 #[.agg #[.int .i64 9, .int .i64 0, .int .i64 1, .slice none 0 0, .slice none 0 0, .int .i64 0, .int .i64 1, .int .i64 0, .int .i64 1, .int .i64 0, .int .i64 0, .int .i64 15]] wz fun e w' => ∃ aS cS aq cq bu uc ra rn rc, e = .returned (.tuple #[.agg #[.int .i64 9, .int .i64 0, .int .i64 1, .slice aS 0 cS, .slice aq 0 cq, .int .i64 0, .int .i64 1, .int .i64 0, .int .i64 1, .int .i64 0, .int .i64 0, .int .i64 0], .slice (some ⟨bu, 0, none⟩) 1 uc, .int .i64 0]) ∧ bu < w'.heap.size ∧ w'.cell? ⟨bu, 0, none⟩ = some (.slice ra rn rc) ∧ Rd w' ra rn rc (orL 9 true true 0 [0]) ∧ wz.grownBy w' none := by
  have h := free_ok 9 0 1 none 0 0 (fun _ => kr0) none 0 0 (fun _ => kr0) 0 1 0 1 0 0 15 wz (rdr_nil wz) (rdr_nil wz) hn_sh (fun i h => absurd h (by omega)) (by decide) (fun i h => absurd h (by omega)) (by decide) (.inl rfl) (by decide)
  refine h.mono ?_
  rintro e w' ⟨aS, cS, rs, aq, cq, qs, ua, uc, r, rfl, _, _, _, _, _, hU, hD, _, hg⟩
  have hR := hU.rdr
  obtain ⟨b, off, e, hb, hc⟩ := hR.at' (by decide)
  have hoff : off = 0 := by
    rcases hU.own.2 with ⟨h1, _⟩ | ⟨g, cap, cur, h1, _⟩
    · rw [e] at h1; simp at h1
    · rw [e] at h1; simp at h1; exact h1.1.2
  subst hoff
  subst e
  have c0 := hc 0 (by decide)
  have d0 := hR.data 0 (by decide)
  simp only [List.getD_cons_zero, Nat.add_zero] at c0 d0
  rw [hD] at d0
  exact ⟨aS, cS, aq, cq, b, uc, r.a, r.n, r.c, rfl, hb, c0, d0, hg⟩
theorem dec_sh (a : Option Addr) (n c : Nat) (wz : World) (hR : Rd wz a n c (orL 9 true true 0 [0])) : Calls Try.prog 11 #[.slice a n c] wz fun e w' => ∃ a' c', e = .returned (.tuple #[.agg #[.int .i64 9, .bool true, .bool true, .int .i64 0, .slice a' 1 c'], .int .i64 0]) ∧ Ans w' wz.heap.size a' 1 c' [0] ∧ wz.grownBy w' none := by
  have h := kdec_any a n c (orL 9 true true 0 [0]) wz hR
  have e1 : deE (orL 9 true true 0 [0]) = 0 := by decide +kernel
  have e2 : deD (orL 9 true true 0 [0]) = [0] := by decide +kernel
  have e3 : ∀ a' n' c', deA (orL 9 true true 0 [0]) a' n' c' = #[.int .i64 9, .bool true, .bool true, .int .i64 0, .slice a' n' c'] := by
    intro a' n' c'
    unfold deA orA
    rw [e1, show bpB (orL 9 true true 0 [0]) = true by decide +kernel, show coB (orL 9 true true 0 [0]) = true by decide +kernel, show nmN (orL 9 true true 0 [0]) % 1024 = 9 by decide +kernel, show nth (orL 9 true true 0 [0]) 4 = 0 by decide +kernel]
    rfl
  rw [e1, e2] at h
  refine h.mono ?_
  rintro e w' ⟨a', n', c', rfl, hA, hg⟩
  have hl := hA.len
  have hl : n' = 1 := hl.symm
  subst hl
  exact ⟨a', c', by rw [e3]; rfl, hA, hg⟩
theorem shuts_walk (ha nx fa : Int) (a1 : Option Addr) (n1 cl : Nat) (S : List Int) (w : World) (hL : RdI w a1 n1 cl S) (hLb : ∀ i, -9223372036854775808 ≤ nthI S i ∧ nthI S i ≤ 9223372036854775807) (h1 : -9223372036854775808 ≤ ha ∧ ha ≤ 9223372036854775807) (h2 : -9223372036854775808 ≤ nx ∧ nx ≤ 9223372036854775807) (h3 : -9223372036854775808 ≤ fa ∧ fa ≤ 9223372036854775807) :
    Calls Try.prog 4 #[.int .i64 ha, .int .i64 nx, .int .i64 fa, .slice a1 n1 cl] w fun e w' => e = .returned (.bool true) ∧ Below w.heap.size w w' :=
  shuts_core (orL 9 true true 0 [0]) free_sh dec_sh ha nx fa a1 n1 cl S w hL hLb h1.1 h1.2 h2.1 h2.2 h3.1 h3.2
open Go.ChangeShapes Go.WideShapes in
theorem shown_intsS {w : World} {full : Bool} {N : Nat} {v : Value} (h : (Sh.slice 1 8 (.int .i64)).shown w full v N) : ∃ a len cap S, v = .slice a len cap ∧ RdI w a len cap S ∧ ∀ i, -9223372036854775808 ≤ nthI S i ∧ nthI S i ≤ 9223372036854775807 := by
  obtain ⟨a, len, cap, zs, e, hr, _, _⟩ := met_ints h
  cases e
  obtain ⟨S, h1, h2, _⟩ := rdI_of_row hr
  exact ⟨a, len, cap, S, rfl, h1, h2⟩
end Go.Proofs.Ytncpignmijgghaa
