import Derived.Test.YtgnicopijocnjaaDoorMk9
import Derived.Test.YtgnicopijocnjaaDoorMk2
import Derived.Test.YtgnicopijocnjaaDoorMk4
import Derived.Test.YtgnicopijocnjaaDoorMk3
namespace Go.Proofs.YtgnicopijocnjaaDoor
open Go.RowKit
set_option maxRecDepth 100000
set_option linter.unusedVariables false
set_option linter.unusedSimpArgs false

section
open Go.RowKit Go.Shelf


/-- what marks leave as it is: all but those blocks -/
structure ShutP (Ds : List Nat) (w w' : World) : Prop where
  os : w'.os = w.os
  tape : w'.tape = w.tape
  output : w'.output = w.output
  size : w'.heap.size = w.heap.size
  other : ∀ k : Nat, k ∉ Ds → w'.heap[k]? = w.heap[k]?
theorem leaves_marksP {F : Fence} {n : Nat} {P : Program} {fn : Func} {tmps : Array Value} {R : Ending → World → Prop} (Ds : List Nat) : ∀ w : World, Ds.Nodup → (∀ D, D ∈ Ds → w.heap[D]? = some (.deferred (some []))) →
    (∀ w', ShutP Ds w w' → LeavesIn F n P fn tmps R [] .returning w') → LeavesInM F n P fn tmps R (Ds.map mark) .returning w := by
  induction Ds with
  | nil => intro w _ _ h; exact h w ⟨rfl, rfl, rfl, rfl, fun _ _ => rfl⟩
  | cons D Ds ih =>
    intro w hnd hD h
    have hD0 := hD D (List.mem_cons_self ..)
    obtain ⟨hn1, hn2⟩ := List.nodup_cons.1 hnd
    refine ⟨by simp, .inl ⟨D, _, rfl, run_takeDeferred hD0, ?_⟩⟩
    refine ih _ hn2 (fun E hE => ?_) (fun w' hs => h w' ?_)
    · rw [World.putObj_heap_other (fun e => hn1 (by rw [← e]; exact hE))]
      exact hD E (List.mem_cons_of_mem _ hE)
    · refine ⟨hs.os, hs.tape, hs.output, hs.size.trans (by simp [World.putObj]), fun k hk => ?_⟩
      have e : k ≠ D := fun e => hk (by rw [e]; exact List.mem_cons_self ..)
      have := hs.other k (fun h => hk (List.mem_cons_of_mem _ h))
      rw [this, World.putObj_heap_other e]
theorem results_tmp2M {fn : Func} {p q : Tmp} (h : fn.results = #[.tmp p, .tmp q]) (tmps : Array Value) (P : Program) (w : World) :
    (results fn tmps).run P w = .ok (.tuple #[tmps.getD p undef, tmps.getD q undef]) w := by
  simp only [results, h]
  simp [Sem.run_bind, Result.andThen]
theorem mnew_bad (z : Int) (w : World) (h : z < 1 ∨ 4096 < z) : Calls Tryd.prog 9 #[.int .i64 z] w fun e w' => e = .returned (.tuple #[.pointer none, .iface 24 (.int .i64 1)]) ∧ w' = w := by
  by_cases h1 : z < 1
  · go_enter Tryd.func9, Tryd.ntmps9
    go_wp2
    go_ret2
    exact ⟨rfl, rfl⟩
  · have h2 : 4096 < z := by omega
    clear h
    go_enter Tryd.func9, Tryd.ntmps9
    go_wp2
    go_ret2
    exact ⟨rfl, rfl⟩
set_option maxHeartbeats 16000000 in
theorem remember_bad (z : Int) (a : Option Addr) (m cap : Nat) (w : World) (h : z < 1 ∨ 4096 < z) : Calls Tryd.prog 5 #[.int .i64 z, .slice a m cap] w fun e w' => e = .returned (.tuple #[.slice none 0 0, .int .i64 1]) ∧ w' = w := by
  have H1 := fun wz => mnew_bad z wz h
  go_enter Tryd.func5, Tryd.ntmps5
  go_wp2_with (first
    | (go_at_call 9; refine (H1 _).mono ?_; rintro e w' ⟨rfl, hw⟩; have hw := hw.symm; subst hw)
    | (go_at_call 10; refine (tellE_any 1 (by decide) (by decide) _).mono ?_; rintro e wT ⟨rfl, hwT⟩; have hwT := hwT.symm; subst hwT))
  refine bodyPost_ret (results_tmp2M (p := 4) (q := 5) (by kernel_rfl) _ _ _) rfl ?_
  exact ⟨rfl, rfl⟩
set_option maxHeartbeats 16000000 in
theorem remember_any (sz m cap : Nat) (a : Option Addr) (F : Nat → Int × Int × Int) (w0 : World) (hR : RdPk w0 a m cap F) (h1 : 1 ≤ sz) (h2 : sz ≤ 4096) (hm : m ≤ 1000000000000) (hH : HdE w0) :
    Calls Tryd.prog 5 #[.int .i64 sz, .slice a m cap] w0 fun e w' => ∃ ao co xs, e = .returned (.tuple #[.slice ao m co, .int .i64 0]) ∧ OwX w' w0.heap.size ao m co xs ∧ xs.map datX = pkT (List.replicate sz 0, 0) F m ∧ w0.grownBy w' none := by
  refine (callsIn_wide (n := 9)).1 (callsIn_of_wp_marks Tryd.func5 rfl trivial (wpIn_wide.2 ?_) rfl)
  simp only [Tryd.ntmps5, List.size_toArray, List.length_cons, List.length_nil, Nat.reduceAdd, Nat.reduceSub, Array.replicate_succ, Array.replicate_zero, List.push_toArray, List.append_toArray, List.nil_append, List.cons_append]
  have HN := mnew_ok sz w0 h1 h2
  have h00 : 0 < w0.heap.size := by
    refine Nat.pos_of_ne_zero fun e => ?_
    have hn : w0.heap[0]? = none := Array.getElem?_eq_none (by omega)
    unfold HdE at hH
    simp [World.cell?, hn] at hH
  have HR : Hid _ := hR
  clear hR
  conv => enter [2]; whnf
  go_wp2_with (go_at_call 9; refine HN.mono ?_; rintro e w1 ⟨gm, gc, rfl, hM1, g1, hgm, hgc⟩)
  have hgm1 : gm < w1.heap.size := hM1.box.lt
  have hgc1 : gc < w1.heap.size := hM1.row.lt
  have F01 : Frm (fun _ => False) w0 w1 := Frm.of g1 (fun k e _ => by cases e)
  have hH1 := hH.keep g1 (by simp)
  have HM : Hid _ := hM1
  clear hM1 HN
  refine wp_loop_ghost (fun z aa W => ∃ (i co : Nat) (ao : Option Addr) (xs : List Px) (Ds : List Nat) (u : Nat → Value), aa = (Act.mk (List.toArray ((u 0) :: (u 1) :: (u 2) :: (u 3) :: (u 4) :: (u 5) :: (.pointer (some ⟨gm, 0, none⟩)) :: (u 7) :: (.slice ao i co) :: (u 9) :: (u 10) :: (u 11) :: (u 12) :: (u 13) :: (u 14) :: (u 15) :: (u 16) :: (u 17) :: (u 18) :: (u 19) :: (u 20) :: (u 21) :: (u 22) :: (u 23) :: (u 24) :: (u 25) :: (u 26) :: (u 27) :: (.slice a m cap) :: (.int .i64 (m : Nat)) :: (.int .i64 (i : Nat)) :: (u 31) :: (u 32) :: (u 33) :: (u 34) :: (u 35) :: (u 36) :: (u 37) :: (u 38) :: (u 39) :: (u 40) :: (u 41) :: (u 42) :: (u 43) :: (u 44) :: (u 45) :: (u 46) :: (u 47) :: (u 48) :: (u 49) :: (u 50) :: (u 51) :: (u 52) :: (u 53) :: (u 54) :: (u 55) :: (u 56) :: (u 57) :: (u 58) :: (u 59) :: (u 60) :: (u 61) :: (u 62) :: (u 63) :: (u 64) :: (u 65) :: (u 66) :: (u 67) :: (u 68) :: (u 69) :: (u 70) :: (u 71) :: (u 72) :: (u 73) :: (u 74) :: (u 75) :: (u 76) :: (u 77) :: (u 78) :: (u 79) :: (u 80) :: (u 81) :: (u 82) :: (u 83) :: (u 84) :: (u 85) :: (u 86) :: (u 87) :: (u 88) :: (u 89) :: (u 90) :: (u 91) :: (u 92) :: (u 93) :: (u 94) :: (u 95) :: (u 96) :: (u 97) :: (u 98) :: (u 99) :: (u 100) :: (u 101) :: (u 102) :: (u 103) :: (u 104) :: (u 105) :: (u 106) :: (u 107) :: [])) (Ds.map mark)) ∧ i ≤ m ∧ z = m - i ∧ RmI w0 w1.heap.size gm gc (pkR (List.replicate sz 0, 0) F i) i ao co xs (pkT (List.replicate sz 0, 0) F i) Ds W ∧ HdE W) m ?_ ?_
  · refine ⟨0, 0, none, [], [], (fun k => ([.int .i64 sz, .slice a m cap, undef, undef, .slice none 0 0, .int .i64 0, undef, .nilIface, undef, undef, undef, undef, undef, undef, undef, undef, undef, .tuple #[.pointer (some ⟨gm, 0, none⟩), .nilIface], .int .i64 sz, .tuple #[.pointer (some ⟨gm, 0, none⟩), .nilIface], .pointer (some ⟨gm, 0, none⟩), .nilIface, .nilIface, .bool false, undef, undef, .pointer (some ⟨gm, 0, none⟩), .bool false] : List Value).getD k undef), ?_⟩
    exact ⟨rfl, Nat.zero_le _, rfl, ⟨HM.out, OwX.nil _ _, rfl, F01, List.nodup_nil, (fun D hD => by cases hD), (fun D hD => by cases hD), Nat.le_refl _⟩, hH1⟩
  · rintro z aa W ⟨i, co, ao, xs, Ds, u, rfl, hi, hz, J, hHW⟩
    by_cases hlt : i < m
    · obtain ⟨b, off, rfl, hc⟩ := (HR.out.frm J.fr).at' (by omega)
      have hcW := hc i hlt
      have hlt' : (i : Int) < (m : Int) := by omega
      refine wp_seq_k fun K1 hK1 => ?_
      have HK1 : Hid _ := hK1
      clear hK1
      go_wp2
      (try simp only [Exit.inBlock, Exit.then])
      refine HK1.out _ _ ?_
      clear HK1
      refine wp_seq_k fun K2 hK2 => ?_
      have HK2 : Hid _ := hK2
      clear hK2
      go_wp2
      (try simp only [Exit.inBlock, Exit.then])
      refine HK2.out _ _ ?_
      clear HK2
      refine rm_9 w0 W w1.heap.size gm gc b off m cap i co ao _ F xs _ Ds J hcW hlt hm hHW hgm1 hgc1 hgm hgc h00 ?_
      intro W' gy cy x Ds' z10 z11 z12 z13 z14 z15 z16 z32 z33 z34 z35 z36 z37 z38 z39 z40 z41 z42 z43 z44 z45 z46 z47 z48 z49 z50 z51 z52 z53 z54 z55 z56 z57 z58 z59 z60 z61 z62 z63 z64 z65 z66 z67 z68 z69 z70 z71 z72 z73 z74 z75 z76 z77 z78 z79 z80 z81 z82 z83 z84 z85 z86 z87 z88 z89 z90 z91 z92 z93 z94 z95 z96 z97 z98 z99 z100 z101 z102 z103 z104 z105 z106 J' hH'
      show ∃ n', _ ∧ _
      exact ⟨m - (i + 1), by omega, i + 1, cy, some ⟨gy, 0, none⟩, xs ++ [x], Ds', (fun k => [u 0, u 1, u 2, u 3, u 4, u 5, undef, u 7, undef, u 9, z10, z11, z12, z13, z14, z15, z16, u 17, u 18, u 19, u 20, u 21, u 22, u 23, u 24, u 25, u 26, u 27, undef, undef, undef, .bool true, z32, z33, z34, z35, z36, z37, z38, z39, z40, z41, z42, z43, z44, z45, z46, z47, z48, z49, z50, z51, z52, z53, z54, z55, z56, z57, z58, z59, z60, z61, z62, z63, z64, z65, z66, z67, z68, z69, z70, z71, z72, z73, z74, z75, z76, z77, z78, z79, z80, z81, z82, z83, z84, z85, z86, z87, z88, z89, z90, z91, z92, z93, z94, z95, z96, z97, z98, z99, z100, z101, z102, z103, z104, z105, z106, u 107].getD k undef), rfl, by omega, rfl, J', hH'⟩
    · obtain rfl : i = m := by omega
      have hge : ¬ ((i : Int) < (i : Int)) := by omega
      have HJ : Hid _ := J
      clear J
      go_wp2
      have J := HJ.out
      show LeavesInM Fence.wide 9 Tryd.prog Tryd.f5 _ _ (Ds.map mark) .returning W
      refine leaves_marksP Ds W J.nd J.de (fun w' hs => ?_)
      have hFF : Frm (fun k => k ∈ Ds) W w' := ⟨hs.os, hs.tape, hs.output, by rw [hs.size]; exact Nat.le_refl _, fun k _ hn => hs.other k hn⟩
      have hOo := J.own.frm2 hFF (fun k hk h => by
        obtain ⟨_, cs, e⟩ := row_lt J.own.row hk
        rw [J.de k h] at e
        cases e) (fun y hy k hk h => by
        obtain ⟨_, cs, e⟩ := row_lt (J.own.dat y hy).own hk
        rw [J.de k h] at e
        cases e)
      have h0 := J.fr.trans hFF (fun k hk h => by have := J.dg k h; omega)
      have hz1 := F01.size
      have hOf : OwX w' w0.heap.size ao i co xs := ⟨hOo.row, fun g e => by have := hOo.new g e; omega, fun x hx => ⟨(hOo.dat x hx).own, fun g e => by have := (hOo.dat x hx).new g e; omega⟩⟩
      have hGf : w0.grownBy w' none := ⟨h0.os, h0.tape, h0.output, h0.size, fun k hk _ => h0.block k hk (fun h => h)⟩
      refine ⟨_, results_tmp2M (p := 4) (q := 5) (by kernel_rfl) _ _ _, ?_⟩
      first
        | exact ⟨ao, co, xs, rfl, hOf, J.dat, hGf⟩
        | exact ⟨ao, co, rfl, xs, hOf, J.dat, hGf⟩
        | exact ⟨ao, co, rfl, ⟨xs, hOf, J.dat⟩, hGf⟩
end

section
theorem cnt_mono (p k : Nat) (hw : isW p = true) (h : p < k) : cntW p < cntW k := by
  induction k with
  | zero => omega
  | succ k ih =>
    have e : cntW (k + 1) = if isW k then cntW k + 1 else cntW k := rfl
    rw [e]
    by_cases hk : p = k
    · subst hk
      rw [if_pos hw]; omega
    · have := ih (by omega)
      split <;> omega
/-- a bit of a word stands at its place -/
theorem ga_bit (c p : Nat) (hw : isW p = true) : ∀ k, p < k → (gaW c k).testBit (cntW p) = c.testBit p
  | 0, h => by omega
  | k + 1, h => by
    cases hk : isW k
    · rw [(ga_no c k hk).2]
      refine ga_bit c p hw k ?_
      have : p ≠ k := fun e => by subst e; rw [hw] at hk; cases hk
      omega
    · rw [(ga_yes c k hk).2, Nat.testBit_or, bit_shl]
      by_cases e : p = k
      · subst e
        rw [Nat.testBit_lt_two_pow (gaW_lt c p)]
        have := div_bit c p
        simp [Nat.testBit_eq_decide_div_mod_eq]
      · have h1 := cnt_mono p k hw (by omega)
        rw [ga_bit c p hw k (by omega)]
        simp
        intro e2
        omega
theorem six_bits : ∀ b1 b2 b4 b8 b16 b32 : Bool, ((((((if b1 then 1 else 0) ^^^ (if b2 then 2 else 0)) ^^^ (if b4 then 4 else 0)) ^^^ (if b8 then 8 else 0)) ^^^ (if b16 then 16 else 0)) ^^^ (if b32 then 32 else 0)) = 0 → b1 = false ∧ b2 = false ∧ b4 = false ∧ b8 = false ∧ b16 = false ∧ b32 = false := by decide
theorem xsM_no (d k : Nat) (h : d.testBit k = false) : xsW d (k + 1) = xsW d k := by
  show (if d.testBit k then _ else _) = _
  rw [h]; rfl
theorem xsM_if (d k : Nat) : xsW d (k + 1) = xsW d k ^^^ (if d.testBit k then k else 0) := by
  show (if d.testBit k then _ else _) = _
  cases d.testBit k <;> simp
theorem no_bits (d : Nat) (hd : d < 549755813888) (hb : ∀ p, p < 39 → isW p = true → d.testBit p = false) (hx : xsW d 39 = 0) (ho : odW d = false) : d = 0 := by
  have b3 : d.testBit 3 = false := hb 3 (by decide) (by decide)
  have b5 : d.testBit 5 = false := hb 5 (by decide) (by decide)
  have b6 : d.testBit 6 = false := hb 6 (by decide) (by decide)
  have b7 : d.testBit 7 = false := hb 7 (by decide) (by decide)
  have b9 : d.testBit 9 = false := hb 9 (by decide) (by decide)
  have b10 : d.testBit 10 = false := hb 10 (by decide) (by decide)
  have b11 : d.testBit 11 = false := hb 11 (by decide) (by decide)
  have b12 : d.testBit 12 = false := hb 12 (by decide) (by decide)
  have b13 : d.testBit 13 = false := hb 13 (by decide) (by decide)
  have b14 : d.testBit 14 = false := hb 14 (by decide) (by decide)
  have b15 : d.testBit 15 = false := hb 15 (by decide) (by decide)
  have b17 : d.testBit 17 = false := hb 17 (by decide) (by decide)
  have b18 : d.testBit 18 = false := hb 18 (by decide) (by decide)
  have b19 : d.testBit 19 = false := hb 19 (by decide) (by decide)
  have b20 : d.testBit 20 = false := hb 20 (by decide) (by decide)
  have b21 : d.testBit 21 = false := hb 21 (by decide) (by decide)
  have b22 : d.testBit 22 = false := hb 22 (by decide) (by decide)
  have b23 : d.testBit 23 = false := hb 23 (by decide) (by decide)
  have b24 : d.testBit 24 = false := hb 24 (by decide) (by decide)
  have b25 : d.testBit 25 = false := hb 25 (by decide) (by decide)
  have b26 : d.testBit 26 = false := hb 26 (by decide) (by decide)
  have b27 : d.testBit 27 = false := hb 27 (by decide) (by decide)
  have b28 : d.testBit 28 = false := hb 28 (by decide) (by decide)
  have b29 : d.testBit 29 = false := hb 29 (by decide) (by decide)
  have b30 : d.testBit 30 = false := hb 30 (by decide) (by decide)
  have b31 : d.testBit 31 = false := hb 31 (by decide) (by decide)
  have b33 : d.testBit 33 = false := hb 33 (by decide) (by decide)
  have b34 : d.testBit 34 = false := hb 34 (by decide) (by decide)
  have b35 : d.testBit 35 = false := hb 35 (by decide) (by decide)
  have b36 : d.testBit 36 = false := hb 36 (by decide) (by decide)
  have b37 : d.testBit 37 = false := hb 37 (by decide) (by decide)
  have b38 : d.testBit 38 = false := hb 38 (by decide) (by decide)
  have hx2 : xsW d 39 = ((((((if d.testBit 1 then 1 else 0) ^^^ (if d.testBit 2 then 2 else 0)) ^^^ (if d.testBit 4 then 4 else 0)) ^^^ (if d.testBit 8 then 8 else 0)) ^^^ (if d.testBit 16 then 16 else 0)) ^^^ (if d.testBit 32 then 32 else 0)) := by
    rw [xsM_no d 38 b38, xsM_no d 37 b37, xsM_no d 36 b36, xsM_no d 35 b35, xsM_no d 34 b34, xsM_no d 33 b33, xsM_if d 32, xsM_no d 31 b31, xsM_no d 30 b30, xsM_no d 29 b29, xsM_no d 28 b28, xsM_no d 27 b27, xsM_no d 26 b26, xsM_no d 25 b25, xsM_no d 24 b24, xsM_no d 23 b23, xsM_no d 22 b22, xsM_no d 21 b21, xsM_no d 20 b20, xsM_no d 19 b19, xsM_no d 18 b18, xsM_no d 17 b17, xsM_if d 16, xsM_no d 15 b15, xsM_no d 14 b14, xsM_no d 13 b13, xsM_no d 12 b12, xsM_no d 11 b11, xsM_no d 10 b10, xsM_no d 9 b9, xsM_if d 8, xsM_no d 7 b7, xsM_no d 6 b6, xsM_no d 5 b5, xsM_if d 4, xsM_no d 3 b3, xsM_if d 2, xsM_if d 1, xsM_if d 0]
    show (((((((xsW d 0 ^^^ _) ^^^ _) ^^^ _) ^^^ _) ^^^ _) ^^^ _) ^^^ _) = _
    have e : (xsW d 0 ^^^ (if d.testBit 0 = true then 0 else 0)) = 0 := by
      show (0 ^^^ _) = 0
      split <;> rfl
    rw [e, Nat.zero_xor]
  obtain ⟨c1, c2, c4, c8, c16, c32⟩ := six_bits _ _ _ _ _ _ (hx2.symm.trans hx)
  have all : ∀ i, 1 ≤ i → d.testBit i = false := fun i hi => by
    by_cases h39 : i < 39
    · have key : ∀ i, i < 39 → 1 ≤ i → isW i = true ∨ i = 1 ∨ i = 2 ∨ i = 4 ∨ i = 8 ∨ i = 16 ∨ i = 32 := by decide
      rcases key i h39 hi with h | rfl | rfl | rfl | rfl | rfl | rfl
      · exact hb i h39 h
      all_goals assumption
    · have h2 : 2 ^ 39 ≤ 2 ^ i := Nat.pow_le_pow_right (by decide) (by omega)
      exact Nat.testBit_lt_two_pow (Nat.lt_of_lt_of_le hd h2)
  cases h0 : d.testBit 0
  · refine Nat.eq_of_testBit_eq fun i => ?_
    rw [Nat.zero_testBit]
    cases i with
    | zero => exact h0
    | succ i => exact all _ (by omega)
  · have e : d = 1 := by
      refine Nat.eq_of_testBit_eq fun i => ?_
      cases i with
      | zero => rw [h0]; rfl
      | succ i =>
        rw [all _ (by omega)]
        have := one_shl_bit 0 (i + 1)
        rw [show (1 <<< 0 : Nat) = 1 from rfl] at this
        rw [this]; simp
    subst e
    exact absurd ho (by decide)
/-- WHAT HAS NO WRONG BIT IS THE CODE OF ITS WORD -/
theorem co_ga (r : Nat) (hr : r < 549755813888) (hx : xsW r 39 = 0) (ho : odW r = false) : coN (gaW r 39) = r := by
  have h := no_bits (coN (gaW r 39) ^^^ r) (Nat.xor_lt_two_pow (n := 39) (coN_lt _) hr) (fun p hp hw => by
    rw [Nat.testBit_xor, coN_bit _ p hp hw, spW_bit, hw, ga_bit r p hw 39 hp]
    simp [hp]) (by rw [xsW_xor, (coN_sum _).1, hx]; rfl) (by rw [odW_xor, (coN_sum _).2, ho]; rfl)
  have h2 : (coN (gaW r 39) ^^^ r) ^^^ r = 0 ^^^ r := by rw [h]
  rwa [Nat.xor_assoc, Nat.xor_self, Nat.xor_zero, Nat.zero_xor] at h2
/-- what is mended is a code -/
theorem ri_code (c : Nat) (hc : c < 549755813888) (hw : wrW c ≠ 2) : coN (gaW (riW c) 39) = riW c := by
  have hl := riW_lt c hc
  cases ho : odW c
  · by_cases hs : xsW c 39 = 0
    · have e := (ri_0 ho hs).1
      generalize riW c = r at e hl ⊢
      subst e
      exact co_ga _ hl hs ho
    · exact absurd (show wrW c = 2 by unfold wrW; rw [ho, if_neg (by decide), if_neg hs]) hw
  · by_cases hs : xsW c 39 < 39
    · have e := (ri_1 ho hs).1
      have h1 := one_places _ hs
      have hx := xsW_xor c (1 <<< xsW c 39) 39
      have hd := odW_xor c (1 <<< xsW c 39)
      rw [h1.1, Nat.xor_self] at hx
      rw [h1.2, ho] at hd
      generalize riW c = r at e hl ⊢
      rw [← e] at hx hd
      exact co_ga _ hl hx hd
    · exact absurd (show wrW c = 2 by unfold wrW; rw [ho, if_pos rfl, if_neg hs]) hw
theorem ri_same (c : Nat) (hw : wrW c = 0) : riW c = c := by unfold riW; rw [if_pos hw]
end
end Go.Proofs.YtgnicopijocnjaaDoor
