import Derived.Test.YtaigcjhachkmmaaDoorQLT
import Derived.Test.YtaigcjhachkmmaaDoorQEJ
namespace Go.Proofs.YtaigcjhachkmmaaDoor
open Go.RowKit
set_option maxRecDepth 100000
set_option linter.unusedVariables false
set_option linter.unusedSimpArgs false
theorem pickY_any (n of : Int) (w : World) (h1 : -9223372036854775808 ≤ n) (h2 : n ≤ 9223372036854775807) (ho : 0 < of) (ho2 : of ≤ 9223372036854775807) :
    Calls Tryd.prog 13 #[.int .i64 n, .int .i64 of] w fun e w' => ∃ v : Nat, (v : Int) < of ∧ e = .returned (.int .i64 v) ∧ w' = w := by
  by_cases hn : n < 0
  · have hnz : ¬ of = 0 := by omega
    go_enter Tryd.func13, Tryd.ntmps13
    go_wp2
    go_ret
    have p1 := Int.emod_nonneg (-(n + 1)) (show of ≠ 0 by omega)
    have p2 := Int.emod_lt_of_pos (-(n + 1)) ho
    have e : -((n + 1).tmod of) = (-(n + 1)) % of := by rw [← Int.neg_tmod, Int.tmod_eq_emod_of_nonneg (by omega)]
    refine ⟨((-(n + 1)) % of).toNat, by omega, ?_, rfl⟩
    refine congrArg (fun z => Ending.returned (Value.int .i64 z)) (?_ : -((n + 1).tmod of) = _)
    rw [e]; omega
  · have hnz : ¬ of = 0 := by omega
    go_enter Tryd.func13, Tryd.ntmps13
    go_wp2
    go_ret
    have p1 := Int.emod_nonneg n (show of ≠ 0 by omega)
    have p2 := Int.emod_lt_of_pos n ho
    refine ⟨(n % of).toNat, by omega, ?_, rfl⟩
    refine congrArg (fun z => Ending.returned (Value.int .i64 z)) (?_ : n % of = _)
    omega

theorem Tryd.info_ints : (Tryd.prog.info? 3).map (fun i => (i.zero, i.size, i.bytes)) = some (some (.int .i64 0), 1, 8) := by kernel_rfl
theorem one_row (w : World) (v : Int) : ∀ j u, [Value.int .i64 v][j]? = some u → (w.alloc (.cells #[.int .i64 v] 3)).cell? ((⟨w.heap.size, 0, none⟩ : Addr).add j) = some u := by
  intro j u hu
  rw [addr_add, Nat.zero_add]
  have b := BxS.new w 3 #[.int .i64 v]
  have hj : j < 1 := (List.getElem?_eq_some_iff.1 hu).1
  obtain rfl : j = 0 := by omega
  rw [b.cell 0 (by show 0 < 1; decide)]
  rw [← hu]
  rfl
/-- 'append(l, v)' of ints, in a drawn region -/
theorem step_psZ (w : World) (lo : Nat) (v : Int) {ops : Array Oper} {o : Oper} {a : Act} {K : Act → World → Prop} {Q : Exit → Act → World → Prop} {E : Prop} (hg : o.guard = none) (s x : Operand)
    (hop : o.op = Op.call { callee := .builtin .append, args := #[s, x], argTypes := #[34, 34] }) (ao : Option Addr) (m co : Nat) (S : List Int) (hs : a.eval s = .slice ao m co)
    (hA : AnsZ w lo ao m co S) (hlo : lo ≤ w.heap.size) (hx : a.eval x = .slice (some ⟨w.heap.size, 0, none⟩) 1 1) (hb : (m + 1) * 8 ≤ 140737488355328)
    (hK : ∀ gx cx w', AnsZ w' lo (some ⟨gx, 0, none⟩) (m + 1) cx (S ++ [v]) → w.grownBy w' (Value.slice ao m co).ownBlock → ((Value.slice ao m co).ownBlock = some gx ∨ w.heap.size ≤ gx) → K (a.put o.dst (.slice (some ⟨gx, 0, none⟩) (m + 1) cx)) w') :
    if Region.wanted o (yielded ops a.tmps) = true then Oper.wp Tryd.prog o a (w.alloc (.cells #[.int .i64 v] 3)) K Q else E := by
  obtain ⟨i0, hi, hz0, hz1, hz2⟩ := info_parts Tryd.info_ints
  have gA := World.grownBy_alloc w (.cells #[.int .i64 v] 3) none
  refine step_apS _ hg s x 34 3 i0 _ 1 8 Tryd.underlying34 hi hz0 hz1 hz2 rfl (by decide) hop (.slice ao m co) m (zys S) hs (hA.own.alloc _) ⟨w.heap.size, 0, none⟩ 1 1 [.int .i64 v] hx rfl (one_row w v) (by simp [Value.oneCell']) (by decide) (by unfold maxLen; omega) (by omega) ?_
  intro gx cx w' hgx hgr hown
  have hsz := gA.size
  have hor : (Value.slice ao m co).ownBlock = some gx ∨ w.heap.size ≤ gx := by
    rcases hgx with h | h
    · exact .inl h
    · exact .inr (by omega)
  have hgr' := grown_trans (grown_weak gA (Value.slice ao m co).ownBlock) hgr
  refine hK gx cx w' ⟨?_, fun g e => ?_⟩ hgr' hor
  · have e : zys S ++ [.int .i64 v] = zys (S ++ [v]) := by simp [zys]
    rw [← e]; exact hown
  · have e : some gx = some g := e
    have e := Option.some.inj e
    subst e
    rcases hor with h | h
    · exact hA.new _ h
    · omega
set_option maxHeartbeats 16000000 in
/-- the law's key -/
theorem lkey_any (id seed : Int) (w : World) (h1 : I64 id) (h2 : I64 seed) :
    Calls Tryd.prog 12 #[.int .i64 id, .int .i64 seed] w fun e w' => ∃ (i : Nat) (ka : Option Addr) (kc : Nat) (S : List Int), i < 256 ∧ (∀ x, x ∈ S → 0 ≤ x ∧ x ≤ 4294967295) ∧ e = .returned (.agg #[.int .i64 (i : Int), .slice ka 8 kc, .int .i64 (-1), .int .i64 0]) ∧ AnsZ w' w.heap.size ka 8 kc S ∧ w.grownBy w' none := by
  have i4 := Tryd.info_ky4
  have b0 := BxS.new w 36 #[.int .i64 0, .slice none 0 0, .int .i64 0, .int .i64 0]
  have g0 := World.grownBy_alloc w (.cells #[.int .i64 0, .slice none 0 0, .int .i64 0, .int .i64 0] 36) none
  generalize hw0 : w.alloc (.cells #[.int .i64 0, .slice none 0 0, .int .i64 0, .int .i64 0] 36) = w0 at b0 g0
  have hz0 : w0.heap.size = w.heap.size + 1 := by rw [← hw0]; simp
  have b1 := BxS.new w0 36 #[.int .i64 0, .slice none 0 0, .int .i64 0, .int .i64 0]
  have g1 := World.grownBy_alloc w0 (.cells #[.int .i64 0, .slice none 0 0, .int .i64 0, .int .i64 0] 36) none
  generalize hw1 : w0.alloc (.cells #[.int .i64 0, .slice none 0 0, .int .i64 0, .int .i64 0] 36) = w1 at b1 g1
  have sz1 : w.heap.size + 2 ≤ w1.heap.size := by rw [← hw1]; simp [hz0]
  rw [hz0] at b1
  have p0 := b0.keep g1 (by simp)
  have G1 := grown_trans g0 g1
  have s0 : True := trivial
  go_enter Tryd.func12, Tryd.ntmps12
  go_wp2_with (first
    | (go_at_call 13; have _t := s0; clear s0; refine (pickY_any id 256 _ h1.1 h1.2 (by decide) (by decide)).mono ?_; rintro e w' ⟨i, hi, rfl, hw'⟩; have hw' := hw'.symm; subst hw'; have s1 : True := trivial)
    | (have _t := s1; clear s1; refine wpList_stX _ rfl _ (.tmp 5) (.tmp 9) rfl (w.heap.size + 1) _ _ rfl rfl b1 i4 rfl (by simp [Value.oneCell']) ?_; intro w2 b2 u2))
  have q0 := p0.keep u2 (fun e => by have e := Option.some.inj e; omega)
  have G2 := grown_far G1 u2 (fun q e => by have e := Option.some.inj e; omega)
  have z2 := u2.size
  go_loopw [6] (fun iv wr => ∃ (k : Nat) (a' : Option Addr) (c' : Nat) (S : List Int), iv = .int .i64 k ∧ k ≤ 8 ∧ BxS wr (w.heap.size + 1) 36 #[.int .i64 (i : Int), .slice a' k c', .int .i64 (-1), .int .i64 0] ∧ BxS wr w.heap.size 36 #[.int .i64 0, .slice none 0 0, .int .i64 0, .int .i64 0] ∧ AnsZ wr w2.heap.size a' k c' S ∧ (∀ x, x ∈ S → 0 ≤ x ∧ x ≤ 4294967295) ∧ w.grownBy wr none ∧ w2.heap.size ≤ wr.heap.size) (fun iv _ => 8 - (intOf iv).toNat)
  case atStart => exact ⟨0, none, 0, [], by go_num, Nat.zero_le _, b2, q0, ansZ_nil _ _, (fun x hx => by cases hx), G2, Nat.le_refl _⟩
  case round =>
    obtain ⟨k, a', c', S, rfl, hk, hB, hB0, hA, hS, yr, hszl⟩ := hrel
    by_cases hlt : k < 8
    · have hlt' : (k : Int) < 8 := by omega
      have hwk : IntKind.i64.wrap ((k : Int) + 1) = (k : Int) + 1 := wrap_i64_in _ (by omega) (by omega)
      have hwk3 : IntKind.i64.wrap ((k : Int) + 3) = (k : Int) + 3 := wrap_i64_in _ (by omega) (by omega)
      have hm2 : -9223372036854775808 ≤ IntKind.i64.wrap (IntKind.i64.wrap (seed * ((k : Int) + 3)) + (k : Int)) ∧ IntKind.i64.wrap (IntKind.i64.wrap (seed * ((k : Int) + 3)) + (k : Int)) ≤ 9223372036854775807 := by
        rw [IntKind.wrap_i64]; omega
      go_wp2
      have SD := grown_drew wr none
      have SS := hB.keep SD (by simp)
      refine wp_regionL (fun wz => BxS wz (w.heap.size + 1) 36 #[.int .i64 (i : Int), .slice a' k c', .int .i64 (-1), .int .i64 0]) [12] #[false, false, false, false, false, false, false, false, false, false, false, false, false] rfl (by kernel_rfl) ?_
      refine wpAnyZ_take [1, 10, 12] 0 (.pointer (some ⟨w.heap.size + 1, 1, none⟩)) rfl (by kernel_rfl) (fun _ _ _ h => h) SS rfl (by intro wz hz; have zx : wz.cell? ⟨w.heap.size + 1, 1, none⟩ = some (.slice a' k c') := hz.cell 1 (by show 1 < 4; decide); go_simp) ?_
      try simp only [List.getElem_toArray, List.getElem_cons_succ, List.getElem_cons_zero, Act.put, List.setIfInBounds_toArray, List.set_cons_zero, List.set_cons_succ]
      refine wpAnyZ_take [10, 12] 1 (.slice a' k c') rfl (by kernel_rfl) (fun _ _ _ h => h) SS rfl (by intro wz hz; have zx : wz.cell? ⟨w.heap.size + 1, 1, none⟩ = some (.slice a' k c') := hz.cell 1 (by show 1 < 4; decide); go_simp) ?_
      try simp only [List.getElem_toArray, List.getElem_cons_succ, List.getElem_cons_zero, Act.put, List.setIfInBounds_toArray, List.set_cons_zero, List.set_cons_succ]
      refine wpAnyZ_take [5, 7, 8, 9, 10, 12] 2 (.int .i64 seed) rfl (by kernel_rfl) (fun _ _ _ h => h) SS rfl (by intro wz hz; have zx : wz.cell? ⟨w.heap.size + 1, 1, none⟩ = some (.slice a' k c') := hz.cell 1 (by show 1 < 4; decide); go_simp) ?_
      try simp only [List.getElem_toArray, List.getElem_cons_succ, List.getElem_cons_zero, Act.put, List.setIfInBounds_toArray, List.set_cons_zero, List.set_cons_succ]
      refine wpAnyZ_take [4, 5, 7, 8, 9, 10, 12] 3 (.int .i64 (k : Int)) rfl (by kernel_rfl) (fun _ _ _ h => h) SS rfl (by intro wz hz; have zx : wz.cell? ⟨w.heap.size + 1, 1, none⟩ = some (.slice a' k c') := hz.cell 1 (by show 1 < 4; decide); go_simp) ?_
      try simp only [List.getElem_toArray, List.getElem_cons_succ, List.getElem_cons_zero, Act.put, List.setIfInBounds_toArray, List.set_cons_zero, List.set_cons_succ]
      refine wpAnyZ_take [5, 7, 8, 9, 10, 12] 4 (.int .i64 ((k : Int) + 3)) rfl (by kernel_rfl) (fun _ _ _ h => h) SS rfl (by intro wz hz; have zx : wz.cell? ⟨w.heap.size + 1, 1, none⟩ = some (.slice a' k c') := hz.cell 1 (by show 1 < 4; decide); go_simp) ?_
      try simp only [List.getElem_toArray, List.getElem_cons_succ, List.getElem_cons_zero, Act.put, List.setIfInBounds_toArray, List.set_cons_zero, List.set_cons_succ]
      refine wpAnyZ_take [7, 8, 9, 10, 12] 5 (.int .i64 (IntKind.i64.wrap (seed * ((k : Int) + 3)))) rfl (by kernel_rfl) (fun _ _ _ h => h) SS rfl (by intro wz hz; have zx : wz.cell? ⟨w.heap.size + 1, 1, none⟩ = some (.slice a' k c') := hz.cell 1 (by show 1 < 4; decide); go_simp) ?_
      try simp only [List.getElem_toArray, List.getElem_cons_succ, List.getElem_cons_zero, Act.put, List.setIfInBounds_toArray, List.set_cons_zero, List.set_cons_succ]
      refine wpAnyZ_take [7, 8, 9, 10, 12] 6 (.int .i64 (k : Int)) rfl (by kernel_rfl) (fun _ _ _ h => h) SS rfl (by intro wz hz; have zx : wz.cell? ⟨w.heap.size + 1, 1, none⟩ = some (.slice a' k c') := hz.cell 1 (by show 1 < 4; decide); go_simp) ?_
      try simp only [List.getElem_toArray, List.getElem_cons_succ, List.getElem_cons_zero, Act.put, List.setIfInBounds_toArray, List.set_cons_zero, List.set_cons_succ]
      refine wpAnyZ_take [8, 9, 10, 12] 7 (.int .i64 (IntKind.i64.wrap (IntKind.i64.wrap (seed * ((k : Int) + 3)) + (k : Int)))) rfl (by kernel_rfl) (fun _ _ _ h => h) SS rfl (by intro wz hz; have zx : wz.cell? ⟨w.heap.size + 1, 1, none⟩ = some (.slice a' k c') := hz.cell 1 (by show 1 < 4; decide); go_simp) ?_
      try simp only [List.getElem_toArray, List.getElem_cons_succ, List.getElem_cons_zero, Act.put, List.setIfInBounds_toArray, List.set_cons_zero, List.set_cons_succ]
      generalize wr.drew = w6 at *
      have hs6 := SD.size
      refine wpAnyZ_oneB 8 rfl (by kernel_rfl) (fun K hK => ?_)
      go_simp
      go_at_call 13
      refine (pickY_any _ 4294967296 _ hm2.1 hm2.2 (by decide) (by decide)).mono ?_
      rintro e w' ⟨v, hv, rfl, hw'⟩
      dsimp only
      have hw' := hw'.symm
      subst hw'
      refine hK _ _ (fun _ => SS) ?_
      try simp only [List.getElem_toArray, List.getElem_cons_succ, List.getElem_cons_zero, Act.put, List.setIfInBounds_toArray, List.set_cons_zero, List.set_cons_succ]
      refine wpAnyZ_oneB 9 rfl (by kernel_rfl) (fun K hK => ?_)
      go_simp
      have yA := World.grownBy_alloc w6 (.cells #[.int .i64 (v : Int)] 3) none
      refine hK _ _ (fun _ => SS.keep yA (by simp)) ?_
      try simp only [List.getElem_toArray, List.getElem_cons_succ, List.getElem_cons_zero, Act.put, List.setIfInBounds_toArray, List.set_cons_zero, List.set_cons_succ]
      have hA6 := hA.keep SD
      refine wpAnyZ_oneB 10 rfl (by kernel_rfl) (fun K hK => ?_)
      refine step_psZ w6 w2.heap.size (v : Int) rfl _ _ rfl a' k c' S rfl hA6 (by omega) rfl (by omega) ?_
      intro gx cx w9 hA9 u9 hgx
      have hB9 := SS.keep u9 (fun e => hA6.box SS (by decide) e.symm)
      have hB09 := (hB0.keep SD (by simp)).keep u9 (fun e => hA6.box (hB0.keep SD (by simp)) (by decide) e.symm)
      refine hK _ _ (fun _ => hB9) ?_
      try simp only [List.getElem_toArray, List.getElem_cons_succ, List.getElem_cons_zero, Act.put, List.setIfInBounds_toArray, List.set_cons_zero, List.set_cons_succ]
      refine wpAnyZ_take [12] 11 (.pointer (some ⟨w.heap.size + 1, 1, none⟩)) rfl (by kernel_rfl) (fun _ _ _ h => h) hB9 rfl (by intro wz hz; have zx : wz.cell? ⟨w.heap.size + 1, 1, none⟩ = some (.slice a' k c') := hz.cell 1 (by show 1 < 4; decide); go_simp) ?_
      try simp only [List.getElem_toArray, List.getElem_cons_succ, List.getElem_cons_zero, Act.put, List.setIfInBounds_toArray, List.set_cons_zero, List.set_cons_succ]
      refine wpAnyZ_oneB 12 rfl (by kernel_rfl) (fun K hK => ?_)
      refine step_stC _ rfl _ _ _ rfl (w.heap.size + 1) 1 36 _ #[.int .i64 (i : Int), .slice (some ⟨gx, 0, none⟩) (k + 1) cx, .int .i64 (-1), .int .i64 0] (.slice (some ⟨gx, 0, none⟩) (k + 1) cx) rfl rfl hB9 (stc_ints _ _ _ _ _) (by show 1 < 4; decide) rfl ?_
      intro w10 b10 u10
      refine hK _ _ (fun h => absurd (by decide) h) ?_
      try simp only [List.getElem_toArray, List.getElem_cons_succ, List.getElem_cons_zero, Act.put, List.setIfInBounds_toArray, List.set_cons_zero, List.set_cons_succ]
      refine wpAnyZ_doneB (by kernel_rfl) ?_ _
      have hne : ∀ g, (Value.slice (some ⟨gx, 0, none⟩) (k + 1) cx).ownBlock = some g → w2.heap.size ≤ g := hA9.new
      have hA10 := hA9.kept u10 (.inr (fun e => by have := hA9.new _ e; omega))
      have hB010 := hB09.keep u10 (fun e => by have e := Option.some.inj e; omega)
      have G10 := grown_far (grown_far (grown_trans yr SD) u9 (fun q e => by have := hA6.new q e; omega)) u10 (fun q e => by have e := Option.some.inj e; omega)
      go_wp2
      go_roundw
      case rel => exact ⟨k + 1, _, cx, _, by go_num, by omega, b10, hB010, hA10, (fun x hx => by
        rcases List.mem_append.1 hx with hx | hx
        · exact hS x hx
        · obtain rfl := List.mem_singleton.1 hx; omega), G10, by have := u9.size; have := u10.size; omega⟩
      case measure => simp [intOf]; omega
    · have hlt' : ¬ (k : Int) < 8 := by omega
      obtain rfl : k = 8 := by omega
      obtain ⟨x0, x1, x2, x3⟩ := BxS.cell4 hB
      go_wp2_with (refine wpList_stX _ rfl _ (.tmp 4) (.tmp 26) rfl w.heap.size _ _ rfl rfl hB0 i4 rfl (by simp [Value.oneCell']) ?_; intro w9 b9 u9)
      refine bodyPost_ret (results_cellQ1 rfl _ _ _ ⟨w.heap.size, 0, none⟩ _ rfl (BxS.load (t := 36) b9 Tryd.underlying36 i4)) rfl ?_
      have h9 := hA.kept u9 (.inr (fun e => by have := hA.new _ e; omega))
      have GF := grown_far yr u9 (fun q e => by have e := Option.some.inj e; omega)
      have hY9 : AnsZ w9 w.heap.size a' 8 c' S := ⟨h9.own, fun g hg => Nat.le_trans (by omega) (h9.new g hg)⟩
      have hi9 : i < 256 := by omega
      first | exact ⟨i, a', c', S, hi9, hS, rfl, hY9, GF⟩ | exact ⟨i, hi9, a', c', S, hS, rfl, hY9, GF⟩
end Go.Proofs.YtaigcjhachkmmaaDoor
