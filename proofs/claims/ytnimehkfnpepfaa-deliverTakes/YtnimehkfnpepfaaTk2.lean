import Derived.Test.YtnimehkfnpepfaaTk1
import Derived.Deep.DeepAppendWide
import Derived.Laws.AppendOwnNone
import Derived.Lib.AppendZerosOnto
import Derived.Deep.RegionLawGrows
namespace Go.Proofs.Ytnimehkfnpepfaa
open Go.RowKit
set_option maxRecDepth 100000
set_option linter.unusedVariables false
set_option linter.unusedSimpArgs false

section
/-- a box with a number -/
def BxI (w : World) (g : Nat) (x : Int) : Prop := w.heap[g]? = some (.cells #[.int .i64 x] 3)
theorem BxI.cell {w : World} {g : Nat} {x : Int} (h : BxI w g x) : w.cell? ⟨g, 0, none⟩ = some (.int .i64 x) := by simp [World.cell?, show w.heap[g]? = _ from h]
theorem BxI.free {w : World} {g : Nat} {x : Int} (h : BxI w g x) : w.frozen? ⟨g, 0, none⟩ = false := by simp [World.frozen?, show w.heap[g]? = _ from h]
theorem BxI.lt {w : World} {g : Nat} {x : Int} (h : BxI w g x) : g < w.heap.size := (Array.getElem?_eq_some_iff.1 h).1
theorem BxI.set {w : World} {g : Nat} {x : Int} (h : BxI w g x) (y : Int) : BxI (w.setCell ⟨g, 0, none⟩ (.int .i64 y)) g y := by
  unfold BxI
  rw [setCell_eq_setRow w g 0 _ _ _ _ h]
  exact setRow_heap w g _ _ _ _ h
theorem BxI.keep {w w' : World} {g : Nat} {x : Int} {r : Option Nat} (h : BxI w g x) (hg : w.grownBy w' r) (hne : some g ≠ r) : BxI w' g x := (hg.block g h.lt hne).trans h
theorem BxI.new (w : World) (x : Int) : BxI (w.alloc (.cells #[.int .i64 x] 3)) w.heap.size x := heap_alloc_new w _
theorem take_val (H m k : Nat) (hk : k ≤ 16) (hH : H < 281474976710656) : wrap64 (bits .and .u64 ((H : Int) / 2 ^ m) (IntKind.u64.wrap (IntKind.u64.wrap (2 ^ k) - 1))) = ((H / 2 ^ m % 2 ^ k : Nat) : Int) := by
  have hp : 2 ^ k ≤ 65536 := Nat.pow_le_pow_right (n := 2) (by decide) hk
  have hq : 0 < 2 ^ k := Nat.pow_pos (by decide)
  have hd : H / 2 ^ m < 281474976710656 := Nat.lt_of_le_of_lt (Nat.div_le_self _ _) hH
  have e1 : (2 : Int) ^ k = ((2 ^ k : Nat) : Int) := by simp
  have e2 : (H : Int) / 2 ^ m = ((H / 2 ^ m : Nat) : Int) := by simp
  have e3 : IntKind.u64.wrap (IntKind.u64.wrap (2 ^ k) - 1) = ((2 ^ k - 1 : Nat) : Int) := by
    rw [e1, wrapU, wrapU]
    generalize 2 ^ k = q at hp hq
    omega
  rw [e3, e2, u64_and_nat _ _ (by omega) (by omega), Nat.and_two_pow_sub_one_eq_mod]
  have hm : H / 2 ^ m % 2 ^ k < 65536 := Nat.lt_of_lt_of_le (Nat.mod_lt _ hq) hp
  unfold wrap64
  generalize H / 2 ^ m % 2 ^ k = r at hm
  omega
end

section
theorem Ans.up {w : World} {lo : Nat} {a : Option Addr} {n cap : Nat} {L : List Nat} (h : Ans w lo a n cap L) : w.ownsRow lo 5 1 (.slice a n cap) n (bys L) := by
  refine ⟨h.own.1, ?_⟩
  rcases h.own.2 with h1 | ⟨g, c1, cur, h1, h2, h3⟩
  · exact .inl h1
  · refine .inr ⟨g, c1, cur, h1, ?_, h3⟩
    simp only [Value.slice.injEq] at h1
    obtain ⟨rfl, _, _⟩ := h1
    exact h.new g rfl
/-- 'append(v, x...)', v an answer, x whatever bytes -/
theorem wpList_joinZ {w : World} {ops : Array Oper} {rest : List Oper} {o : Oper} {a : Act} {Q : Exit → Act → World → Prop} (hg : o.guard = none) (s x : Operand)
    (hop : o.op = Op.call { callee := .builtin .append, args := #[s, x], argTypes := #[23, 23] }) (ao : Option Addr) (m co lo : Nat) (D : List Nat) (hs : a.eval s = .slice ao m co)
    (hA : Ans w lo ao m co D) (hlo : lo ≤ w.heap.size) (ax : Option Addr) (nx cx : Nat) (X : List Nat) (hx : a.eval x = .slice ax nx cx) (hR : Rd w ax nx cx X) (hb : m + nx ≤ 200000000000000)
    (hK : ∀ a' c' w', Ans w' lo a' (m + nx) c' (D ++ X) → w.grownBy w' (Value.slice ao m co).ownBlock → wpList Try.prog ops Q rest (a.put o.dst (.slice a' (m + nx) c')) w') :
    wpList Try.prog ops Q (o :: rest) a w := by
  obtain ⟨i0, hi, hz0, hz1, hz2⟩ := info_parts Try.info_u8
  cases ax with
  | none =>
    have hc0 : cx = 0 := hR.nil rfl
    have hn0 : nx = 0 := by have := hR.le; omega
    subst hc0 hn0
    have e : X = [] := List.eq_nil_of_length_eq_zero hR.len
    subst e
    refine wpList_append_own_none hg s x 23 hop 0 5 i0 1 Try.underlying23 hi (.slice ao m co) m (bys D) hs hA.own hx ?_
    exact hK ao co w (by rw [List.append_nil]; exact hA) (World.grownBy.refl _ _)
  | some ad =>
    refine wpList_append_own_wide w hg s x 23 hop lo 5 i0 (.int .u8 0) 1 1 Try.underlying23 hi hz0 hz1 hz2 rfl (by decide) (.slice ao m co) m (bys D) hs hA.up ad nx cx (bys X) hx (by rw [bys_length, hR.len]; omega) ?_ (bys_one _) (by unfold maxLen; omega) (by omega) hlo ?_
    · intro j u hu
      have hj : j < X.length := by
        have := (List.getElem?_eq_some_iff.1 hu).1
        rw [bys_length] at this; exact this
      have h0 : 0 < nx := by rw [hR.len] at hj; omega
      obtain ⟨b, off, e, _, hc⟩ := hR.at' h0
      cases e
      rw [nth_bys X j hj] at hu
      rw [← hu, addr_add]
      exact hc j (by rw [← hR.len]; exact hj)
    · intro v' w' hown hgr _
      rw [bys_app] at hown
      have hown' := hown
      rcases hown.2 with ⟨h1, h2⟩ | ⟨g, c1, cur, h1, h2, h3⟩
      · subst h1
        have e0 : m + nx = 0 := h2
        have hq := hK none 0 w' ⟨by rw [e0]; exact own_base (by rw [e0] at hown'; exact hown'), isB_append hA.byte hR.byte, fun g h => by simp [Value.ownBlock] at h⟩ hgr
        rw [e0] at hq
        exact hq
      · subst h1
        exact hK (some ⟨g, 0, none⟩) c1 w' ⟨own_base hown', isB_append hA.byte hR.byte, fun g' h => by have e : g = g' := Option.some.inj h; omega⟩ hgr
theorem BxS.cell14 {w : World} {g : Nat} {t : TypeId} {a0 a1 a2 a3 a4 a5 a6 a7 a8 a9 a10 a11 a12 a13 : Value} (k : BxS w g t #[a0, a1, a2, a3, a4, a5, a6, a7, a8, a9, a10, a11, a12, a13]) : w.cell? ⟨g, 0, none⟩ = some a0 ∧ w.cell? ⟨g, 1, none⟩ = some a1 ∧ w.cell? ⟨g, 2, none⟩ = some a2 ∧ w.cell? ⟨g, 3, none⟩ = some a3 ∧ w.cell? ⟨g, 4, none⟩ = some a4 ∧ w.cell? ⟨g, 5, none⟩ = some a5 ∧ w.cell? ⟨g, 6, none⟩ = some a6 ∧ w.cell? ⟨g, 7, none⟩ = some a7 ∧ w.cell? ⟨g, 8, none⟩ = some a8 ∧ w.cell? ⟨g, 9, none⟩ = some a9 ∧ w.cell? ⟨g, 10, none⟩ = some a10 ∧ w.cell? ⟨g, 11, none⟩ = some a11 ∧ w.cell? ⟨g, 12, none⟩ = some a12 ∧ w.cell? ⟨g, 13, none⟩ = some a13 := by
  simp [World.cell?, show w.heap[g]? = _ from k]
theorem dwithin_any (n l m : Int) (w : World) : Calls Try.prog 84 #[.int .i64 n, .int .i64 l, .int .i64 m] w fun e w' => e = .returned (.bool (kwB n l m)) ∧ w' = w := by
  by_cases h1 : l ≤ n
  · by_cases h2 : n ≤ m
    · rw [kwB_t ⟨h1, h2⟩]
      go_enter Try.func84, Try.ntmps84
      go_wp2
      go_ret
      exact ⟨rfl, rfl⟩
    · rw [kwB_f (fun h => h2 h.2)]
      go_enter Try.func84, Try.ntmps84
      go_wp2
      go_ret
      exact ⟨rfl, rfl⟩
  · rw [kwB_f (fun h => h1 h.1)]
    go_enter Try.func84, Try.ntmps84
    go_wp2
    go_ret
    exact ⟨rfl, rfl⟩
theorem inRange_any (n l m : Int) (w : World) : Calls Try.prog 55 #[.int .i64 n, .int .i64 l, .int .i64 m] w fun e w' => e = .returned (.bool (kwB n l m)) ∧ w' = w := by
  by_cases h1 : l ≤ n
  · by_cases h2 : n ≤ m
    · rw [kwB_t ⟨h1, h2⟩]
      go_enter Try.func55, Try.ntmps55
      go_wp2
      go_ret
      exact ⟨rfl, rfl⟩
    · rw [kwB_f (fun h => h2 h.2)]
      go_enter Try.func55, Try.ntmps55
      go_wp2
      go_ret
      exact ⟨rfl, rfl⟩
  · rw [kwB_f (fun h => h1 h.1)]
    go_enter Try.func55, Try.ntmps55
    go_wp2
    go_ret
    exact ⟨rfl, rfl⟩
theorem nameMay_any (s : ByteArray) (w : World) : Calls Try.prog 90 #[.string s] w fun e w' => e = .returned (.bool (kwB s.size 1 32)) ∧ w' = w := by
  have h := fun wz => dwithin_any s.size 1 32 wz
  go_enter Try.func90, Try.ntmps90
  go_wp2_with (go_at_call 84; refine (h _).mono ?_; rintro e w1 ⟨rfl, rfl⟩)
  go_ret
  exact ⟨rfl, rfl⟩
/-- why neither a giver nor a taker may have these -/
def dsB (id pa li : Int) : Bool := kwB id 0 65535 && kwB pa 1 1000 && kwB li 1 100
def dsE (id pa li : Int) : Nat := if dsB id pa li = true then 0 else 2
theorem wrongSide_any (id pa li : Int) (w : World) : Calls Try.prog 58 #[.int .i64 id, .int .i64 pa, .int .i64 li] w fun e w' => e = .returned (.int .i64 (dsE id pa li : Nat)) ∧ w' = w := by
  have h0 := fun wz => dwithin_any id 0 65535 wz
  have h1 := fun wz => dwithin_any pa 1 1000 wz
  have h2 := fun wz => dwithin_any li 1 100 wz
  unfold dsE dsB
  generalize kwB id 0 65535 = b0 at h0 ⊢
  generalize kwB pa 1 1000 = b1 at h1 ⊢
  generalize kwB li 1 100 = b2 at h2 ⊢
  have t0 : True := trivial
  cases b0 <;> cases b1 <;> cases b2 <;>
  · go_enter Try.func58, Try.ntmps58
    go_wp2_with (first
      | (go_at_call 84; have _t := t0; clear t0; refine (h0 _).mono ?_; rintro e w1 ⟨rfl, rfl⟩; have t1 : True := trivial)
      | (go_at_call 84; have _t := t1; clear t1; refine (h1 _).mono ?_; rintro e w1 ⟨rfl, rfl⟩; have t2 : True := trivial)
      | (go_at_call 84; have _t := t2; clear t2; refine (h2 _).mono ?_; rintro e w1 ⟨rfl, rfl⟩))
    go_ret
    exact ⟨rfl, rfl⟩
end

section
/-- a giver's cells -/
def gvA (id : Int) (nm : ByteArray) (fl : Value) (mo bu st : Int) (fi : Bool) (at' : Int) (ag : Value) (ti pa tr li : Int) : Array Value := #[.int .i64 id, .string nm, fl, .int .i64 mo, .int .i64 bu, .int .i64 st, .bool fi, .int .i64 at', ag, .int .i64 ti, .int .i64 pa, .int .i64 tr, .int .i64 li]
theorem Try.info_tk : (Try.prog.info? 48).map (fun i => i.size) = some 14 := by kernel_rfl
end

section
theorem Ans.nil (w : World) (lo : Nat) : Ans w lo none 0 0 [] := ⟨World.ownsRow_nil _ _ _ _, (fun x h => by cases h), fun g h => by cases h⟩
theorem dclone_any (a : Option Addr) (n cap : Nat) (D : List Nat) (w : World) (hp : Rd w a n cap D) (hn : n ≤ 140737488355328) :
    Calls Try.prog 57 #[.slice a n cap] w fun e w' => ∃ a' c', e = .returned (.slice a' n c') ∧ Ans w' w.heap.size a' n c' D ∧ w.grownBy w' none := by
  cases a with
  | none =>
    have hc0 : cap = 0 := hp.nil rfl
    have hn0 : n = 0 := by have := hp.le; omega
    subst hc0 hn0
    have e : D = [] := List.eq_nil_of_length_eq_zero hp.len
    subst e
    have heq := fun w => Lib.run_eql_slice_nil (P := Try.prog) w 23 5 none 0 0 0 0 Try.underlying23
    go_enter Try.func57, Try.ntmps57
    go_wp2
    go_ret
    exact ⟨none, 0, rfl, Ans.nil _ _, World.grownBy.refl _ _⟩
  | some ad =>
    have gA := World.grownBy_alloc w (.cells #[] 5) none
    have hA := heap_alloc_new w (.cells #[] 5)
    have hown : Ans (w.alloc (.cells #[] 5)) w.heap.size (some ⟨w.heap.size, 0, none⟩) 0 0 [] := ⟨⟨rfl, .inr ⟨w.heap.size, 0, #[], rfl, Nat.zero_le _, hA, Nat.le_refl _, Nat.zero_le _, rfl, rfl⟩⟩, (fun x h => by cases h), fun g h => by have e : w.heap.size = g := Option.some.inj h; omega⟩
    have hpA := hp.keep gA
    have heq := fun w => Lib.run_eql_slice_nil (P := Try.prog) w 23 5 (some ad) n cap 0 0 Try.underlying23
    go_enter Try.func57, Try.ntmps57
    go_wp2_with (at_builtin; refine wpList_joinZ rfl _ _ rfl _ 0 0 w.heap.size [] rfl hown (by simp) _ n cap D rfl hpA (by omega) ?_; intro a' c' w2 hA2 hg2)
    go_ret
    rw [Nat.zero_add] at *
    exact ⟨a', c', rfl, hA2, grown_far gA hg2 (fun x hx => by have e : w.heap.size = x := Option.some.inj hx; omega)⟩
def ofX (E : Nat) (z : Int) : Int := if E = 0 then z else 0
end

section
theorem Try.info_n : (Try.prog.info? 3).map (fun i => (i.zero, i.size, i.bytes)) = some (some (.int .i64 0), 1, 8) := by kernel_rfl
theorem plain_i64 : Try.prog.plainKey 3 = true := by kernel_rfl
theorem cells_i64 : Try.prog.cellsOf 3 = 1 := by kernel_rfl
theorem eq_i64 (d : Nat) (x y : Int) (w : World) : (Op.equalIn (d + 1) 3 (.int .i64 x) (.int .i64 y)).run Try.prog w = .ok (x == y) w := run_equalIn_int w d 3 .i64 .i64 x y Try.underlying3
theorem items_i64 (d : Nat) (xs ys : List Int) (is : List Nat) (w : World) (hx : ∀ i ∈ is, i < xs.length) (hy : ∀ i ∈ is, i < ys.length) :
    (Op.eqItems (d + 1) 3 1 (xs.map (Value.int .i64 ·)).toArray (ys.map (Value.int .i64 ·)).toArray is).run Try.prog w = .ok (is.all fun i => xs.getD i 0 == ys.getD i 0) w := by
  induction is with
  | nil => simp [Op.eqItems]
  | cons i is ih =>
    have h1 := hx i (by simp)
    have h2 := hy i (by simp)
    have p1 := run_part_plain w plain_i64 (xs := (xs.map (Value.int .i64 ·)).toArray) (off := i * 1) (v := .int .i64 (xs.getD i 0)) (by simp [h1])
    have p2 := run_part_plain w plain_i64 (xs := (ys.map (Value.int .i64 ·)).toArray) (off := i * 1) (v := .int .i64 (ys.getD i 0)) (by simp [h2])
    simp only [Op.eqItems, Sem.run_bind, p1, p2, Result.andThen_ok, eq_i64]
    rw [List.all_cons]
    cases hb : (xs.getD i 0 == ys.getD i 0) with
    | false => simp
    | true => simpa using ih (fun j hj => hx j (by simp [hj])) (fun j hj => hy j (by simp [hj]))
/-- arrays of numbers compared -/
theorem arr_i64 {t : TypeId} {n : Nat} (hu : Try.prog.underlying t = some (.array n 3)) (xs ys : List Int) (hx : xs.length = n) (hy : ys.length = n) (w : World) :
    (Op.equalIn 10000 t (.agg (xs.map (Value.int .i64 ·)).toArray) (.agg (ys.map (Value.int .i64 ·)).toArray)).run Try.prog w = .ok ((List.range n).all fun i => xs.getD i 0 == ys.getD i 0) w := by
  obtain ⟨i0, hi, _⟩ := info_parts Try.info_n
  rw [run_equalIn_array w 9999 _ _ hu hi, cells_i64]
  exact items_i64 9998 xs ys _ w (fun i h => by rw [hx]; exact List.mem_range.1 h) (fun i h => by rw [hy]; exact List.mem_range.1 h)
/-- pairs compared -/
theorem arr2_i64 (x x' y y' : Int) (w : World) : (Op.equalIn 10000 82 (.agg #[.int .i64 x, .int .i64 x']) (.agg #[.int .i64 y, .int .i64 y'])).run Try.prog w = .ok (x == y && x' == y') w :=
  (arr_i64 Try.underlying82 [x, x'] [y, y'] rfl rfl w).trans (by congr 1; simp [List.range_succ])
/-- a slice of pairs of numbers as it is read -/
structure RdG (w : World) (a : Option Addr) (n cap : Nat) (F : Nat → Int × Int) : Prop where
  le : n ≤ cap
  max : cap ≤ maxLen
  nil : a = none → cap = 0
  at' : 0 < n → ∃ b off, a = some ⟨b, off, none⟩ ∧ b < w.heap.size ∧ ∀ i, i < n → w.cell? ⟨b, off + i * 2, none⟩ = some (.int .i64 (F i).1) ∧ w.cell? ⟨b, off + i * 2 + 1, none⟩ = some (.int .i64 (F i).2)
theorem RdG.grown {w w' : World} {a : Option Addr} {n cap : Nat} {F : Nat → Int × Int} {r : Option Nat} (h : RdG w a n cap F) (hg : w.grownBy w' r) (hne : ∀ b off, a = some ⟨b, off, none⟩ → some b ≠ r) : RdG w' a n cap F :=
  ⟨h.le, h.max, h.nil, fun h0 => by
    obtain ⟨b, off, e, hb, hc⟩ := h.at' h0
    refine ⟨b, off, e, Nat.lt_of_lt_of_le hb hg.size, fun i hi => ?_⟩
    have := hc i hi
    unfold World.cell? at this ⊢
    rw [hg.block b hb (hne b off e)]
    exact this⟩
theorem RdG.keep {w w' : World} {a : Option Addr} {n cap : Nat} {F : Nat → Int × Int} (h : RdG w a n cap F) (hg : w.grownBy w' none) : RdG w' a n cap F := h.grown hg (fun _ _ _ => by simp)
theorem RdG.nil0 (w : World) (F : Nat → Int × Int) : RdG w none 0 0 F := ⟨Nat.le_refl _, Nat.zero_le _, fun _ => rfl, fun h => absurd h (by decide)⟩
set_option maxHeartbeats 4000000 in
theorem sameGaps_any (a b : Option Addr) (n cap cap' : Nat) (F F' : Nat → Int × Int) (w : World) (h : RdG w a n cap F) (k : RdG w b n cap' F') (he : ∀ i, i < n → F i = F' i) :
    Calls Try.prog 52 #[.slice a n cap, .slice b n cap'] w fun e w' => e = .returned (.bool true) ∧ w.grownBy w' none := by
  have hm := h.max
  have hle := h.le
  have hml : maxLen ≤ 9223372036854775807 := by decide
  go_enter Try.func52, Try.ntmps52
  go_wp2
  go_loopw [5] (fun i wr => ∃ k : Nat, k ≤ n ∧ i = .int .i64 k ∧ w.grownBy wr none) (fun i _ => n - (intOf i).toNat)
  case atStart => exact ⟨0, by omega, rfl, World.grownBy.refl _ _⟩
  case round =>
    obtain ⟨j, hj, rfl, hg⟩ := hrel
    by_cases hlt : j < n
    · have hlt' : (j : Int) < (n : Int) := by omega
      obtain ⟨b1, o1, rfl, _, c1⟩ := (h.keep hg).at' (by omega)
      obtain ⟨b2, o2, rfl, _, c2⟩ := (k.keep hg).at' (by omega)
      obtain ⟨x1, x2⟩ := c1 j hlt
      obtain ⟨y1, y2⟩ := c2 j hlt
      rw [← he j hlt] at y1 y2
      clear c1 c2 h k he
      have hj0 : (0 : Int) ≤ (j : Int) := by omega
      have ha := fun wz => arr2_i64 (F j).1 (F j).2 (F j).1 (F j).2 wz
      simp only [beq_self_eq_true, Bool.and_self] at ha
      go_wp2
      go_region_law
      all_goals (try go_simp)
      all_goals go_wp2
      all_goals exact ⟨⟨j + 1, by omega, rfl, grown_trans hg (grown_drew _ _)⟩, by simp only [intOf]; omega⟩
    · have hlt' : ¬ (j : Int) < (n : Int) := by omega
      go_wp2
      go_ret
      exact ⟨rfl, hg⟩
end
end Go.Proofs.Ytnimehkfnpepfaa
