import Derived.Test.YtnimehkfnpepfaaTk9
import Derived.Test.YtnimehkfnpepfaaTk4
import Derived.Test.YtnimehkfnpepfaaTk7
import Derived.Test.YtnimehkfnpepfaaTk6
import Derived.Test.YtnimehkfnpepfaaTk8
namespace Go.Proofs.Ytnimehkfnpepfaa
open Go.RowKit
set_option maxRecDepth 100000
set_option linter.unusedVariables false
set_option linter.unusedSimpArgs false

section
def bfL (f : Nat → Bool) (n : Nat) : List Value := (List.range n).map fun i => .bool (f i)
/-- a row of bools -/
def BoR (w : World) (g n : Nat) (f : Nat → Bool) : Prop := BxS w g 4 (bfL f n).toArray
theorem BoR.cell {w : World} {g n : Nat} {f : Nat → Bool} (h : BoR w g n f) {i : Nat} (hi : i < n) : w.cell? ⟨g, i, none⟩ = some (.bool (f i)) := by
  have h' : w.heap[g]? = some (.cells (bfL f n).toArray 4) := h
  rw [cell_of_row w g i _ _ _ h']
  unfold bfL
  simp [hi]
theorem BoR.cong {w : World} {g n : Nat} {f f' : Nat → Bool} (h : BoR w g n f) (e : ∀ i, i < n → f i = f' i) : BoR w g n f' := by
  have e2 : bfL f n = bfL f' n := by
    unfold bfL
    exact List.map_congr_left (fun i hi => by rw [e i (List.mem_range.1 hi)])
  unfold BoR at h ⊢
  rw [← e2]; exact h
theorem BoR.set {w : World} {g n : Nat} {f : Nat → Bool} (h : BoR w g n f) (i : Nat) (b : Bool) : BoR (w.setCell ⟨g, i, none⟩ (.bool b)) g n (fun k => if k = i then b else f k) := by
  have h1 := BxS.set h i (.bool b)
  unfold BoR
  have e : (bfL f n).toArray.set! i (.bool b) = (bfL (fun k => if k = i then b else f k) n).toArray := by
    apply Array.toList_inj.1
    rw [Array.set!_eq_setIfInBounds, Array.toList_setIfInBounds]
    show (bfL f n).set i (.bool b) = bfL _ n
    refine List.ext_getElem? (fun k => ?_)
    unfold bfL
    rw [List.getElem?_set, List.getElem?_map, List.getElem?_map, List.length_map, List.length_range]
    by_cases hk : k < n
    · rw [List.getElem?_range hk]
      by_cases e1 : i = k
      · subst e1; rw [if_pos rfl, if_pos hk]; show _ = some (Value.bool (if i = i then b else f i)); rw [if_pos rfl]
      · rw [if_neg e1]; show some (Value.bool (f k)) = some (Value.bool (if k = i then b else f k)); rw [if_neg (fun e => e1 e.symm)]
    · rw [List.getElem?_eq_none (by rw [List.length_range]; omega)]
      by_cases e1 : i = k
      · subst e1; rw [if_pos rfl, if_neg hk]; rfl
      · rw [if_neg e1]; rfl
  rw [← e]
  exact h1
theorem BoR.keep {w w' : World} {g n : Nat} {f : Nat → Bool} (h : BoR w g n f) (u : w.grownBy w' none) : BoR w' g n f := BxS.keep h u (by simp)
theorem Try.info_boD : (Try.prog.info? 4).map (fun i => (i.zero, i.size, i.bytes)) = some (some (.bool false), 1, 1) := by kernel_rfl
theorem wpList_mkBo (w : World) {ops : Array Oper} {rest : List Oper} {o : Oper} {a : Act} {Q : Exit → Act → World → Prop} (hg : o.guard = none) (l c : Operand)
    (hop : o.op = Op.makeSlice 106 l c) (L C : Int) (n : Nat) (hl : a.eval l = .int .i64 L) (hc : a.eval c = .int .i64 C) (hL : L = n) (hC : C = n) (hn : n ≤ 281474976710656)
    (hK : ∀ w', BoR w' w.heap.size n (fun _ => false) → w.grownBy w' none → wpList Try.prog ops Q rest (a.put o.dst (.slice (some ⟨w.heap.size, 0, none⟩) n n)) w') :
    wpList Try.prog ops Q (o :: rest) a w := by
  obtain ⟨i0, hi, hz0, hz1, hz2⟩ := info_parts Try.info_boD
  refine wpList_make_full w hg l c 106 hop w.heap.size 4 i0 (.bool false) 1 Try.underlying106 hi hz0 hz1 .i64 .i64 L C n hl hc hL hC (by rw [hz2]; omega) (by unfold maxLen; omega) (Nat.le_refl _) ?_
  intro w' hown hgr
  refine hK w' ?_ hgr
  rcases hown.2 with ⟨h, _⟩ | ⟨g, cap, cur, hv, _, hh, h1, _, h3, h4⟩
  · simp at h
  · simp only [Value.slice.injEq, Option.some.injEq, Addr.mk.injEq] at hv
    obtain ⟨⟨hgg, _⟩, _, hcap⟩ := hv
    subst hgg; subst hcap
    have e : cur.toList = bfL (fun _ => false) n := by
      have h3' : cur.toList.length = n := by rw [Array.length_toList]; omega
      rw [Nat.mul_one, List.take_of_length_le (by omega)] at h4
      rw [h4, show (madeCells (Value.bool false).cells n).toList = List.replicate n (Value.bool false) from toList_madeCells_one _ _]
      unfold bfL
      rw [List.map_const', List.length_range]
    show w'.heap[w.heap.size]? = some (.cells (bfL (fun _ => false) n).toArray 4)
    rw [hh, ← e]

set_option maxHeartbeats 16000000 in
theorem has_any (q : Option Addr) (m d n : Nat) (F : Nat → Int × Int) (w : World) (hG : RdG w q m d F) (hR : Rise F m) (hm : m ≤ 8796093021952) (hn : n ≤ 100000) :
    Calls Try.prog 75 #[.slice q m d, .int .i64 (n : Int)] w fun e w' => ∃ g, e = .returned (.slice (some ⟨g, 0, none⟩) n n) ∧ w.heap.size ≤ g ∧ BoR w' g n (fun i => cvB F i m) ∧ w.grownBy w' none := by
  have HR : Hid _ := hR
  clear hR
  go_enter Try.func75, Try.ntmps75
  refine wp_seq_k fun K1 hK1 => ?_
  have HK1 : Hid _ := hK1
  clear hK1
  go_wp2
  refine HK1.out _ _ ?_
  clear HK1
  refine wp_seq_k fun K1 hK1 => ?_
  have HK1 : Hid _ := hK1
  clear hK1
  have s0 : True := trivial
  go_wp2_with (have _t := s0; clear s0; refine wpList_mkBo w rfl _ _ rfl n n n rfl rfl rfl rfl (by omega) ?_; intro w1 h1 y1)
  refine HK1.out _ _ ?_
  clear HK1
  refine wp_seq_k fun K1 hK1 => ?_
  have HK1 : Hid _ := hK1
  clear hK1
  go_wp2
  go_loopw [6] (fun iv wr => ∃ j : Nat, j ≤ m ∧ iv = .int .i64 j ∧ BoR wr w.heap.size n (fun i => cvB F i j) ∧ w.grownBy wr none) (fun iv _ => m - (intOf iv).toNat)
  case atStart => exact ⟨0, Nat.zero_le _, rfl, h1, y1⟩
  case round =>
    obtain ⟨j, hj, rfl, hB, Gr⟩ := hrel
    by_cases hlt : j < m
    · have lj : (j : Int) < (m : Int) := by omega
      obtain ⟨b, off, rfl, hb, hc⟩ := (hG.keep Gr).at' (by omega)
      obtain ⟨p0, p1⟩ := hc j hlt
      obtain ⟨r1, r2, _⟩ := HR.out j hlt
      obtain ⟨s0', hs0⟩ : ∃ s0' : Nat, (F j).1 = (s0' : Int) := ⟨(F j).1.toNat, by omega⟩
      obtain ⟨s1', hs1⟩ : ∃ s1' : Nat, (F j).2 = (s1' : Int) := ⟨(F j).2.toNat, by omega⟩
      rw [hs0] at p0
      rw [hs1] at p1
      have hbn : b < w.heap.size := by
        obtain ⟨b', off', e', hb', _⟩ := hG.at' (by omega)
        cases e'
        exact hb'
      have h12 : s0' < s1' := by omega
      have HCV : Hid (∀ i, cvB F i (j + 1) = (cvB F i j || decide ((s0' : Int) ≤ (i : Int) ∧ (i : Int) < (s1' : Int)))) := by
        show ∀ i, _
        intro i
        show (cvB F i j || _) = _
        rw [hs0, hs1]
      have HC : Hid _ := hc
      clear hc r1 r2 hs0 hs1
      refine wp_seq_k fun K2 hK2 => ?_
      have HK2 : Hid _ := hK2
      clear hK2
      go_wp2
      refine HK2.out _ _ ?_
      clear HK2
      refine wp_seq_k fun K2 hK2 => ?_
      have HK2 : Hid _ := hK2
      clear hK2
      refine wp_block ?_
      refine wp_seq_k fun K3 hK3 => ?_
      have HK3 : Hid _ := hK3
      clear hK3
      go_wp2
      refine HK3.out _ _ ?_
      clear HK3
      clear p0
      go_wp2
      go_loopw [7] (fun kv wz => ∃ k : Nat, s0' ≤ k ∧ k ≤ s1' ∧ kv = .int .i64 k ∧ BoR wz w.heap.size n (fun i => cvB F i j || decide (s0' ≤ i ∧ i < k)) ∧ w.grownBy wz none) (fun kv _ => n - (intOf kv).toNat)
      case atStart => exact ⟨s0', Nat.le_refl _, by omega, rfl, hB.cong (fun i hi => by rw [decide_eq_false (by omega), Bool.or_false]), Gr⟩
      case round =>
        obtain ⟨k, hk0, hk1, rfl, hBz, Gz⟩ := hrel
        have q1' : wr.cell? ⟨b, off + j * 2 + 1, none⟩ = some (.int .i64 (s1' : Int)) := by
          obtain ⟨b', off', e', _, hc'⟩ := (hG.keep Gz).at' (by omega)
          cases e'
          have h9 := (hc' j hlt).2
          rw [h9]
          have h8 := (HC.out j hlt).2
          rw [p1] at h8
          exact h8.symm
        by_cases hks : k < s1'
        · have lks : (k : Int) < (s1' : Int) := by omega
          by_cases hkn : k < n
          · have lkn : (k : Int) < (n : Int) := by omega
            have xk := hBz.cell hkn
            have fk : wr.frozen? ⟨w.heap.size, k, none⟩ = false := BxS.free hBz k
            have hB2 := hBz.set k true
            have u2 := grown_set wr w.heap.size k (.bool true)
            generalize hw2 : wr.setCell ⟨w.heap.size, k, none⟩ (.bool true) = w2 at hB2 u2
            have hB3 : BoR w2 w.heap.size n (fun i => cvB F i j || decide (s0' ≤ i ∧ i < k + 1)) := hB2.cong (fun i hi => by
              by_cases e : i = k
              · rw [if_pos e, decide_eq_true (by omega), Bool.or_true]
              · rw [if_neg e]
                congr 1
                by_cases e1 : s0' ≤ i ∧ i < k
                · rw [decide_eq_true e1, decide_eq_true (by omega)]
                · rw [decide_eq_false e1, decide_eq_false (by omega)])
            have G2 : w.grownBy w2 none := grown_far Gz u2 (fun z e => by have e := Option.some.inj e; omega)
            have HB3 : Hid _ := hB3
            clear hB3 hB2 u2
            go_wp2
            go_roundw
            case rel => exact ⟨k + 1, by omega, by omega, by go_num, HB3.out, G2⟩
            case measure => simp [intOf] <;> omega
          · have lkn : ¬ (k : Int) < (n : Int) := by omega
            have hB3 : BoR wr w.heap.size n (fun i => cvB F i (j + 1)) := hBz.cong (fun i hi => by
              rw [HCV.out i]
              congr 1
              by_cases e1 : s0' ≤ i ∧ i < k
              · rw [decide_eq_true e1, decide_eq_true (by omega)]
              · rw [decide_eq_false e1, decide_eq_false (by omega)])
            have HB3 : Hid _ := hB3
            clear hB3 hBz
            go_wp2
            try simp only [Exit.inBlock, Exit.then]
            refine HK2.out _ _ ?_
            clear HK2
            go_wp2
            go_roundw
            case rel => exact ⟨j + 1, by omega, by go_num, HB3.out, Gz⟩
            case measure => simp [intOf] <;> omega
        · have lks : ¬ (k : Int) < (s1' : Int) := by omega
          have hB3 : BoR wr w.heap.size n (fun i => cvB F i (j + 1)) := hBz.cong (fun i hi => by
            rw [HCV.out i]
            congr 1
            by_cases e1 : s0' ≤ i ∧ i < k
            · rw [decide_eq_true e1, decide_eq_true (by omega)]
            · rw [decide_eq_false e1, decide_eq_false (by omega)])
          have HB3 : Hid _ := hB3
          clear hB3 hBz
          go_wp2
          try simp only [Exit.inBlock, Exit.then]
          refine HK2.out _ _ ?_
          clear HK2
          go_wp2
          go_roundw
          case rel => exact ⟨j + 1, by omega, by go_num, HB3.out, Gz⟩
          case measure => simp [intOf] <;> omega
    · obtain rfl : j = m := by omega
      have lj : ¬ (j : Int) < (j : Int) := by omega
      go_wp2
      try simp only [Exit.inBlock, Exit.then]
      refine HK1.out _ _ ?_
      clear HK1
      go_wp2
      try go_ret
      exact ⟨w.heap.size, rfl, Nat.le_refl _, hB, Gr⟩
end

section
theorem OwGi.lastW {w w' : World} {lo g m d : Nat} {U : List (Int × Int)} {x y e : Int} {cur : Array Value} (h : OwGi w lo (some ⟨g, 0, none⟩) m d (U ++ [(x, y)])) (hb : BxS w g 82 cur) (hb' : BxS w' g 82 (cur.setIfInBounds ((m - 1) * 2 + 1) (.int .i64 e))) : OwGi w' lo (some ⟨g, 0, none⟩) m d (U ++ [(x, e)]) := by
  have hl := h.len
  rw [List.length_append] at hl
  have hl : U.length + 1 = m := hl
  have hl2 : (U ++ [(x, e)]).length = m := by rw [List.length_append]; exact hl
  refine ⟨?_, hl2, h.new⟩
  rw [← flP_flG _ m hl2]
  refine ⟨by rw [flP_len]; omega, ?_⟩
  rcases h.ownP.2 with ⟨h1, _⟩ | ⟨g', cap', cur', h1, h2, h3, h4, h5, h6, h7⟩
  · simp at h1
  · simp only [Value.slice.injEq, Option.some.injEq, Addr.mk.injEq] at h1
    obtain ⟨⟨rfl, _⟩, _, rfl⟩ := h1
    have e1 : cur' = cur := by
      have hb : w.heap[g]? = some (.cells cur 82) := hb
      rw [h3] at hb
      injection hb with hb
      injection hb
    subst e1
    refine .inr ⟨g, d, _, rfl, h2, hb', h4, h5, by simpa using h6, ?_⟩
    rw [Array.toList_setIfInBounds, List.take_set, h7, flP_app, flP_app]
    have hu := flP_len U
    rw [List.set_append_right _ _ (by omega), hu, show (m - 1) * 2 + 1 - U.length * 2 = 1 by omega]
    rfl
theorem OwGi.last2 {w : World} {lo g m d : Nat} {U : List (Int × Int)} {x y : Int} (h : OwGi w lo (some ⟨g, 0, none⟩) m d (U ++ [(x, y)])) : w.cell? ⟨g, (m - 1) * 2 + 1, none⟩ = some (.int .i64 y) ∧ 0 < m := by
  have hl := h.len
  rw [List.length_append] at hl
  have hl : U.length + 1 = m := hl
  have hu := flP_len U
  have h0 := h.ownP.cells (g := g) rfl ((m - 1) * 2 + 1) (.int .i64 y) (by
    rw [flP_app, List.getElem?_append_right (by omega), hu, show (m - 1) * 2 + 1 - U.length * 2 = 1 by omega]; rfl)
  rw [addr_add, Nat.zero_add] at h0
  exact ⟨h0, by omega⟩

set_option maxHeartbeats 16000000 in
theorem rowsIn_any (g n : Nat) (f : Nat → Bool) (come : Bool) (w : World) (hB : BoR w g n f) (hn : n ≤ 100000) :
    Calls Try.prog 74 #[.slice (some ⟨g, 0, none⟩) n n, .bool come] w fun e w' => ∃ q d, e = .returned (.slice q (rwN f come n).length d) ∧ OwGi w' w.heap.size q (rwN f come n).length d (rwN f come n) ∧ w.grownBy w' none := by
  obtain ⟨i0, hi, hz0, hz1, hz2⟩ := info_parts Try.info_pr
  go_enter Try.func74, Try.ntmps74
  refine wp_seq_k fun K1 hK1 => ?_
  have HK1 : Hid _ := hK1
  clear hK1
  go_wp2
  refine HK1.out _ _ ?_
  clear HK1
  refine wp_seq_k fun K1 hK1 => ?_
  have HK1 : Hid _ := hK1
  clear hK1
  go_wp2
  refine HK1.out _ _ ?_
  clear HK1
  refine wp_seq_k fun K1 hK1 => ?_
  have HK1 : Hid _ := hK1
  clear hK1
  go_wp2
  go_loopw [6, 5] (fun iv sv wr => ∃ (i : Nat) (q1 : Option Addr) (m1 d1 : Nat), i ≤ n ∧ iv = .int .i64 i ∧ sv = .slice q1 m1 d1 ∧ OwGi wr w.heap.size q1 m1 d1 (rwN f come i) ∧ m1 ≤ i ∧ w.grownBy wr none) (fun iv _ _ => n - (intOf iv).toNat)
  case atStart => exact ⟨0, none, 0, 0, Nat.zero_le _, rfl, rfl, OwGi.nil _ _, Nat.le_refl _, World.grownBy.refl _ _⟩
  case round =>
    obtain ⟨i, q1, m1, d1, hi9, rfl, rfl, hO, hm1, Gr⟩ := hrel
    by_cases hlt : i < n
    · have li : (i : Int) < (n : Int) := by omega
      have xb : wr.cell? ⟨g, i, none⟩ = some (.bool (f i)) := (hB.keep Gr).cell hlt
      have HR0 : Hid (rwN f come (i + 1) = if f i = come then exR (rwN f come i) i else rwN f come i) := rfl
      obtain ⟨U, hU⟩ : ∃ U, rwN f come i = U := ⟨_, rfl⟩
      rw [hU] at HR0 hO
      clear hU
      obtain ⟨i1, hi1⟩ : ∃ i1 : Int, (i : Int) + 1 = i1 := ⟨_, rfl⟩
      have hwi : IntKind.i64.wrap ((i : Int) + 1) = i1 := by rw [hi1]; exact wrap_i64_in _ (by omega) (by omega)
      have HI1 : Hid (i1 = (i : Int) + 1) := hi1.symm
      clear hi1
      refine wp_seq_k fun K2 hK2 => ?_
      have HK2 : Hid _ := hK2
      clear hK2
      go_wp2
      refine HK2.out _ _ ?_
      clear HK2
      refine wp_seq_k fun K2 hK2 => ?_
      have HK2 : Hid _ := hK2
      clear hK2
      refine wp_block ?_
      obtain ⟨fb, hfb⟩ : ∃ fb, f i = fb := ⟨_, rfl⟩
      rw [hfb] at xb HR0
      clear hfb
      refine wp_seq_k fun K3 hK3 => ?_
      have HK3 : Hid _ := hK3
      clear hK3
      refine wp_seq_k fun K4 hK4 => ?_
      have HK4 : Hid _ := hK4
      clear hK4
      go_wp2
      refine HK4.out _ _ ?_
      clear HK4
      by_cases hf : fb = come
      · have HRW : Hid (rwN f come (i + 1) = exR U i) := by show _ = _; rw [HR0.out, if_pos hf]
        have hbn : (!(fb == come)) = false := by rw [hf]; simp
        refine wp_cond_false (show Value.bool (!(fb == come)) = Value.bool false by rw [hbn]) ?_
        refine wp_skip ?_
        try simp only [Exit.then]
        refine HK3.out _ _ ?_
        clear HK3
        clear xb hbn hf HR0
        rcases List.eq_nil_or_concat U with hU | ⟨U', p, hU⟩
        · subst hU
          have hm10 : m1 = 0 := hO.len.symm
          have lm : ¬ (0 : Int) < (m1 : Int) := by omega
          have lm' : ¬ 0 < m1 := by omega
          have HM10 : Hid _ := hm10
          clear hm10
          have HRW : Hid (rwN f come (i + 1) = [] ++ [((i : Int), i1)]) := by show _ = _; rw [HRW.out, HI1.out]; rfl
          have bA := BxS.new wr 82 #[.int .i64 (i : Int), .int .i64 i1]
          have yA := World.grownBy_alloc wr (.cells #[.int .i64 (i : Int), .int .i64 i1] 82) none
          generalize hwA : wr.alloc (.cells #[.int .i64 (i : Int), .int .i64 i1] 82) = wA at bA yA
          have hOA := hO.keep yA
          have s0 : True := trivial
          go_wp2_with (at_builtin; have _t := s0; clear s0; refine wpList_apS wA rfl _ _ 24 82 i0 (.agg #[.int .i64 0, .int .i64 0]) 2 16 Try.underlying24 hi hz0 hz1 hz2 rfl (by decide) rfl (.slice q1 m1 d1) m1 (flG (giF []) m1) rfl hOA.own ⟨wr.heap.size, 0, none⟩ 1 1 [.int .i64 (i : Int), .int .i64 i1] rfl rfl bA.newsA (by intro u hu; simp only [List.mem_cons, List.not_mem_nil, or_false] at hu; rcases hu with rfl | rfl <;> rfl) (by decide) (by unfold maxLen; omega) (by omega) ?_; intro gx cx w8 hor u8 hO8)
          try simp only [Exit.inBlock, Exit.then]
          refine HK2.out _ _ ?_
          clear HK2
          rw [← giF_push [] ((i : Int), i1) m1 hO.len] at hO8
          have zA := yA.size
          have zr := Gr.size
          have hO9 : OwGi w8 w.heap.size (some ⟨gx, 0, none⟩) (m1 + 1) cx ([] ++ [((i : Int), i1)]) := ⟨hO8, by rw [List.length_append, hO.len]; rfl, fun g e => by
            have e : gx = g := Option.some.inj e
            subst e
            rcases hor with e | e
            · exact hO.new _ e
            · omega⟩
          have G8 : w.grownBy w8 none := grown_far (grown_trans Gr yA) u8 (fun z e => hO.new z e)
          go_wp2
          go_roundw
          case rel => exact ⟨i + 1, some ⟨gx, 0, none⟩, m1 + 1, cx, by omega, by rw [HI1.out]; go_num, rfl, by rw [HRW.out]; exact hO9, by omega, G8⟩
          case measure => have h9 := HI1.out; simp [intOf] <;> omega
        · rw [List.concat_eq_append] at hU
          subst hU
          obtain ⟨px, py⟩ := p
          obtain ⟨gl, rfl⟩ : ∃ gl, q1 = some ⟨gl, 0, none⟩ := by
            have hl := hO.len
            rw [List.length_append] at hl
            rcases hO.own.2 with ⟨h1, h2⟩ | ⟨g', cap', cur', h1, _⟩
            · have hl : U'.length + 1 = m1 := hl
              omega
            · simp only [Value.slice.injEq] at h1; exact ⟨g', h1.1⟩
          obtain ⟨xl, hm0⟩ := hO.last2
          have lm0 : (0 : Int) < (m1 : Int) := by omega
          have lm1 : IntKind.i64.wrap ((m1 : Int) - 1) = ((m1 - 1 : Nat) : Int) := by rw [show (m1 : Int) - 1 = ((m1 - 1 : Nat) : Int) by omega]; exact wrap_i64_in _ (by omega) (by omega)
          obtain ⟨mm, hmm⟩ : ∃ mm, m1 - 1 = mm := ⟨_, rfl⟩
          rw [hmm] at xl lm1
          have lm2 : mm < m1 := by omega
          have lm3 : (mm : Int) < (m1 : Int) := by omega
          have HMM : Hid _ := hmm
          clear hmm
          by_cases hpy : py = (i : Int)
          · have HRW : Hid (rwN f come (i + 1) = U' ++ [(px, i1)]) := by show _ = _; rw [HRW.out, hpy, exR_more, HI1.out]
            rw [hpy] at xl
            have hbi : ((i : Int) == (i : Int)) = true := beq_self_eq_true _
            obtain ⟨cur, bq⟩ := own_bxS hO.own (g := gl) rfl
            have hsz : mm * 2 + 1 < cur.size := by
              rcases hO.own.2 with ⟨h1, _⟩ | ⟨g', cap', cur', h1, h2, h3, h4, h5, h6, h7⟩
              · simp at h1
              · simp only [Value.slice.injEq, Option.some.injEq, Addr.mk.injEq] at h1
                obtain ⟨⟨rfl, _⟩, _, rfl⟩ := h1
                have bq : wr.heap[gl]? = some (.cells cur 82) := bq
                rw [h3] at bq
                injection bq with bq
                injection bq with bq
                rw [← bq, h6]
                omega
            have s0 : True := trivial
            go_wp2_with (have _t := s0; clear s0; refine wpList_stC _ rfl _ _ _ rfl gl (mm * 2 + 1) 82 cur (cur.setIfInBounds (mm * 2 + 1) (.int .i64 i1)) (.int .i64 i1) rfl rfl bq (stc_int _ _ _) hsz rfl ?_; intro w8 b8 u8)
            try simp only [Exit.inBlock, Exit.then]
            refine HK2.out _ _ ?_
            clear HK2
            rw [← HMM.out] at b8
            have hO9 := hO.lastW bq b8
            have G8 : w.grownBy w8 none := grown_far Gr u8 (fun z e => by have e := Option.some.inj e; subst e; exact hO.new _ rfl)
            go_wp2
            go_roundw
            case rel => exact ⟨i + 1, some ⟨gl, 0, none⟩, m1, d1, by omega, by rw [HI1.out]; go_num, rfl, by rw [HRW.out]; exact hO9, by omega, G8⟩
            case measure => have h9 := HI1.out; simp [intOf] <;> omega
          · have HRW : Hid (rwN f come (i + 1) = (U' ++ [(px, py)]) ++ [((i : Int), i1)]) := by
              show _ = _
              rw [HRW.out, exR_new (fun p hp => by rw [List.getLast?_concat] at hp; rw [← Option.some.inj hp]; exact hpy), HI1.out]
            have hbi : (py == (i : Int)) = false := beq_eq_false_iff_ne.2 hpy
            have bA := BxS.new wr 82 #[.int .i64 (i : Int), .int .i64 i1]
            have yA := World.grownBy_alloc wr (.cells #[.int .i64 (i : Int), .int .i64 i1] 82) none
            generalize hwA : wr.alloc (.cells #[.int .i64 (i : Int), .int .i64 i1] 82) = wA at bA yA
            have hOA := hO.keep yA
            have s0 : True := trivial
            go_wp2_with (at_builtin; have _t := s0; clear s0; refine wpList_apS wA rfl _ _ 24 82 i0 (.agg #[.int .i64 0, .int .i64 0]) 2 16 Try.underlying24 hi hz0 hz1 hz2 rfl (by decide) rfl (.slice (some ⟨gl, 0, none⟩) m1 d1) m1 (flG (giF (U' ++ [(px, py)])) m1) rfl hOA.own ⟨wr.heap.size, 0, none⟩ 1 1 [.int .i64 (i : Int), .int .i64 i1] rfl rfl bA.newsA (by intro u hu; simp only [List.mem_cons, List.not_mem_nil, or_false] at hu; rcases hu with rfl | rfl <;> rfl) (by decide) (by unfold maxLen; omega) (by omega) ?_; intro gx cx w8 hor u8 hO8)
            try simp only [Exit.inBlock, Exit.then]
            refine HK2.out _ _ ?_
            clear HK2
            rw [← giF_push (U' ++ [(px, py)]) ((i : Int), i1) m1 hO.len] at hO8
            have zA := yA.size
            have zr := Gr.size
            have hO9 : OwGi w8 w.heap.size (some ⟨gx, 0, none⟩) (m1 + 1) cx ((U' ++ [(px, py)]) ++ [((i : Int), i1)]) := ⟨hO8, by rw [List.length_append, hO.len]; rfl, fun g e => by
              have e : gx = g := Option.some.inj e
              subst e
              rcases hor with e | e
              · exact hO.new _ e
              · omega⟩
            have G8 : w.grownBy w8 none := grown_far (grown_trans Gr yA) u8 (fun z e => hO.new z e)
            go_wp2
            go_roundw
            case rel => exact ⟨i + 1, some ⟨gx, 0, none⟩, m1 + 1, cx, by omega, by rw [HI1.out]; go_num, rfl, by rw [HRW.out]; exact hO9, by omega, G8⟩
            case measure => have h9 := HI1.out; simp [intOf] <;> omega
      · have HRW : Hid (rwN f come (i + 1) = U) := by show _ = _; rw [HR0.out, if_neg hf]
        have hbn : (!(fb == come)) = true := by rw [beq_eq_false_iff_ne.2 hf]; rfl
        refine wp_cond_true (show Value.bool (!(fb == come)) = Value.bool true by rw [hbn]) ?_
        clear HK3
        go_wp2
        try simp only [Exit.inBlock, Exit.then]
        refine HK2.out _ _ ?_
        clear HK2
        go_wp2
        go_roundw
        case rel => exact ⟨i + 1, q1, m1, d1, by omega, by rw [HI1.out]; go_num, rfl, by rw [HRW.out]; exact hO, by omega, Gr⟩
        case measure => have h9 := HI1.out; simp [intOf] <;> omega
    · obtain rfl : i = n := by omega
      have li : ¬ (i : Int) < (i : Int) := by omega
      go_wp2
      try simp only [Exit.inBlock, Exit.then]
      refine HK1.out _ _ ?_
      clear HK1
      go_wp2
      try go_ret
      have hl := hO.len
      rw [hl]
      exact ⟨q1, d1, rfl, hO, Gr⟩
end

section
/-- other boxes lie as they lay -/
def FrO (gw : Nat) (na : Option Addr) (nn nc : Nat) (w w' : World) : Prop := ∀ g9 t9 cs9, BxS w g9 t9 cs9 → g9 ≠ gw → (Value.slice na nn nc).ownBlock ≠ some g9 → BxS w' g9 t9 cs9
theorem FrO.kp {wB w w' : World} {gw : Nat} {id : Int} {nm : ByteArray} {mo bu st : Int} {fi : Bool} {at' ti pa tr li : Int} {a : Option Addr} {n c : Nat} {L : List Nat} {q : Option Addr} {m d : Nat} {G : List (Int × Int)} {na : Option Addr} {nn nc : Nat} {xs : List Nx} (h : GW wB w gw id nm mo bu st fi at' ti pa tr li a n c L q m d G na nn nc xs) (f : FrO gw na nn nc w w') : KpT w w' :=
  fun g9 cs9 hb9 => f g9 _ cs9 hb9 (fun e => by subst e; exact BxS.apart hb9 h.bx (by decide) rfl) (fun e => own_ty h.N.own hb9 (by decide) e)
theorem Rd.mid {w : World} {b off n cap x e : Nat} {L : List Nat} (h : Rd w (some ⟨b, off, none⟩) n cap L) (hx : x < e) (he : e ≤ n) : Rd w (some ⟨b, off + x, none⟩) ((L.drop x).take (e - x)).length (cap - x) ((L.drop x).take (e - x)) := by
  have h1 := h.le
  have hl := h.len
  have hlen : ((L.drop x).take (e - x)).length = e - x := by rw [List.length_take, List.length_drop]; omega
  refine ⟨rfl, by omega, by have := h.max; omega, (fun e => by cases e), fun y hy => h.byte y (List.mem_of_mem_drop (List.mem_of_mem_take hy)), fun h0 => ?_⟩
  obtain ⟨b', off', e', hb, hc⟩ := h.at' (by omega)
  cases e'
  refine ⟨b, off + x, rfl, hb, fun i hi => ?_⟩
  have := hc (x + i) (by omega)
  rw [show off + x + i = off + (x + i) by omega, this]
  congr 3
  unfold nth
  rw [List.getD_eq_getElem?_getD, List.getD_eq_getElem?_getD, List.getElem?_take_of_lt (by omega), List.getElem?_drop]
end

section
/-- a note's data -/
structure Nt where
  kd : Int
  id : Int
  nm : ByteArray
  si : Int
  su : Int
  at' : Int
  da : List Nat
  ga : List (Int × Int)
  o : Int
  co : Int
def Nx.dt (x : Nx) : Nt := ⟨x.kd, x.id, x.nm, x.si, x.su, x.at', x.da, x.ga, x.o, x.co⟩
theorem OwN.cell {w : World} {lo g n c : Nat} {xs : List Nx} (h : OwN w lo (some ⟨g, 0, none⟩) n c xs) {i : Nat} {x : Nx} (hi : xs[i]? = some x) (j : Nat) (hj : j < 10) : w.cell? ⟨g, i * 10 + j, none⟩ = x.cells[j]? := by
  have hf := flN_at xs i x hi j hj
  have hl : x.cells.length = 10 := rfl
  have hu : x.cells[j]? = some (x.cells[j]'(by omega)) := List.getElem?_eq_getElem (by omega)
  rw [hu] at hf ⊢
  have := h.own.cells (g := g) rfl (i * 10 + j) _ hf
  rw [addr_add, Nat.zero_add] at this
  exact this
theorem OwN.someN {w : World} {lo : Nat} {a : Option Addr} {n c : Nat} {xs : List Nx} (h : OwN w lo a n c xs) (h0 : 0 < n) : ∃ g, a = some ⟨g, 0, none⟩ := by
  rcases h.own.2 with ⟨h1, h2⟩ | ⟨g, cap', cur, h1, _⟩
  · omega
  · simp only [Value.slice.injEq] at h1; exact ⟨g, h1.1⟩
theorem ld_ten {w : World} {o : Oper} {a : Act} {p : Operand} {g off : Nat} {v0 v1 v2 v3 v4 v5 v6 v7 v8 v9 : Value} (hop : o.op = Op.load 27 p) (hp : a.eval p = .pointer (some ⟨g, off, none⟩)) (h0 : w.cell? ⟨g, off, none⟩ = some v0) (h1 : w.cell? ⟨g, off + 1, none⟩ = some v1) (h2 : w.cell? ⟨g, off + 2, none⟩ = some v2) (h3 : w.cell? ⟨g, off + 3, none⟩ = some v3) (h4 : w.cell? ⟨g, off + 4, none⟩ = some v4) (h5 : w.cell? ⟨g, off + 5, none⟩ = some v5) (h6 : w.cell? ⟨g, off + 6, none⟩ = some v6) (h7 : w.cell? ⟨g, off + 7, none⟩ = some v7) (h8 : w.cell? ⟨g, off + 8, none⟩ = some v8) (h9 : w.cell? ⟨g, off + 9, none⟩ = some v9) : (execOp a.eval o).run Try.prog w = .ok (.value (.agg #[v0, v1, v2, v3, v4, v5, v6, v7, v8, v9])) w := by
  have i10 := Try.info_nt
  have u10 := Try.underlying27
  simp [execOp, hop, hp]
  go_simp

set_option maxHeartbeats 16000000 in
theorem sameNotes_any (a b : Option Addr) (n c d la lb : Nat) (xs ys : List Nx) (w : World) (hx : OwN w la a n c xs) (hy : OwN w lb b n d ys) (he : xs.map Nx.dt = ys.map Nx.dt) (hn : n ≤ 100000) :
    Calls Try.prog 64 #[.slice a n c, .slice b n d] w fun e w' => e = .returned (.bool true) ∧ w.grownBy w' none := by
  have HE : Hid _ := he
  have lx := hx.len
  have ly := hy.len
  have LX : Hid _ := lx
  have LY : Hid _ := ly
  clear he lx ly
  go_enter Try.func64, Try.ntmps64
  go_wp2
  go_loopw [5] (fun iv wr => ∃ j : Nat, j ≤ n ∧ iv = .int .i64 j ∧ w.grownBy wr none) (fun iv _ => n - (intOf iv).toNat)
  case atStart => exact ⟨0, Nat.zero_le _, rfl, World.grownBy.refl _ _⟩
  case round =>
    obtain ⟨j, hj, rfl, Gr⟩ := hrel
    by_cases hlt : j < n
    · have lj : (j : Int) < (n : Int) := by omega
      obtain ⟨x, hxj⟩ : ∃ x, xs[j]? = some x := ⟨xs[j]'(by have := LX.out; omega), List.getElem?_eq_getElem _⟩
      obtain ⟨y, hyj⟩ : ∃ y, ys[j]? = some y := ⟨ys[j]'(by have := LY.out; omega), List.getElem?_eq_getElem _⟩
      have hdt : x.dt = y.dt := by
        have h1 : (xs.map Nx.dt)[j]? = some x.dt := by rw [List.getElem?_map, hxj]; rfl
        rw [HE.out, List.getElem?_map, hyj] at h1
        exact (Option.some.inj h1).symm
      unfold Nx.dt at hdt
      simp only [Nt.mk.injEq] at hdt
      obtain ⟨p1, p2, p3, p4, p5, p6, p7, p8, p9, p10⟩ := hdt
      obtain ⟨gx, hgx⟩ := hx.someN (by omega)
      obtain ⟨gy, hgy⟩ := hy.someN (by omega)
      subst hgx hgy
      refine wp_seq_k fun K1 hK1 => ?_
      have HK1 : Hid _ := hK1
      clear hK1
      go_wp2
      refine HK1.out _ _ ?_
      clear HK1
      refine wp_seq_k fun K2 hK2 => ?_
      have HK2 : Hid _ := hK2
      clear hK2
      refine wp_block ?_
      refine wp_seq_k fun K3 hK3 => ?_
      have HK3 : Hid _ := hK3
      clear hK3
      have Gd := grown_drew wr none
      have SS : OwN wr.drew la (some ⟨gx, 0, none⟩) n c xs ∧ OwN wr.drew lb (some ⟨gy, 0, none⟩) n d ys := ⟨(hx.keep Gr).keep Gd, (hy.keep Gr).keep Gd⟩
      have HSN : Calls Try.prog 15 #[.agg #[.int .i64 x.kd, .int .i64 x.id, .string x.nm, .int .i64 x.si, .int .i64 x.su, .int .i64 x.at', .slice x.a x.da.length x.c, .slice x.q x.ga.length x.d, .int .i64 x.o, .int .i64 x.co], .agg #[.int .i64 y.kd, .int .i64 y.id, .string y.nm, .int .i64 y.si, .int .i64 y.su, .int .i64 y.at', .slice y.a y.da.length y.c, .slice y.q y.ga.length y.d, .int .i64 y.o, .int .i64 y.co]] wr.drew fun e w' => e = .returned (.bool true) ∧ wr.drew.grownBy w' none := by
        have hxa := (SS.1.eA x (List.mem_of_getElem? hxj)).rd
        have hxo := (SS.1.eO x (List.mem_of_getElem? hxj)).rd
        rw [p1, p2, p3, p4, p5, p6, p7, p8, p9, p10] at *
        exact sameNote_any y.kd y.id y.nm y.si y.su y.at' y.o y.co x.a y.a x.q y.q y.da.length x.c y.c y.ga.length x.d y.d y.da (giF y.ga) (giF y.ga) wr.drew hxa (SS.2.eA y (List.mem_of_getElem? hyj)).rd hxo (SS.2.eO y (List.mem_of_getElem? hyj)).rd (fun i h => rfl)
      clear p1 p2 p3 p4 p5 p6 p7 p8 p9 p10
      refine wp_regionL (fun wz => OwN wz la (some ⟨gx, 0, none⟩) n c xs ∧ OwN wz lb (some ⟨gy, 0, none⟩) n d ys) [] #[false, false, false, false, false, false, false, false, false, false] rfl (by kernel_rfl) ?_
      refine wpAnyZ_take [] 0 (.slice (some ⟨gx, 0, none⟩) n c) rfl (by kernel_rfl) (fun _ _ _ h => h) SS rfl (by intro wz hz; go_simp) ?_
      try simp only [List.getElem_toArray, List.getElem_cons_succ, List.getElem_cons_zero, Act.put, List.setIfInBounds_toArray, List.set_cons_zero, List.set_cons_succ]
      refine wpAnyZ_take [] 1 (.int .i64 (j : Int)) rfl (by kernel_rfl) (fun _ _ _ h => h) SS rfl (by intro wz hz; go_simp) ?_
      try simp only [List.getElem_toArray, List.getElem_cons_succ, List.getElem_cons_zero, Act.put, List.setIfInBounds_toArray, List.set_cons_zero, List.set_cons_succ]
      refine wpAnyZ_take [] 2 (.pointer (some ⟨gx, j * 10, none⟩)) rfl (by kernel_rfl) (fun _ _ _ h => h) SS rfl (by intro wz hz; go_simp) ?_
      try simp only [List.getElem_toArray, List.getElem_cons_succ, List.getElem_cons_zero, Act.put, List.setIfInBounds_toArray, List.set_cons_zero, List.set_cons_succ]
      refine wpAnyZ_take [] 3 (.agg #[.int .i64 x.kd, .int .i64 x.id, .string x.nm, .int .i64 x.si, .int .i64 x.su, .int .i64 x.at', .slice x.a x.da.length x.c, .slice x.q x.ga.length x.d, .int .i64 x.o, .int .i64 x.co]) rfl (by kernel_rfl) (fun _ _ _ h => h) SS rfl (by rintro wz ⟨ha, hb⟩; exact ld_ten rfl rfl (ha.cell hxj 0 (by decide)) (ha.cell hxj 1 (by decide)) (ha.cell hxj 2 (by decide)) (ha.cell hxj 3 (by decide)) (ha.cell hxj 4 (by decide)) (ha.cell hxj 5 (by decide)) (ha.cell hxj 6 (by decide)) (ha.cell hxj 7 (by decide)) (ha.cell hxj 8 (by decide)) (ha.cell hxj 9 (by decide))) ?_
      try simp only [List.getElem_toArray, List.getElem_cons_succ, List.getElem_cons_zero, Act.put, List.setIfInBounds_toArray, List.set_cons_zero, List.set_cons_succ]
      refine wpAnyZ_take [] 4 (.slice (some ⟨gy, 0, none⟩) n d) rfl (by kernel_rfl) (fun _ _ _ h => h) SS rfl (by intro wz hz; go_simp) ?_
      try simp only [List.getElem_toArray, List.getElem_cons_succ, List.getElem_cons_zero, Act.put, List.setIfInBounds_toArray, List.set_cons_zero, List.set_cons_succ]
      refine wpAnyZ_take [] 5 (.int .i64 (j : Int)) rfl (by kernel_rfl) (fun _ _ _ h => h) SS rfl (by intro wz hz; go_simp) ?_
      try simp only [List.getElem_toArray, List.getElem_cons_succ, List.getElem_cons_zero, Act.put, List.setIfInBounds_toArray, List.set_cons_zero, List.set_cons_succ]
      refine wpAnyZ_take [] 6 (.pointer (some ⟨gy, j * 10, none⟩)) rfl (by kernel_rfl) (fun _ _ _ h => h) SS rfl (by intro wz hz; go_simp) ?_
      try simp only [List.getElem_toArray, List.getElem_cons_succ, List.getElem_cons_zero, Act.put, List.setIfInBounds_toArray, List.set_cons_zero, List.set_cons_succ]
      refine wpAnyZ_take [] 7 (.agg #[.int .i64 y.kd, .int .i64 y.id, .string y.nm, .int .i64 y.si, .int .i64 y.su, .int .i64 y.at', .slice y.a y.da.length y.c, .slice y.q y.ga.length y.d, .int .i64 y.o, .int .i64 y.co]) rfl (by kernel_rfl) (fun _ _ _ h => h) SS rfl (by rintro wz ⟨ha, hb⟩; exact ld_ten rfl rfl (hb.cell hyj 0 (by decide)) (hb.cell hyj 1 (by decide)) (hb.cell hyj 2 (by decide)) (hb.cell hyj 3 (by decide)) (hb.cell hyj 4 (by decide)) (hb.cell hyj 5 (by decide)) (hb.cell hyj 6 (by decide)) (hb.cell hyj 7 (by decide)) (hb.cell hyj 8 (by decide)) (hb.cell hyj 9 (by decide))) ?_
      try simp only [List.getElem_toArray, List.getElem_cons_succ, List.getElem_cons_zero, Act.put, List.setIfInBounds_toArray, List.set_cons_zero, List.set_cons_succ]
      generalize wr.drew = w2 at *
      refine wpAnyZ_oneB 8 rfl (by kernel_rfl) (fun KK hKK => ?_)
      go_simp
      go_at_call 15
      refine HSN.mono ?_
      rintro e w3 ⟨rfl, y3⟩
      dsimp only
      have S3 := And.intro (SS.1.keep y3) (SS.2.keep y3)
      refine hKK _ _ (fun _ => S3) ?_
      try simp only [List.getElem_toArray, List.getElem_cons_succ, List.getElem_cons_zero, Act.put, List.setIfInBounds_toArray, List.set_cons_zero, List.set_cons_succ]
      refine wpAnyZ_take [] 9 (.bool false) rfl (by kernel_rfl) (fun _ _ _ h => h) S3 rfl (by intro wz hz; go_simp) ?_
      try simp only [List.getElem_toArray, List.getElem_cons_succ, List.getElem_cons_zero, Act.put, List.setIfInBounds_toArray, List.set_cons_zero, List.set_cons_succ]
      refine wpAnyZ_doneB (by kernel_rfl) ?_ _
      refine HK3.out _ _ ?_
      clear HK3
      go_wp2
      refine HK2.out _ _ ?_
      clear HK2
      go_wp2
      go_roundw
      case rel => exact ⟨j + 1, by omega, by go_num, grown_trans (grown_trans Gr Gd) y3⟩
      case measure => simp [intOf] <;> omega
    · obtain rfl : j = n := by omega
      have lj : ¬ (j : Int) < (j : Int) := by omega
      go_wp2
      go_ret
      exact ⟨rfl, Gr⟩
end

section
theorem four_cells (w : World) : ∀ j u, ([.int .i64 (-7), .int .i64 (-7), .int .i64 (-7), .int .i64 (-7)] : List Value)[j]? = some u → (w.alloc (.cells #[.int .i64 (-7), .int .i64 (-7), .int .i64 (-7), .int .i64 (-7)] 82)).cell? ((⟨w.heap.size, 0, none⟩ : Addr).add j) = some u := by
  have hb := BxS.new w 82 #[.int .i64 (-7), .int .i64 (-7), .int .i64 (-7), .int .i64 (-7)]
  intro j u hu
  rw [addr_add]
  match j with
  | 0 => exact (hb.cell 0 (by show 0 < 4; decide)).trans hu
  | 1 => exact (hb.cell 1 (by show 1 < 4; decide)).trans hu
  | 2 => exact (hb.cell 2 (by show 2 < 4; decide)).trans hu
  | 3 => exact (hb.cell 3 (by show 3 < 4; decide)).trans hu
  | j + 4 => simp at hu
theorem own_bx {w : World} {g m d : Nat} {A : Array Value} (h : BxS w g 82 A) (hs : A.size = d * 2) (hm : m ≤ d) (hd : d ≤ maxLen) : w.ownsRow 0 82 2 (.slice (some ⟨g, 0, none⟩) m d) m (A.toList.take (m * 2)) :=
  ⟨by rw [List.length_take, Array.length_toList]; omega, .inr ⟨g, d, A, rfl, Nat.zero_le _, h, hm, hd, hs, rfl⟩⟩
end
end Go.Proofs.Ytnimehkfnpepfaa
