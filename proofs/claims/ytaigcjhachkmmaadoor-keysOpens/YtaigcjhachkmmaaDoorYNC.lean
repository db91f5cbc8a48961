import Derived.Test.YtaigcjhachkmmaaDoorFSums
import Derived.Laws.BitsAllLaws
import Derived.Test.YtaigcjhachkmmaaDoorYRd
import Derived.Test.YtaigcjhachkmmaaDoorYBm
namespace Go.Proofs.YtaigcjhachkmmaaDoor
open Go.RowKit
set_option maxRecDepth 100000
set_option linter.unusedVariables false
set_option linter.unusedSimpArgs false

/-- the number of the first k bytes, the highest first -/
def nuN (L : List Nat) : Nat → Nat
  | 0 => 0
  | k + 1 => nuN L k * 256 + nth L k
theorem nuN_lt {L : List Nat} (h : IsB L) (k : Nat) : nuN L k < 256 ^ k := by
  induction k with
  | zero => exact (by decide : (0 : Nat) < 1)
  | succ k ih =>
    have hb := h.nth k
    show nuN L k * 256 + nth L k < 256 ^ (k + 1)
    rw [Nat.pow_succ]
    have : (nuN L k + 1) * 256 ≤ 256 ^ k * 256 := Nat.mul_le_mul_right _ ih
    omega
theorem pow_seven (k : Nat) (h : k < 8) : 256 ^ k ≤ 72057594037927936 := by
  have := Nat.pow_le_pow_right (n := 256) (by decide) (show k ≤ 7 by omega)
  exact Nat.le_trans this (by decide)
theorem or_byte (v b : Nat) (hv : v < 72057594037927936) (hb : b < 256) : bits .or .u64 ((v : Int) * 256) (b : Int) = ((v * 256 + b : Nat) : Int) := by
  have := u64_or_nat (v * 256) b (by omega) (by omega)
  rw [show ((v * 256 : Nat) : Int) = (v : Int) * 256 by omega] at this
  rw [this]
  have h3 := Nat.two_pow_add_eq_or_of_lt (i := 8) (b := b) (by omega) v
  rw [show 2 ^ 8 * v = v * 256 by omega] at h3
  rw [← h3]
theorem number_any (a : Option Addr) (n cap : Nat) (L : List Nat) (w : World) (hp : Rd w a n cap L) (hn : n ≤ 8) :
    Calls Tryd.prog 23 #[.slice a n cap] w fun e w' => e = .returned (.int .u64 (nuN L n : Nat)) ∧ w' = w := by
  have hB := hp.byte
  go_enter Tryd.func23, Tryd.ntmps23
  go_wp2
  go_loop [3, 8] (fun x i => ∃ k : Nat, k ≤ n ∧ i = .int .i64 k ∧ x = .int .u64 (nuN L k : Nat)) (fun _ i => n - (intOf i).toNat)
  case atStart => exact ⟨0, by omega, rfl, rfl⟩
  case round =>
    obtain ⟨k, hk, rfl, rfl⟩ := hrel
    by_cases hlt : k < n
    · obtain ⟨b, off, rfl, hbw, hcc⟩ := hp.at' (by omega)
      have hck := hcc k hlt
      have hb := hB.nth k
      have hv : nuN L k < 72057594037927936 := Nat.lt_of_lt_of_le (nuN_lt hB k) (pow_seven k (by omega))
      have hf := or_byte (nuN L k) (nth L k) hv hb
      have HN : Hid (nuN L (k + 1) = nuN L k * 256 + nth L k) := rfl
      have hki : (k : Int) < (n : Int) := by omega
      clear hcc
      generalize nuN L k = v at *
      generalize nth L k = b at *
      go_wp2
      go_round
      case rel => exact ⟨k + 1, by omega, by go_num, by rw [HN.out]; exact congrArg _ (by omega)⟩
      case measure => simp [intOf]; omega
    · obtain rfl : k = n := by omega
      go_wp2
      go_ret
      exact ⟨rfl, rfl⟩
theorem cell_one (w : World) (v : Value) (j : Nat) (u : Value) (h : [v][j]? = some u) : (w.alloc (.cells #[v] 5)).cell? ((⟨w.heap.size, 0, none⟩ : Addr).add j) = some u := by
  rw [addr_add, cell_of_row _ _ _ _ _ _ (heap_alloc_new w _)]
  simpa using h
/-- 'append(v, x...)' of bytes, x not empty, seen from a world w0 ahead -/
theorem wpList_joinB (w0 w : World) (lo : Nat) {ops : Array Oper} {rest : List Oper} {o : Oper} {a : Act} {Q : Exit → Act → World → Prop} (hg : o.guard = none) (s x : Operand)
    (hop : o.op = Op.call { callee := .builtin .append, args := #[s, x], argTypes := #[25, 25] }) (ao : Option Addr) (m co : Nat) (D : List Nat) (hs : a.eval s = .slice ao m co)
    (hA : Ans w lo ao m co D) (hlo : w0.heap.size ≤ lo) (hlw : lo ≤ w.heap.size) (hG : w0.grownBy w none) (ad : Addr) (k cx : Nat) (X : List Nat) (hx : a.eval x = .slice (some ad) k cx) (hX : X.length = k) (hXB : IsB X)
    (hc : ∀ j u, (bys X)[j]? = some u → w.cell? (ad.add j) = some u) (hk : 0 < k) (hb : m + k ≤ 140737488355000)
    (hK : ∀ gx cx w', Ans w' lo (some ⟨gx, 0, none⟩) (m + k) cx (D ++ X) → w0.grownBy w' none → ((Value.slice ao m co).ownBlock = some gx ∨ w.heap.size ≤ gx) → w.grownBy w' (Value.slice ao m co).ownBlock → wpList Tryd.prog ops Q rest (a.put o.dst (.slice (some ⟨gx, 0, none⟩) (m + k) cx)) w') :
    wpList Tryd.prog ops Q (o :: rest) a w := by
  refine wpList_apB w hg s x hop (.slice ao m co) m (bys D) hs hA.own ad k cx (bys X) hx (by rw [bys_length, hX]) hc (bys_one X) hk (by omega) ?_
  intro gx cx' w2 hgx hgr2 hown2
  have e : bys D ++ bys X = bys (D ++ X) := by simp [bys]
  rw [e] at hown2
  refine hK gx cx' w2 ⟨hown2, isB_append hA.byte hXB, fun g h => ?_⟩ (grown_far hG hgr2 (fun g h => Nat.le_trans hlo (hA.new g h))) hgx hgr2
  have e : gx = g := Option.some.inj h
  subst e
  rcases hgx with h | h
  · exact hA.new gx h
  · exact Nat.le_trans hlw h
/-- bytes of a number, the highest first -/
def beB (s x i : Nat) : Nat := x / 2 ^ ((s - 1 - i) * 8) % 256
def beT (s x k : Nat) : List Nat := (List.range k).map (beB s x)
theorem beT_len (s x k : Nat) : (beT s x k).length = k := by simp [beT]
theorem beT_isB (s x k : Nat) : IsB (beT s x k) := by
  intro y hy
  obtain ⟨i, _, rfl⟩ := List.mem_map.1 hy
  exact Nat.mod_lt _ (by decide)
theorem beT_succ (s x k : Nat) : beT s x (k + 1) = beT s x k ++ [beB s x k] := by unfold beT; rw [List.range_succ]; simp
set_option maxHeartbeats 2000000 in
theorem put_any (w0 : World) (lo : Nat) (ao : Option Addr) (m co x s : Nat) (D : List Nat) (w : World) (hA : Ans w lo ao m co D) (hlo : w0.heap.size ≤ lo) (hlw : lo ≤ w.heap.size) (hG : w0.grownBy w none) (hx : x < 18446744073709551616) (hs : s ≤ 8) (hm : m ≤ 1000000000) :
    Calls Tryd.prog 34 #[.slice ao m co, .int .u64 x, .int .i64 s] w fun e w' => ∃ a' c', e = .returned (.slice a' (m + s) c') ∧ Ans w' lo a' (m + s) c' (D ++ beT s x s) ∧ w0.grownBy w' none := by
  go_enter Tryd.func34, Tryd.ntmps34
  go_wp2
  go_loopw [0, 9] (fun l i wr => ∃ (k : Nat) (a1 : Option Addr) (c1 : Nat), k ≤ s ∧ i = .int .i64 k ∧ l = .slice a1 (m + k) c1 ∧ Ans wr lo a1 (m + k) c1 (D ++ beT s x k) ∧ w0.grownBy wr none ∧ lo ≤ wr.heap.size) (fun _ i _ => s - (intOf i).toNat)
  case atStart => exact ⟨0, ao, co, by omega, rfl, rfl, by simpa [beT] using hA, hG, hlw⟩
  case round =>
    obtain ⟨k, a1, c1, hk, rfl, rfl, hA1, hG1, hl1⟩ := hrel
    by_cases hlt : k < s
    · obtain ⟨j, hj⟩ : ∃ j, j = s - 1 - k := ⟨_, rfl⟩
      have e1 : ((s : Int) - 1 - (k : Int)) * 8 = ((j * 8 : Nat) : Int) := by omega
      have hj8 : j * 8 < 64 := by omega
      obtain ⟨y, hy⟩ : ∃ y, y = x / 2 ^ (j * 8) % 256 := ⟨_, rfl⟩
      have e2 : (x : Int) / 2 ^ (j * 8) % 256 = (y : Int) := by rw [hy, Int.natCast_emod, Int.natCast_ediv, Int.natCast_pow]; rfl
      have hyl : y < 256 := by rw [hy]; exact Nat.mod_lt _ (by decide)
      have HY : Hid (D ++ beT s x (k + 1) = D ++ beT s x k ++ [y]) := by
        show _ = _
        rw [beT_succ, List.append_assoc]
        unfold beB
        rw [← hj, ← hy]
      have hki : (k : Int) < (s : Int) := by omega
      have hjd : (s : Int) - 1 - (k : Int) = (j : Int) := by omega
      clear hy hj
      have hA1' := hA1.keep (World.grownBy_alloc wr (.cells #[.int .u8 (y : Nat)] 5) none)
      have hG1' := grown_trans hG1 (World.grownBy_alloc wr (.cells #[.int .u8 (y : Nat)] 5) none)
      have hl1' : lo ≤ (wr.alloc (.cells #[.int .u8 (y : Nat)] 5)).heap.size := by simp; omega
      have hyB : IsB [y] := fun z hz => by simp at hz; subst hz; exact hyl
      go_wp2_with (at_builtin; refine wpList_joinB w0 _ lo rfl _ _ rfl a1 (m + k) c1 _ rfl hA1' hlo hl1' hG1' ⟨wr.heap.size, 0, none⟩ 1 1 [y] rfl rfl hyB (cell_one wr (.int .u8 (y : Nat))) (by decide) (by omega) ?_; intro gx cx w2 hA2 hG2 hgx hgr2)
      rw [← HY.out] at hA2
      go_roundw
      case rel => exact ⟨k + 1, some ⟨gx, 0, none⟩, cx, by omega, by go_num, rfl, hA2, hG2, Nat.le_trans hl1' hgr2.size⟩
      case measure => simp [intOf]; omega
    · obtain rfl : k = s := by omega
      go_wp2
      go_ret
      exact ⟨a1, c1, rfl, hA1, hG1⟩

/-- a byte under its block -/
def cvB (W : Nat → Nat) (c : Nat) (B : List Nat) (i : Nat) : Nat := nth B i ^^^ padB W c (1 + i / 64) (i % 64)
def cvT (W : Nat → Nat) (c : Nat) (B : List Nat) (k : Nat) : List Nat := (List.range B.length).map fun i => if i < k then cvB W c B i else nth B i
def cvL (W : Nat → Nat) (c : Nat) (B : List Nat) : List Nat := (List.range B.length).map (cvB W c B)
theorem padB_lt (W : Nat → Nat) (c x i : Nat) : padB W c x i < 256 := Nat.mod_lt _ (by decide)
theorem cvB_lt (W : Nat → Nat) (c : Nat) {B : List Nat} (hB : IsB B) (i : Nat) : cvB W c B i < 256 := Nat.xor_lt_two_pow (n := 8) (hB.nth i) (padB_lt _ _ _ _)
theorem cvT_len (W : Nat → Nat) (c : Nat) (B : List Nat) (k : Nat) : (cvT W c B k).length = B.length := by simp [cvT]
theorem cvT_at (W : Nat → Nat) (c : Nat) (B : List Nat) (k i : Nat) (h : i < B.length) : nth (cvT W c B k) i = if i < k then cvB W c B i else nth B i := by
  unfold nth cvT
  rw [List.getD_eq_getElem?_getD, List.getElem?_map, List.getElem?_range h]; rfl
theorem cvT_isB (W : Nat → Nat) (c : Nat) {B : List Nat} (hB : IsB B) (k : Nat) : IsB (cvT W c B k) := by
  intro y hy
  obtain ⟨i, _, rfl⟩ := List.mem_map.1 hy
  show (if i < k then cvB W c B i else nth B i) < 256
  split
  · exact cvB_lt W c hB i
  · exact hB.nth i
theorem list_nth (L : List Nat) : L = (List.range L.length).map (nth L) := by
  apply List.ext_getElem?
  intro i
  by_cases h : i < L.length
  · rw [List.getElem?_map, List.getElem?_range h]
    unfold nth
    simp [h]
  · rw [List.getElem?_eq_none (by omega), List.getElem?_eq_none (by simp; omega)]
theorem cvT_zero (W : Nat → Nat) (c : Nat) (B : List Nat) : cvT W c B 0 = B := by
  conv => rhs; rw [list_nth B]
  unfold cvT
  apply List.map_congr_left
  intro i _
  rw [if_neg (by omega)]
theorem cvT_set (W : Nat → Nat) (c : Nat) (B : List Nat) (k : Nat) (hk : k < B.length) : (cvT W c B k).set k (cvB W c B k) = cvT W c B (k + 1) := by
  apply List.ext_getElem?
  intro i
  rw [List.getElem?_set]
  by_cases e : k = i
  · subst e
    rw [if_pos rfl, if_pos (by rw [cvT_len]; exact hk)]
    unfold cvT
    rw [List.getElem?_map, List.getElem?_range hk]; simp
  · rw [if_neg e]
    unfold cvT
    rw [List.getElem?_map, List.getElem?_map]
    by_cases hi : i < B.length
    · rw [List.getElem?_range hi]
      show some (if i < k then _ else _) = some (if i < k + 1 then _ else _)
      by_cases h2 : i < k
      · rw [if_pos h2, if_pos (by omega)]
      · rw [if_neg h2, if_neg (by omega)]
    · rw [List.getElem?_eq_none (by simp; omega)]; rfl
theorem cvT_end (W : Nat → Nat) (c : Nat) (B : List Nat) : cvT W c B B.length = cvL W c B := by
  unfold cvT cvL
  apply List.map_congr_left
  intro i hi
  rw [if_pos (List.mem_range.1 hi)]
theorem cells_rd {w : World} {a : Addr} {n cap : Nat} {L : List Nat} (h : Rd w (some a) n cap L) (h0 : 0 < n) : ∀ j u, (bys L)[j]? = some u → w.cell? (a.add j) = some u := by
  obtain ⟨b, off, e, hbw, hcc⟩ := h.at' h0
  cases e
  intro j u hu
  have hj : j < L.length := by
    have := (List.getElem?_eq_some_iff.1 hu).1
    rw [bys_length] at this; exact this
  rw [nth_bys L j hj] at hu
  rw [← hu, addr_add]
  exact hcc j (by rw [← h.len]; exact hj)
set_option maxHeartbeats 4000000 in
theorem covered_some (a : Option Addr) (b off cap c n cb : Nat) (S : List Int) (W : Nat → Nat) (B : List Nat) (w : World) (hp : RdI w a 8 cap S) (hW : ∀ i, i < 8 → nthI S i = (W i : Int) ∧ W i < 4294967296) (hc : c < 281474976710656) (hb : Rd w (some ⟨b, off, none⟩) n cb B) (hn : n ≤ 1000) (h0 : 0 < n) :
    Calls Tryd.prog 19 #[.slice a 8 cap, .int .i64 c, .slice (some ⟨b, off, none⟩) n cb] w fun e w' => ∃ a' c', e = .returned (.slice a' n c') ∧ Ans w' w.heap.size a' n c' (cvL W c B) ∧ w.grownBy w' none := by
  have hBl := hb.len
  have hB := hb.byte
  have hBn := hb.byte
  go_enter Tryd.func19, Tryd.ntmps19
  go_wp2_with (at_builtin; refine wpList_joinB w w w.heap.size rfl _ _ rfl none 0 0 [] rfl (ans_nil _ _) (Nat.le_refl _) (Nat.le_refl _) (World.grownBy.refl _ _) ⟨b, off, none⟩ n cb B rfl hBl hB (cells_rd hb h0) h0 (by omega) ?_; intro go co w1 hA1 hG1 hgo hgr1)
  simp only [Nat.zero_add, List.nil_append] at hA1
  have hgl : w.heap.size ≤ go := hA1.new go rfl
  rw [← cvT_zero W c B] at hA1
  go_loopw [8, 9] (fun s8 i wr => ∃ k : Nat, k ≤ n ∧ i = .int .i64 (k : Nat) ∧ w.grownBy wr none ∧ Ans wr w.heap.size (some ⟨go, 0, none⟩) n co (cvT W c B k) ∧ (0 < k → ∃ gp cp, s8 = .slice (some ⟨gp, 0, none⟩) 64 cp ∧ Ans wr w.heap.size (some ⟨gp, 0, none⟩) 64 cp (padL W c (1 + (k - 1) / 64)) ∧ gp ≠ go)) (fun _ i _ => n - (intOf i).toNat)
  case atStart => exact ⟨0, by omega, rfl, hG1, hA1, fun h => by omega⟩
  case round =>
    obtain ⟨k, hk, rfl, hGr, hAr, hPr⟩ := hrel
    by_cases hlt : k < n
    · have hki : (k : Int) < (n : Int) := by omega
      have co1 := own_cell hAr.own k hlt
      rw [cvT_at W c B k k (by omega), if_neg (by omega)] at co1
      by_cases h64 : k % 64 = 0
      · have e1 : (k : Int).tmod 64 = 0 := by rw [Int.tmod_eq_emod_of_nonneg (by omega)]; omega
        obtain ⟨q, hq⟩ : ∃ q, q = k / 64 := ⟨_, rfl⟩
        have e2 : (k : Int).tdiv 64 = (q : Int) := by rw [Int.tdiv_eq_ediv_of_nonneg (by omega)]; omega
        have hP := pad_ok a cap c (1 + q) S W wr (hp.keep hGr) hW hc (by omega)
        rw [show ((1 + q : Nat) : Int) = 1 + (q : Int) by omega] at hP
        have HX0 : Hid (1 + q = 1 + k / 64) := by rw [hq]; rfl
        have H64 : Hid (k % 64 = 0) := h64
        have hq20 : q < 20 := by omega
        have HC1 : Hid _ := co1
        have HAR : Hid _ := hAr
        have HGR : Hid _ := hGr
        clear hPr hq h64 co1 hAr hGr hA1 hG1
        go_wp2_with (go_at_call 37; refine hP.mono ?_; rintro e w2 ⟨ap, cp, rfl, hA2, g2⟩)
        have h64 := H64.out
        have co1 := HC1.out
        have hAr := HAR.out
        have hGr := HGR.out
        obtain ⟨x, hx1⟩ : ∃ x, x = 1 + q := ⟨_, rfl⟩
        rw [← hx1] at hA2
        have hx : x = 1 + k / 64 := by rw [hx1]; exact HX0.out
        clear hx1 HX0
        rcases hA2.cases with ⟨_, h, _⟩ | ⟨gp, rfl, _, hpl⟩
        · omega
        have hAk := hAr.keep g2
        have hgn : gp ≠ go := fun e => by
          have h1 := hA2.new gp rfl
          have h2 : go < wr.heap.size := by
            rcases hAr.cases with ⟨h, _⟩ | ⟨g', h, _, hl⟩
            · cases h
            · cases h; exact hl
          omega
        have cp1 := own_cell hA2.own (k % 64) (by omega)
        rw [padL_at W c x (k % 64) (by omega)] at cp1
        have GW := grown_trans hGr g2
        have hA2' : Ans w2 w.heap.size (some ⟨gp, 0, none⟩) 64 cp (padL W c x) := ⟨hA2.own, hA2.byte, fun g h => Nat.le_trans hGr.size (hA2.new g h)⟩
        clear hA2 hP e1 e2 HC1 HAR HGR H64
        have cq1 := own_cell hAk.own k hlt
        rw [cvT_at W c B k k (by omega), if_neg (by omega)] at cq1
        have fq1 := hAk.own.frozenAt k
        have R := own_set hAk.own k (cvB W c B k)
        rw [cvT_set W c B k (by omega)] at R
        have hbn := hBn.nth k
        have hpn := padB_lt W c x (k % 64)
        have hxr : bits .xor .u8 (nth B k : Nat) (padB W c x (k % 64) : Nat) = ((cvB W c B k : Nat) : Int) := by
          rw [u8_xor_nat _ _ hbn hpn]; unfold cvB; rw [hx]
        obtain ⟨r, hr⟩ : ∃ r, r = k % 64 := ⟨_, rfl⟩
        have e3 : (k : Int).tmod 64 = (r : Int) := by rw [Int.tmod_eq_emod_of_nonneg (by omega)]; omega
        have hr64 : r < 64 := by omega
        have hri : (r : Int) < 64 := by omega
        rw [← hr] at cp1 hxr
        have HX : Hid (x = 1 + k / 64) := hx
        have HAN : Hid (Ans w2 w.heap.size (some ⟨gp, 0, none⟩) 64 cp (padL W c x)) := hA2'
        have hone : cvB W c B k < 256 := cvB_lt W c hBn k
        have HBB : Hid (IsB (cvT W c B (k + 1))) := cvT_isB W c hBn (k + 1)
        generalize padB W c x r = pv at *
        generalize nth B k = bv at *
        generalize cvB W c B k = cv at *
        clear hx hr hAk hA2' hAr co1
        go_wp2
        go_region
        all_goals
          go_wp2
          go_roundw
          case rel =>
            refine ⟨k + 1, by omega, by go_num, grown_far GW (grown_trans (grown_set _ _ _ _) (grown_drew _ _)) (fun g e => by cases e; exact hgl), ⟨?_, HBB.out, fun g h => by have e : go = g := Option.some.inj h; omega⟩, fun _ => ⟨gp, cp, rfl, ?_, hgn⟩⟩
            · exact R
            · rw [show 1 + (k + 1 - 1) / 64 = x by rw [HX.out]; omega]
              exact HAN.out.kept (grown_trans (grown_set _ _ _ _) (grown_drew _ _)) (.inr (by simp [Value.ownBlock]; exact hgn))
          case measure => simp [intOf] <;> omega
      · have hkp : 0 < k := by omega
        obtain ⟨gp, cp, rfl, hA2', hgn⟩ := hPr hkp
        clear hPr
        obtain ⟨x, hx⟩ : ∃ x, x = 1 + k / 64 := ⟨_, rfl⟩
        rw [show 1 + (k - 1) / 64 = x by omega] at hA2'
        obtain ⟨w2, hw2⟩ : ∃ w2, w2 = wr := ⟨_, rfl⟩
        rw [← hw2] at hAr hA2' hGr co1 ⊢
        clear hw2
        have hAk := hAr
        have GW := hGr
        have cp1 := own_cell hA2'.own (k % 64) (by omega)
        rw [padL_at W c x (k % 64) (by omega)] at cp1
        have hk64 : ¬ (k : Int).tmod 64 = 0 := by rw [Int.tmod_eq_emod_of_nonneg (by omega)]; omega
        have cq1 := own_cell hAk.own k hlt
        rw [cvT_at W c B k k (by omega), if_neg (by omega)] at cq1
        have fq1 := hAk.own.frozenAt k
        have R := own_set hAk.own k (cvB W c B k)
        rw [cvT_set W c B k (by omega)] at R
        have hbn := hBn.nth k
        have hpn := padB_lt W c x (k % 64)
        have hxr : bits .xor .u8 (nth B k : Nat) (padB W c x (k % 64) : Nat) = ((cvB W c B k : Nat) : Int) := by
          rw [u8_xor_nat _ _ hbn hpn]; unfold cvB; rw [hx]
        obtain ⟨r, hr⟩ : ∃ r, r = k % 64 := ⟨_, rfl⟩
        have e3 : (k : Int).tmod 64 = (r : Int) := by rw [Int.tmod_eq_emod_of_nonneg (by omega)]; omega
        have hr64 : r < 64 := by omega
        have hri : (r : Int) < 64 := by omega
        rw [← hr] at cp1 hxr
        have HX : Hid (x = 1 + k / 64) := hx
        have HAN : Hid (Ans w2 w.heap.size (some ⟨gp, 0, none⟩) 64 cp (padL W c x)) := hA2'
        have hone : cvB W c B k < 256 := cvB_lt W c hBn k
        have HBB : Hid (IsB (cvT W c B (k + 1))) := cvT_isB W c hBn (k + 1)
        generalize padB W c x r = pv at *
        generalize nth B k = bv at *
        generalize cvB W c B k = cv at *
        clear hx hr hAk hA2' hAr co1
        go_wp2
        go_region
        all_goals
          go_wp2
          go_roundw
          case rel =>
            refine ⟨k + 1, by omega, by go_num, grown_far GW (grown_trans (grown_set _ _ _ _) (grown_drew _ _)) (fun g e => by cases e; exact hgl), ⟨?_, HBB.out, fun g h => by have e : go = g := Option.some.inj h; omega⟩, fun _ => ⟨gp, cp, rfl, ?_, hgn⟩⟩
            · exact R
            · rw [show 1 + (k + 1 - 1) / 64 = x by rw [HX.out]; omega]
              exact HAN.out.kept (grown_trans (grown_set _ _ _ _) (grown_drew _ _)) (.inr (by simp [Value.ownBlock]; exact hgn))
          case measure => simp [intOf] <;> omega
    · obtain rfl : k = n := by omega
      go_wp2
      go_ret
      exact ⟨_, co, rfl, by rw [← cvT_end, hBl]; exact hAr, hGr⟩
theorem cvL_len (W : Nat → Nat) (c : Nat) (B : List Nat) : (cvL W c B).length = B.length := by simp [cvL]
theorem cvL_isB (W : Nat → Nat) (c : Nat) {B : List Nat} (hB : IsB B) : IsB (cvL W c B) := by
  rw [← cvT_end]; exact cvT_isB W c hB _
theorem covered_any (a bo : Option Addr) (cap c n cb : Nat) (S : List Int) (W : Nat → Nat) (B : List Nat) (w : World) (hp : RdI w a 8 cap S) (hW : ∀ i, i < 8 → nthI S i = (W i : Int) ∧ W i < 4294967296) (hc : c < 281474976710656) (hb : Rd w bo n cb B) (hn : n ≤ 1000) :
    Calls Tryd.prog 19 #[.slice a 8 cap, .int .i64 c, .slice bo n cb] w fun e w' => ∃ a' c', e = .returned (.slice a' n c') ∧ Ans w' w.heap.size a' n c' (cvL W c B) ∧ w.grownBy w' none := by
  by_cases h0 : 0 < n
  · obtain ⟨b, off, rfl, _, _⟩ := hb.at' h0
    exact covered_some a b off cap c n cb S W B w hp hW hc hb hn h0
  · obtain rfl : n = 0 := by omega
    have hBz : B = [] := List.eq_nil_of_length_eq_zero hb.len
    subst hBz
    have hcb := hb.max
    unfold maxLen at hcb
    obtain ⟨i0, hi, hz0, hz1, hz2⟩ := info_parts Tryd.info_u8
    cases bo with
    | none =>
      have hc0 : cb = 0 := hb.nil rfl
      subst hc0
      go_enter Tryd.func19, Tryd.ntmps19
      go_wp2_with (at_builtin; refine wpList_append_own_none rfl _ _ 25 rfl 0 5 i0 1 Tryd.underlying25 hi (.slice none 0 0) 0 [] rfl (World.ownsRow_nil _ _ _ _) rfl ?_)
      refine wp_loop_rounds 1 ?_; rw [rounds_succ]
      go_wp2
      go_ret
      exact ⟨none, 0, rfl, ans_nil _ _, World.grownBy.refl _ _⟩
    | some ad =>
      go_enter Tryd.func19, Tryd.ntmps19
      go_wp2_with (at_builtin; refine wpList_append_own w rfl _ _ 25 rfl w.heap.size 5 i0 (.int .u8 0) 1 1 Tryd.underlying25 hi hz0 hz1 hz2 rfl (by decide) (.slice none 0 0) 0 [] rfl (World.ownsRow_nil _ _ _ _) ad 0 cb [] rfl rfl (fun j u h => by simp at h) (fun u h => by simp at h) (by unfold maxLen; omega) (by omega) (Nat.le_refl _) ?_; intro v' w' hown' hgr hnil; have hv : v' = .slice none 0 0 := hnil.2 ⟨rfl, rfl⟩; subst hv; clear hnil hown')
      refine wp_loop_rounds 1 ?_; rw [rounds_succ]
      go_wp2
      go_ret
      exact ⟨none, 0, rfl, ans_nil _ _, hgr⟩

/-- how long chunk k of n bytes by s is -/
def chL (n s k : Nat) : Nat := min s (n - s * k)
/-- the bytes of chunk k -/
def chB (B : List Nat) (s k : Nat) : List Nat := (B.drop (s * k)).take s
theorem chB_len (B : List Nat) (s k : Nat) : (chB B s k).length = chL B.length s k := by unfold chB chL; simp
/-- a group's number, with the one ahead of it -/
def grV (B : List Nat) (k : Nat) : Nat := nuN (chB B 7 k) (chB B 7 k).length + 256 ^ (chB B 7 k).length
def tgN (B : List Nat) (r : Nat) : Nat → Nat
  | 0 => 0
  | k + 1 => (tgN B r k + grV B k) * r % 2305843009213693951
theorem tgN_lt (B : List Nat) (r k : Nat) : tgN B r k < 2305843009213693951 := by
  cases k with
  | zero => exact (by decide : (0 : Nat) < 2305843009213693951)
  | succ k => exact Nat.mod_lt _ (by decide)
/-- the two numbers of a tag's block -/
def tgR (W : Nat → Nat) (c : Nat) : Nat := nuN ((List.range 8).map fun i => padB W c 0 (0 + i)) 8 % 2305843009213693951
def tgS (W : Nat → Nat) (c : Nat) : Nat := nuN ((List.range 8).map fun i => padB W c 0 (8 + i)) 8 % 2305843009213693951
def tagV (W : Nat → Nat) (c : Nat) (B : List Nat) : Nat := (tgN B (tgR W c) ((B.length + 6) / 7) + tgS W c) % 2305843009213693951
def tagL (W : Nat → Nat) (c : Nat) (B : List Nat) : List Nat := beT 8 (tagV W c B) 8

/-- chunk k under block x -/
def hdC (W : Nat → Nat) (c : Nat) (B : List Nat) (k x : Nat) : List Nat := (List.range (chL B.length 64 k)).map fun i => nth B (64 * k + i) ^^^ padB W c x i
/-- what is hidden behind the chunks l: the bytes, and how many chunks they were -/
def hdP (W : Nat → Nat) (c : Nat) (B : List Nat) (l : List Nat) : List Nat × Nat := l.foldl (fun s k => (s.1 ++ hdC W c B k (s.2 + 1), s.2 + 1)) ([], 0)
theorem hdP_snoc (W : Nat → Nat) (c : Nat) (B : List Nat) (l : List Nat) (k : Nat) : hdP W c B (l ++ [k]) = ((hdP W c B l).1 ++ hdC W c B k ((hdP W c B l).2 + 1), (hdP W c B l).2 + 1) := by
  unfold hdP
  rw [List.foldl_append]; rfl
theorem hdP_two (W : Nat → Nat) (c : Nat) (B : List Nat) (l : List Nat) : (hdP W c B l).2 = l.length := by
  unfold hdP
  have : ∀ (l : List Nat) (s : List Nat × Nat), (l.foldl (fun s k => (s.1 ++ hdC W c B k (s.2 + 1), s.2 + 1)) s).2 = s.2 + l.length := by
    intro l
    induction l with
    | nil => intro s; rfl
    | cons x l ih => intro s; rw [List.foldl_cons, ih, List.length_cons]; simp only; omega
  rw [this]; simp
theorem hdP_range (W : Nat → Nat) (c : Nat) (B : List Nat) (k : Nat) : (hdP W c B (List.range k)).1 = (List.range (min (64 * k) B.length)).map (cvB W c B) := by
  induction k with
  | zero => simp [hdP]
  | succ k ih =>
    rw [List.range_succ, hdP_snoc]
    simp only
    rw [ih, hdP_two, List.length_range]
    unfold hdC
    have e : min (64 * (k + 1)) B.length = min (64 * k) B.length + chL B.length 64 k := by unfold chL; omega
    rw [e, List.range_add, List.map_append, List.map_map]
    congr 1
    apply List.map_congr_left
    intro i hi
    have hi' := List.mem_range.1 hi
    unfold chL at hi'
    show _ = cvB W c B (min (64 * k) B.length + i)
    unfold cvB
    rw [show min (64 * k) B.length + i = 64 * k + i by omega, show (64 * k + i) / 64 = k by omega, show (64 * k + i) % 64 = i by omega, Nat.add_comm 1 k]
theorem hdP_all (W : Nat → Nat) (c : Nat) (B : List Nat) (m : Nat) (hm : B.length ≤ 64 * m) : (hdP W c B (List.range m)).1 = cvL W c B := by
  rw [hdP_range, show min (64 * m) B.length = B.length by omega]; rfl
theorem hdC_len (W : Nat → Nat) (c : Nat) (B : List Nat) (k x : Nat) : (hdC W c B k x).length = chL B.length 64 k := by simp [hdC]
theorem hdC_isB (W : Nat → Nat) (c : Nat) {B : List Nat} (hB : IsB B) (k x : Nat) : IsB (hdC W c B k x) := by
  intro y hy
  obtain ⟨i, _, rfl⟩ := List.mem_map.1 hy
  exact Nat.xor_lt_two_pow (n := 8) (hB.nth _) (padB_lt _ _ _ _)
theorem hdP_isB (W : Nat → Nat) (c : Nat) {B : List Nat} (hB : IsB B) (l : List Nat) : IsB (hdP W c B l).1 := by
  rcases List.eq_nil_or_concat l with rfl | ⟨i, x, rfl⟩
  · intro y hy; cases hy
  · rw [List.concat_eq_append, hdP_snoc]
    have : ∀ (l : List Nat) (s : List Nat × Nat), IsB s.1 → IsB (l.foldl (fun s k => (s.1 ++ hdC W c B k (s.2 + 1), s.2 + 1)) s).1 := by
      intro l
      induction l with
      | nil => intro s h; exact h
      | cons x l ih => intro s h; rw [List.foldl_cons]; exact ih _ (isB_append h (hdC_isB W c hB x _))
    exact isB_append (this i ([], 0) (fun y hy => by cases hy)) (hdC_isB W c hB x _)
/-- what of a chunk is hidden behind j of its bytes -/
def hdJ (W : Nat → Nat) (c : Nat) (B : List Nat) (k x j : Nat) : List Nat := (List.range j).map fun i => nth B (64 * k + i) ^^^ padB W c x i
theorem hdJ_succ (W : Nat → Nat) (c : Nat) (B : List Nat) (k x j : Nat) : hdJ W c B k x (j + 1) = hdJ W c B k x j ++ [nth B (64 * k + j) ^^^ padB W c x j] := by unfold hdJ; rw [List.range_succ]; simp
theorem hdJ_all (W : Nat → Nat) (c : Nat) (B : List Nat) (k x : Nat) : hdJ W c B k x (chL B.length 64 k) = hdC W c B k x := rfl
end Go.Proofs.YtaigcjhachkmmaaDoor
