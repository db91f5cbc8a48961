import Derived.Test.YtnjdbbjhplebhaaPs12
import Derived.Deep.CutBlock
import Derived.Test.YtnjdbbjhplebhaaPs10
namespace Go.Proofs.Ytnjdbbjhplebhaa
open Go.RowKit
set_option maxRecDepth 100000
set_option linter.unusedVariables false
set_option linter.unusedSimpArgs false

section
def Bs (bs : Nat) : Prop := bs = 20 ∨ bs = 40 ∨ bs = 80
/-- each block of bs is sorted -/
def BlkS (K : List Ld) (bs n : Nat) : Prop := ∀ t, SrtD K (t * bs) (min (t * bs + bs) n)
/-- up to a blocks of 2 bs are sorted, from a on those of bs -/
structure InI (K : List Ld) (bs a n c : Nat) : Prop where
  a : a = c * (bs + bs)
  lo : ∀ t, t < c → SrtD K (t * (bs + bs)) (t * (bs + bs) + (bs + bs))
  hi : ∀ t, 2 * c ≤ t → SrtD K (t * bs) (min (t * bs + bs) n)
theorem InI.start {K : List Ld} {bs n : Nat} (h : BlkS K bs n) : InI K bs 0 n 0 := ⟨by omega, fun t ht => absurd ht (by omega), fun t _ => h t⟩
theorem InI.runs {K : List Ld} {bs a n c : Nat} (hb : Bs bs) (h : InI K bs a n c) (hn : a + bs < n) : SrtD K a (a + bs) ∧ SrtD K (a + bs) (min (a + (bs + bs)) n) := by
  have h1 := h.hi (2 * c) (Nat.le_refl _)
  have h2 := h.hi (2 * c + 1) (by omega)
  have ha := h.a
  rcases hb with rfl | rfl | rfl
  all_goals exact ⟨h1.sub (by omega) (by omega), h2.sub (by omega) (by omega)⟩
theorem SrtD.same {K K' : List Ld} {a b c d : Nat} (h : SrtD K c d) (hs : SameD K K' a b) (ho : d ≤ a ∨ b ≤ c) : SrtD K' c d := fun p q z1 z2 z3 => by
  rw [hs.out p (by omega), hs.out q (by omega)]
  exact h p q z1 z2 z3
theorem InI.step {K K' : List Ld} {bs a n c : Nat} (hb : Bs bs) (h : InI K bs a n c) (hs : SameD K K' a (a + (bs + bs))) (hd : SrtD K' a (a + (bs + bs))) : InI K' bs (a + (bs + bs)) n (c + 1) := by
  have ha := h.a
  refine ⟨by rw [ha, Nat.succ_mul], fun t ht => ?_, fun t ht => ?_⟩
  · by_cases e : t = c
    · rw [e, ← ha]
      exact hd
    · exact (h.lo t (by omega)).same hs (.inl (by
        rcases hb with rfl | rfl | rfl
        all_goals omega))
  · exact (h.hi t (by omega)).same hs (.inr (by
      rcases hb with rfl | rfl | rfl
      all_goals omega))
theorem InI.fin {K K' : List Ld} {bs a n c : Nat} (hb : Bs bs) (h : InI K bs a n c) (hn : n < a + (bs + bs)) (hs : SameD K K' a n) (hd : a < n → SrtD K' a n) : BlkS K' (bs + bs) n := by
  have ha := h.a
  intro t
  by_cases e : t < c
  · exact ((h.lo t e).sub (Nat.le_refl _) (Nat.min_le_left _ _)).same hs (.inl (by
      rcases hb with rfl | rfl | rfl
      all_goals omega))
  · by_cases e2 : t = c
    · rw [e2, ← ha]
      by_cases e3 : a < n
      · exact (hd e3).sub (Nat.le_refl _) (Nat.min_le_right _ _)
      · intro p q z1 z2 z3
        have := Nat.min_le_right (a + (bs + bs)) n
        omega
    · intro p q z1 z2 z3
      have := Nat.min_le_right (t * (bs + bs) + (bs + bs)) n
      rcases hb with rfl | rfl | rfl
      all_goals omega
theorem InI.last {K : List Ld} {bs a n c : Nat} (hb : Bs bs) (h : InI K bs a n c) (hn : n ≤ a + bs) (ha0 : a < n) : SrtD K a n := by
  have h1 := h.hi (2 * c) (Nat.le_refl _)
  have ha := h.a
  rcases hb with rfl | rfl | rfl
  all_goals exact h1.sub (by omega) (by omega)

set_option maxHeartbeats 32000000 in
theorem stable_any (g cap n : Nat) (H : List Ld) (w : World) (hN : n = H.length) (hn : n ≤ 100) (h : RwD w g cap H) :
    Calls Try.prog 35 #[.slice (some ⟨g, 0, none⟩) n cap, .int .i64 (n : Nat), .func (.func 31) #[] #[]] w fun e w' => e = .returned (.tuple #[]) ∧ ∃ K, RwD w' g cap K ∧ K.Perm H ∧ SrtD K 0 n ∧ w.grownBy w' (some g) := by
  have HW : Hid _ := h
  have HNN : Hid _ := hN
  have hn6 : (n : Int) ≤ 100 := by omega
  have HN1 : Hid (n ≤ 100) := hn
  clear h hN hn
  go_enter Try.func35, Try.ntmps35
  refine wp_seq_k fun K0 hK0 => ?_
  have HK0 : Hid _ := hK0
  clear hK0
  go_wp2
  refine HK0.out _ _ ?_
  clear HK0
  refine wp_seq_k fun K1 hK1 => ?_
  have HK1 : Hid _ := hK1
  clear hK1
  go_wp2
  refine HK1.out _ _ ?_
  clear HK1
  refine wp_seq_k fun K2 hK2 => ?_
  have HK2 : Hid _ := hK2
  clear hK2
  refine wp_block ?_
  go_loopw [7, 8] (fun v7 v8 wr => ∃ (t a b : Nat) (K : List Ld), v7 = .int .i64 (a : Nat) ∧ v8 = .int .i64 (b : Nat) ∧ Hid (a = t * 20 ∧ b = a + 20 ∧ a ≤ n) ∧ Hid (RwD wr g cap K) ∧ Hid (K.Perm H) ∧ Hid (∀ s, s < t → SrtD K (s * 20) (s * 20 + 20)) ∧ Hid (w.grownBy wr (some g))) (fun v7 v8 _ => 200 - (intOf v8).toNat)
  case atStart => exact ⟨0, 0, 20, H, rfl, rfl, ⟨by omega, by omega, by omega⟩, HW.out, List.Perm.refl _, (fun s h => absurd h (by omega)), World.grownBy.refl _ _⟩
  case round =>
    obtain ⟨t, a, b, K, rfl, rfl, hab, hR, hp, hs, hg⟩ := hrel
    have hl : n = K.length := by rw [HNN.out, hp.out.length_eq]
    by_cases hlt : b ≤ n
    · have lk : (b : Int) ≤ (n : Int) := by omega
      have hb6 : (b : Int) ≤ 100 := by omega
      have S0 := ins_any g cap a b n K wr (by have := hab.out; omega) hlt hl (by have := HN1.out; omega) hR.out
      have HLT : Hid (b ≤ n) := hlt
      clear hlt hl
      go_wp2_with (go_at_call 38; refine S0.mono ?_; rintro e w9 ⟨rfl, K9, hR9, hS9, hD9, hG9⟩)
      have h1 := hab.out
      have h2 := HLT.out
      have h3 := HN1.out
      refine ⟨⟨t + 1, b, b + 20, K9, rfl, by go_num, ⟨by omega, rfl, h2⟩, hR9, hS9.perm.trans hp.out, fun s hs1 => ?_, hg.out.trans hG9⟩, by simp [intOf] <;> omega⟩
      by_cases e : s = t
      · rw [e]
        exact hD9.sub (by omega) (by omega)
      · exact (hs.out s (by omega)).same hS9 (.inl (by omega))
    · have lk : ¬ (b : Int) ≤ (n : Int) := by omega
      have S0 := ins_any g cap a n n K wr (by have := hab.out; omega) (Nat.le_refl _) hl (by have := HN1.out; omega) hR.out
      have HAB : Hid (a = t * 20 ∧ a ≤ n ∧ n < a + 20) := by have := hab.out; exact ⟨by omega, by omega, by omega⟩
      clear hlt hl hab
      go_wp2
      (try simp only [Exit.inBlock, Exit.then])
      refine HK2.out _ _ ?_
      clear HK2
      refine wp_seq_k fun K3 hK3 => ?_
      have HK3 : Hid _ := hK3
      clear hK3
      go_wp2_with (go_at_call 38; refine S0.mono ?_; rintro e w9 ⟨rfl, K9, hR9, hS9, hD9, hG9⟩)
      have hBl : BlkS K9 20 n := by
        obtain ⟨h1, h2, h3⟩ := HAB.out
        intro s
        by_cases e : s < t
        · exact ((hs.out s e).sub (Nat.le_refl _) (Nat.min_le_left _ _)).same hS9 (.inl (by omega))
        · by_cases e2 : s = t
          · rw [e2]
            exact hD9.sub (by omega) (Nat.min_le_right _ _)
          · intro p q z1 z2 z3
            have := Nat.min_le_right (s * 20 + 20) n
            omega
      have HBL : Hid _ := hBl
      have HP9 : Hid (K9.Perm H) := hS9.perm.trans hp.out
      have HG9 : Hid (w.grownBy w9 (some g)) := hg.out.trans hG9
      have HR9 : Hid _ := hR9
      clear hBl hS9 hD9 hG9 hR9 S0 hR hp hs hg
      refine HK3.out _ _ ?_
      clear HK3
      refine wp_block ?_
      go_loopw [6] (fun v6 wx => ∃ (bs : Nat) (K : List Ld), v6 = .int .i64 (bs : Nat) ∧ Hid (Bs bs ∨ bs = 160) ∧ Hid (RwD wx g cap K) ∧ Hid (K.Perm H) ∧ Hid (BlkS K bs n) ∧ Hid (w.grownBy wx (some g))) (fun v6 _ => 200 - (intOf v6).toNat)
      case atStart => exact ⟨20, K9, rfl, .inl (.inl rfl), HR9.out, HP9.out, HBL.out, HG9.out⟩
      case round =>
        clear HR9 HP9 HBL HG9 HAB
        obtain ⟨bs, K, rfl, hbs, hR, hp, hBl, hg⟩ := hrel
        by_cases hlt2 : bs < n
        · have lk2 : (bs : Int) < (n : Int) := by omega
          have HBS : Hid (Bs bs) := by
            rcases hbs.out with h | h
            · exact h
            · have := HN1.out; omega
          have HLT : Hid (bs < n) := hlt2
          obtain ⟨b2, hb2⟩ : ∃ b2, b2 = bs + bs := ⟨_, rfl⟩
          have hb2i : (2 : Int) * (bs : Int) = (b2 : Int) := by omega
          have hb2j : (bs : Int) * 2 = (b2 : Int) := by omega
          have HB2 : Hid (b2 = bs + bs) := hb2
          have hb6 : (bs : Int) ≤ 100 := by omega
          have hb26 : (b2 : Int) ≤ 200 := by omega
          clear hlt2 hb2 hbs
          go_wp2
          go_loopw [7, 8] (fun v7 v8 wy => ∃ (c a b : Nat) (K : List Ld), v7 = .int .i64 (a : Nat) ∧ v8 = .int .i64 (b : Nat) ∧ Hid (a ≤ n ∧ b = a + (bs + bs)) ∧ Hid (InI K bs a n c) ∧ Hid (RwD wy g cap K) ∧ Hid (K.Perm H) ∧ Hid (w.grownBy wy (some g))) (fun v7 v8 _ => 400 - (intOf v8).toNat)
          case atStart => exact ⟨0, 0, b2, K, rfl, rfl, ⟨by omega, by rw [HB2.out]; omega⟩, InI.start hBl.out, hR.out, hp.out, hg.out⟩
          case round =>
            clear hR hp hBl hg
            obtain ⟨c, a, b, K, rfl, rfl, hab, hI, hR, hp, hg⟩ := hrel
            have hl : n = K.length := by rw [HNN.out, hp.out.length_eq]
            obtain ⟨m, hm⟩ : ∃ m, m = a + bs := ⟨_, rfl⟩
            have hmi : (a : Int) + (bs : Int) = (m : Int) := by omega
            have ha6 : (a : Int) ≤ 100 := by have := hab.out; omega
            have hm6 : (m : Int) ≤ 200 := by omega
            have hbp : 20 ≤ bs := by
              rcases HBS.out with h | h | h
              all_goals omega
            by_cases hlt3 : b ≤ n
            · have lk3 : (b : Int) ≤ (n : Int) := by omega
              have hb6' : (b : Int) ≤ 100 := by omega
              have hr := InI.runs HBS.out hI.out (by have := hab.out; omega)
              have hmin : min (a + (bs + bs)) n = b := by have := hab.out; omega
              rw [hmin, ← hm] at hr
              have S0 := sym_all g cap n (by have := HN1.out; omega) (b - a + 1) a m b K wr (by omega) (by omega) (by have := hab.out; omega) hlt3 hl hR.out hr.1 hr.2
              obtain ⟨b9, hb9⟩ : ∃ b9, b9 = b + b2 := ⟨_, rfl⟩
              have hb9i : (b : Int) + (b2 : Int) = (b9 : Int) := by omega
              have hb96 : (b9 : Int) ≤ 300 := by omega
              have HQ : Hid (b ≤ n ∧ b9 = b + b2 ∧ 20 ≤ bs) := ⟨hlt3, hb9, hbp⟩
              clear hr hmin hlt3 hl hm hb9 hbp
              go_wp2_with (go_at_call 39; refine S0.mono ?_; rintro e w9 ⟨rfl, K9, hR9, hS9, hD9, hG9⟩)
              obtain ⟨h1, h2, h3⟩ := HQ.out
              have h4 := hab.out
              have h5 := HB2.out
              refine ⟨⟨c + 1, b, b9, K9, rfl, rfl, ⟨h1, by omega⟩, ?_, hR9, hS9.perm.trans hp.out, hg.out.trans hG9⟩, by simp [intOf] <;> omega⟩
              show InI K9 bs b n (c + 1)
              rw [h4.2] at hS9 hD9 ⊢
              exact hI.out.step HBS.out hS9 hD9
            · have lk3 : ¬ (b : Int) ≤ (n : Int) := by omega
              have HNB : Hid (n < a + (bs + bs)) := by have := hab.out; show n < _; omega
              have HBB : Hid (Bs (bs + bs) ∨ bs + bs = 160) := by
                show _ ∨ _
                rcases HBS.out with h | h | h
                · exact .inl (.inr (.inl (by omega)))
                · exact .inl (.inr (.inr (by omega)))
                · exact .inr (by omega)
              by_cases hmn : m < n
              · have lk4 : (m : Int) < (n : Int) := by omega
                have hr := InI.runs HBS.out hI.out (by omega)
                have hmin : min (a + (bs + bs)) n = n := by have := hab.out; omega
                rw [hmin, ← hm] at hr
                have S0 := sym_all g cap n (by have := HN1.out; omega) (n - a + 1) a m n K wr (by omega) (by omega) hmn (Nat.le_refl _) hl hR.out hr.1 hr.2
                clear hr hmin hlt3 hl hm hbp hmn
                go_wp2_with (go_at_call 39; refine S0.mono ?_; rintro e w9 ⟨rfl, K9, hR9, hS9, hD9, hG9⟩)
                have h5 := HB2.out
                refine ⟨⟨b2, K9, rfl, by rw [h5]; exact HBB.out, hR9, hS9.perm.trans hp.out, ?_, hg.out.trans hG9⟩, ?_⟩
                · show BlkS K9 b2 n
                  rw [h5]
                  exact hI.out.fin HBS.out HNB.out hS9 (fun _ => hD9)
                · have := HLT.out
                  rcases HBS.out with h | h | h
                  all_goals (simp [intOf]; omega)
              · have lk4 : ¬ (m : Int) < (n : Int) := by omega
                have HML : Hid (n ≤ a + bs) := by show n ≤ _; omega
                clear hlt3 hl hm hbp hmn
                go_wp2
                have h5 := HB2.out
                refine ⟨⟨b2, K, rfl, by rw [h5]; exact HBB.out, hR.out, hp.out, ?_, hg.out⟩, ?_⟩
                · show BlkS K b2 n
                  rw [h5]
                  exact hI.out.fin HBS.out HNB.out (SameD.refl _ _ _) (fun h => hI.out.last HBS.out HML.out h)
                · have := HLT.out
                  rcases HBS.out with h | h | h
                  all_goals (simp [intOf]; omega)
        · have lk2 : ¬ (bs : Int) < (n : Int) := by omega
          have HNB : Hid (n ≤ bs) := by show n ≤ bs; omega
          clear hlt2
          go_wp2
          (try simp only [Exit.inBlock, Exit.then])
          first | go_end0 | (refine bodyPost_ret (results_none rfl _ _ _) rfl ?_)
          refine ⟨rfl, K, hR.out, hp.out, ?_, hg.out⟩
          have := hBl.out 0
          have h2 := HNB.out
          exact this.sub (by omega) (by omega)
theorem sorts_100 (m : Nat) (hm : m ≤ 100) : SortsD m := by
  intro a c H wz hO hH
  rcases hO.2 with ⟨h1, h2⟩ | ⟨g, cap, cur, h1, _, h3, h4, h5, h6, h7⟩
  · exact sorts_small 0 (by decide) a c H wz hO (by omega)
  · simp only [Value.slice.injEq] at h1
    obtain ⟨rfl, _, rfl⟩ := h1
    have hR : RwD wz g c H := ⟨cur.toList.drop (H.length * 4), by rw [← h7, List.take_append_drop]; exact h3, by rw [← h7, List.take_append_drop]; simpa using h6⟩
    have HS := stable_any g c H.length H wz rfl (by omega) hR
    go_enter Try.func30, Try.ntmps30
    go_wp2_with (go_at_call 35; refine HS.mono ?_; rintro e w1 ⟨rfl, K, hK, hP, hD, hG⟩)
    go_end0
    refine ⟨rfl, K, ?_, hP, hD, hG⟩
    obtain ⟨rest, hb, hl⟩ := hK.ex
    have el := hP.length_eq
    refine ⟨by rw [flD_len, el], .inr ⟨g, c, _, rfl, Nat.zero_le _, hb, h4, h5, by simpa using hl, ?_⟩⟩
    rw [← el]
    have e2 : K.length * 4 = (flD K).length := (flD_len K).symm
    rw [e2]
    simp
end

section
theorem shE_uniq {wn jn : Nat} {F K : Nat → T3} {z z' : Int} (h : shE wn jn F K z) (h' : shE wn jn F K z') : z = z' := by
  by_cases a : 200 < wn ∨ 100 < jn
  · rw [h.1 a, h'.1 a]
  · by_cases b : (∃ i, i < wn ∧ t3B (F i) = false) ∨ ∃ i, i < jn ∧ t3B (K i) = false
    · rw [h.2.1 a b, h'.2.1 a b]
    · rw [h.2.2 a b, h'.2.2 a b]
set_option maxHeartbeats 8000000 in
theorem share_no (w : World) (wa ja : Option Addr) (wn wc jn jc : Nat) (F K : Nat → T3) (z : Int) (hW : RdT w wa wn wc F) (hJ : RdT w ja jn jc K) (hz : shE wn jn F K z) (hz0 : z ≠ 0) :
    Calls Try.prog 6 #[.slice wa wn wc, .slice ja jn jc] w fun e w' => e = .returned (.tuple #[.slice none 0 0, .int .i64 z]) ∧ w.grownBy w' none := by
  have W0 := (wrongShare_any w wa ja wn wc jn jc _ _ hW hJ).mono (R' := fun e w' => e = .returned (.int .i64 z) ∧ w.grownBy w' none) (fun e w' h => by
    obtain ⟨z1, h1, h2, h3⟩ := h
    rw [shE_uniq h2 hz] at h1
    exact ⟨h1, h3⟩)
  have hzb : (z == (0 : Int)) = false := beq_eq_false_iff_ne.2 hz0
  clear hW hJ hz hz0
  go_enter Try.func6, Try.ntmps6
  go_wp2_with (go_at_call 14; refine W0.mono ?_; rintro e w1 ⟨rfl, g1⟩)
  (try simp only [Exit.inBlock, Exit.then])
  refine bodyPost_ret (results_tmp2 rfl _ _ _) rfl ?_
  exact ⟨rfl, g1⟩
set_option maxHeartbeats 8000000 in
theorem fits_no (w : World) (wa ja : Option Addr) (wn wc jn jc : Nat) (F K : Nat → T3) (z : Int) (hW : RdT w wa wn wc F) (hJ : RdT w ja jn jc K) (hz : shE wn jn F K z) (hz0 : z ≠ 0) :
    Calls Try.prog 8 #[.slice wa wn wc, .slice ja jn jc] w fun e w' => e = .returned (.tuple #[.bool false, .int .i64 z]) ∧ w.grownBy w' none := by
  have S0 := share_no w wa ja wn wc jn jc F K z hW hJ hz hz0
  have hzb : (z == (0 : Int)) = false := beq_eq_false_iff_ne.2 hz0
  clear hW hJ hz hz0
  go_enter Try.func8, Try.ntmps8
  go_wp2_with (go_at_call 6; refine S0.mono ?_; rintro e w1 ⟨rfl, g1⟩)
  (try simp only [Exit.inBlock, Exit.then])
  refine bodyPost_ret (results_tmp2 rfl _ _ _) rfl ?_
  exact ⟨rfl, g1⟩
theorem din_any (n a b : Int) (w : World) : Calls Try.prog 17 #[.int .i64 n, .int .i64 a, .int .i64 b] w fun e w' => e = .returned (.bool (decide (a ≤ n) && decide (n ≤ b))) ∧ w' = w := by
  by_cases h1 : a ≤ n
  · rw [decide_eq_true h1, Bool.true_and]
    go_enter Try.func17, Try.ntmps17
    go_wp2
    first | go_ret | skip
    exact ⟨rfl, rfl⟩
  · rw [decide_eq_false h1, Bool.false_and]
    go_enter Try.func17, Try.ntmps17
    go_wp2
    first | go_ret | skip
    exact ⟨rfl, rfl⟩
set_option maxHeartbeats 32000000 in
theorem rshared_any (w : World) (wa ja : Option Addr) (wn wc jn jc : Nat) (F K : Nat → T3) (hW : RdT w wa wn wc F) (hJ : RdT w ja jn jc K) :
    Calls Try.prog 12 #[.slice wa wn wc, .slice ja jn jc] w fun e w' => ∃ z : Int, e = .returned (.int .i64 z) ∧ shE wn jn F K z ∧ w.grownBy w' none := by
  have HW : Hid _ := hW
  have HJ : Hid _ := hJ
  clear hW hJ
  by_cases h1 : 200 < wn
  · have l1 : (200 : Int) < (wn : Int) := by omega
    go_enter Try.func12, Try.ntmps12
    go_wp2
    first | go_ret | skip
    exact ⟨1, rfl, ⟨fun _ => rfl, fun h => absurd (.inl h1) h, fun h => absurd (.inl h1) h⟩, World.grownBy.refl _ _⟩
  · have l1 : ¬ (200 : Int) < (wn : Int) := by omega
    by_cases h2 : 100 < jn
    · have l2 : (100 : Int) < (jn : Int) := by omega
      go_enter Try.func12, Try.ntmps12
      go_wp2
      first | go_ret | skip
      exact ⟨1, rfl, ⟨fun _ => rfl, fun h => absurd (.inr h2) h, fun h => absurd (.inr h2) h⟩, World.grownBy.refl _ _⟩
    · have l2 : ¬ (100 : Int) < (jn : Int) := by omega
      have HNO : Hid (wn ≤ 200 ∧ jn ≤ 100) := ⟨by omega, by omega⟩
      have hw6 : (wn : Int) ≤ 200 := by omega
      have hj6 : (jn : Int) ≤ 100 := by omega
      clear h1 h2
      go_enter Try.func12, Try.ntmps12
      refine wp_seq_k fun K0 hK0 => ?_
      have HK0 : Hid _ := hK0
      clear hK0
      go_wp2
      refine HK0.out _ _ ?_
      clear HK0
      refine wp_seq_k fun K1 hK1 => ?_
      have HK1 : Hid _ := hK1
      clear hK1
      go_wp2
      refine HK1.out _ _ ?_
      clear HK1
      refine wp_seq_k fun K2 hK2 => ?_
      have HK2 : Hid _ := hK2
      clear hK2
      go_wp2
      go_loopw [5] (fun v5 wr => ∃ i : Nat, i ≤ wn ∧ v5 = .int .i64 (i : Nat) ∧ Hid (∀ j, j < i → t3B (F j) = true) ∧ Hid (w.grownBy wr none)) (fun v5 _ => wn - (intOf v5).toNat)
      case atStart => exact ⟨0, Nat.zero_le _, rfl, (fun j h => absurd h (by omega)), World.grownBy.refl _ _⟩
      case round =>
        obtain ⟨i, hi, rfl, hok, hg⟩ := hrel
        by_cases hlt : i < wn
        · have lk : (i : Int) < (wn : Int) := by omega
          have hi6 : (i : Int) ≤ 200 := by omega
          obtain ⟨b, off, ha, _, hr⟩ := (HW.out.keep hg.out).at' (by omega)
          have hr := hr i hlt
          have c0 := hr 0 _ rfl
          have c1 := hr 1 _ rfl
          have c2 := hr 2 _ rfl
          simp only [Nat.add_zero] at c0 c1 c2
          have HA : ∀ wz, Calls Try.prog 17 #[.int .i64 (F i).x, .int .i64 0, .int .i64 20000] wz _ := fun wz => din_any (F i).x 0 20000 wz
          have HB : ∀ wz, Calls Try.prog 17 #[.int .i64 (F i).y, .int .i64 (F i).x, .int .i64 20000] wz _ := fun wz => din_any (F i).y (F i).x 20000 wz
          have HC : ∀ wz, Calls Try.prog 17 #[.int .i64 (F i).z, .int .i64 0, .int .i64 1000000] wz _ := fun wz => din_any (F i).z 0 1000000 wz
          have HT : Hid (t3B (F i) = (((decide (0 ≤ (F i).x) && decide ((F i).x ≤ 20000)) && (decide ((F i).x ≤ (F i).y) && decide ((F i).y ≤ 20000))) && (decide (0 ≤ (F i).z) && decide ((F i).z ≤ 1000000)))) := (rfl : _ = _)
          obtain ⟨a1, ha1⟩ : ∃ a1, (decide (0 ≤ (F i).x) && decide ((F i).x ≤ 20000)) = a1 := ⟨_, rfl⟩
          obtain ⟨a2, ha2⟩ : ∃ a2, (decide ((F i).x ≤ (F i).y) && decide ((F i).y ≤ 20000)) = a2 := ⟨_, rfl⟩
          obtain ⟨a3, ha3⟩ : ∃ a3, (decide (0 ≤ (F i).z) && decide ((F i).z ≤ 1000000)) = a3 := ⟨_, rfl⟩
          rw [ha1] at HA HT
          rw [ha2] at HB HT
          rw [ha3] at HC HT
          clear ha1 ha2 ha3
          have HFI : Hid ((F i) = (F i)) := (rfl : _ = _)
          generalize (F i).x = x at *
          generalize (F i).y = y at *
          generalize (F i).z = z at *
          have HAA : Hid (∃ q, q = wa) := ⟨_, rfl⟩
          have HLT : Hid (i < wn) := hlt
          subst ha
          clear hr hlt HFI HAA
          have qHA := fun m => Calls.quiet_of_same (n := m) (HA (wr.drewN m))
          have qHB := fun m => Calls.quiet_of_same (n := m) (HB (wr.drewN m))
          have qHC := fun m => Calls.quiet_of_same (n := m) (HC (wr.drewN m))
          clear HA HB HC
          cases a1 with
          | false =>
            go_upto_region 6 with fail
            go_quiet (first | (go_at_call 17; with_reducible exact qHA _))
            have GQ := grown_drewN wr nq none
            generalize wr.drewN nq = w9 at *
            have HGQ : Hid _ := GQ
            clear GQ
            go_wp2
            (try simp only [Exit.inBlock, Exit.then])
            first | go_ret | (refine bodyPost_ret (results_tmp rfl _ _ _) rfl ?_) | skip
            exact ⟨2, rfl, ⟨fun h => by have := HNO.out; omega, fun _ _ => rfl, fun _ h => absurd (.inl ⟨i, HLT.out, by rw [HT.out]; rfl⟩) h⟩, grown_trans hg.out HGQ.out⟩
          | true =>
            cases a2 with
            | false =>
              go_upto_region 6 with fail
              go_quiet (first | (go_at_call 17; with_reducible exact qHA _) | (go_at_call 17; with_reducible exact qHB _))
              have GQ := grown_drewN wr nq none
              generalize wr.drewN nq = w9 at *
              have HGQ : Hid _ := GQ
              clear GQ
              go_wp2
              (try simp only [Exit.inBlock, Exit.then])
              first | go_ret | (refine bodyPost_ret (results_tmp rfl _ _ _) rfl ?_) | skip
              exact ⟨2, rfl, ⟨fun h => by have := HNO.out; omega, fun _ _ => rfl, fun _ h => absurd (.inl ⟨i, HLT.out, by rw [HT.out]; rfl⟩) h⟩, grown_trans hg.out HGQ.out⟩
            | true =>
              cases a3 with
              | false =>
                go_upto_region 6 with fail
                go_quiet (first | (go_at_call 17; with_reducible exact qHA _) | (go_at_call 17; with_reducible exact qHB _) | (go_at_call 17; with_reducible exact qHC _))
                have GQ := grown_drewN wr nq none
                generalize wr.drewN nq = w9 at *
                have HGQ : Hid _ := GQ
                clear GQ
                go_wp2
                (try simp only [Exit.inBlock, Exit.then])
                first | go_ret | (refine bodyPost_ret (results_tmp rfl _ _ _) rfl ?_) | skip
                exact ⟨2, rfl, ⟨fun h => by have := HNO.out; omega, fun _ _ => rfl, fun _ h => absurd (.inl ⟨i, HLT.out, by rw [HT.out]; rfl⟩) h⟩, grown_trans hg.out HGQ.out⟩
              | true =>
                go_upto_region 6 with fail
                go_quiet (first | (go_at_call 17; with_reducible exact qHA _) | (go_at_call 17; with_reducible exact qHB _) | (go_at_call 17; with_reducible exact qHC _))
                have GQ := grown_drewN wr nq none
                generalize wr.drewN nq = w9 at *
                have HGQ : Hid _ := GQ
                clear GQ
                go_wp2
                refine ⟨⟨i + 1, HLT.out, by go_num, fun j hj => ?_, grown_trans hg.out HGQ.out⟩, by have := HLT.out; simp [intOf] <;> omega⟩
                by_cases e : j = i
                · rw [e, HT.out]; rfl
                · exact hok.out j (by omega)
        · obtain rfl : wn = i := by omega
          have lk : ¬ (wn : Int) < (wn : Int) := by omega
          have HG1 : Hid (w.grownBy wr none) := hg.out
          clear hg
          go_wp2
          (try simp only [Exit.inBlock, Exit.then])
          refine HK2.out _ _ ?_
          clear HK2
          refine wp_seq_k fun K3 hK3 => ?_
          have HK3 : Hid _ := hK3
          clear hK3
          go_wp2
          go_loopw [6] (fun v6 wx => ∃ k : Nat, k ≤ jn ∧ v6 = .int .i64 (k : Nat) ∧ Hid (∀ j, j < k → t3B (K j) = true) ∧ Hid (w.grownBy wx none)) (fun v6 _ => jn - (intOf v6).toNat)
          case atStart => exact ⟨0, Nat.zero_le _, rfl, (fun j h => absurd h (by omega)), HG1.out⟩
          case round =>
            clear HG1
            obtain ⟨k, hk, rfl, hok2, hg⟩ := hrel
            by_cases hlt : k < jn
            · have lk2 : (k : Int) < (jn : Int) := by omega
              have hk6 : (k : Int) ≤ 100 := by omega
              obtain ⟨b, off, ha, _, hr⟩ := (HJ.out.keep hg.out).at' (by omega)
              have hr := hr k hlt
              have c0 := hr 0 _ rfl
              have c1 := hr 1 _ rfl
              have c2 := hr 2 _ rfl
              simp only [Nat.add_zero] at c0 c1 c2
              have HA : ∀ wz, Calls Try.prog 17 #[.int .i64 (K k).x, .int .i64 0, .int .i64 20000] wz _ := fun wz => din_any (K k).x 0 20000 wz
              have HB : ∀ wz, Calls Try.prog 17 #[.int .i64 (K k).y, .int .i64 (K k).x, .int .i64 20000] wz _ := fun wz => din_any (K k).y (K k).x 20000 wz
              have HC : ∀ wz, Calls Try.prog 17 #[.int .i64 (K k).z, .int .i64 0, .int .i64 1000000] wz _ := fun wz => din_any (K k).z 0 1000000 wz
              have HT : Hid (t3B (K k) = (((decide (0 ≤ (K k).x) && decide ((K k).x ≤ 20000)) && (decide ((K k).x ≤ (K k).y) && decide ((K k).y ≤ 20000))) && (decide (0 ≤ (K k).z) && decide ((K k).z ≤ 1000000)))) := (rfl : _ = _)
              obtain ⟨a1, ha1⟩ : ∃ a1, (decide (0 ≤ (K k).x) && decide ((K k).x ≤ 20000)) = a1 := ⟨_, rfl⟩
              obtain ⟨a2, ha2⟩ : ∃ a2, (decide ((K k).x ≤ (K k).y) && decide ((K k).y ≤ 20000)) = a2 := ⟨_, rfl⟩
              obtain ⟨a3, ha3⟩ : ∃ a3, (decide (0 ≤ (K k).z) && decide ((K k).z ≤ 1000000)) = a3 := ⟨_, rfl⟩
              rw [ha1] at HA HT
              rw [ha2] at HB HT
              rw [ha3] at HC HT
              clear ha1 ha2 ha3
              have HFI : Hid ((K k) = (K k)) := (rfl : _ = _)
              generalize (K k).x = x at *
              generalize (K k).y = y at *
              generalize (K k).z = z at *
              have HAA : Hid (∃ q, q = ja) := ⟨_, rfl⟩
              have HLT : Hid (k < jn) := hlt
              subst ha
              clear hr hlt HFI HAA
              have qHA := fun m => Calls.quiet_of_same (n := m) (HA (wr.drewN m))
              have qHB := fun m => Calls.quiet_of_same (n := m) (HB (wr.drewN m))
              have qHC := fun m => Calls.quiet_of_same (n := m) (HC (wr.drewN m))
              clear HA HB HC
              cases a1 with
              | false =>
                go_upto_region 11 with fail
                go_quiet (first | (go_at_call 17; with_reducible exact qHA _))
                have GQ := grown_drewN wr nq none
                generalize wr.drewN nq = w9 at *
                have HGQ : Hid _ := GQ
                clear GQ
                go_wp2
                (try simp only [Exit.inBlock, Exit.then])
                first | go_ret | (refine bodyPost_ret (results_tmp rfl _ _ _) rfl ?_) | skip
                exact ⟨2, rfl, ⟨fun h => by have := HNO.out; omega, fun _ _ => rfl, fun _ h => absurd (.inr ⟨k, HLT.out, by rw [HT.out]; rfl⟩) h⟩, grown_trans hg.out HGQ.out⟩
              | true =>
                cases a2 with
                | false =>
                  go_upto_region 11 with fail
                  go_quiet (first | (go_at_call 17; with_reducible exact qHA _) | (go_at_call 17; with_reducible exact qHB _))
                  have GQ := grown_drewN wr nq none
                  generalize wr.drewN nq = w9 at *
                  have HGQ : Hid _ := GQ
                  clear GQ
                  go_wp2
                  (try simp only [Exit.inBlock, Exit.then])
                  first | go_ret | (refine bodyPost_ret (results_tmp rfl _ _ _) rfl ?_) | skip
                  exact ⟨2, rfl, ⟨fun h => by have := HNO.out; omega, fun _ _ => rfl, fun _ h => absurd (.inr ⟨k, HLT.out, by rw [HT.out]; rfl⟩) h⟩, grown_trans hg.out HGQ.out⟩
                | true =>
                  cases a3 with
                  | false =>
                    go_upto_region 11 with fail
                    go_quiet (first | (go_at_call 17; with_reducible exact qHA _) | (go_at_call 17; with_reducible exact qHB _) | (go_at_call 17; with_reducible exact qHC _))
                    have GQ := grown_drewN wr nq none
                    generalize wr.drewN nq = w9 at *
                    have HGQ : Hid _ := GQ
                    clear GQ
                    go_wp2
                    (try simp only [Exit.inBlock, Exit.then])
                    first | go_ret | (refine bodyPost_ret (results_tmp rfl _ _ _) rfl ?_) | skip
                    exact ⟨2, rfl, ⟨fun h => by have := HNO.out; omega, fun _ _ => rfl, fun _ h => absurd (.inr ⟨k, HLT.out, by rw [HT.out]; rfl⟩) h⟩, grown_trans hg.out HGQ.out⟩
                  | true =>
                    go_upto_region 11 with fail
                    go_quiet (first | (go_at_call 17; with_reducible exact qHA _) | (go_at_call 17; with_reducible exact qHB _) | (go_at_call 17; with_reducible exact qHC _))
                    have GQ := grown_drewN wr nq none
                    generalize wr.drewN nq = w9 at *
                    have HGQ : Hid _ := GQ
                    clear GQ
                    go_wp2
                    refine ⟨⟨k + 1, HLT.out, by go_num, fun j hj => ?_, grown_trans hg.out HGQ.out⟩, by have := HLT.out; simp [intOf] <;> omega⟩
                    by_cases e : j = k
                    · rw [e, HT.out]; rfl
                    · exact hok2.out j (by omega)
            · obtain rfl : jn = k := by omega
              have lk2 : ¬ (jn : Int) < (jn : Int) := by omega
              have HG2 : Hid (w.grownBy wr none) := hg.out
              clear hg
              go_wp2
              (try simp only [Exit.inBlock, Exit.then])
              refine HK3.out _ _ ?_
              clear HK3
              go_wp2
              first | go_ret | skip
              refine ⟨0, rfl, ⟨fun h => by have := HNO.out; omega, fun _ h => ?_, fun _ _ => rfl⟩, HG2.out⟩
              rcases h with ⟨j, h1, h2⟩ | ⟨j, h1, h2⟩
              · rw [hok.out j h1] at h2; cases h2
              · rw [hok2.out j h1] at h2; cases h2
end
end Go.Proofs.Ytnjdbbjhplebhaa
