import Derived.OpenShut
import Derived.Test.YtlfacjpehhcdiaaOn18
import Derived.Test.YtlfacjpehhcdiaaOn0
import Derived.Test.YtlfacjpehhcdiaaOn1
namespace Go.Proofs.Ytlfacjpehhcdiaa
open Go.RowKit
set_option maxRecDepth 100000
set_option linter.unusedVariables false
set_option linter.unusedSimpArgs false

section
/-- what happens in a tick, as it lies in memory -/
structure Po where
  a : Int
  c : Int
  l : Int
  f : Bool
  d : Bool
  g : Int
def Po.cells (p : Po) : List Value := [.int .i64 p.a, .int .i64 p.c, .int .i64 p.l, .bool p.f, .bool p.d, .int .i64 p.g]
def Po.ok (p : Po) : Prop := (-9223372036854775808 ≤ p.a ∧ p.a ≤ 9223372036854775807) ∧ (-9223372036854775808 ≤ p.c ∧ p.c ≤ 9223372036854775807) ∧ (-9223372036854775808 ≤ p.l ∧ p.l ≤ 9223372036854775807) ∧ (-9223372036854775808 ≤ p.g ∧ p.g ≤ 9223372036854775807)
structure RdPo (w : World) (a : Option Addr) (n cap : Nat) (F : Nat → Po) : Prop where
  le : n ≤ cap
  max : cap ≤ maxLen
  at' : 0 < n → ∃ b off, a = some ⟨b, off, none⟩ ∧ b < w.heap.size ∧ ∀ i, i < n → ∀ j, j < 6 → w.cell? ⟨b, off + (i * 6 + j), none⟩ = (F i).cells[j]?
  ok : ∀ i, i < n → (F i).ok
theorem RdPo.keep {w w' : World} {a : Option Addr} {n cap : Nat} {F : Nat → Po} (h : RdPo w a n cap F) (hg : w.grownBy w' none) : RdPo w' a n cap F :=
  ⟨h.le, h.max, fun h0 => by
    obtain ⟨b, off, e, hb, hc⟩ := h.at' h0
    refine ⟨b, off, e, Nat.lt_of_lt_of_le hb hg.size, fun i hi j hj => ?_⟩
    rw [← hc i hi j hj]
    unfold World.cell?
    rw [hg.block b hb (by simp)], h.ok⟩
theorem met_post {w : World} {full : Bool} {n : Nat} {cs : List Value} (h : (Sh.fcons 1 (.int .i64) (.fcons 1 (.int .i64) (.fcons 1 (.int .i64) (.fcons 1 .bool (.fcons 1 .bool (.fcons 1 (.int .i64) .fend)))))).met w full cs n) : ∃ k : Po, cs = k.cells ∧ k.ok := by
  obtain ⟨n0, m0, rfl, ⟨_, a, e0, k0⟩, n1, m1, rfl, ⟨_, b, e1, k1⟩, n2, m2, rfl, ⟨_, c, e2, k2⟩, n3, m3, rfl, ⟨_, d, e3⟩, n4, m4, rfl, ⟨_, f, e4⟩, n5, m5, rfl, ⟨_, g, e5, k5⟩, e6, _⟩ := h
  refine ⟨⟨a, b, c, d, f, g⟩, ?_, bounds_i64 k0, bounds_i64 k1, bounds_i64 k2, bounds_i64 k5⟩
  unfold Po.cells
  match cs with
  | [] => simp at e0
  | [_] => simp at e1
  | [_, _] => simp at e2
  | [_, _, _] => simp at e3
  | [_, _, _, _] => simp at e4
  | [_, _, _, _, _] => simp at e5
  | [x0, x1, x2, x3, x4, x5] => simp_all
  | x0 :: x1 :: x2 :: x3 :: x4 :: x5 :: x6 :: r => simp at e6
theorem shown_posts {w : World} {full : Bool} {N : Nat} {v : Value} (h : (Sh.slice 6 40 (Sh.fcons 1 (.int .i64) (.fcons 1 (.int .i64) (.fcons 1 (.int .i64) (.fcons 1 .bool (.fcons 1 .bool (.fcons 1 (.int .i64) .fend))))))).shown w full v N) : ∃ a len cap K, v = .slice a len cap ∧ RdPo w a len cap K := by
  have h : (Sh.slice 6 40 (Sh.fcons 1 (.int .i64) (.fcons 1 (.int .i64) (.fcons 1 (.int .i64) (.fcons 1 .bool (.fcons 1 .bool (.fcons 1 (.int .i64) .fend))))))).met w full [v] N := h
  rcases h with ⟨rfl, e⟩ | ⟨x, len, cap, G, C, e, e', hl, hm, hf, hc⟩
  · cases e
    exact ⟨none, 0, 0, fun _ => ⟨0, 0, 0, false, false, 0⟩, rfl, ⟨Nat.le_refl _, Nat.zero_le _, (fun h => by omega), (fun i h => by omega)⟩⟩
  · cases e
    have each : ∀ i, i < cap → ∃ k : Po, (∀ j, j < 6 → w.cell? (x.add (i * 6 + j)) = k.cells[j]?) ∧ k.ok := by
      intro i hi
      obtain ⟨h1, h2, h3⟩ := hc i hi
      obtain ⟨k, e, hk⟩ := met_post h3
      refine ⟨k, fun j hj => ?_, hk⟩
      rw [h2 j hj, e]
    have hI : Inhabited Po := ⟨⟨0, 0, 0, false, false, 0⟩⟩
    obtain ⟨K, hK⟩ := Go.Deep.choose_lt each
    refine ⟨some x, len, cap, K, rfl, ⟨hl, hm, fun h0 => ?_, fun i hi => (hK i (by omega)).2⟩⟩
    obtain ⟨b, off, spot⟩ := x
    have hc0 := (hK 0 (by omega)).1 0 (by decide)
    have h0' : w.cell? (⟨b, off, spot⟩ : Addr) = some (.int .i64 (K 0).a) := by simpa [Addr.add, Po.cells] using hc0
    have hspot : spot = none := by simpa using World.cell?_spot h0'
    subst hspot
    refine ⟨b, off, rfl, World.block_lt_of_cell? w _ h0', fun i hi j hj => ?_⟩
    rw [← addr_add]
    exact (hK i (by omega)).1 j hj
/-- a quiet tick, whatever the hand did -/
theorem qi_step2 {l : Lk} {q s f s' : Nat} {N : List Nat} (h : QI l q) (hL : LI l s f) (hS : LS l s f s' N) : QI (l.qk N) (q + 1) := by
  have hn := hS.n
  have hq := li_qk hL hS
  have ho := h.ol
  have hwl := h.wl
  have hlen : (l.qk N).way.length = l.way.length + N.length - 1000 := by
    show ((l.way ++ N).drop 1000).length = _
    rw [List.length_drop, List.length_append]
  refine ⟨⟨_, _, hq⟩, ?_, by omega, ?_⟩
  · show (l.old ++ N).length ≤ _
    rw [List.length_append]; omega
  · by_cases h19 : (l.qk N).d.hl = 19
    · exact .inl h19
    · have h0' : (l.qk N).d.hl = 0 := hq.hi.hl.resolve_right h19
      rcases h.p with e | e | ⟨e1, e2, e3, e4, e5⟩
      · have := hS.hl (by omega)
        have h9 : (l.qk N).d.hl = l.d.hl := congrArg Hd.hl this
        omega
      · by_cases hw : (l.qk N).way.length = 0
        · have hw0 : (l.qk N).way = [] := List.length_eq_zero_iff.1 hw
          have hm := mu_max hq
          exact .inr (.inr ⟨by omega, rfl, hw0, h0', .inl (by omega)⟩)
        · exact .inr (.inl (by omega))
      · obtain ⟨k1, k2⟩ := qk_mu hL hS e2 e3 e4
        refine .inr (.inr ⟨by omega, rfl, k1, h0', ?_⟩)
        rcases k2 h0' with ⟨_, r2, r3, r4⟩ | r
        · exact .inr ⟨r2, r3, r4⟩
        · rcases e5 with e5 | ⟨f1, f2, f3⟩
          · exact .inl (by omega)
          · exact .inr (qk_fin hL hS e2 e4 f1)
/-- a hand that begins -/
def hdG (ah pa pu : Nat) : Hd := ⟨3, 0, ((1 + ah : Nat) : Int), 0, ((1 + pa : Nat) : Int), 0, 100, (pu : Int), (pu : Int), 0, [], []⟩
def hxG : Hx := ⟨none, 0, 0, none, 0, 0⟩
def lkG (ah pa pu : Nat) : Lk := ⟨hdG ah pa pu, (0, false, false), [], [], 0, false⟩
def lxG : Lx := ⟨hxG, [], [], none, 0, 0, [], none, 0, 0, [], none, 0, 0, 0⟩
theorem li_begin (ah pa pu : Nat) (h1 : ah < 40) (h2 : pa < 12) (h3 : pu < 12) : LI (lkG ah pa pu) 0 0 := by
  refine ⟨⟨rfl, rfl, rfl, rfl, Nat.le_refl _, Nat.le_refl _, (by show 0 ≤ 100; decide), ?_, ?_, ?_, ?_, rfl, ?_, ?_, ?_, .inl rfl⟩, Nat.le_refl _, Nat.le_refl _, (fun k hk => by cases hk), (fun k hk => by cases hk), (fun e => by cases e), (fun e => by cases e)⟩
  · show 1 ≤ ((1 + ah : Nat) : Int) ∧ ((1 + ah : Nat) : Int) ≤ 40; omega
  · show ((0 - 0 : Nat) : Int) ≤ ((1 + ah : Nat) : Int); omega
  · show 1 ≤ ((1 + pa : Nat) : Int) ∧ ((1 + pa : Nat) : Int) ≤ 12; omega
  · show 0 ≤ (pu : Int) ∧ (pu : Int) ≤ 11; omega
  · show (0 : Int) ≤ 0 ∧ (0 : Int) < ((1 + pa : Nat) : Int); omega
  · show (0 : Int) ≤ 0 ∧ (0 : Int) ≤ 100; omega
  · show 0 ≤ (pu : Int) ∧ (pu : Int) ≤ (pu : Int); omega
theorem lm_begin {w w' : World} {gl ah pa pu : Nat} (hg : w.grownBy w' none) (hl : w.heap.size ≤ gl) (hb : BxS w' gl 31 (lkA (hdG ah pa pu) hxG (0, false, false) (.slice none 0 0) (.slice none 0 0) (.slice none 0 0) 0 0 false)) : LM w w' gl (lkG ah pa pu) lxG :=
  ⟨⟨⟨_, hb⟩, hl, hg, ⟨OwW.nil _ _, OwW.nil _ _, fun x h => (ofr_nil x h).elim⟩, RO.nil _ _, RO.nil _ _, (rfl : _ = _), (rfl : _ = _), ans_nil _ _, (fun e => by cases e), (fun y h => by obtain ⟨o, s, e⟩ := h; cases e), (fun y h => by obtain ⟨o, s, e⟩ := h; cases e), (fun y h => by obtain ⟨o, s, e⟩ := h; cases e), (fun y h => by cases h), (fun y h => by cases h)⟩, hb⟩
set_option maxHeartbeats 16000000 in
theorem begins_any (A Pt Pu : Int) (w : World) (hA : (-9223372036854775808 ≤ A ∧ A ≤ 9223372036854775807)) (hPt : (-9223372036854775808 ≤ Pt ∧ Pt ≤ 9223372036854775807)) (hPu : (-9223372036854775808 ≤ Pu ∧ Pu ≤ 9223372036854775807)) :
    Calls Try.prog 4 #[.int .i64 A, .int .i64 Pt, .int .i64 Pu] w fun e w' => ∃ ah pa pu : Nat, ah < 40 ∧ pa < 12 ∧ pu < 12 ∧ e = .returned (.tuple #[.agg (lkA (hdG ah pa pu) hxG (0, false, false) (.slice none 0 0) (.slice none 0 0) (.slice none 0 0) 0 0 false), .bool true]) ∧ w.grownBy w' none := by
  have k1 := pkL_lt A 40 (by decide)
  have k2 := pkL_lt Pt 12 (by decide)
  have k3 := pkL_lt Pu 12 (by decide)
  have H1 := fun wz => pickL_any A 40 wz hA (by decide) (by decide)
  have H2 := fun wz => pickL_any Pt 12 wz hPt (by decide) (by decide)
  have H3 := fun wz => pickL_any Pu 12 wz hPu (by decide) (by decide)
  generalize pkL A 40 = ah at *
  generalize pkL Pt 12 = pa at *
  generalize pkL Pu 12 = pu at *
  have HRy : ∀ wz, Calls Try.prog 6 #[.int .i64 3, .int .i64 (1 + (ah : Int)), .int .i64 (1 + (pa : Int)), .int .i64 (pu : Int), .int .i64 100] wz fun e w' => e = .returned (.tuple #[.agg (haC (hdG ah pa pu) hxG).toArray, .int .i64 0]) ∧ wz.grownBy w' none := fun wz => (ready_any 3 (1 + (ah : Int)) (1 + (pa : Int)) (pu : Int) 100 wz).mono (fun e w' h => by
    have hre : reB 3 (1 + (ah : Int)) (1 + (pa : Int)) (pu : Int) 100 = true := by
      unfold reB
      rw [kwB_t (n := (1 + (ah : Int))) (by omega), kwB_t (n := (1 + (pa : Int))) (by omega), kwB_t (n := (pu : Int)) (by omega)]
      decide
    unfold reX reE at h
    rw [hre] at h
    have q1 : (1 + (ah : Int)) = ((1 + ah : Nat) : Int) := by omega
    have q2 : (1 + (pa : Int)) = ((1 + pa : Nat) : Int) := by omega
    rw [q1, q2] at h
    exact h)
  have HGu : ∀ wz, Calls Try.prog 8 #[.int .i64 3, .int .i64 127] wz fun e w' => e = .returned (.tuple #[.agg (gaC (0, false, false)).toArray, .int .i64 0]) ∧ wz.grownBy w' none := fun wz => guard_any 3 127 wz
  have b6 := BxS.new w 31 #[.int .i64 0, .int .i64 0, .int .i64 0, .slice none 0 0, .slice none 0 0, .int .i64 0, .int .i64 0, .int .i64 0, .int .i64 0, .int .i64 0, .int .i64 0, .int .i64 0, .int .i64 0, .int .i64 0, .int .i64 0, .bool false, .bool false, .bool false, .int .i64 0, .slice none 0 0, .slice none 0 0, .slice none 0 0, .int .i64 0, .int .i64 0, .bool false]
  have G6 := World.grownBy_alloc w (.cells #[.int .i64 0, .int .i64 0, .int .i64 0, .slice none 0 0, .slice none 0 0, .int .i64 0, .int .i64 0, .int .i64 0, .int .i64 0, .int .i64 0, .int .i64 0, .int .i64 0, .int .i64 0, .int .i64 0, .int .i64 0, .bool false, .bool false, .bool false, .int .i64 0, .slice none 0 0, .slice none 0 0, .slice none 0 0, .int .i64 0, .int .i64 0, .bool false] 31) none
  go_enter Try.func4, Try.ntmps4
  refine wp_seq_k fun K0 hK0 => ?_
  have HK0 : Hid _ := hK0
  clear hK0
  go_wp2
  refine HK0.out _ _ ?_
  clear HK0
  change Code.wp Try.prog _ _ _ (w.alloc (.cells #[.int .i64 0, .int .i64 0, .int .i64 0, .slice none 0 0, .slice none 0 0, .int .i64 0, .int .i64 0, .int .i64 0, .int .i64 0, .int .i64 0, .int .i64 0, .int .i64 0, .int .i64 0, .int .i64 0, .int .i64 0, .bool false, .bool false, .bool false, .int .i64 0, .slice none 0 0, .slice none 0 0, .slice none 0 0, .int .i64 0, .int .i64 0, .bool false] 31))
  generalize w.alloc (.cells #[.int .i64 0, .int .i64 0, .int .i64 0, .slice none 0 0, .slice none 0 0, .int .i64 0, .int .i64 0, .int .i64 0, .int .i64 0, .int .i64 0, .int .i64 0, .int .i64 0, .int .i64 0, .int .i64 0, .int .i64 0, .bool false, .bool false, .bool false, .int .i64 0, .slice none 0 0, .slice none 0 0, .slice none 0 0, .int .i64 0, .int .i64 0, .bool false] 31) = w1 at *
  have hl6 : w.heap.size ≤ w.heap.size := Nat.le_refl _
  obtain ⟨g6, hg6⟩ : ∃ g, w.heap.size = g := ⟨_, rfl⟩
  rw [hg6] at b6 hl6 ⊢
  have hg6 : w.heap.size ≤ g6 := Nat.le_of_eq hg6
  refine wp_seq_k fun K1 hK1 => ?_
  have HK1 : Hid _ := hK1
  clear hK1
  have s1 : True := trivial
  go_wp2_with (first
    | (have _t := s1; clear s1; go_at_call 7; refine (H1 _).mono ?_; rintro e wx ⟨rfl, hwx⟩; rw [hwx]; clear hwx; have s2 : True := trivial)
    | (have _t := s2; clear s2; go_at_call 7; refine (H2 _).mono ?_; rintro e wx ⟨rfl, hwx⟩; rw [hwx]; clear hwx; have s3 : True := trivial)
    | (have _t := s3; clear s3; go_at_call 7; refine (H3 _).mono ?_; rintro e wx ⟨rfl, hwx⟩; rw [hwx]; clear hwx; have s4 : True := trivial)
    | (have _t := s4; clear s4; go_at_call 6; refine (HRy _).mono ?_; rintro e w2 ⟨rfl, y2⟩; have b8 := BxS.new w2 26 #[.int .i64 0, .int .i64 0, .int .i64 0, .slice none 0 0, .slice none 0 0, .int .i64 0, .int .i64 0, .int .i64 0, .int .i64 0, .int .i64 0, .int .i64 0, .int .i64 0]; have G8 := World.grownBy_alloc w2 (.cells #[.int .i64 0, .int .i64 0, .int .i64 0, .slice none 0 0, .slice none 0 0, .int .i64 0, .int .i64 0, .int .i64 0, .int .i64 0, .int .i64 0, .int .i64 0, .int .i64 0] 26) none; have s5 : True := trivial)
    | (have _t := s5; clear s5; refine wpList_stX _ rfl _ (.tmp 8) (.tmp 22) rfl w2.heap.size _ (haC (hdG ah pa pu) hxG).toArray rfl rfl b8 Try.info_hn rfl (by simp [haC, Value.oneCell']) ?_; intro w3 b83 u3))
  refine HK1.out _ _ ?_
  clear HK1
  have G3 : w1.grownBy w3 none := grown_far (grown_trans y2 G8) u3 (fun z e => by cases e; exact y2.size)
  obtain ⟨g8, hg8⟩ : ∃ g, w2.heap.size = g := ⟨_, rfl⟩
  rw [hg8] at b83 ⊢
  clear hg8 b8 G8 u3 y2
  refine wp_seq_k fun K2 hK2 => ?_
  have HK2 : Hid _ := hK2
  clear hK2
  have s1 : True := trivial
  go_wp2_with (first
    | (have _t := s1; clear s1; go_at_call 8; refine (HGu _).mono ?_; rintro e w4 ⟨rfl, y4⟩; have b9 := BxS.new w4 28 #[.int .i64 0, .int .i64 0, .int .i64 0, .bool false, .bool false, .bool false, .int .i64 0]; have G9 := World.grownBy_alloc w4 (.cells #[.int .i64 0, .int .i64 0, .int .i64 0, .bool false, .bool false, .bool false, .int .i64 0] 28) none; have s2 : True := trivial)
    | (have _t := s2; clear s2; refine wpList_stX _ rfl _ (.tmp 10) (.tmp 26) rfl w4.heap.size _ (gaC (0, false, false)).toArray rfl rfl b9 Try.info_gt rfl (by simp [gaC, Value.oneCell']) ?_; intro w5 b95 u5))
  refine HK2.out _ _ ?_
  clear HK2
  have G5 : w3.grownBy w5 none := grown_far (grown_trans y4 G9) u5 (fun z e => by cases e; exact y4.size)
  obtain ⟨g9, hg9⟩ : ∃ g, w4.heap.size = g := ⟨_, rfl⟩
  rw [hg9] at b95 ⊢
  clear hg9 b9 G9 u5 y4
  have b85 : BxS w5 g8 26 #[.int .i64 3, .int .i64 0, .int .i64 ((1 + ah : Nat) : Int), .slice none 0 0, .slice none 0 0, .int .i64 0, .int .i64 ((1 + pa : Nat) : Int), .int .i64 0, .int .i64 100, .int .i64 (pu : Int), .int .i64 (pu : Int), .int .i64 0] := b83.keep G5 (by simp)
  have b95 : BxS w5 g9 28 #[.int .i64 3, .int .i64 0, .int .i64 127, .bool false, .bool false, .bool false, .int .i64 0] := b95
  have b65 := (b6.keep G3 (by simp)).keep G5 (by simp)
  have s1 : True := trivial
  go_wp2_with (first
    | (have _t := s1; clear s1; refine wpList_ldX _ rfl _ (.tmp 8) rfl g8 _ rfl b85 Try.underlying26 Try.info_hn ?_; have s2 : True := trivial)
    | (have _t := s2; clear s2; refine wpList_ldX _ rfl _ (.tmp 10) rfl g9 _ rfl b95 Try.underlying28 Try.info_gt ?_; have s3 : True := trivial)
    | (have _t := s3; clear s3; refine wpList_stX _ rfl _ (.tmp 6) (.tmp 30) rfl g6 _ (lkA (hdG ah pa pu) hxG (0, false, false) (.slice none 0 0) (.slice none 0 0) (.slice none 0 0) 0 0 false) rfl rfl b65 Try.info_lk rfl (by simp [lkA, Value.oneCell']) ?_; intro w7 b7 u7))
  refine bodyPost_ret (results_cell1t rfl _ _ _ ⟨g6, 0, none⟩ _ (.bool true) rfl (BxS.load (t := 31) b7 Try.underlying31 Try.info_lk) rfl) rfl ?_
  exact ⟨ah, pa, pu, k1, k2, k3, rfl, grown_far (grown_trans (grown_trans G6 G3) G5) u7 (fun z e => by cases e; exact hg6)⟩
end

section
theorem Try.info_po : (Try.prog.info? 36).map (fun i => i.size) = some 6 := by kernel_rfl
set_option maxHeartbeats 16000000 in
theorem co_t19 {u0 u1 u2 u4 u5 u6 u7 u8 u10 u11 u12 u13 u14 u15 u16 u17 u18 u19 u20 u21 u22 u23 u24 u25 u26 u27 u28 u29 u30 u31 u32 u33 u34 u35 u36 u37 u38 u39 u40 u41 u42 u43 u44 u45 u46 u47 u48 u49 u50 u51 u52 u53 u54 u55 u56 u57 u58 u59 u60 u61 u62 u63 u64 u65 u66 u67 u68 u69 u70 u71 u72 u73 u74 u75 u76 u77 u78 u79 u80 u81 u82 u83 u84 u85 u86 u87 u88 u89 u90 u91 u92 u93 u94 u95 : Value} (w wr : World) (gl : Nat) (l : Lk) (X : Lx) (hM : LM w wr gl l X) (la : Option Addr) (ln lc : Nat) (h : (l.d.hl = 19 ∧ 0 < ln) ∨ (l.d.hl = 0 ∧ l.x.1 = l.a ∧ l.d.S = [] ∧ l.d.Q = [])) :
    Code.wp Try.prog (tailR 19 (Try.f3.body.getD .skip)) (bodyPost Try.prog Try.f3 (fun e w' => e = .returned (.bool true) ∧ w.grownBy w' none)) (Act.mk (List.toArray (u0 :: u1 :: u2 :: (.slice la ln lc) :: u4 :: u5 :: u6 :: u7 :: u8 :: (.pointer (some ⟨gl, 0, none⟩)) :: u10 :: u11 :: u12 :: u13 :: u14 :: u15 :: u16 :: u17 :: u18 :: u19 :: u20 :: u21 :: u22 :: u23 :: u24 :: u25 :: u26 :: u27 :: u28 :: u29 :: u30 :: u31 :: u32 :: u33 :: u34 :: u35 :: u36 :: u37 :: u38 :: u39 :: u40 :: u41 :: u42 :: u43 :: u44 :: u45 :: u46 :: u47 :: u48 :: u49 :: u50 :: u51 :: u52 :: u53 :: u54 :: u55 :: u56 :: u57 :: u58 :: u59 :: u60 :: u61 :: u62 :: u63 :: u64 :: u65 :: u66 :: u67 :: u68 :: u69 :: u70 :: u71 :: u72 :: u73 :: u74 :: u75 :: u76 :: u77 :: u78 :: u79 :: u80 :: u81 :: u82 :: u83 :: u84 :: u85 :: u86 :: u87 :: u88 :: u89 :: u90 :: u91 :: u92 :: u93 :: u94 :: u95 :: [])) []) wr := by
  conv => enter [2]; whnf
  have G := hM.c.gr
  have hdl := hM.c.dl
  have hsn := hM.c.hd.s.len
  have hqn := hM.c.hd.q.len
  have c11 : wr.cell? ⟨gl, 11, none⟩ = some (.int .i64 l.d.hl) := hM.bx.cell 11 (by show 11 < 25; decide)
  have c21 : wr.cell? ⟨gl, 21, none⟩ = some (.slice X.da X.dn X.dc) := hM.bx.cell 21 (by show 21 < 25; decide)
  have c22 : wr.cell? ⟨gl, 22, none⟩ = some (.int .i64 (l.a : Int)) := hM.bx.cell 22 (by show 22 < 25; decide)
  have c3 : wr.cell? ⟨gl, 3, none⟩ = some (.slice X.h.sa X.h.sn X.h.sc) := hM.bx.cell 3 (by show 3 < 25; decide)
  have c4 : wr.cell? ⟨gl, 4, none⟩ = some (.slice X.h.qa X.h.qn X.h.qc) := hM.bx.cell 4 (by show 4 < 25; decide)
  rcases h with ⟨h1, h2⟩ | ⟨h1, h2, h3, h4⟩
  · rw [h1] at c11
    have l2 : (0 : Int) < (ln : Int) := by omega
    clear h1 hdl hsn hqn hM
    go_wp2
    first | go_ret | skip
    exact ⟨rfl, G⟩
  · rw [h1] at c11
    rw [h3] at hsn
    rw [h4] at hqn
    have hsn : X.h.sn = 0 := hsn.symm
    have hqn : X.h.qn = 0 := hqn.symm
    rw [hsn] at c3
    rw [hqn] at c4
    rw [hdl, h2] at c21
    clear h1 h2 h3 h4 hdl hsn hqn hM
    go_wp2
    first | go_ret | skip
    exact ⟨rfl, G⟩
set_option maxHeartbeats 16000000 in
theorem co_t11 {u0 u1 u2 u4 u5 u6 u7 u8 u10 u11 u12 u13 u14 u15 u16 u17 u18 u19 u20 u21 u22 u23 u24 u25 u26 u27 u28 u29 u30 u31 u32 u33 u34 u35 u36 u37 u38 u39 u40 u41 u42 u43 u44 u45 u46 u47 u48 u49 u50 u51 u52 u53 u54 u55 u56 u57 u58 u59 u60 u61 u62 u63 u64 u65 u66 u67 u68 u69 u70 u71 u72 u73 u74 u75 u76 u77 u78 u79 u80 u81 u82 u83 u84 u85 u86 u87 u88 u89 u90 u91 u92 u93 u94 u95 : Value} (w w0 : World) (gl : Nat) (l0 : Lk) (X0 : Lx) (hM0 : LM w w0 gl l0 X0) (hQ0 : QI l0 0) (la : Option Addr) (ln lc : Nat) (ha0 : ln = 0 → l0.a = 0) :
    Code.wp Try.prog (tailR 11 (Try.f3.body.getD .skip)) (bodyPost Try.prog Try.f3 (fun e w' => e = .returned (.bool true) ∧ w.grownBy w' none)) (Act.mk (List.toArray (u0 :: u1 :: u2 :: (.slice la ln lc) :: u4 :: u5 :: u6 :: u7 :: u8 :: (.pointer (some ⟨gl, 0, none⟩)) :: u10 :: u11 :: u12 :: u13 :: u14 :: u15 :: u16 :: u17 :: u18 :: u19 :: u20 :: u21 :: u22 :: u23 :: u24 :: u25 :: u26 :: u27 :: u28 :: u29 :: u30 :: u31 :: u32 :: u33 :: u34 :: u35 :: u36 :: u37 :: u38 :: u39 :: u40 :: u41 :: u42 :: u43 :: u44 :: u45 :: u46 :: u47 :: u48 :: u49 :: u50 :: u51 :: u52 :: u53 :: u54 :: u55 :: u56 :: u57 :: u58 :: u59 :: u60 :: u61 :: u62 :: u63 :: u64 :: u65 :: u66 :: u67 :: u68 :: u69 :: u70 :: u71 :: u72 :: u73 :: u74 :: u75 :: u76 :: u77 :: u78 :: u79 :: u80 :: u81 :: u82 :: u83 :: u84 :: u85 :: u86 :: u87 :: u88 :: u89 :: u90 :: u91 :: u92 :: u93 :: u94 :: u95 :: [])) []) w0 := by
  conv => enter [2]; whnf
  refine wp_seq_k fun K0 hK0 => ?_
  have HK0 : Hid _ := hK0
  clear hK0
  go_wp2
  go_loopw [12, 13] (fun v12 v13 wr => ∃ (q : Nat) (l : Lk) (X : Lx), q ≤ 60 ∧ v12 = .int .i64 q ∧ LM w wr gl l X ∧ QI l (30 * q) ∧ Hid (ln = 0 → l.a = 0)) (fun v12 v13 _ => 60 - (intOf v12).toNat)
  case atStart => exact ⟨0, l0, X0, Nat.zero_le _, rfl, hM0, hQ0, ha0⟩
  case round =>
    obtain ⟨q, l, X, hq, rfl, hM, hQ, HA⟩ := hrel
    have c11 : wr.cell? ⟨gl, 11, none⟩ = some (.int .i64 l.d.hl) := hM.bx.cell 11 (by show 11 < 25; decide)
    obtain ⟨s, f, hL⟩ := hQ.li
    by_cases h1 : q < 60
    · have l1 : (q : Int) < 60 := by omega
      rcases hL.hi.hl with h2 | h2
      · rw [h2] at c11
        clear h2 hL
        refine wp_seq_k fun K1 hK1 => ?_
        have HK1 : Hid _ := hK1
        clear hK1
        go_wp2
        refine HK1.out _ _ ?_
        clear HK1
        refine wp_seq_k fun K2 hK2 => ?_
        have HK2 : Hid _ := hK2
        clear hK2
        refine wp_block ?_
        go_wp2
        go_loopw [13] (fun v13 wq => ∃ (j : Nat) (l : Lk) (X : Lx), j ≤ 30 ∧ v13 = .int .i64 j ∧ LM w wq gl l X ∧ QI l (30 * q + j) ∧ Hid (ln = 0 → l.a = 0)) (fun v13 _ => 30 - (intOf v13).toNat)
        case atStart => exact ⟨0, l, X, Nat.zero_le _, rfl, hM, hQ, HA⟩
        case round =>
          obtain ⟨j, l, X, hj, rfl, hM, hQ, HA⟩ := hrel
          by_cases h3 : j < 30
          · have l3 : (j : Int) < 30 := by omega
            obtain ⟨s, f, hL⟩ := hQ.li
            have HT := (tick_lk w _ gl l X hM s f hL (by have := hQ.wl; omega) (by have := hQ.ol; omega) 0 1000 0 (-1) false false (by decide) (by decide) (by decide) (by decide)).mono (R' := fun e w' => e = .returned (.bool true) ∧ ∃ l' X', LM w w' gl l' X' ∧ ∃ s f s' N, LI l s f ∧ LS l s f s' N ∧ l' = l.qk N) (fun e w' h => by
              obtain ⟨h1, l6, X6, hM6, _, _, _, h6⟩ := h
              exact ⟨h1, l6, X6, hM6, h6 rfl rfl rfl rfl rfl (by decide)⟩)
            have HQ : Hid _ := hQ
            clear hL hQ
            go_wp2_with (go_at_call 5; refine HT.mono ?_; rintro e w6 ⟨rfl, l6, X6, hM6, s6, f6, s7, N, k1, k2, k3⟩)
            subst k3
            have hQ6 := qi_step2 HQ.out k1 k2
            go_roundw
            case rel => exact ⟨j + 1, _, X6, by omega, by go_num, hM6, hQ6, HA⟩
            case measure => simp [intOf] <;> omega
          · obtain rfl : j = 30 := by omega
            go_wp2
            refine HK2.out _ _ ?_
            clear HK2
            go_wp2
            go_roundw
            case rel => exact ⟨q + 1, l, X, by omega, by go_num, hM, (by rw [show 30 * (q + 1) = 30 * q + 30 by omega]; exact hQ), HA⟩
            case measure => simp [intOf] <;> omega
      · have hln : 0 < ln := by
          have h9 := hL.za h2
          have := HA.out
          omega
        rw [h2] at c11
        have H2 : Hid _ := h2
        clear h2 hL
        go_wp2
        refine HK0.out _ _ ?_
        clear HK0
        exact co_t19 w _ gl l X hM la ln lc (.inl ⟨H2.out, hln⟩)
    · obtain rfl : q = 60 := by omega
      have hE := qi_end hQ
      have HE : Hid ((l.d.hl = 19 ∧ 0 < ln) ∨ (l.d.hl = 0 ∧ l.x.1 = l.a ∧ l.d.S = [] ∧ l.d.Q = [])) := by
        rcases hE with h2 | h2
        · refine .inl ⟨h2, ?_⟩
          have h9 := hL.za h2
          have := HA.out
          omega
        · exact .inr h2
      clear hE hL
      go_wp2
      refine HK0.out _ _ ?_
      clear HK0
      exact co_t19 w _ gl l X hM la ln lc HE.out
set_option maxHeartbeats 16000000 in
theorem once_walk (A Pt Pu : Int) (la : Option Addr) (ln lc : Nat) (F : Nat → Po) (w : World) (hA : (-9223372036854775808 ≤ A ∧ A ≤ 9223372036854775807)) (hPt : (-9223372036854775808 ≤ Pt ∧ Pt ≤ 9223372036854775807)) (hPu : (-9223372036854775808 ≤ Pu ∧ Pu ≤ 9223372036854775807)) (hl : RdPo w la ln lc F) :
    Calls Try.prog 3 #[.int .i64 A, .int .i64 Pt, .int .i64 Pu, .slice la ln lc] w fun e w' => e = .returned (.bool true) ∧ w.grownBy w' none := by
  have HBe := begins_any A Pt Pu w hA hPt hPu
  by_cases h300 : 300 < ln
  · have l3 : (300 : Int) < (ln : Int) := by omega
    go_enter Try.func3, Try.ntmps3
    go_wp2
    first | go_ret | skip
    exact ⟨rfl, World.grownBy.refl _ _⟩
  · have l3 : ¬ (300 : Int) < (ln : Int) := by omega
    go_enter Try.func3, Try.ntmps3
    refine wp_seq_k fun K0 hK0 => ?_
    have HK0 : Hid _ := hK0
    clear hK0
    go_wp2
    refine HK0.out _ _ ?_
    clear HK0
    refine wp_seq_k fun K1 hK1 => ?_
    have HK1 : Hid _ := hK1
    clear hK1
    go_wp2
    refine HK1.out _ _ ?_
    clear HK1
    refine wp_seq_k fun K2 hK2 => ?_
    have HK2 : Hid _ := hK2
    clear hK2
    have s1 : True := trivial
    go_wp2_with (first
      | (have _t := s1; clear s1; go_at_call 4; refine HBe.mono ?_; rintro e w3 ⟨ah, pa, pu, k1, k2, k3, rfl, y3⟩; have b4 := BxS.new w3 31 #[.int .i64 0, .int .i64 0, .int .i64 0, .slice none 0 0, .slice none 0 0, .int .i64 0, .int .i64 0, .int .i64 0, .int .i64 0, .int .i64 0, .int .i64 0, .int .i64 0, .int .i64 0, .int .i64 0, .int .i64 0, .bool false, .bool false, .bool false, .int .i64 0, .slice none 0 0, .slice none 0 0, .slice none 0 0, .int .i64 0, .int .i64 0, .bool false]; have G4 := World.grownBy_alloc w3 (.cells #[.int .i64 0, .int .i64 0, .int .i64 0, .slice none 0 0, .slice none 0 0, .int .i64 0, .int .i64 0, .int .i64 0, .int .i64 0, .int .i64 0, .int .i64 0, .int .i64 0, .int .i64 0, .int .i64 0, .int .i64 0, .bool false, .bool false, .bool false, .int .i64 0, .slice none 0 0, .slice none 0 0, .slice none 0 0, .int .i64 0, .int .i64 0, .bool false] 31) none; have s2 : True := trivial)
      | (have _t := s2; clear s2; refine wpList_stX _ rfl _ (.tmp 9) (.tmp 22) rfl w3.heap.size _ (lkA (hdG ah pa pu) hxG (0, false, false) (.slice none 0 0) (.slice none 0 0) (.slice none 0 0) 0 0 false) rfl rfl b4 Try.info_lk rfl (by simp [lkA, Value.oneCell']) ?_; intro w5 b5 u5))
    refine HK2.out _ _ ?_
    clear HK2
    have G5 : w.grownBy w5 none := grown_far (grown_trans y3 G4) u5 (fun z e => by cases e; exact y3.size)
    have hM5 := lm_begin G5 y3.size b5
    have hL5 := li_begin ah pa pu k1 k2 k3
    obtain ⟨gl, hgl⟩ : ∃ g, w3.heap.size = g := ⟨_, rfl⟩
    rw [hgl] at hM5 ⊢
    clear hgl b5 u5 G4 b4 y3 HBe
    have hz0 : (lkG ah pa pu).way.length ≤ 0 ∧ (lkG ah pa pu).old.length ≤ 0 ∧ (lkG ah pa pu).a = 0 := ⟨Nat.le_refl _, Nat.le_refl _, rfl⟩
    generalize lkG ah pa pu = l0 at *
    refine wp_seq_k fun K3 hK3 => ?_
    have HK3 : Hid _ := hK3
    clear hK3
    go_wp2
    refine HK3.out _ _ ?_
    clear HK3
    refine wp_seq_k fun K4 hK4 => ?_
    have HK4 : Hid _ := hK4
    clear hK4
    go_wp2
    go_loopw [11] (fun v11 wr => ∃ (i : Nat) (l : Lk) (X : Lx), i ≤ ln ∧ v11 = .int .i64 i ∧ LM w wr gl l X ∧ (∃ s f, LI l s f) ∧ l.way.length ≤ 80 * i ∧ l.old.length ≤ 80 * i ∧ Hid (i = 0 → l.a = 0)) (fun v11 _ => ln - (intOf v11).toNat)
    case atStart => exact ⟨0, l0, lxG, Nat.zero_le _, rfl, hM5, ⟨0, 0, hL5⟩, hz0.1, hz0.2.1, fun _ => hz0.2.2⟩
    case round =>
      obtain ⟨i, l, X, hi, rfl, hM, ⟨s, f, hL⟩, hwl, hol, HA⟩ := hrel
      by_cases hlt : i < ln
      · have lj : (i : Int) < (ln : Int) := by omega
        have hla := hl.keep hM.c.gr
        obtain ⟨lb, lo, hlae, _, hlc⟩ := hla.at' (by omega)
        have hok := hl.ok i hlt
        subst hlae
        have hra : wr.rangeAt lb (lo + i * 6) (F i).cells := fun j v hv => by
          have hj : j < 6 := (List.getElem?_eq_some_iff.1 hv).1
          rw [Nat.add_assoc, hlc i hlt j hj]
          exact hv
        generalize F i = fi at *
        obtain ⟨fa, fc, fl, ff, fd, fg⟩ := fi
        obtain ⟨o1, o2, o3, o4⟩ := hok
        have hra : wr.rangeAt lb (lo + i * 6) [.int .i64 fa, .int .i64 fc, .int .i64 fl, .bool ff, .bool fd, .int .i64 fg] := hra
        have HT := tick_lk w _ gl l X hM s f hL (by omega) (by omega) fa fc fl fg ff fd o1 o2 o3 o4
        clear hL hlc hla o1 o2 o3 o4
        have s1 : True := trivial
        go_wp2_with (first
          | (have _t := s1; clear s1; refine wpList_load_mid rfl _ (.tmp 34) rfl lb (lo + i * 6) rfl [.int .i64 fa, .int .i64 fc, .int .i64 fl, .bool ff, .bool fd, .int .i64 fg] _ hra Try.underlying36 rfl Try.info_po ?_; have s2 : True := trivial)
          | (have _t := s2; clear s2; go_at_call 5; refine HT.mono ?_; rintro e w6 ⟨rfl, l6, X6, hM6, hL6, hw6, ho6, _⟩))
        go_roundw
        case rel => exact ⟨i + 1, l6, X6, by omega, by go_num, hM6, hL6, by omega, by omega, fun e => absurd e (by omega)⟩
        case measure => simp [intOf] <;> omega
      · obtain rfl : i = ln := by omega
        have lj : ¬ (i : Int) < (i : Int) := by omega
        go_wp2
        refine HK4.out _ _ ?_
        clear HK4
        exact co_t11 w _ gl l X hM ⟨⟨s, f, hL⟩, by omega, by omega, .inr (.inl (by omega))⟩ la i lc HA.out
end
end Go.Proofs.Ytlfacjpehhcdiaa
