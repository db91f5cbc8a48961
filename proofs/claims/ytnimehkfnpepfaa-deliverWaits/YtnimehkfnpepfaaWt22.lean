import Derived.Test.YtnimehkfnpepfaaWt16
import Derived.Test.YtnimehkfnpepfaaWt18
import Derived.Test.YtnimehkfnpepfaaWt20
import Derived.Test.YtnimehkfnpepfaaWt21
import Derived.Test.YtnimehkfnpepfaaWt2
import Derived.Test.YtnimehkfnpepfaaWt3
import Derived.Test.YtnimehkfnpepfaaWt4
import Derived.Test.YtnimehkfnpepfaaWt5
namespace Go.Proofs.Ytnimehkfnpepfaa
open Go.RowKit
set_option maxRecDepth 100000
set_option linter.unusedVariables false
set_option linter.unusedSimpArgs false

section
theorem ti_allT (V : Tv) : (tiT V).1.L = V.L ∧ (tiT V).1.G = V.G ∧ (tiT V).2.length ≤ 1 ∧ ∀ t, t ∈ (tiT V).2 → NtO t := by
  have hg : ∀ t, t ∈ sgL V.id (misL V.kn V.la V.G) → NtO t := fun t ht => by
    unfold sgL at ht
    by_cases e : (misL V.kn V.la V.G).length = 0
    · rw [if_pos e] at ht; cases ht
    · rw [if_neg e] at ht
      rw [List.mem_singleton.1 ht]
      exact ⟨by show 0 ≤ 100000; omega, by show (misL V.kn V.la V.G).length ≤ 100000; have := misL_len V.kn V.la V.G; omega⟩
  have hgl : (sgL V.id (misL V.kn V.la V.G)).length ≤ 1 := by
    unfold sgL
    by_cases e : (misL V.kn V.la V.G).length = 0
    · rw [if_pos e]; exact Nat.zero_le _
    · rw [if_neg e]; exact Nat.le_refl _
  unfold tiT
  by_cases e : V.st = 0 ∧ V.en = true
  · rw [if_pos e]
    by_cases e1 : wtN V.ti V.pa = 0
    · rw [if_pos e1]
      by_cases e2 : V.tr = V.li
      · rw [if_pos e2]; exact ⟨rfl, rfl, Nat.zero_le _, fun t ht => by cases ht⟩
      · rw [if_neg e2]; exact ⟨rfl, rfl, hgl, hg⟩
    · rw [if_neg e1]; exact ⟨rfl, rfl, Nat.zero_le _, fun t ht => by cases ht⟩
  · rw [if_neg e]
    by_cases e1 : V.st = 3 ∧ V.tr < V.li
    · rw [if_pos e1]
      by_cases e2 : wtN V.ti V.pa = 0
      · rw [if_pos e2]; exact ⟨rfl, rfl, Nat.le_refl _, fun t ht => one_ok ⟨by show 0 ≤ 100000; omega, by show 0 ≤ 100000; omega⟩ ht⟩
      · rw [if_neg e2]; exact ⟨rfl, rfl, Nat.zero_le _, fun t ht => by cases ht⟩
    · rw [if_neg e1]; exact ⟨rfl, rfl, Nat.zero_le _, fun t ht => by cases ht⟩
theorem wa_bounds (b : Bool) (V : Tv) (hn : V.L.length ≤ 140737488351232) (hm : V.G.length ≤ 8796093021952) : (waV b V).1.L.length ≤ 140737488351232 ∧ (waV b V).1.G.length ≤ 8796093021952 ∧ (waV b V).2.1.length ≤ 100000 ∧ ∀ t, t ∈ (waV b V).2.1 → NtO t := by
  cases b with
  | true =>
    obtain ⟨h1, h2, h3, h4⟩ := ti_allT V
    exact ⟨by show (tiT V).1.L.length ≤ _; rw [h1]; exact hn, by show (tiT V).1.G.length ≤ _; rw [h2]; exact hm, by show (tiT V).2.length ≤ _; omega, h4⟩
  | false => exact ⟨by show 0 ≤ _; omega, by show 0 ≤ _; omega, Nat.zero_le _, fun t ht => by cases ht⟩
theorem wh_len (b : Bool) (V : Tv) : (whV b V).2.1.length ≤ V.L.length := by
  unfold whV
  by_cases e : b = false
  · rw [if_pos e]; exact Nat.zero_le _
  · rw [if_neg e]
    by_cases e1 : V.st = 3
    · rw [if_pos e1]; show (V.L.take _).length ≤ _; rw [List.length_take]; omega
    · rw [if_neg e1]; exact Nat.zero_le _

open Go.ChangeShapes Go.WideShapes
set_option maxHeartbeats 8000000 in
theorem shown_taker {w : World} {full : Bool} {k : Nat} {v : Value} (h : (Sh.fcons 1 (.int .i64) (.fcons 1 .bool (.fcons 1 .str (.fcons 1 (.int .i64) (.fcons 1 .bool (.fcons 1 (.int .i64) (.fcons 1 (.int .i64) (.fcons 1 (.slice 2 16 (Sh.rep 1 (.int .i64) 2)) (.fcons 1 (.slice 1 1 (.int .u8)) (.fcons 1 (.int .i64) (.fcons 1 (.int .i64) (.fcons 1 (.int .i64) (.fcons 1 (.int .i64) (.fcons 1 (.int .i64) .fend)))))))))))))).shown w full v k) :
    ∃ (V : Tv) (a q : Option Addr) (c d : Nat), v = .agg (tkA V.id V.kn V.nm V.si V.en V.la V.su (.slice q V.G.length d) (.slice a V.L.length c) V.st V.ti V.pa V.tr V.li) ∧ Rd w a V.L.length c V.L ∧ RdG w q V.G.length d (giF V.G) ∧ (full = true → V.L.length ≤ 140737488351232) ∧ (full = true → V.G.length ≤ 8796093021952) := by
  obtain ⟨cs, rfl, hm⟩ := h
  obtain ⟨_, _, rfl, ⟨_, id, e0, r0⟩, _, _, rfl, ⟨_, kn, e1⟩, _, _, rfl, ⟨nm, e2, _⟩, _, _, rfl, ⟨_, si, e3, r3⟩, _, _, rfl, ⟨_, en, e4⟩, _, _, rfl, ⟨_, la, e5, r5⟩, _, _, rfl, ⟨_, su, e6, r6⟩, _, _, rfl, h7, _, _, rfl, h8, _, _, rfl, ⟨_, st, e9, r9⟩, _, _, rfl, ⟨_, ti, e10, r10⟩, _, _, rfl, ⟨_, pa, e11, r11⟩, _, _, rfl, ⟨_, tr, e12, r12⟩, _, _, rfl, ⟨_, li, e13, r13⟩, e14, _⟩ := hm
  obtain ⟨a, n, c, L, e8, hR, hf, _⟩ := met_bytes h8
  obtain ⟨q, m, d, F, e7, hG, hg, _⟩ := met_pairs h7
  have hl := hR.len
  subst hl
  have hG2 := hG.tab
  obtain ⟨G, hGG⟩ : ∃ G, tabG F m = G := ⟨_, rfl⟩
  have hlG : G.length = m := by rw [← hGG, tabG_len]
  rw [hGG] at hG2
  subst hlG
  refine ⟨⟨id, kn, nm, si, en, la, su, st, ti, pa, tr, li, L, G⟩, a, q, c, d, ?_, hR, hG2, (fun h9 => Nat.le_trans hR.le (hf h9)), (fun h9 => ?_)⟩
  · unfold tkA
    congr 1
    apply Array.toList_inj.1
    generalize cs.toList = l at *
    match l with
    | [] => simp at e0
    | [_] => simp at e1
    | [_, _] => simp at e2
    | [_, _, _] => simp at e3
    | [_, _, _, _] => simp at e4
    | [_, _, _, _, _] => simp at e5
    | [_, _, _, _, _, _] => simp at e6
    | [_, _, _, _, _, _, _] => simp at e7
    | [_, _, _, _, _, _, _, _] => simp at e8
    | [_, _, _, _, _, _, _, _, _] => simp at e9
    | [_, _, _, _, _, _, _, _, _, _] => simp at e10
    | [_, _, _, _, _, _, _, _, _, _, _] => simp at e11
    | [_, _, _, _, _, _, _, _, _, _, _, _] => simp at e12
    | [_, _, _, _, _, _, _, _, _, _, _, _, _] => simp at e13
    | [x0, x1, x2, x3, x4, x5, x6, x7, x8, x9, x10, x11, x12, x13] => simp_all
    | x0 :: x1 :: x2 :: x3 :: x4 :: x5 :: x6 :: x7 :: x8 :: x9 :: x10 :: x11 :: x12 :: x13 :: x14 :: r => simp at e14
  · have h1 := hg h9
    have h2 := hG.le
    unfold reachBytes at h1
    show G.length ≤ _
    omega

set_option maxHeartbeats 64000000 in
theorem waits_walk (V : Tv) (a q : Option Addr) (c d : Nat) (w : World) (hL : Rd w a V.L.length c V.L) (hG : RdG w q V.G.length d (giF V.G)) (hn : V.L.length ≤ 140737488351232) (hm : V.G.length ≤ 8796093021952) :
    Calls Try.prog 9 #[.agg (tkA V.id V.kn V.nm V.si V.en V.la V.su (.slice q V.G.length d) (.slice a V.L.length c) V.st V.ti V.pa V.tr V.li)] w fun e w' => e = .returned (.bool true) ∧ Below w.heap.size w w' := by
  have i14 := Try.info_tk
  have hbd := wa_bounds (tmB V.id V.kn V.nm V.si V.en V.la V.su (giF V.G) V.G.length V.L V.st V.ti V.pa V.tr V.li) V hn hm
  have hwl := wh_len (tmB V.id V.kn V.nm V.si V.en V.la V.su (giF V.G) V.G.length V.L V.st V.ti V.pa V.tr V.li) V
  have kR := fun wz (aa qq : Option Addr) (cc dd : Nat) (k1 : Rd wz aa V.L.length cc V.L) (k2 : RdG wz qq V.G.length dd (giF V.G)) => wait2_any V aa qq cc dd wz k1 k2 hn hm
  have kD := fun wz (k1 : Rd wz a V.L.length c V.L) (k2 : RdG wz q V.G.length d (giF V.G)) => rwait_any V a q c d wz k1 k2 hn hm
  have kW := fun wz (aa qq : Option Addr) (cc dd : Nat) (k1 : Rd wz aa V.L.length cc V.L) (k2 : RdG wz qq V.G.length dd (giF V.G)) => whole_any V aa qq cc dd wz k1 k2 hn hm
  have kX := fun wz (k1 : Rd wz a V.L.length c V.L) (k2 : RdG wz q V.G.length d (giF V.G)) => rwhole_any V a q c d wz k1 k2 hn hm
  generalize waV (tmB V.id V.kn V.nm V.si V.en V.la V.su (giF V.G) V.G.length V.L V.st V.ti V.pa V.tr V.li) V = R at hbd kR kD
  generalize whV (tmB V.id V.kn V.nm V.si V.en V.la V.su (giF V.G) V.G.length V.L V.st V.ti V.pa V.tr V.li) V = X at hwl kW kX
  obtain ⟨W, T, E⟩ := R
  obtain ⟨N, F, E2⟩ := X
  dsimp only at hbd kR kD hwl kW kX
  obtain ⟨bW1, bW2, hT1, hT2⟩ := hbd
  have KR : Hid _ := kR
  have HT2 : Hid _ := hT2
  clear kR hT2
  have kO := fun wz (k1 : Rd wz a V.L.length c V.L) (k : RdG wz q V.G.length d (giF V.G)) => takerOf_any V.id V.kn V.nm V.si V.en V.la V.su q V.G.length d a V.L.length c V.st V.ti V.pa V.tr V.li (giF V.G) V.L wz k1 k hn hm
  have kV := fun wz (aA aB qA qB : Option Addr) (cA cB dA dB : Nat) (k1 : Rd wz aA V.L.length cA V.L) (k2 : Rd wz aB V.L.length cB V.L) (k3 : RdG wz qA V.G.length dA (giF V.G)) (k4 : RdG wz qB V.G.length dB (giF V.G)) => sameTaker_any V.id V.kn V.nm V.si V.en V.la V.su V.st V.ti V.pa V.tr V.li aA aB qA qB V.L.length cA cB V.G.length dA dB V.L (giF V.G) (giF V.G) wz k1 k2 k3 k4 (fun _ _ => rfl)
  unfold tkA at kD kW kX kO kV
  have KV : Hid _ := kV
  clear kV
  have b1 := BxS.new w 48 #[.int .i64 V.id, .bool V.kn, .string V.nm, .int .i64 V.si, .bool V.en, .int .i64 V.la, .int .i64 V.su, .slice q V.G.length d, .slice a V.L.length c, .int .i64 V.st, .int .i64 V.ti, .int .i64 V.pa, .int .i64 V.tr, .int .i64 V.li]
  have y1 := World.grownBy_alloc w (.cells #[.int .i64 V.id, .bool V.kn, .string V.nm, .int .i64 V.si, .bool V.en, .int .i64 V.la, .int .i64 V.su, .slice q V.G.length d, .slice a V.L.length c, .int .i64 V.st, .int .i64 V.ti, .int .i64 V.pa, .int .i64 V.tr, .int .i64 V.li] 48) none
  unfold tkA
  generalize hw1 : w.alloc (.cells #[.int .i64 V.id, .bool V.kn, .string V.nm, .int .i64 V.si, .bool V.en, .int .i64 V.la, .int .i64 V.su, .slice q V.G.length d, .slice a V.L.length c, .int .i64 V.st, .int .i64 V.ti, .int .i64 V.pa, .int .i64 V.tr, .int .i64 V.li] 48) = w1 at b1 y1
  go_enter Try.func9, Try.ntmps9
  refine wp_seq_k fun K1 hK1 => ?_
  have HK1 : Hid _ := hK1
  clear hK1
  go_wp2
  refine HK1.out _ _ ?_
  clear HK1
  clear hw1
  refine wp_seq_k fun K2 hK2 => ?_
  have HK2 : Hid _ := hK2
  clear hK2
  have s0 : True := trivial
  go_wp2_with (first
    | (have _t := s0; clear s0; refine wpList_ldX _ rfl _ (.tmp 1) rfl w.heap.size _ rfl b1 Try.underlying48 i14 ?_; have s1 : True := trivial)
    | (go_at_call 41; have _t := s1; clear s1; refine (kD _ (hL.keep y1) (hG.keep y1)).mono ?_; rintro e w4 ⟨aW, cW, qW, dW, na, nc, xsN, rfl, hxN, hAW, hOW, hNW, y4⟩; have z4 := y4.size; have z3 := y1.size; have bn := BxS.new w4 48 #[.int .i64 0, .bool false, .string ⟨#[]⟩, .int .i64 0, .bool false, .int .i64 0, .int .i64 0, .slice none 0 0, .slice none 0 0, .int .i64 0, .int .i64 0, .int .i64 0, .int .i64 0, .int .i64 0]; have gn := World.grownBy_alloc w4 (.cells #[.int .i64 0, .bool false, .string ⟨#[]⟩, .int .i64 0, .bool false, .int .i64 0, .int .i64 0, .slice none 0 0, .slice none 0 0, .int .i64 0, .int .i64 0, .int .i64 0, .int .i64 0, .int .i64 0] 48) none; generalize hwn : w4.alloc (.cells #[.int .i64 0, .bool false, .string ⟨#[]⟩, .int .i64 0, .bool false, .int .i64 0, .int .i64 0, .slice none 0 0, .slice none 0 0, .int .i64 0, .int .i64 0, .int .i64 0, .int .i64 0, .int .i64 0] 48) = w5 at bn gn; have s3 : True := trivial)
    | (have _t := s3; clear s3; refine wpList_stX _ rfl _ (.tmp 3) (.tmp 19) rfl w4.heap.size _ _ rfl rfl bn i14 rfl (by simp [tkA, Value.oneCell']) ?_; intro w6 b3 u6))
  refine HK2.out _ _ ?_
  clear HK2
  try unfold tkA at b3
  have Y46 : w4.grownBy w6 none := grown_far gn u6 (fun z e => by have e := Option.some.inj e; omega)
  have Y6 : w1.grownBy w6 none := grown_trans y4 Y46
  have hAW := hAW.keep Y46
  have hOW := hOW.keep Y46
  have hNW := hNW.keep Y46
  obtain ⟨g3, hg3⟩ : ∃ g, w4.heap.size = g := ⟨_, rfl⟩
  rw [hg3] at b3 ⊢
  clear hg3 u6 bn gn hwn y4 z4 z3 kD Y46
  have G6 := grown_trans y1 Y6
  have b1 := b1.keep Y6 (by simp)
  refine wp_seq_k fun K2 hK2 => ?_
  have HK2 : Hid _ := hK2
  clear hK2
  have s0 : True := trivial
  go_wp2_with (first
    | (have _t := s0; clear s0; refine wpList_ldX _ rfl _ (.tmp 1) rfl w.heap.size _ rfl b1 Try.underlying48 i14 ?_; have s1 : True := trivial)
    | (go_at_call 42; have _t := s1; clear s1; refine (kX _ (hL.keep G6) (hG.keep G6)).mono ?_; rintro e w7 ⟨aF, cF, rfl, hAF, y7⟩))
  refine HK2.out _ _ ?_
  clear HK2
  have G7 := grown_trans G6 y7
  have b1 := b1.keep y7 (by simp)
  have b3 := b3.keep y7 (by simp)
  have hAW := hAW.keep y7
  have hOW := hOW.keep y7
  have hNW := hNW.keep y7
  clear kX
  refine wp_seq_k fun K2 hK2 => ?_
  have HK2 : Hid _ := hK2
  clear hK2
  have s0 : True := trivial
  go_wp2_with (first
    | (have _t := s0; clear s0; refine wpList_ldX _ rfl _ (.tmp 1) rfl w.heap.size _ rfl b1 Try.underlying48 i14 ?_; have s1 : True := trivial)
    | (go_at_call 40; have _t := s1; clear s1; refine (kO _ (hL.keep G7) (hG.keep G7)).mono ?_; rintro e w8 ⟨aH, cH, qH, dH, rfl, hAH, hOH, y8⟩; rw [tab_giF] at hOH; have z8 := y8.size; have bn := BxS.new w8 48 #[.int .i64 0, .bool false, .string ⟨#[]⟩, .int .i64 0, .bool false, .int .i64 0, .int .i64 0, .slice none 0 0, .slice none 0 0, .int .i64 0, .int .i64 0, .int .i64 0, .int .i64 0, .int .i64 0]; have gn := World.grownBy_alloc w8 (.cells #[.int .i64 0, .bool false, .string ⟨#[]⟩, .int .i64 0, .bool false, .int .i64 0, .int .i64 0, .slice none 0 0, .slice none 0 0, .int .i64 0, .int .i64 0, .int .i64 0, .int .i64 0, .int .i64 0] 48) none; generalize hwn : w8.alloc (.cells #[.int .i64 0, .bool false, .string ⟨#[]⟩, .int .i64 0, .bool false, .int .i64 0, .int .i64 0, .slice none 0 0, .slice none 0 0, .int .i64 0, .int .i64 0, .int .i64 0, .int .i64 0, .int .i64 0] 48) = w9 at bn gn; have s2 : True := trivial)
    | (have _t := s2; clear s2; refine wpList_stX _ rfl _ (.tmp 9) (.tmp 29) rfl w8.heap.size _ _ rfl rfl bn i14 rfl (by simp [tkA, Value.oneCell']) ?_; intro wa b9 ua))
  refine HK2.out _ _ ?_
  clear HK2
  try unfold tkA at b9
  have Y9 : w8.grownBy wa none := grown_far gn ua (fun z e => by have e := Option.some.inj e; omega)
  have hAH := hAH.keep Y9
  have hOH := hOH.keep Y9
  obtain ⟨g9, hg9⟩ : ∃ g, w8.heap.size = g := ⟨_, rfl⟩
  rw [hg9] at b9 ⊢
  have Ya : w7.grownBy wa none := grown_trans y8 Y9
  have Ga := grown_trans G7 Ya
  clear hg9 ua bn gn hwn y8 z8 kO Y9
  have b1 := b1.keep Ya (by simp)
  have b3 := b3.keep Ya (by simp)
  have hAW := hAW.keep Ya
  have hOW := hOW.keep Ya
  have hNW := hNW.keep Ya
  have hAF := hAF.keep Ya
  have iF : ∀ z, (Value.slice aF F.length cF).ownBlock = some z → z < wa.heap.size := fun z e => own_ltN hAF.own e
  have iH : ∀ z, (Value.slice aH V.L.length cH).ownBlock = some z → ¬ wa.heap.size ≤ z := fun z e => by have := own_ltN hAH.own e; omega
  have IH : Hid _ := iH
  clear iH
  refine wp_seq_k fun K2 hK2 => ?_
  have HK2 : Hid _ := hK2
  clear hK2
  have s0 : True := trivial
  go_wp2_with (first
    | (have _t := s0; clear s0; refine wpList_ldX _ rfl _ (.tmp 9) rfl g9 _ rfl b9 Try.underlying48 i14 ?_; have s1 : True := trivial)
    | (go_at_call 43; have _t := s1; clear s1; refine (kW _ _ _ _ _ hAH.rd hOH.rd).mono ?_; rintro e wb ⟨aA, cA, rfl, hAA, yb⟩))
  refine HK2.out _ _ ?_
  clear HK2
  have Gb := grown_trans Ga yb
  have b1 := b1.keep yb (by simp)
  have b3 := b3.keep yb (by simp)
  have b9 := b9.keep yb (by simp)
  have hAW := hAW.keep yb
  have hOW := hOW.keep yb
  have hNW := hNW.keep yb
  have hAF := hAF.keep yb
  have hAH := hAH.keep yb
  have hOH := hOH.keep yb
  refine wp_seq_k fun K2 hK2 => ?_
  have HK2 : Hid _ := hK2
  clear hK2
  have s0 : True := trivial
  go_wp2_with (first
    | (have _t := s0; clear s0; refine wpList_ldX _ rfl _ (.tmp 9) rfl g9 _ rfl b9 Try.underlying48 i14 ?_; have s1 : True := trivial)
    | (go_at_call 43; have _t := s1; clear s1; refine (kW _ _ _ _ _ hAH.rd hOH.rd).mono ?_; rintro e wc ⟨aB, cB, rfl, hAB, yc⟩))
  refine HK2.out _ _ ?_
  clear HK2
  have Gc := grown_trans Gb yc
  have b1 := b1.keep yc (by simp)
  have b3 := b3.keep yc (by simp)
  have b9 := b9.keep yc (by simp)
  have hAW := hAW.keep yc
  have hOW := hOW.keep yc
  have hNW := hNW.keep yc
  have hAF := hAF.keep yc
  have hAH := hAH.keep yc
  have hOH := hOH.keep yc
  have hAAc := hAA.keep yc
  clear kW
  have kA := takerAs_wait V W T E a q aW qW na c d cW dW nc _ xsN wc (fun wz => True) (fun x y h1 h2 => trivial) trivial (fun wz aa cc qq dd hI k1 k2 => KR.out wz aa qq cc dd k1 k2) (hL.keep Gc) (hG.keep Gc) hAW hOW hNW hxN hn hm bW1 bW2 hT1 HT2.out
  unfold tkA at kA
  have KA : Hid _ := kA
  clear kA
  have z9 := Ga.size
  have zb := yb.size
  have zc := yc.size
  have iA : ∀ z, (Value.slice aA F.length cA).ownBlock = some z → wa.heap.size ≤ z ∧ z < wb.heap.size := fun z e => ⟨hAA.new z e, own_ltN hAA.own e⟩
  have iB : ∀ z, (Value.slice aB F.length cB).ownBlock = some z → wb.heap.size ≤ z := fun z e => hAB.new z e
  have IA : Hid _ := iA
  have IB : Hid _ := iB
  have IF : Hid _ := iF
  clear iA iB iF
  refine wp_seq_k fun K3 hK3 => ?_
  have HK3 : Hid _ := hK3
  clear hK3
  have s0 : True := trivial
  go_wp2_with (first
    | (have _t := s0; clear s0; refine wpList_ldX _ rfl _ (.tmp 1) rfl w.heap.size _ rfl b1 Try.underlying48 i14 ?_; have s1 : True := trivial)
    | (have _t := s1; clear s1; refine wpList_ldX _ rfl _ (.tmp 3) rfl g3 _ rfl b3 Try.underlying48 i14 ?_; have s2 : True := trivial)
    | (go_at_call 39; have _t := s2; clear s2; refine Calls.mono KA.out ?_; rintro e wA ⟨rfl, yA⟩; have GA9 := grown_trans Gc yA; have hAA9 := hAAc.keep yA; have hAB9 := hAB.keep yA; have hAF9 := hAF.keep yA; have s3 : True := trivial)
    | (go_at_call 14; have _t := s3; clear s3; refine (twice_any aA aB aF F.length F.length F.length cA cB cF _ F wA hAA9 hAB9.rd hAF9.rd (by omega) (fun g off e e2 => by subst e; have h1 := IA.out g e2.symm; have h2 := IB.out g rfl; omega) (fun g off e e2 => by subst e; have h1 := IA.out g e2.symm; have h2 := IF.out g rfl; omega)).mono ?_; rintro e wt ⟨rfl, ut⟩; have b9t := (b9.keep yA (by simp)).keep ut (fun e => own_ty hAA9.own (b9.keep yA (by simp)) (by decide) e.symm); have b1t := (b1.keep yA (by simp)).keep ut (fun e => own_ty hAA9.own (b1.keep yA (by simp)) (by decide) e.symm); obtain ⟨c0, c1, c2, c3, c4, c5, c6, c7, c8, c9, c10, c11, c12, c13⟩ := (b9t).cell14; obtain ⟨d0, d1, d2, d3, d4, d5, d6, d7, d8, d9, d10, d11, d12, d13⟩ := (b1t).cell14; have Gt := grown_far GA9 ut (fun z e => by have h1 := IA.out z e; omega); have hAHt := (hAH.keep yA).kRR ut (fun z e e2 => by have h1 := IA.out z e; have h2 := own_ltN (hAH.keep yA).own e2; exact IH.out z e2 h1.1); have hOHt := (hOH.keep yA).kR ut (fun z e => by obtain ⟨cs, hb⟩ := own_bxS hAA9.own e; exact (hOH.keep yA).neB hb (by decide)); have s4 : True := trivial)
    | (go_at_call 29; have _t := s4; clear s4; refine (KV.out _ _ _ _ _ _ _ _ _ hAHt.rd (hL.keep Gt) hOHt.rd (hG.keep Gt)).mono ?_; rintro e wu ⟨rfl, yu⟩))
  refine HK3.out _ _ ?_
  clear HK3
  go_wp2
  go_ret
  exact ⟨rfl, (Below.refl _ _).grown (grown_trans Gt yu) (Nat.le_refl _) (fun k hk => by cases hk)⟩
end
end Go.Proofs.Ytnimehkfnpepfaa
