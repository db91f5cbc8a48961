import Derived.Test.YtpenggkefbbopaaDoorSMark
namespace Go.Proofs.YtpenggkefbbopaaDoor
open Go.RowKit
set_option maxRecDepth 100000
set_option linter.unusedVariables false
set_option linter.unusedSimpArgs false

/-- 'decode', whatever comes in -/
theorem decode_all (g n capw lo c capb : Nat) (ab : Option Addr) (W : List Nat) (H : List Bool) (w : World) (hW : Ans w lo (some ⟨g, 0, none⟩) n capw W) (hH : RdB w ab n capb H) (h0 : 0 < n) (hn : n ≤ 255) (hc : c ≤ 64) (hcn : c < n) :
    Calls Tryd.prog 11 #[.slice (some ⟨g, 0, none⟩) n capw, .int .i64 c, .slice ab n capb] w fun e w' => w.grownBy w' (some g) ∧
      ((decO W c H = none ∧ e = .returned (.agg #[.slice none 0 0, .slice none 0 0, .bool true])) ∨
       ∃ W' P ap np cp, decO W c H = some (W', P) ∧ e = .returned (.agg #[.slice (some ⟨g, 0, none⟩) (n - c : Nat) capw, .slice ap np cp, .bool false]) ∧ AnsI w' w.heap.size ap np cp P ∧ Ans w' lo (some ⟨g, 0, none⟩) n capw W') := by
  have hl := hH.len
  have hlW := hW.len
  by_cases hh : c < cntB H n
  · refine (decode_holes g n capw lo c capb ab W H w hW hH hn hc hh).mono ?_
    rintro e w' ⟨rfl, hg⟩
    exact ⟨grown_weak hg _, .inl ⟨by unfold decO; rw [hl, if_pos hh], rfl⟩⟩
  · by_cases hv : valL W c = []
    · refine (decode_clean g n capw lo c capb ab W H w hW hH h0 hn hc hcn (by omega) hv).mono ?_
      rintro e w' ⟨rfl, hg⟩
      exact ⟨grown_weak hg _, .inr ⟨W, [], none, 0, 0, by unfold decO; rw [hl, if_neg hh, if_pos hv], rfl, ansI_nil _ _, hW.keep hg⟩⟩
    · refine (decode_mended g n capw lo c capb ab W H w hW hH h0 hn hc hcn (by omega) hv _ _ rfl rfl).mono ?_
      rintro e w' ⟨ap, np, cp, hp, hA, hg, rfl⟩
      refine ⟨hg, ?_⟩
      by_cases hz : valL (mendL W (accA (valL W c) c H) (accS (valL W c) c H).2) c = []
      · refine .inr ⟨_, _, ap, np, cp, ?_, ?_, hp, hA⟩
        · unfold decO
          rw [hl, if_neg hh, if_neg hv, if_pos hz, hlW]
        · rw [if_pos hz]
      · refine .inl ⟨?_, ?_⟩
        · unfold decO
          rw [hl, if_neg hh, if_neg hv, if_neg hz]
        · rw [if_neg hz]
set_option maxHeartbeats 2000000 in
theorem Decode_with (a ah : Option Addr) (n cap m caph c : Nat) (W : List Nat) (H : List Bool) (w : World) (hp : Rd w a n cap W) (hc1 : 1 ≤ c) (hc : c ≤ 64) (hcn : c < n) (hn : n ≤ 255)
    (HM : Calls Tryd.prog 10 #[.slice ah m caph, .int .i64 n] w fun e w' => e = .returned (.tuple #[.slice (some ⟨w.heap.size, 0, none⟩) n n, .int .i64 0]) ∧ RdB w' (some ⟨w.heap.size, 0, none⟩) n n H ∧ w.grownBy w' none) :
    Calls Tryd.prog 7 #[.slice a n cap, .int .i64 c, .slice ah m caph] w fun e w' => w.grownBy w' none ∧
      ((decO W c H = none ∧ e = .returned (.tuple #[.slice none 0 0, .slice none 0 0, .int .i64 5])) ∨
       ∃ W' P a1 c1 ap np cp, decO W c H = some (W', P) ∧ e = .returned (.tuple #[.slice a1 (n - c : Nat) c1, .slice ap np cp, .int .i64 0]) ∧ AnsI w' w.heap.size ap np cp P ∧ Ans w' w.heap.size a1 (n - c) c1 (W'.take (n - c)) ∧ W'.length = n) := by
  have HF := rowFits_yes ((n : Int) - c) c w (by omega) (by omega) (by omega) (by omega)
  obtain ⟨O, hO⟩ : ∃ O, O = decO W c H := ⟨_, rfl⟩
  have HO : Hid (decO W c H = O) := hO.symm
  rw [← hO]
  clear hO
  go_enter Tryd.func7, Tryd.ntmps7
  go_wp2_with (first
    | (go_at_call 8; refine HF.mono ?_; rintro e w' ⟨rfl, hw⟩; have hw := hw.symm; subst hw)
    | (go_at_call 10; refine HM.mono ?_; rintro e w1 ⟨rfl, hH1, g01⟩)
    | (go_at_call 12; refine (clone_any a n cap W w1 (hp.keep g01) (by omega) (by omega)).mono ?_; rintro e w2 ⟨g, cw, rfl, hW2, g12⟩))
  refine (decode_all g n cw w1.heap.size c n _ W H w2 hW2 (hH1.keep g12) (by omega) hn hc hcn).mono ?_
  rintro e w3 ⟨g3, h3⟩
  rw [HO.out] at h3
  have hgl := hW2.new g rfl
  have g03 := grown_off (grown_trans g01 g12) g3 (fun g' e => by cases e; exact Nat.le_trans g01.size hgl)
  rcases h3 with ⟨h3, rfl⟩ | ⟨W', P, ap, np, cp, h3, rfl, hP3, hW3⟩
  · go_wp2
    go_ret3
    exact ⟨grown_trans g03 (World.grownBy_alloc _ _ none), .inl ⟨h3, rfl⟩⟩
  · go_wp2
    go_quiet (fail)
    go_wp2
    go_ret3
    have gE := grown_trans (World.grownBy_alloc w3 (.cells #[.slice (some ⟨g, 0, none⟩) (n - c : Nat) cw, .slice ap np cp, .bool false] 42) none) (grown_drewN _ nq none)
    exact ⟨grown_trans g03 gE, .inr ⟨W', P, some ⟨g, 0, none⟩, cw, ap, np, cp, h3, rfl, ⟨(hP3.keep gE).own, fun g' h => Nat.le_trans (grown_trans g01 g12).size (hP3.new g' h)⟩, ((hW3.cut (by omega)).keep gE).wide g01.size, hW3.len⟩⟩
end Go.Proofs.YtpenggkefbbopaaDoor
