import Derived.Test.YthdjpbfknbafgaaTSy2
namespace Go.Proofs.Ythdjpbfknbafgaa
open Go.RowKit
set_option maxRecDepth 100000
set_option linter.unusedVariables false
set_option linter.unusedSimpArgs false

/-! the machine -/
structure Rx where
  L : Nat
  F : Nat
  H : Nat
  M : Nat
structure Mx where
  mode : Nat
  tk : Nat
  la : Nat
  p : Nat
  tu : Bool
  mi : Nat
  da : List Nat
def wrX (s : Mx) (q : Nat) (t : Bool) : Nat := wrV s.la (s.tk - q - 32) t
def bgX (s : Mx) (q : Nat) (t : Bool) (m : Nat) : Mx := { s with mode := 1, p := q, tu := t, mi := m, da := [] }
def sgN (r : Rx) : Nat → Mx → Mx
  | 0, s => s
  | n + 1, s => if s.tk < s.p + 32 then s else if wrX s s.p false ≤ r.F then bgX s s.p false 0 else if wrX s s.p true ≤ r.F then bgX s s.p true 0 else sgN r n { s with p := s.p + 1 }
def sgX (r : Rx) (s : Mx) : Mx := sgN r (s.tk + 1 - s.p) s
theorem sgX_lt (r : Rx) (s : Mx) (h : s.tk < s.p + 32) : sgX r s = s := by
  unfold sgX
  cases h1 : s.tk + 1 - s.p with
  | zero => rfl
  | succ n => unfold sgN; rw [if_pos h]
theorem sgX_f (r : Rx) (s : Mx) (h : ¬ s.tk < s.p + 32) (h1 : wrX s s.p false ≤ r.F) : sgX r s = bgX s s.p false 0 := by
  unfold sgX
  rw [show s.tk + 1 - s.p = (s.tk - s.p) + 1 from by omega]
  unfold sgN; rw [if_neg h, if_pos h1]
theorem sgX_t (r : Rx) (s : Mx) (h : ¬ s.tk < s.p + 32) (h1 : ¬ wrX s s.p false ≤ r.F) (h2 : wrX s s.p true ≤ r.F) : sgX r s = bgX s s.p true 0 := by
  unfold sgX
  rw [show s.tk + 1 - s.p = (s.tk - s.p) + 1 from by omega]
  unfold sgN; rw [if_neg h, if_neg h1, if_pos h2]
theorem sgX_n (r : Rx) (s : Mx) (h : ¬ s.tk < s.p + 32) (h1 : ¬ wrX s s.p false ≤ r.F) (h2 : ¬ wrX s s.p true ≤ r.F) : sgX r s = sgX r { s with p := s.p + 1 } := by
  unfold sgX
  rw [show s.tk + 1 - s.p = (s.tk - s.p) + 1 from by omega, show (Mx.tk { s with p := s.p + 1 }) + 1 - (Mx.p { s with p := s.p + 1 }) = s.tk - s.p from by show s.tk + 1 - (s.p + 1) = _; omega]
  conv => lhs; unfold sgN
  rw [if_neg h, if_neg h1, if_neg h2]
/-- the machine's state in memory; its data's block is not the state's own -/
def kM : Nat → Nat
  | 0 => 32
  | 1 => 40
  | _ => 43
structure SyM (w : World) (g : Nat) (r : Rx) (s : Mx) (dv : Value) : Prop where
  blk : SyB w g r.L r.F r.H r.M (kM s.mode) (s.mode != 0) s.tk s.la s.p s.tu s.mi dv
  idle : s.mode ≠ 1 → dv = .slice none 0 0 ∧ s.da = []
  busy : s.mode = 1 → ∃ gd, dv = .slice (some ⟨gd, 0, none⟩) s.da.length r.L ∧ gd ≠ g ∧ w.ownsRow 0 5 1 dv s.da.length (bys s.da) ∧ IsB s.da
/-- where the machine's data lie: where they lay, or in new memory -/
def NewD (w : World) (dv dv' : Value) : Prop := ∀ x, dv'.ownBlock = some x → dv.ownBlock = some x ∨ w.heap.size ≤ x
/-- how many more bits the search has to look at -/
def leftS (g tk : Nat) (w : World) : Nat := match w.cell? ⟨g, 8, none⟩ with
  | some (.int _ n) => tk + 1 - n.toNat
  | _ => 0
theorem leftS_eq {g tk p : Nat} {w : World} (h : w.cell? ⟨g, 8, none⟩ = some (.int .i64 (p : Nat))) : leftS g tk w = tk + 1 - p := by
  unfold leftS; rw [h]; simp
set_option maxHeartbeats 4000000 in
theorem searching_any (g : Nat) (r : Rx) (s : Mx) (tv : Value) (w : World) (h : SyM w g r s (.slice none 0 0)) (hm : s.mode = 0) (hk : s.tk ≤ s.p + 33) (hp : s.p ≤ s.tk) (htk : s.tk ≤ 4611686018427387904) (hla : s.la < 18446744073709551616) (hL : r.L ≤ 2048) (hF : r.F ≤ 64) (h0 : s.tu = false ∧ s.mi = 0) :
    Calls Try.prog 32 #[.pointer (some ⟨g, 0, none⟩), tv] w fun e w' => e = .returned (.tuple #[]) ∧ ∃ dv', SyM w' g r (sgX r s) dv' ∧ NewD w (.slice none 0 0) dv' ∧ w.grownBy w' (some g) := by
  obtain ⟨mode, tk, la, p0, tu, mi, da⟩ := s
  obtain ⟨L, F, H, M⟩ := r
  simp only at hm hk hp htk hla h0 hL hF
  obtain ⟨rfl, rfl⟩ := h0
  subst hm
  obtain ⟨hB, hid, _⟩ := h
  obtain ⟨_, hda⟩ := hid (show (0 : Nat) ≠ 1 by decide)
  simp only at hda
  subst hda
  have hB0 : SyB w g L F H M 32 false tk la p0 false 0 (.slice none 0 0) := hB
  clear hB hid
  go_enter Try.func32, Try.ntmps32
  go_wp2
  go_loopw [6] (fun u wr => ∃ p : Nat, p0 ≤ p ∧ p ≤ tk + 1 ∧ w.grownBy wr (some g) ∧ SyB wr g L F H M 32 false tk la p false 0 (.slice none 0 0) ∧ Hid (sgX ⟨L, F, H, M⟩ ⟨0, tk, la, p0, false, 0, []⟩ = sgX ⟨L, F, H, M⟩ ⟨0, tk, la, p, false, 0, []⟩)) (fun u wr => leftS g tk wr)
  case atStart => exact ⟨p0, by omega, by omega, World.grownBy.refl _ _, hB0, rfl⟩
  case round =>
    obtain ⟨p, hp1, hp2, hgr, hBr, HS⟩ := hrel
    have c6 := hBr.c 6 (.int .i64 tk) rfl
    have c8 := hBr.c 8 (.int .i64 p) rfl
    have hw1 : IntKind.i64.wrap ((tk : Int) - (p : Int)) = (tk : Int) - (p : Int) := wrap_i64_in _ (by omega) (by omega)
    by_cases hlt : tk < p + 32
    · have HE : Hid (sgX ⟨L, F, H, M⟩ ⟨0, tk, la, p, false, 0, []⟩ = ⟨0, tk, la, p, false, 0, []⟩) := sgX_lt _ _ hlt
      have hlt' : ¬ (32 : Int) ≤ (tk : Int) - (p : Int) := by omega
      go_wp2
      go_quiet (fail)
      go_wp2
      go_end0
      rw [HS.out, HE.out]
      exact ⟨rfl, _, ⟨hBr.keep (grown_drewN _ _ _), fun _ => ⟨rfl, rfl⟩, fun h => absurd h (show ¬ (0 : Nat) = 1 by decide)⟩, fun x hx => .inl hx, grown_trans hgr (grown_drewN _ _ _)⟩
    · have hlt' : (32 : Int) ≤ (tk : Int) - (p : Int) := by omega
      obtain ⟨sh, hsh⟩ : ∃ sh, tk = p + 32 + sh := ⟨tk - p - 32, by omega⟩
      have hsh2 : sh ≤ 31 := by omega
      have HW : Hid (∀ t, wrX ⟨0, tk, la, p, false, 0, []⟩ p t = wrV la sh t) := fun t => by
        show wrV la (tk - p - 32) t = _
        rw [show tk - p - 32 = sh from by omega]
      have HQ : Hid (tk = p + 32 + sh) := hsh
      clear hsh
      obtain ⟨wo, rfl⟩ : ∃ wo : World, wo = wr := ⟨_, rfl⟩
      go_wp2
      go_quiet (fail)
      go_wp2
      have gA := World.grownBy_alloc (wo.drewN nq) (.cells #[.bool false, .bool true] 4) none
      have hBA := (hBr.keep (grown_drewN wo nq none)).keep gA
      have hnew := heap_alloc_new (wo.drewN nq) (.cells #[.bool false, .bool true] 4)
      have hgA : wo.grownBy ((wo.drewN nq).alloc (.cells #[.bool false, .bool true] 4)) none := grown_trans (grown_drewN _ _ _) gA
      have hns : (wo.drewN nq).heap.size = wo.heap.size := rfl
      rw [hns] at hnew
      generalize (wo.drewN nq).alloc (.cells #[.bool false, .bool true] 4) = wa at *
      have HC8 : Hid (wo.cell? ⟨g, 8, none⟩ = some (.int .i64 (p : Nat))) := c8
      clear gA hns c6 c8
      go_loopw [18] (fun i wx => ∃ n : Nat, n ≤ 2 ∧ i = .int .i64 n ∧ wo.grownBy wx none ∧ SyB wx g L F H M 32 false tk la p false 0 (.slice none 0 0) ∧ wx.heap[wo.heap.size]? = some (.cells #[.bool false, .bool true] 4) ∧ Hid ((1 ≤ n → ¬ wrV la sh false ≤ F) ∧ (2 ≤ n → ¬ wrV la sh true ≤ F))) (fun i _ => 2 - (intOf i).toNat)
      case atStart => exact ⟨0, by omega, rfl, hgA, hBA, hnew, show _ ∧ _ from ⟨fun h => absurd h (by decide), fun h => absurd h (by decide)⟩⟩
      case round =>
        obtain ⟨n, hn, rfl, hgx, hBx, hrow, HN⟩ := hrel
        have gx0 := hgr.size
        have gx1 := hgx.size
        have c8 := hBx.c 8 (.int .i64 p) rfl
        have f8 := hBx.f 8
        have cF := hBx.c 1 (.int .i64 F) rfl
        by_cases hn2 : n < 2
        · obtain ⟨tb, htb⟩ : ∃ tb, tb = decide (n = 1) := ⟨_, rfl⟩
          have ct : wr.cell? ⟨wo.heap.size, n, none⟩ = some (.bool tb) := by
            rw [cell_of_row wr _ n _ _ _ hrow, htb]
            obtain h | h : n = 0 ∨ n = 1 := by omega
            · subst h; rfl
            · subst h; rfl
          have hq := fun m => Calls.quiet_of (n := m) (wrong_any g L F H M 32 false tk la p false 0 (.slice none 0 0) (p : Int) p sh tb rfl HQ.out hsh2 htk hla (wr.drewN m) (hBx.keep (grown_drewN _ _ _)))
          have HT : Hid (tb = decide (n = 1)) := htb
          clear htb
          by_cases hfd : wrV la sh tb ≤ F
          · have hfd' : ((wrV la sh tb : Nat) : Int) ≤ (F : Int) := by omega
            have HX : Hid (sgX ⟨L, F, H, M⟩ ⟨0, tk, la, p, false, 0, []⟩ = bgX ⟨0, tk, la, p, false, 0, []⟩ p tb 0) := by
              show _ = _
              obtain h | h : n = 0 ∨ n = 1 := by omega
              · have e : tb = false := by rw [HT.out, h]; rfl
                subst e
                exact sgX_f _ _ hlt (by show wrX _ p false ≤ F; rw [HW.out]; exact hfd)
              · have e : tb = true := by rw [HT.out, h]; rfl
                subst e
                exact sgX_t _ _ hlt (by show ¬ wrX _ p false ≤ F; rw [HW.out]; exact HN.out.1 (by omega)) (by show wrX _ p true ≤ F; rw [HW.out]; exact hfd)
            go_wp2
            go_quiet (first | (go_at_call 36; with_reducible exact hq _))
            have c8d : (wr.drewN nq).cell? ⟨g, 8, none⟩ = some (.int .i64 (p : Nat)) := c8
            go_wp2_with (go_at_call 37; refine (begin_any g L F H M 32 false tk la p false 0 (.slice none 0 0) (p : Int) 0 p 0 tb rfl rfl hL _ (hBx.keep (grown_drewN _ _ _))).mono ?_; rintro e w2 ⟨rfl, gd, hgd, hB2, hrow2, g2⟩)
            have hgd' : wr.heap.size ≤ gd := hgd
            have hgl := hBx.lt
            refine bodyPost_ret (results_none rfl _ _ _) rfl ?_
            rw [HS.out, HX.out]
            refine ⟨rfl, _, ⟨hB2, fun h => absurd rfl h, fun _ => ⟨gd, rfl, by omega, hrow2, fun x hx => by cases hx⟩⟩, fun x hx => .inr ?_, grown_trans hgr (grown_trans (grown_weak (grown_trans hgx (grown_drewN _ nq _)) _) g2)⟩
            have e : gd = x := Option.some.inj hx
            omega
          · have hfd' : ¬ ((wrV la sh tb : Nat) : Int) ≤ (F : Int) := by omega
            go_wp2
            go_quiet (first | (go_at_call 36; with_reducible exact hq _))
            go_wp2
            go_roundw
            case rel =>
              refine ⟨n + 1, by omega, by go_num, grown_trans hgx (grown_drewN _ _ _), hBx.keep (grown_drewN _ _ _), hrow, show _ ∧ _ from ?_⟩
              obtain h | h : n = 0 ∨ n = 1 := by omega
              · have e : tb = false := by rw [HT.out, h]; rfl
                subst e
                exact ⟨fun _ => hfd, fun h2 => absurd h2 (by omega)⟩
              · have e : tb = true := by rw [HT.out, h]; rfl
                subst e
                exact ⟨fun _ => HN.out.1 (by omega), fun _ => hfd⟩
            case measure => simp [intOf]; omega
        · obtain rfl : n = 2 := by omega
          have HX : Hid (sgX ⟨L, F, H, M⟩ ⟨0, tk, la, p, false, 0, []⟩ = sgX ⟨L, F, H, M⟩ ⟨0, tk, la, p + 1, false, 0, []⟩) :=
            sgX_n _ _ hlt (by show ¬ wrX _ p false ≤ F; rw [HW.out]; exact HN.out.1 (by omega)) (by show ¬ wrX _ p true ≤ F; rw [HW.out]; exact HN.out.2 (by omega))
          go_wp2
          go_roundw
          case rel =>
            refine ⟨p + 1, by omega, by omega, grown_trans hgr (grown_trans (grown_weak hgx _) (grown_set _ _ _ _)), ?_, HS.out.trans HX.out⟩
            show _ = _
            rw [heap_setCell_same wr g 8 _ _ _ hBx]; exact congrArg (fun A => some (Obj.cells A _)) (sy8 (n := p + 1) ..)
          case measure =>
            rw [leftS_eq HC8.out, leftS_eq (p := p + 1) (by rw [World.cell?_setCell_same' _ _ _ (by rw [c8]; rfl)]; rfl)]
            omega
end Go.Proofs.Ythdjpbfknbafgaa
