import Derived.Test.YthdjpbfknbafgaaLi2
namespace Go.Proofs.Ythdjpbfknbafgaa
open Go.RowKit
set_option maxRecDepth 100000
set_option linter.unusedVariables false
set_option linter.unusedSimpArgs false

section
/-! the machine -/
structure Rx where
  L : Nat
  F : Nat
  H : Nat
  M : Nat
structure Mx where
  mode : Nat
  tk : Nat
  la : Nat
  p : Nat
  tu : Bool
  mi : Nat
  da : List Nat
def wrX (s : Mx) (q : Nat) (t : Bool) : Nat := wrV s.la (s.tk - q - 32) t
def bgX (s : Mx) (q : Nat) (t : Bool) (m : Nat) : Mx := { s with mode := 1, p := q, tu := t, mi := m, da := [] }
def sgN (r : Rx) : Nat → Mx → Mx
  | 0, s => s
  | n + 1, s => if s.tk < s.p + 32 then s else if wrX s s.p false ≤ r.F then bgX s s.p false 0 else if wrX s s.p true ≤ r.F then bgX s s.p true 0 else sgN r n { s with p := s.p + 1 }
def sgX (r : Rx) (s : Mx) : Mx := sgN r (s.tk + 1 - s.p) s
theorem sgX_lt (r : Rx) (s : Mx) (h : s.tk < s.p + 32) : sgX r s = s := by
  unfold sgX
  cases h1 : s.tk + 1 - s.p with
  | zero => rfl
  | succ n => unfold sgN; rw [if_pos h]
theorem sgX_f (r : Rx) (s : Mx) (h : ¬ s.tk < s.p + 32) (h1 : wrX s s.p false ≤ r.F) : sgX r s = bgX s s.p false 0 := by
  unfold sgX
  rw [show s.tk + 1 - s.p = (s.tk - s.p) + 1 from by omega]
  unfold sgN; rw [if_neg h, if_pos h1]
theorem sgX_t (r : Rx) (s : Mx) (h : ¬ s.tk < s.p + 32) (h1 : ¬ wrX s s.p false ≤ r.F) (h2 : wrX s s.p true ≤ r.F) : sgX r s = bgX s s.p true 0 := by
  unfold sgX
  rw [show s.tk + 1 - s.p = (s.tk - s.p) + 1 from by omega]
  unfold sgN; rw [if_neg h, if_neg h1, if_pos h2]
theorem sgX_n (r : Rx) (s : Mx) (h : ¬ s.tk < s.p + 32) (h1 : ¬ wrX s s.p false ≤ r.F) (h2 : ¬ wrX s s.p true ≤ r.F) : sgX r s = sgX r { s with p := s.p + 1 } := by
  unfold sgX
  rw [show s.tk + 1 - s.p = (s.tk - s.p) + 1 from by omega, show (Mx.tk { s with p := s.p + 1 }) + 1 - (Mx.p { s with p := s.p + 1 }) = s.tk - s.p from by show s.tk + 1 - (s.p + 1) = _; omega]
  conv => lhs; unfold sgN
  rw [if_neg h, if_neg h1, if_neg h2]
/-- the machine's state in memory; its data's block is not the state's own -/
def kM : Nat → Nat
  | 0 => 32
  | 1 => 40
  | _ => 43
structure SyM (w : World) (g : Nat) (r : Rx) (s : Mx) (dv : Value) : Prop where
  blk : SyB w g r.L r.F r.H r.M (kM s.mode) (s.mode != 0) s.tk s.la s.p s.tu s.mi dv
  idle : s.mode ≠ 1 → dv = .slice none 0 0 ∧ s.da = []
  busy : s.mode = 1 → ∃ gd, dv = .slice (some ⟨gd, 0, none⟩) s.da.length r.L ∧ gd ≠ g ∧ w.ownsRow 0 5 1 dv s.da.length (bys s.da) ∧ IsB s.da
/-- where the machine's data lie: where they lay, or in new memory -/
def NewD (w : World) (dv dv' : Value) : Prop := ∀ x, dv'.ownBlock = some x → dv.ownBlock = some x ∨ w.heap.size ≤ x
/-- how many more bits the search has to look at -/
def leftS (g tk : Nat) (w : World) : Nat := match w.cell? ⟨g, 8, none⟩ with
  | some (.int _ n) => tk + 1 - n.toNat
  | _ => 0
theorem leftS_eq {g tk p : Nat} {w : World} (h : w.cell? ⟨g, 8, none⟩ = some (.int .i64 (p : Nat))) : leftS g tk w = tk + 1 - p := by
  unfold leftS; rw [h]; simp
set_option maxHeartbeats 4000000 in
theorem searching_any (g : Nat) (r : Rx) (s : Mx) (tv : Value) (w : World) (h : SyM w g r s (.slice none 0 0)) (hm : s.mode = 0) (hk : s.tk ≤ s.p + 33) (hp : s.p ≤ s.tk) (htk : s.tk ≤ 4611686018427387904) (hla : s.la < 18446744073709551616) (hL : r.L ≤ 2048) (hF : r.F ≤ 64) (h0 : s.tu = false ∧ s.mi = 0) :
    Calls Try.prog 32 #[.pointer (some ⟨g, 0, none⟩), tv] w fun e w' => e = .returned (.tuple #[]) ∧ ∃ dv', SyM w' g r (sgX r s) dv' ∧ NewD w (.slice none 0 0) dv' ∧ w.grownBy w' (some g) := by
  obtain ⟨mode, tk, la, p0, tu, mi, da⟩ := s
  obtain ⟨L, F, H, M⟩ := r
  simp only at hm hk hp htk hla h0 hL hF
  obtain ⟨rfl, rfl⟩ := h0
  subst hm
  obtain ⟨hB, hid, _⟩ := h
  obtain ⟨_, hda⟩ := hid (show (0 : Nat) ≠ 1 by decide)
  simp only at hda
  subst hda
  have hB0 : SyB w g L F H M 32 false tk la p0 false 0 (.slice none 0 0) := hB
  clear hB hid
  go_enter Try.func32, Try.ntmps32
  go_wp2
  go_loopw [6] (fun u wr => ∃ p : Nat, p0 ≤ p ∧ p ≤ tk + 1 ∧ w.grownBy wr (some g) ∧ SyB wr g L F H M 32 false tk la p false 0 (.slice none 0 0) ∧ Hid (sgX ⟨L, F, H, M⟩ ⟨0, tk, la, p0, false, 0, []⟩ = sgX ⟨L, F, H, M⟩ ⟨0, tk, la, p, false, 0, []⟩)) (fun u wr => leftS g tk wr)
  case atStart => exact ⟨p0, by omega, by omega, World.grownBy.refl _ _, hB0, rfl⟩
  case round =>
    obtain ⟨p, hp1, hp2, hgr, hBr, HS⟩ := hrel
    have c6 := hBr.c 6 (.int .i64 tk) rfl
    have c8 := hBr.c 8 (.int .i64 p) rfl
    have hw1 : IntKind.i64.wrap ((tk : Int) - (p : Int)) = (tk : Int) - (p : Int) := wrap_i64_in _ (by omega) (by omega)
    by_cases hlt : tk < p + 32
    · have HE : Hid (sgX ⟨L, F, H, M⟩ ⟨0, tk, la, p, false, 0, []⟩ = ⟨0, tk, la, p, false, 0, []⟩) := sgX_lt _ _ hlt
      have hlt' : ¬ (32 : Int) ≤ (tk : Int) - (p : Int) := by omega
      go_wp2
      go_quiet (fail)
      go_wp2
      go_end0
      rw [HS.out, HE.out]
      exact ⟨rfl, _, ⟨hBr.keep (grown_drewN _ _ _), fun _ => ⟨rfl, rfl⟩, fun h => absurd h (show ¬ (0 : Nat) = 1 by decide)⟩, fun x hx => .inl hx, grown_trans hgr (grown_drewN _ _ _)⟩
    · have hlt' : (32 : Int) ≤ (tk : Int) - (p : Int) := by omega
      obtain ⟨sh, hsh⟩ : ∃ sh, tk = p + 32 + sh := ⟨tk - p - 32, by omega⟩
      have hsh2 : sh ≤ 31 := by omega
      have HW : Hid (∀ t, wrX ⟨0, tk, la, p, false, 0, []⟩ p t = wrV la sh t) := fun t => by
        show wrV la (tk - p - 32) t = _
        rw [show tk - p - 32 = sh from by omega]
      have HQ : Hid (tk = p + 32 + sh) := hsh
      clear hsh
      obtain ⟨wo, rfl⟩ : ∃ wo : World, wo = wr := ⟨_, rfl⟩
      go_wp2
      go_quiet (fail)
      go_wp2
      have gA := World.grownBy_alloc (wo.drewN nq) (.cells #[.bool false, .bool true] 4) none
      have hBA := (hBr.keep (grown_drewN wo nq none)).keep gA
      have hnew := heap_alloc_new (wo.drewN nq) (.cells #[.bool false, .bool true] 4)
      have hgA : wo.grownBy ((wo.drewN nq).alloc (.cells #[.bool false, .bool true] 4)) none := grown_trans (grown_drewN _ _ _) gA
      have hns : (wo.drewN nq).heap.size = wo.heap.size := rfl
      rw [hns] at hnew
      generalize (wo.drewN nq).alloc (.cells #[.bool false, .bool true] 4) = wa at *
      have HC8 : Hid (wo.cell? ⟨g, 8, none⟩ = some (.int .i64 (p : Nat))) := c8
      clear gA hns c6 c8
      go_loopw [18] (fun i wx => ∃ n : Nat, n ≤ 2 ∧ i = .int .i64 n ∧ wo.grownBy wx none ∧ SyB wx g L F H M 32 false tk la p false 0 (.slice none 0 0) ∧ wx.heap[wo.heap.size]? = some (.cells #[.bool false, .bool true] 4) ∧ Hid ((1 ≤ n → ¬ wrV la sh false ≤ F) ∧ (2 ≤ n → ¬ wrV la sh true ≤ F))) (fun i _ => 2 - (intOf i).toNat)
      case atStart => exact ⟨0, by omega, rfl, hgA, hBA, hnew, show _ ∧ _ from ⟨fun h => absurd h (by decide), fun h => absurd h (by decide)⟩⟩
      case round =>
        obtain ⟨n, hn, rfl, hgx, hBx, hrow, HN⟩ := hrel
        have gx0 := hgr.size
        have gx1 := hgx.size
        have c8 := hBx.c 8 (.int .i64 p) rfl
        have f8 := hBx.f 8
        have cF := hBx.c 1 (.int .i64 F) rfl
        by_cases hn2 : n < 2
        · obtain ⟨tb, htb⟩ : ∃ tb, tb = decide (n = 1) := ⟨_, rfl⟩
          have ct : wr.cell? ⟨wo.heap.size, n, none⟩ = some (.bool tb) := by
            rw [cell_of_row wr _ n _ _ _ hrow, htb]
            obtain h | h : n = 0 ∨ n = 1 := by omega
            · subst h; rfl
            · subst h; rfl
          have hq := fun m => Calls.quiet_of (n := m) (wrong_any g L F H M 32 false tk la p false 0 (.slice none 0 0) (p : Int) p sh tb rfl HQ.out hsh2 htk hla (wr.drewN m) (hBx.keep (grown_drewN _ _ _)))
          have HT : Hid (tb = decide (n = 1)) := htb
          clear htb
          by_cases hfd : wrV la sh tb ≤ F
          · have hfd' : ((wrV la sh tb : Nat) : Int) ≤ (F : Int) := by omega
            have HX : Hid (sgX ⟨L, F, H, M⟩ ⟨0, tk, la, p, false, 0, []⟩ = bgX ⟨0, tk, la, p, false, 0, []⟩ p tb 0) := by
              show _ = _
              obtain h | h : n = 0 ∨ n = 1 := by omega
              · have e : tb = false := by rw [HT.out, h]; rfl
                subst e
                exact sgX_f _ _ hlt (by show wrX _ p false ≤ F; rw [HW.out]; exact hfd)
              · have e : tb = true := by rw [HT.out, h]; rfl
                subst e
                exact sgX_t _ _ hlt (by show ¬ wrX _ p false ≤ F; rw [HW.out]; exact HN.out.1 (by omega)) (by show wrX _ p true ≤ F; rw [HW.out]; exact hfd)
            go_wp2
            go_quiet (first | (go_at_call 36; with_reducible exact hq _))
            have c8d : (wr.drewN nq).cell? ⟨g, 8, none⟩ = some (.int .i64 (p : Nat)) := c8
            go_wp2_with (go_at_call 37; refine (begin_any g L F H M 32 false tk la p false 0 (.slice none 0 0) (p : Int) 0 p 0 tb rfl rfl hL _ (hBx.keep (grown_drewN _ _ _))).mono ?_; rintro e w2 ⟨rfl, gd, hgd, hB2, hrow2, g2⟩)
            have hgd' : wr.heap.size ≤ gd := hgd
            have hgl := hBx.lt
            refine bodyPost_ret (results_none rfl _ _ _) rfl ?_
            rw [HS.out, HX.out]
            refine ⟨rfl, _, ⟨hB2, fun h => absurd rfl h, fun _ => ⟨gd, rfl, by omega, hrow2, fun x hx => by cases hx⟩⟩, fun x hx => .inr ?_, grown_trans hgr (grown_trans (grown_weak (grown_trans hgx (grown_drewN _ nq _)) _) g2)⟩
            have e : gd = x := Option.some.inj hx
            omega
          · have hfd' : ¬ ((wrV la sh tb : Nat) : Int) ≤ (F : Int) := by omega
            go_wp2
            go_quiet (first | (go_at_call 36; with_reducible exact hq _))
            go_wp2
            go_roundw
            case rel =>
              refine ⟨n + 1, by omega, by go_num, grown_trans hgx (grown_drewN _ _ _), hBx.keep (grown_drewN _ _ _), hrow, show _ ∧ _ from ?_⟩
              obtain h | h : n = 0 ∨ n = 1 := by omega
              · have e : tb = false := by rw [HT.out, h]; rfl
                subst e
                exact ⟨fun _ => hfd, fun h2 => absurd h2 (by omega)⟩
              · have e : tb = true := by rw [HT.out, h]; rfl
                subst e
                exact ⟨fun _ => HN.out.1 (by omega), fun _ => hfd⟩
            case measure => simp [intOf]; omega
        · obtain rfl : n = 2 := by omega
          have HX : Hid (sgX ⟨L, F, H, M⟩ ⟨0, tk, la, p, false, 0, []⟩ = sgX ⟨L, F, H, M⟩ ⟨0, tk, la, p + 1, false, 0, []⟩) :=
            sgX_n _ _ hlt (by show ¬ wrX _ p false ≤ F; rw [HW.out]; exact HN.out.1 (by omega)) (by show ¬ wrX _ p true ≤ F; rw [HW.out]; exact HN.out.2 (by omega))
          go_wp2
          go_roundw
          case rel =>
            refine ⟨p + 1, by omega, by omega, grown_trans hgr (grown_trans (grown_weak hgx _) (grown_set _ _ _ _)), ?_, HS.out.trans HX.out⟩
            show _ = _
            rw [heap_setCell_same wr g 8 _ _ _ hBx]; exact congrArg (fun A => some (Obj.cells A _)) (sy8 (n := p + 1) ..)
          case measure =>
            rw [leftS_eq HC8.out, leftS_eq (p := p + 1) (by rw [World.cell?_setCell_same' _ _ _ (by rw [c8]; rfl)]; rfl)]
            omega
end

section
def deX (r : Rx) (s : Mx) : Mx :=
  if wrX s (s.p - 1) s.tu ≤ r.F then bgX s (s.p - 1) s.tu 0
  else if wrX s (s.p + 1) s.tu ≤ r.F then bgX s (s.p + 1) s.tu 0
  else if wrX s s.p (!s.tu) ≤ r.H then bgX s s.p (!s.tu) 0
  else if s.mi < r.M then bgX s s.p s.tu (s.mi + 1)
  else sgX r { s with mode := 0, tu := false, mi := 0 }
def exX (r : Rx) (s : Mx) : Mx := if s.tk = s.p + 32 then (if wrX s s.p s.tu ≤ r.H then bgX s s.p s.tu 0 else s) else if s.tk = s.p + 33 then deX r s else s
theorem begun {w w2 : World} {g gd L F H M tk la q m : Nat} {t : Bool} {s : Mx} (hB2 : SyB w2 g L F H M 40 true tk la q t m (.slice (some ⟨gd, 0, none⟩) 0 L)) (hgd : w.heap.size ≤ gd) (hgl : g < w.heap.size) (hrow : w2.ownsRow 0 5 1 (.slice (some ⟨gd, 0, none⟩) 0 L) 0 []) (hs : s = ⟨1, tk, la, q, t, m, []⟩) :
    SyM w2 g ⟨L, F, H, M⟩ s (.slice (some ⟨gd, 0, none⟩) 0 L) ∧ NewD w (.slice none 0 0) (.slice (some ⟨gd, 0, none⟩) 0 L) := by
  subst hs
  refine ⟨⟨hB2, fun h => absurd rfl h, fun _ => ⟨gd, rfl, by omega, hrow, fun x hx => by cases hx⟩⟩, fun x hx => .inr ?_⟩
  have e : gd = x := Option.some.inj hx
  omega
set_option maxHeartbeats 8000000 in
theorem decide_any (g : Nat) (r : Rx) (s : Mx) (tv : Value) (w : World) (h : SyM w g r s (.slice none 0 0)) (hm : s.mode = 2) (hk : s.tk = s.p + 33) (hp : 1 ≤ s.p) (htk : s.tk ≤ 4611686018427387904) (hla : s.la < 18446744073709551616) (hL : r.L ≤ 2048) (hF : r.F ≤ 64) (hmi : s.mi ≤ 64) :
    Calls Try.prog 44 #[.pointer (some ⟨g, 0, none⟩), tv] w fun e w' => e = .returned (.tuple #[]) ∧ ∃ dv', SyM w' g r (deX r s) dv' ∧ NewD w (.slice none 0 0) dv' ∧ w.grownBy w' (some g) := by
  obtain ⟨mode, tk, la, p, tu, mi, da⟩ := s
  obtain ⟨L, F, H, M⟩ := r
  simp only at hm hk hp htk hla hL hF hmi
  subst hm
  obtain ⟨hB, hid, _⟩ := h
  obtain ⟨_, hda⟩ := hid (show (2 : Nat) ≠ 1 by decide)
  simp only at hda
  subst hda
  have hB0 : SyB w g L F H M 43 true tk la p tu mi (.slice none 0 0) := hB
  clear hB hid
  have hgl := hB0.lt
  obtain ⟨pm, hpm⟩ : ∃ pm, p = pm + 1 := ⟨p - 1, by omega⟩
  obtain ⟨pp, hpp⟩ : ∃ pp, pp = p + 1 := ⟨_, rfl⟩
  have e1 : (p : Int) - 1 = (pm : Int) := by omega
  have e2 : (p : Int) + 1 = (pp : Int) := by omega
  have e3 : IntKind.i64.wrap ((p : Int) - 1) = (pm : Int) := by rw [wrap_i64_in _ (by omega) (by omega)]; exact e1
  have e4 : IntKind.i64.wrap ((p : Int) + 1) = (pp : Int) := by rw [wrap_i64_in _ (by omega) (by omega)]; exact e2
  have e6 : IntKind.i64.wrap (pm : Int) = (pm : Int) := wrap_i64_in _ (by omega) (by omega)
  have e7 : IntKind.i64.wrap (pp : Int) = (pp : Int) := wrap_i64_in _ (by omega) (by omega)
  have e5 : IntKind.i64.wrap ((mi : Int) + 1) = ((mi + 1 : Nat) : Int) := by rw [wrap_i64_in _ (by omega) (by omega)]; omega
  have Q1 := fun w1 (hB : SyB w1 g L F H M 43 true tk la p tu mi (.slice none 0 0)) m => Calls.quiet_of (n := m) (wrong_any g L F H M 43 true tk la p tu mi (.slice none 0 0) (pm : Int) pm 2 tu rfl (by omega) (by decide) htk hla (w1.drewN m) (hB.keep (grown_drewN _ _ _)))
  have Q2 := fun w1 (hB : SyB w1 g L F H M 43 true tk la p tu mi (.slice none 0 0)) m => Calls.quiet_of (n := m) (wrong_any g L F H M 43 true tk la p tu mi (.slice none 0 0) (pp : Int) pp 0 tu rfl (by omega) (by decide) htk hla (w1.drewN m) (hB.keep (grown_drewN _ _ _)))
  have Q3 := fun w1 (hB : SyB w1 g L F H M 43 true tk la p tu mi (.slice none 0 0)) m => Calls.quiet_of (n := m) (wrong_any g L F H M 43 true tk la p tu mi (.slice none 0 0) (p : Int) p 1 (!tu) rfl (by omega) (by decide) htk hla (w1.drewN m) (hB.keep (grown_drewN _ _ _)))
  have W1 : wrX ⟨2, tk, la, p, tu, mi, []⟩ (p - 1) tu = wrV la 2 tu := by show wrV la (tk - (p - 1) - 32) tu = _; rw [show tk - (p - 1) - 32 = 2 from by omega]
  have W2 : wrX ⟨2, tk, la, p, tu, mi, []⟩ (p + 1) tu = wrV la 0 tu := by show wrV la (tk - (p + 1) - 32) tu = _; rw [show tk - (p + 1) - 32 = 0 from by omega]
  have W3 : wrX ⟨2, tk, la, p, tu, mi, []⟩ p (!tu) = wrV la 1 (!tu) := by show wrV la (tk - p - 32) (!tu) = _; rw [show tk - p - 32 = 1 from by omega]
  have HD : Hid (deX ⟨L, F, H, M⟩ ⟨2, tk, la, p, tu, mi, []⟩ = if wrV la 2 tu ≤ F then ⟨1, tk, la, pm, tu, 0, []⟩ else if wrV la 0 tu ≤ F then ⟨1, tk, la, pp, tu, 0, []⟩ else if wrV la 1 (!tu) ≤ H then ⟨1, tk, la, p, !tu, 0, []⟩ else if mi < M then ⟨1, tk, la, p, tu, mi + 1, []⟩ else sgX ⟨L, F, H, M⟩ ⟨0, tk, la, p, false, 0, []⟩) := by
    show _ = _
    unfold deX
    simp only [W1, W2, W3]
    unfold bgX
    rw [show p - 1 = pm from by omega, hpp]
  have HK : Hid (tk = p + 33) := hk
  clear W1 W2 W3 hk hpm hpp
  have G0 := World.grownBy.refl w none
  have cFw := hB0.c 1 (.int .i64 F) rfl
  have cHw := hB0.c 2 (.int .i64 H) rfl
  have cMw := hB0.c 3 (.int .i64 M) rfl
  have c8w := hB0.c 8 (.int .i64 p) rfl
  have c9w := hB0.c 9 (.bool tu) rfl
  have cmw := hB0.c 10 (.int .i64 mi) rfl
  by_cases h1 : wrV la 2 tu ≤ F
  · have h1' : ((wrV la 2 tu : Nat) : Int) ≤ (F : Int) := by omega
    go_enter Try.func44, Try.ntmps44
    go_wp2
    have hq0 := Q1 w hB0
    go_quiet (first | (go_at_call 36; with_reducible exact hq0 _))
    clear hq0
    have hB1 := hB0.keep (grown_drewN w nq none)
    have G1 := grown_trans G0 (grown_drewN w nq none)
    generalize w.drewN nq = w1 at hB1 G1 ⊢
    clear cFw cHw cMw c8w c9w cmw
    have cFw1 := hB1.c 1 (.int .i64 F) rfl
    have cHw1 := hB1.c 2 (.int .i64 H) rfl
    have cMw1 := hB1.c 3 (.int .i64 M) rfl
    have c8w1 := hB1.c 8 (.int .i64 p) rfl
    have c9w1 := hB1.c 9 (.bool tu) rfl
    have cmw1 := hB1.c 10 (.int .i64 mi) rfl
    go_wp2
    have HB := fun w' (hg : w1.grownBy w' none) => begin_any g L F H M 43 true tk la p tu mi (.slice none 0 0) (pm : Int) 0 pm 0 tu rfl rfl hL w' (hB1.keep hg)
    go_region_with (go_at_call 37; refine (HB _ (by repeat (first | exact World.grownBy.refl _ _ | refine grown_trans ?_ (grown_drew _ _) | refine grown_trans ?_ (grown_drewN _ _ _)))).mono ?_; rintro e wb ⟨rfl, gd, hgd, hBb, hrowb, gb⟩)
    all_goals
      have hsz := G1.size
      go_wp2
      go_end0
      have R := begun (w := w) (s := deX ⟨L, F, H, M⟩ ⟨2, tk, la, p, tu, mi, []⟩) hBb (Nat.le_trans hsz hgd) hgl hrowb (by rw [HD.out, if_pos h1])
      exact ⟨rfl, _, R.1, R.2, grown_trans (grown_weak G1 _) (grown_trans (grown_drewN _ _ _) gb)⟩
  · have h1' : ¬ ((wrV la 2 tu : Nat) : Int) ≤ (F : Int) := by omega
    by_cases h2 : wrV la 0 tu ≤ F
    · have h2' : ((wrV la 0 tu : Nat) : Int) ≤ (F : Int) := by omega
      go_enter Try.func44, Try.ntmps44
      go_wp2
      have hq0 := Q1 w hB0
      go_quiet (first | (go_at_call 36; with_reducible exact hq0 _))
      clear hq0
      have hB1 := hB0.keep (grown_drewN w nq none)
      have G1 := grown_trans G0 (grown_drewN w nq none)
      generalize w.drewN nq = w1 at hB1 G1 ⊢
      clear cFw cHw cMw c8w c9w cmw
      have cFw1 := hB1.c 1 (.int .i64 F) rfl
      have cHw1 := hB1.c 2 (.int .i64 H) rfl
      have cMw1 := hB1.c 3 (.int .i64 M) rfl
      have c8w1 := hB1.c 8 (.int .i64 p) rfl
      have c9w1 := hB1.c 9 (.bool tu) rfl
      have cmw1 := hB1.c 10 (.int .i64 mi) rfl
      go_wp2
      have hq1 := Q2 w1 hB1
      go_quiet (first | (go_at_call 36; with_reducible exact hq1 _))
      clear hq1
      have hB2 := hB1.keep (grown_drewN w1 nq none)
      have G2 := grown_trans G1 (grown_drewN w1 nq none)
      generalize w1.drewN nq = w2 at hB2 G2 ⊢
      clear cFw1 cHw1 cMw1 c8w1 c9w1 cmw1
      have cFw2 := hB2.c 1 (.int .i64 F) rfl
      have cHw2 := hB2.c 2 (.int .i64 H) rfl
      have cMw2 := hB2.c 3 (.int .i64 M) rfl
      have c8w2 := hB2.c 8 (.int .i64 p) rfl
      have c9w2 := hB2.c 9 (.bool tu) rfl
      have cmw2 := hB2.c 10 (.int .i64 mi) rfl
      go_wp2
      have HB := fun w' (hg : w2.grownBy w' none) => begin_any g L F H M 43 true tk la p tu mi (.slice none 0 0) (pp : Int) 0 pp 0 tu rfl rfl hL w' (hB2.keep hg)
      go_region_with (go_at_call 37; refine (HB _ (by repeat (first | exact World.grownBy.refl _ _ | refine grown_trans ?_ (grown_drew _ _) | refine grown_trans ?_ (grown_drewN _ _ _)))).mono ?_; rintro e wb ⟨rfl, gd, hgd, hBb, hrowb, gb⟩)
      all_goals
        have hsz := G2.size
        go_wp2
        go_end0
        have R := begun (w := w) (s := deX ⟨L, F, H, M⟩ ⟨2, tk, la, p, tu, mi, []⟩) hBb (Nat.le_trans hsz hgd) hgl hrowb (by rw [HD.out, if_neg h1, if_pos h2])
        exact ⟨rfl, _, R.1, R.2, grown_trans (grown_weak G2 _) (grown_trans (grown_drewN _ _ _) gb)⟩
    · have h2' : ¬ ((wrV la 0 tu : Nat) : Int) ≤ (F : Int) := by omega
      by_cases h3 : wrV la 1 (!tu) ≤ H
      · have h3' : ((wrV la 1 (!tu) : Nat) : Int) ≤ (H : Int) := by omega
        go_enter Try.func44, Try.ntmps44
        go_wp2
        have hq0 := Q1 w hB0
        go_quiet (first | (go_at_call 36; with_reducible exact hq0 _))
        clear hq0
        have hB1 := hB0.keep (grown_drewN w nq none)
        have G1 := grown_trans G0 (grown_drewN w nq none)
        generalize w.drewN nq = w1 at hB1 G1 ⊢
        clear cFw cHw cMw c8w c9w cmw
        have cFw1 := hB1.c 1 (.int .i64 F) rfl
        have cHw1 := hB1.c 2 (.int .i64 H) rfl
        have cMw1 := hB1.c 3 (.int .i64 M) rfl
        have c8w1 := hB1.c 8 (.int .i64 p) rfl
        have c9w1 := hB1.c 9 (.bool tu) rfl
        have cmw1 := hB1.c 10 (.int .i64 mi) rfl
        go_wp2
        have hq1 := Q2 w1 hB1
        go_quiet (first | (go_at_call 36; with_reducible exact hq1 _))
        clear hq1
        have hB2 := hB1.keep (grown_drewN w1 nq none)
        have G2 := grown_trans G1 (grown_drewN w1 nq none)
        generalize w1.drewN nq = w2 at hB2 G2 ⊢
        clear cFw1 cHw1 cMw1 c8w1 c9w1 cmw1
        have cFw2 := hB2.c 1 (.int .i64 F) rfl
        have cHw2 := hB2.c 2 (.int .i64 H) rfl
        have cMw2 := hB2.c 3 (.int .i64 M) rfl
        have c8w2 := hB2.c 8 (.int .i64 p) rfl
        have c9w2 := hB2.c 9 (.bool tu) rfl
        have cmw2 := hB2.c 10 (.int .i64 mi) rfl
        go_wp2
        have hq2 := Q3 w2 hB2
        go_quiet (first | (go_at_call 36; with_reducible exact hq2 _))
        clear hq2
        have hB3 := hB2.keep (grown_drewN w2 nq none)
        have G3 := grown_trans G2 (grown_drewN w2 nq none)
        generalize w2.drewN nq = w3 at hB3 G3 ⊢
        clear cFw2 cHw2 cMw2 c8w2 c9w2 cmw2
        have cFw3 := hB3.c 1 (.int .i64 F) rfl
        have cHw3 := hB3.c 2 (.int .i64 H) rfl
        have cMw3 := hB3.c 3 (.int .i64 M) rfl
        have c8w3 := hB3.c 8 (.int .i64 p) rfl
        have c9w3 := hB3.c 9 (.bool tu) rfl
        have cmw3 := hB3.c 10 (.int .i64 mi) rfl
        go_wp2
        have HB := fun w' (hg : w3.grownBy w' none) => begin_any g L F H M 43 true tk la p tu mi (.slice none 0 0) (p : Int) 0 p 0 (!tu) rfl rfl hL w' (hB3.keep hg)
        go_region_with (go_at_call 37; refine (HB _ (by repeat (first | exact World.grownBy.refl _ _ | refine grown_trans ?_ (grown_drew _ _) | refine grown_trans ?_ (grown_drewN _ _ _)))).mono ?_; rintro e wb ⟨rfl, gd, hgd, hBb, hrowb, gb⟩)
        all_goals
          have hsz := G3.size
          go_wp2
          go_end0
          have R := begun (w := w) (s := deX ⟨L, F, H, M⟩ ⟨2, tk, la, p, tu, mi, []⟩) hBb (Nat.le_trans hsz hgd) hgl hrowb (by rw [HD.out, if_neg h1, if_neg h2, if_pos h3])
          exact ⟨rfl, _, R.1, R.2, grown_trans (grown_weak G3 _) (grown_trans (grown_drewN _ _ _) gb)⟩
      · have h3' : ¬ ((wrV la 1 (!tu) : Nat) : Int) ≤ (H : Int) := by omega
        by_cases h4 : mi < M
        · have h4' : (mi : Int) < (M : Int) := by omega
          go_enter Try.func44, Try.ntmps44
          go_wp2
          have hq0 := Q1 w hB0
          go_quiet (first | (go_at_call 36; with_reducible exact hq0 _))
          clear hq0
          have hB1 := hB0.keep (grown_drewN w nq none)
          have G1 := grown_trans G0 (grown_drewN w nq none)
          generalize w.drewN nq = w1 at hB1 G1 ⊢
          clear cFw cHw cMw c8w c9w cmw
          have cFw1 := hB1.c 1 (.int .i64 F) rfl
          have cHw1 := hB1.c 2 (.int .i64 H) rfl
          have cMw1 := hB1.c 3 (.int .i64 M) rfl
          have c8w1 := hB1.c 8 (.int .i64 p) rfl
          have c9w1 := hB1.c 9 (.bool tu) rfl
          have cmw1 := hB1.c 10 (.int .i64 mi) rfl
          go_wp2
          have hq1 := Q2 w1 hB1
          go_quiet (first | (go_at_call 36; with_reducible exact hq1 _))
          clear hq1
          have hB2 := hB1.keep (grown_drewN w1 nq none)
          have G2 := grown_trans G1 (grown_drewN w1 nq none)
          generalize w1.drewN nq = w2 at hB2 G2 ⊢
          clear cFw1 cHw1 cMw1 c8w1 c9w1 cmw1
          have cFw2 := hB2.c 1 (.int .i64 F) rfl
          have cHw2 := hB2.c 2 (.int .i64 H) rfl
          have cMw2 := hB2.c 3 (.int .i64 M) rfl
          have c8w2 := hB2.c 8 (.int .i64 p) rfl
          have c9w2 := hB2.c 9 (.bool tu) rfl
          have cmw2 := hB2.c 10 (.int .i64 mi) rfl
          go_wp2
          have hq2 := Q3 w2 hB2
          go_quiet (first | (go_at_call 36; with_reducible exact hq2 _))
          clear hq2
          have hB3 := hB2.keep (grown_drewN w2 nq none)
          have G3 := grown_trans G2 (grown_drewN w2 nq none)
          generalize w2.drewN nq = w3 at hB3 G3 ⊢
          clear cFw2 cHw2 cMw2 c8w2 c9w2 cmw2
          have cFw3 := hB3.c 1 (.int .i64 F) rfl
          have cHw3 := hB3.c 2 (.int .i64 H) rfl
          have cMw3 := hB3.c 3 (.int .i64 M) rfl
          have c8w3 := hB3.c 8 (.int .i64 p) rfl
          have c9w3 := hB3.c 9 (.bool tu) rfl
          have cmw3 := hB3.c 10 (.int .i64 mi) rfl
          go_wp2
          go_quiet (fail)
          have hB4 := hB3.keep (grown_drewN w3 nq none)
          have G4 := grown_trans G3 (grown_drewN w3 nq none)
          generalize w3.drewN nq = w4 at hB4 G4 ⊢
          clear cFw3 cHw3 cMw3 c8w3 c9w3 cmw3
          have cFw4 := hB4.c 1 (.int .i64 F) rfl
          have cHw4 := hB4.c 2 (.int .i64 H) rfl
          have cMw4 := hB4.c 3 (.int .i64 M) rfl
          have c8w4 := hB4.c 8 (.int .i64 p) rfl
          have c9w4 := hB4.c 9 (.bool tu) rfl
          have cmw4 := hB4.c 10 (.int .i64 mi) rfl
          go_wp2
          have HB := fun w' (hg : w4.grownBy w' none) => begin_any g L F H M 43 true tk la p tu mi (.slice none 0 0) (p : Int) ((mi + 1 : Nat) : Int) p (mi + 1) tu rfl rfl hL w' (hB4.keep hg)
          go_region_with (go_at_call 37; refine (HB _ (by repeat (first | exact World.grownBy.refl _ _ | refine grown_trans ?_ (grown_drew _ _) | refine grown_trans ?_ (grown_drewN _ _ _)))).mono ?_; rintro e wb ⟨rfl, gd, hgd, hBb, hrowb, gb⟩)
          all_goals
            have hsz := G4.size
            go_wp2
            go_end0
            have R := begun (w := w) (s := deX ⟨L, F, H, M⟩ ⟨2, tk, la, p, tu, mi, []⟩) hBb (Nat.le_trans hsz hgd) hgl hrowb (by rw [HD.out, if_neg h1, if_neg h2, if_neg h3, if_pos h4])
            exact ⟨rfl, _, R.1, R.2, grown_trans (grown_weak G4 _) (grown_trans (grown_drewN _ _ _) gb)⟩
        · have h4' : ¬ (mi : Int) < (M : Int) := by omega
          go_enter Try.func44, Try.ntmps44
          go_wp2
          have hq0 := Q1 w hB0
          go_quiet (first | (go_at_call 36; with_reducible exact hq0 _))
          clear hq0
          have hB1 := hB0.keep (grown_drewN w nq none)
          have G1 := grown_trans G0 (grown_drewN w nq none)
          generalize w.drewN nq = w1 at hB1 G1 ⊢
          clear cFw cHw cMw c8w c9w cmw
          have cFw1 := hB1.c 1 (.int .i64 F) rfl
          have cHw1 := hB1.c 2 (.int .i64 H) rfl
          have cMw1 := hB1.c 3 (.int .i64 M) rfl
          have c8w1 := hB1.c 8 (.int .i64 p) rfl
          have c9w1 := hB1.c 9 (.bool tu) rfl
          have cmw1 := hB1.c 10 (.int .i64 mi) rfl
          go_wp2
          have hq1 := Q2 w1 hB1
          go_quiet (first | (go_at_call 36; with_reducible exact hq1 _))
          clear hq1
          have hB2 := hB1.keep (grown_drewN w1 nq none)
          have G2 := grown_trans G1 (grown_drewN w1 nq none)
          generalize w1.drewN nq = w2 at hB2 G2 ⊢
          clear cFw1 cHw1 cMw1 c8w1 c9w1 cmw1
          have cFw2 := hB2.c 1 (.int .i64 F) rfl
          have cHw2 := hB2.c 2 (.int .i64 H) rfl
          have cMw2 := hB2.c 3 (.int .i64 M) rfl
          have c8w2 := hB2.c 8 (.int .i64 p) rfl
          have c9w2 := hB2.c 9 (.bool tu) rfl
          have cmw2 := hB2.c 10 (.int .i64 mi) rfl
          go_wp2
          have hq2 := Q3 w2 hB2
          go_quiet (first | (go_at_call 36; with_reducible exact hq2 _))
          clear hq2
          have hB3 := hB2.keep (grown_drewN w2 nq none)
          have G3 := grown_trans G2 (grown_drewN w2 nq none)
          generalize w2.drewN nq = w3 at hB3 G3 ⊢
          clear cFw2 cHw2 cMw2 c8w2 c9w2 cmw2
          have cFw3 := hB3.c 1 (.int .i64 F) rfl
          have cHw3 := hB3.c 2 (.int .i64 H) rfl
          have cMw3 := hB3.c 3 (.int .i64 M) rfl
          have c8w3 := hB3.c 8 (.int .i64 p) rfl
          have c9w3 := hB3.c 9 (.bool tu) rfl
          have cmw3 := hB3.c 10 (.int .i64 mi) rfl
          go_wp2
          go_quiet (fail)
          have hB4 := hB3.keep (grown_drewN w3 nq none)
          have G4 := grown_trans G3 (grown_drewN w3 nq none)
          generalize w3.drewN nq = w4 at hB4 G4 ⊢
          clear cFw3 cHw3 cMw3 c8w3 c9w3 cmw3
          have cFw4 := hB4.c 1 (.int .i64 F) rfl
          have cHw4 := hB4.c 2 (.int .i64 H) rfl
          have cMw4 := hB4.c 3 (.int .i64 M) rfl
          have c8w4 := hB4.c 8 (.int .i64 p) rfl
          have c9w4 := hB4.c 9 (.bool tu) rfl
          have cmw4 := hB4.c 10 (.int .i64 mi) rfl
          go_wp2_with (first
            | (go_at_call 25; refine (search_any g L F H M 43 true tk la p tu mi (.slice none 0 0) (p : Int) p rfl w4 hB4).mono ?_; rintro e w5 ⟨rfl, hB5, g5⟩)
            | (go_at_call 32; refine (searching_any g ⟨L, F, H, M⟩ ⟨0, tk, la, p, false, 0, []⟩ tv w5 ⟨hB5, fun _ => ⟨rfl, rfl⟩, fun h => absurd h (show ¬ (0 : Nat) = 1 by decide)⟩ rfl (Nat.le_of_eq HK.out) (by show p ≤ tk; rw [HK.out]; omega) htk hla hL hF ⟨rfl, rfl⟩).mono ?_; rintro e w6 ⟨rfl, dv, hS6, hN6, g6⟩))
          go_end0
          have hsz := Nat.le_trans G4.size g5.size
          rw [HD.out, if_neg h1, if_neg h2, if_neg h3, if_neg h4]
          exact ⟨rfl, dv, hS6, fun x hx => (hN6 x hx).elim .inl (fun h => .inr (Nat.le_trans hsz h)), grown_trans (grown_weak G4 _) (grown_trans g5 g6)⟩
end

section
set_option maxHeartbeats 8000000 in
theorem expecting_any (g : Nat) (r : Rx) (s : Mx) (tv : Value) (w : World) (h : SyM w g r s (.slice none 0 0)) (hm : s.mode = 2) (hk : s.tk ≤ s.p + 33) (hp1 : s.p ≤ s.tk) (hp : 1 ≤ s.p) (htk : s.tk ≤ 4611686018427387904) (hla : s.la < 18446744073709551616) (hL : r.L ≤ 2048) (hF : r.F ≤ 64) (hmi : s.mi ≤ 64) :
    Calls Try.prog 43 #[.pointer (some ⟨g, 0, none⟩), tv] w fun e w' => e = .returned (.tuple #[]) ∧ ∃ dv', SyM w' g r (exX r s) dv' ∧ NewD w (.slice none 0 0) dv' ∧ w.grownBy w' (some g) := by
  have hS := h
  obtain ⟨mode, tk, la, p, tu, mi, da⟩ := s
  obtain ⟨L, F, H, M⟩ := r
  simp only at hm hk hp1 hp htk hla hL hF hmi
  subst hm
  obtain ⟨hB, hid, _⟩ := h
  obtain ⟨_, hda⟩ := hid (show (2 : Nat) ≠ 1 by decide)
  simp only at hda
  subst hda
  have hB0 : SyB w g L F H M 43 true tk la p tu mi (.slice none 0 0) := hB
  clear hB hid
  have hgl := hB0.lt
  have c6 := hB0.c 6 (.int .i64 tk) rfl
  have c8 := hB0.c 8 (.int .i64 p) rfl
  by_cases h32 : tk = p + 32
  · have hd : IntKind.i64.wrap ((tk : Int) - (p : Int)) = 32 := by rw [wrap_i64_in _ (by omega) (by omega)]; omega
    have HX : Hid (exX ⟨L, F, H, M⟩ ⟨2, tk, la, p, tu, mi, []⟩ = if wrV la 0 tu ≤ H then ⟨1, tk, la, p, tu, 0, []⟩ else ⟨2, tk, la, p, tu, mi, []⟩) := by
      show _ = _
      unfold exX
      simp only [h32, if_true]
      unfold wrX bgX
      simp
    have q0 := fun w1 (hB : SyB w1 g L F H M 43 true tk la p tu mi (.slice none 0 0)) m => Calls.quiet_of (n := m) (wrong_any g L F H M 43 true tk la p tu mi (.slice none 0 0) (p : Int) p 0 tu rfl (by omega) (by decide) htk hla (w1.drewN m) (hB.keep (grown_drewN _ _ _)))
    have HK : Hid (tk = p + 32) := h32
    clear h32
    by_cases hh : wrV la 0 tu ≤ H
    · have hh' : ((wrV la 0 tu : Nat) : Int) ≤ (H : Int) := by omega
      go_enter Try.func43, Try.ntmps43
      go_wp2
      go_quiet (fail)
      have hB1 := hB0.keep (grown_drewN w nq none)
      have G1 := grown_drewN w nq none
      generalize w.drewN nq = w1 at hB1 G1 ⊢
      clear c6 c8
      have c8 := hB1.c 8 (.int .i64 p) rfl
      have c9 := hB1.c 9 (.bool tu) rfl
      have cH := hB1.c 2 (.int .i64 H) rfl
      have hq := q0 w1 hB1
      go_wp2
      go_quiet (first | (go_at_call 36; with_reducible exact hq _))
      have hB2 := hB1.keep (grown_drewN w1 nq none)
      have G2 := grown_trans G1 (grown_drewN w1 nq none)
      generalize w1.drewN nq = w2 at hB2 G2 ⊢
      clear c8 c9 cH hq
      have c8 := hB2.c 8 (.int .i64 p) rfl
      have c9 := hB2.c 9 (.bool tu) rfl
      have HB := fun w' (hg : w2.grownBy w' none) => begin_any g L F H M 43 true tk la p tu mi (.slice none 0 0) (p : Int) 0 p 0 tu rfl rfl hL w' (hB2.keep hg)
      go_wp2
      go_region_with (go_at_call 37; refine (HB _ (by repeat (first | exact World.grownBy.refl _ _ | refine grown_trans ?_ (grown_drew _ _) | refine grown_trans ?_ (grown_drewN _ _ _)))).mono ?_; rintro e wb ⟨rfl, gd, hgd, hBb, hrowb, gb⟩)
      all_goals
        have hsz := G2.size
        go_wp2
        go_end0
        have R := begun (w := w) (s := exX ⟨L, F, H, M⟩ ⟨2, tk, la, p, tu, mi, []⟩) hBb (Nat.le_trans hsz hgd) hgl hrowb (by rw [HX.out, if_pos hh])
        exact ⟨rfl, _, R.1, R.2, grown_trans (grown_weak G2 _) (grown_trans (grown_drewN _ _ _) gb)⟩
    · have hh' : ¬ ((wrV la 0 tu : Nat) : Int) ≤ (H : Int) := by omega
      go_enter Try.func43, Try.ntmps43
      go_wp2
      go_quiet (fail)
      have hB1 := hB0.keep (grown_drewN w nq none)
      have G1 := grown_drewN w nq none
      generalize w.drewN nq = w1 at hB1 G1 ⊢
      clear c6 c8
      have c8 := hB1.c 8 (.int .i64 p) rfl
      have c9 := hB1.c 9 (.bool tu) rfl
      have cH := hB1.c 2 (.int .i64 H) rfl
      have hq := q0 w1 hB1
      go_wp2
      go_quiet (first | (go_at_call 36; with_reducible exact hq _))
      have hB2 := hB1.keep (grown_drewN w1 nq none)
      have G2 := grown_trans G1 (grown_drewN w1 nq none)
      generalize w1.drewN nq = w2 at hB2 G2 ⊢
      go_wp2
      go_end0
      rw [HX.out, if_neg hh]
      exact ⟨rfl, _, ⟨hB2, fun _ => ⟨rfl, rfl⟩, fun h => absurd h (show ¬ (2 : Nat) = 1 by decide)⟩, fun x hx => .inl hx, grown_weak G2 _⟩
  · by_cases h33 : tk = p + 33
    · have hd : IntKind.i64.wrap ((tk : Int) - (p : Int)) = 33 := by rw [wrap_i64_in _ (by omega) (by omega)]; omega
      have HX : Hid (exX ⟨L, F, H, M⟩ ⟨2, tk, la, p, tu, mi, []⟩ = deX ⟨L, F, H, M⟩ ⟨2, tk, la, p, tu, mi, []⟩) := by
        show _ = _
        unfold exX
        rw [if_neg h32, if_pos h33]
      have HD := fun w1 (hB : SyB w1 g L F H M 43 true tk la p tu mi (.slice none 0 0)) => decide_any g ⟨L, F, H, M⟩ ⟨2, tk, la, p, tu, mi, []⟩ tv w1 ⟨hB, fun _ => ⟨rfl, rfl⟩, fun h => absurd h (show ¬ (2 : Nat) = 1 by decide)⟩ rfl h33 hp htk hla hL hF hmi
      have HK : Hid (tk = p + 33) := h33
      clear h32 h33
      go_enter Try.func43, Try.ntmps43
      go_wp2
      go_quiet (fail)
      have hB1 := hB0.keep (grown_drewN w nq none)
      have G1 := grown_drewN w nq none
      generalize w.drewN nq = w1 at hB1 G1 ⊢
      go_wp2_with (go_at_call 44; refine (HD w1 hB1).mono ?_; rintro e w2 ⟨rfl, dv, hS2, hN2, g2⟩)
      go_end0
      have hsz := G1.size
      rw [HX.out]
      exact ⟨rfl, dv, hS2, fun x hx => (hN2 x hx).elim .inl (fun h => .inr (Nat.le_trans hsz h)), grown_trans (grown_weak G1 _) g2⟩
    · obtain ⟨d, hd0⟩ : ∃ d, d = tk - p := ⟨_, rfl⟩
      have hd : IntKind.i64.wrap ((tk : Int) - (p : Int)) = (d : Int) := by rw [wrap_i64_in _ (by omega) (by omega)]; omega
      have n1 : ((d : Int) == 32) = false := by simp; omega
      have n2 : ((d : Int) == 33) = false := by simp; omega
      have HX : Hid (exX ⟨L, F, H, M⟩ ⟨2, tk, la, p, tu, mi, []⟩ = ⟨2, tk, la, p, tu, mi, []⟩) := by
        show _ = _
        unfold exX
        rw [if_neg h32, if_neg h33]
      clear h32 h33 hd0
      go_enter Try.func43, Try.ntmps43
      go_wp2
      go_quiet (fail)
      have hB1 := hB0.keep (grown_drewN w nq none)
      have G1 := grown_drewN w nq none
      generalize w.drewN nq = w1 at hB1 G1 ⊢
      go_wp2
      go_end0
      rw [HX.out]
      exact ⟨rfl, _, ⟨hB1, fun _ => ⟨rfl, rfl⟩, fun h => absurd h (show ¬ (2 : Nat) = 1 by decide)⟩, fun x hx => .inl hx, grown_weak G1 _⟩
end
end Go.Proofs.Ythdjpbfknbafgaa
