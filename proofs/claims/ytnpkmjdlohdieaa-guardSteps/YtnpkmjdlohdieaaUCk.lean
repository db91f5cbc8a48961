import Derived.Test.YtnpkmjdlohdieaaUMo
namespace Go.Proofs.Ytnpkmjdlohdieaa
open Go.RowKit
set_option maxRecDepth 100000
set_option linter.unusedVariables false
set_option linter.unusedSimpArgs false
theorem results_cell1 {fn : Func} {p : Tmp} {ty : TypeId} (h : fn.results = #[.cell p ty]) (tmps : Array Value) (P : Program) (w : World) (a : Addr) (v : Value) (ha : tmps.getD p undef = .pointer (some a)) (hl : (loadVar ty a).run P w = .ok v w) :
    (results fn tmps).run P w = .ok v w := by
  simp only [results, h]
  rw [Array.getD_eq_getD_getElem?] at ha
  simp [Sem.run_bind, Result.andThen]
  rw [ha]
  simp [asAddr, hl]
/-- a slice of monitors as it is read -/
structure RdM (w : World) (a : Option Addr) (n cap : Nat) (F : Nat → Mo) : Prop where
  le : n ≤ cap
  max : cap ≤ maxLen
  nil : a = none → cap = 0
  at' : 0 < n → ∃ b off, a = some ⟨b, off, none⟩ ∧ b < w.heap.size ∧ ∀ i, i < n → ∀ j, j < 6 → w.cell? ⟨b, off + (i * 6 + j), none⟩ = (F i).cells[j]?
theorem RdM.keep {w w' : World} {a : Option Addr} {n cap : Nat} {F : Nat → Mo} (h : RdM w a n cap F) (hg : w.grownBy w' none) : RdM w' a n cap F :=
  ⟨h.le, h.max, h.nil, fun h0 => by
    obtain ⟨b, off, e, hb, hc⟩ := h.at' h0
    refine ⟨b, off, e, Nat.lt_of_lt_of_le hb hg.size, fun i hi j hj => ?_⟩
    rw [← hc i hi j hj]
    unfold World.cell?
    rw [hg.block b hb (by simp)]⟩
theorem RdM.six {w : World} {b off n cap : Nat} {F : Nat → Mo} (h : RdM w (some ⟨b, off, none⟩) n cap F) (i : Nat) (hi : i < n) :
    w.cell? ⟨b, off + i * 6, none⟩ = some (.int .i64 (F i).of') ∧ w.cell? ⟨b, off + i * 6 + 1, none⟩ = some (.int .i64 (F i).lo) ∧ w.cell? ⟨b, off + i * 6 + 2, none⟩ = some (.int .i64 (F i).hi) ∧ w.cell? ⟨b, off + i * 6 + 3, none⟩ = some (.int .i64 (F i).fr) ∧ w.cell? ⟨b, off + i * 6 + 4, none⟩ = some (.int .i64 (F i).ti) ∧ w.cell? ⟨b, off + i * 6 + 5, none⟩ = some (.string (F i).th) := by
  obtain ⟨_, _, e, _, hc⟩ := h.at' (by omega)
  cases e
  exact ⟨hc i hi 0 (by decide), hc i hi 1 (by decide), hc i hi 2 (by decide), hc i hi 3 (by decide), hc i hi 4 (by decide), hc i hi 5 (by decide)⟩
/-- the first monitor of which something is wrong: f of them are left, from i on; r: what there is else -/
def fbM (F : Nat → Mo) (r : Nat × Nat) : Nat → Nat → Nat × Nat
  | 0, _ => r
  | f + 1, i => if moE (F i) = 0 then fbM F r f (i + 1) else (moE (F i), i)
/-- what is wrong with a guard -/
def gfP (F : Nat → Mo) (n : Nat) (si mo wi : Int) (sa : ByteArray) : Nat × Nat := if 32 < n then (1, 0) else fbM F (grE si mo wi sa, 0) n 0
theorem fbM_step (F : Nat → Mo) (r : Nat × Nat) (n k : Nat) (hk : k < n) (h : moE (F k) = 0) : fbM F r (n - (k + 1)) (k + 1) = fbM F r (n - k) k := by
  rw [show n - k = (n - (k + 1)) + 1 by omega]
  exact (if_pos h).symm
theorem fbM_stop (F : Nat → Mo) (r : Nat × Nat) (n k : Nat) (hk : k < n) (h : ¬ moE (F k) = 0) : fbM F r (n - k) k = (moE (F k), k) := by
  rw [show n - k = (n - (k + 1)) + 1 by omega]
  exact if_neg h
theorem Try.info_ft : (Try.prog.info? 34).map (fun i => i.size) = some 2 := by kernel_rfl
def ftV (p : Nat × Nat) : Value := .agg #[.int .i64 (p.1 : Int), .int .i64 (p.2 : Int)]
set_option maxHeartbeats 8000000 in
theorem check_any (ma : Option Addr) (n mc : Nat) (si mo wi : Int) (sa : ByteArray) (F : Nat → Mo) (w : World) (hM : RdM w ma n mc F) : Calls Try.prog 9 #[.agg #[.slice ma n mc, .int .i64 si, .int .i64 mo, .int .i64 wi, .string sa]] w fun e w' => e = .returned (ftV (gfP F n si mo wi sa)) ∧ w.grownBy w' none := by
  have b0 := BxS.new w 24 #[.slice ma n mc, .int .i64 si, .int .i64 mo, .int .i64 wi, .string sa]
  have g0 := World.grownBy_alloc w (.cells #[.slice ma n mc, .int .i64 si, .int .i64 mo, .int .i64 wi, .string sa] 24) none
  generalize hw0 : w.alloc (.cells #[.slice ma n mc, .int .i64 si, .int .i64 mo, .int .i64 wi, .string sa] 24) = w0 at b0 g0
  have hz0 : w0.heap.size = w.heap.size + 1 := by rw [← hw0]; simp
  have b1 := BxS.new w0 34 #[.int .i64 0, .int .i64 0]
  have g1 := World.grownBy_alloc w0 (.cells #[.int .i64 0, .int .i64 0] 34) none
  generalize hw1 : w0.alloc (.cells #[.int .i64 0, .int .i64 0] 34) = w1 at b1 g1
  rw [hz0] at b1
  have b01 := b0.keep g1 (by simp)
  have G1 := grown_trans g0 g1
  obtain ⟨c0, c1, c2, c3, c4⟩ := b01.cell5
  have i2 := Try.info_ft
  have t2 : True := trivial
  by_cases hn : 32 < n
  · have hn' : (32 : Int) < (n : Int) := by omega
    have e : gfP F n si mo wi sa = (1, 0) := if_pos hn
    rw [e]
    go_enter Try.func9, Try.ntmps9
    go_wp2_with (have _t := t2; refine wpList_stX _ rfl _ (.tmp 2) (.tmp 10) rfl (w.heap.size + 1) _ _ rfl rfl b1 i2 rfl (by simp [Value.oneCell']) ?_; clear t2; intro w9 b9 g9)
    refine bodyPost_ret (results_cell1 rfl _ _ _ ⟨w.heap.size + 1, 0, none⟩ _ rfl (BxS.load (t := 34) b9 Try.underlying34 i2)) rfl ?_
    exact ⟨rfl, grown_far G1 g9 (fun q e => by have e : w.heap.size + 1 = q := Option.some.inj e; omega)⟩
  · have hn' : ¬ (32 : Int) < (n : Int) := by omega
    have HG : Hid (gfP F n si mo wi sa = fbM F (grE si mo wi sa, 0) n 0) := if_neg hn
    rw [HG.out]
    clear HG
    have hwr := fun wz => wrongRest_any ma n mc si mo wi sa wz
    go_enter Try.func9, Try.ntmps9
    go_wp2
    go_loopw [14] (fun i wr => ∃ k : Nat, k ≤ n ∧ i = .int .i64 k ∧ w1.grownBy wr none ∧ fbM F (grE si mo wi sa, 0) (n - k) k = fbM F (grE si mo wi sa, 0) n 0) (fun i _ => n - (intOf i).toNat)
    case atStart => exact ⟨0, by omega, rfl, World.grownBy.refl _ _, rfl⟩
    case round =>
      obtain ⟨k, hk, rfl, hgr, HK⟩ := hrel
      have HK' : Hid (fbM F (grE si mo wi sa, 0) (n - k) k = fbM F (grE si mo wi sa, 0) n 0) := HK
      clear HK c0 c1 c2 c3 c4
      by_cases hlt : k < n
      · have hlt' : (k : Int) < (n : Int) := by omega
        obtain ⟨b, off, rfl, hbw, _⟩ := hM.at' (by omega)
        obtain ⟨k0, k1, k2, k3, k4, k5⟩ := ((hM.keep G1).keep hgr).six k hlt
        have hwm := fun wz => wrongMonitor_any (F k).of' (F k).lo (F k).hi (F k).fr (F k).ti (F k).th wz
        have br := b1.keep hgr (by simp)
        have HE : Hid (moE ⟨(F k).of', (F k).lo, (F k).hi, (F k).fr, (F k).ti, (F k).th⟩ = moE (F k)) := rfl
        rw [HE.out] at hwm
        by_cases hz : moE (F k) = 0
        · have HS := fbM_step F (grE si mo wi sa, 0) n k hlt hz
          rw [HK'.out] at HS
          have HS' : Hid (fbM F (grE si mo wi sa, 0) (n - (k + 1)) (k + 1) = fbM F (grE si mo wi sa, 0) n 0) := HS
          clear HS HK' HE
          rw [hz] at hwm
          clear hz
          go_wp2_with (go_at_call 22; refine (hwm _).mono ?_; rintro e w3 ⟨rfl, g3⟩)
          go_roundw
          case rel => exact ⟨k + 1, by omega, by go_num, grown_trans (grown_trans hgr (World.grownBy_alloc _ _ none)) g3, HS'.out⟩
          case measure => simp [intOf]; omega
        · have HS := fbM_stop F (grE si mo wi sa, 0) n k hlt hz
          rw [HK'.out] at HS
          have HS' : Hid (fbM F (grE si mo wi sa, 0) n 0 = (moE (F k), k)) := HS
          have hz' : ((moE (F k) : Int) != 0) = true := by simp; omega
          clear HS HK' HE hz
          generalize moE (F k) = q at *
          go_wp2_with (first
            | (go_at_call 22; refine (hwm _).mono ?_; rintro e w3 ⟨rfl, g3⟩; have gA := grown_trans (World.grownBy_alloc wr _ none) g3; have b3 := br.keep gA (by simp); have t3 : True := trivial)
            | (have _t := t3; refine wpList_stX _ rfl _ (.tmp 2) (.tmp 25) rfl (w.heap.size + 1) _ _ rfl rfl b3 i2 rfl (by simp [Value.oneCell']) ?_; clear t3; intro w9 b9 g9))
          refine bodyPost_ret (results_cell1 rfl _ _ _ ⟨w.heap.size + 1, 0, none⟩ _ rfl (BxS.load (t := 34) b9 Try.underlying34 i2)) rfl ?_
          exact ⟨by rw [HS'.out]; rfl, grown_far (grown_trans (grown_trans G1 hgr) gA) g9 (fun q e => by have e : w.heap.size + 1 = q := Option.some.inj e; omega)⟩
      · obtain rfl : k = n := by omega
        have hlt' : ¬ (k : Int) < (k : Int) := by omega
        have HS' : Hid (fbM F (grE si mo wi sa, 0) k 0 = (grE si mo wi sa, 0)) := by
          have := HK'.out
          rw [Nat.sub_self] at this
          exact this.symm
        clear HK'
        have br := b1.keep hgr (by simp)
        obtain ⟨c0, c1, c2, c3, c4⟩ := (b01.keep hgr (by simp)).cell5
        go_wp2_with (first
          | (go_at_call 23; refine (hwr _).mono ?_; rintro e w3 ⟨rfl, g3⟩; have b3 := br.keep g3 (by simp); have t3 : True := trivial)
          | (have _t := t3; refine wpList_stX _ rfl _ (.tmp 2) (.tmp 29) rfl (w.heap.size + 1) _ _ rfl rfl b3 i2 rfl (by simp [Value.oneCell']) ?_; clear t3; intro w9 b9 g9))
        refine bodyPost_ret (results_cell1 rfl _ _ _ ⟨w.heap.size + 1, 0, none⟩ _ rfl (BxS.load (t := 34) b9 Try.underlying34 i2)) rfl ?_
        exact ⟨by rw [HS'.out]; rfl, grown_far (grown_trans (grown_trans G1 hgr) g3) g9 (fun q e => by have e : w.heap.size + 1 = q := Option.some.inj e; omega)⟩
end Go.Proofs.Ytnpkmjdlohdieaa
