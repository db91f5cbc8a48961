import Derived.Test.YtnnohgllnfmoeaaPUn
import Derived.Test.YtnnohgllnfmoeaaZR
namespace Go.Proofs.Ytnnohgllnfmoeaa
open Go.RowKit
set_option maxRecDepth 100000
set_option linter.unusedVariables false
set_option linter.unusedSimpArgs false

theorem ans_some {w : World} {lo : Nat} {a : Option Addr} {n c : Nat} {L : List Nat} (h : Ans w lo a n c L) (hn : 0 < n) : ∃ g, a = some ⟨g, 0, none⟩ := by
  rcases h.cases with ⟨_, e, _⟩ | ⟨g, e, _⟩
  · omega
  · exact ⟨g, e⟩
theorem pcN_int (n M : Nat) : ((n : Int) + (M : Int) - 1) / (M : Int) = ((pcN n M : Nat) : Int) := by
  unfold pcN
  rw [Int.natCast_ediv]
  by_cases h : n + M = 0
  · have : M = 0 := by omega
    subst this
    simp
  · congr 1
    omega
theorem pcN_self (n M : Nat) (hM : 1 ≤ M) (hn : 1 ≤ n) : 1 ≤ pcN n M ∧ pcN n M ≤ n := by
  have h1 := pcN_lt n M 0 hM (by omega)
  have h2 := (pcN_le n M hM).2
  refine ⟨h1, Nat.le_of_not_lt fun h => ?_⟩
  have h3 := Nat.mul_le_mul_right M (show n + 1 ≤ pcN n M from h)
  rw [Nat.add_mul, Nat.one_mul] at h3
  have h4 : n ≤ n * M := Nat.le_mul_of_pos_right n hM
  omega
theorem OwD.wide {w : World} {lo lo' : Nat} {a : Option Addr} {n c : Nat} {ps : List Pk} (h : OwD w lo a n c ps) (hl : lo' ≤ lo) : OwD w lo' a n c ps :=
  ⟨⟨h.own.own, h.own.len, fun g hg => Nat.le_trans hl (h.own.new g hg)⟩, fun i hi => (h.data i hi).wide hl, h.apart⟩
theorem wp_regionL {P : Program} {ops : Array Oper} {Q : Exit → Act → World → Prop} {id : Nat} {a : Act} {w : World} (S : World → Prop) (Z : List Nat) (L0 : Array Bool) (hL : Array.replicate ops.size false = L0) (hm : P.follows .mixedOrders = true)
    (h : wpAnyZ P .any ops Q S Z ops.size L0 a w.drew) : (Code.region id ops true).wp P Q a w := by
  subst hL
  exact wp_regionZ S Z hm h
theorem wpAnyZ_oneB {P : Program} {ops : Array Oper} {Q : Exit → Act → World → Prop} {md : Region.Mode} {S : World → Prop} {Z : List Nat} (i : Nat) {o : Oper} {fuel : Nat} {listed : Array Bool} {a : Act} {w : World} (ho : ops[i]? = some o) (hr : (Region.ready md ops listed == [i]) = true)
    (h : ∀ K' : Act → World → Prop, (∀ a w, (i ∉ Z → S w) → wpAnyZ P md ops Q S Z fuel (listed.setIfInBounds i true) a w → K' a w) → if Region.wanted o (yielded ops a.tmps) = true then Oper.wp P o a w K' Q else K' (a.put o.dst undef) w) :
    wpAnyZ P md ops Q S Z (fuel + 1) listed a w := wpAnyZ_one i ho (eq_of_beq hr) h
theorem wpAnyZ_doneB {P : Program} {ops : Array Oper} {Q : Exit → Act → World → Prop} {md : Region.Mode} {S : World → Prop} {Z : List Nat} {listed : Array Bool} {a : Act} {w : World} (hr : (Region.ready md ops listed == []) = true) (h : Q .normal a w) (fuel : Nat) : wpAnyZ P md ops Q S Z fuel listed a w := wpAnyZ_done (eq_of_beq hr) h fuel
/-- a whole value is stored into a box, in a region that draws -/
theorem step_stX (w : World) {ops : Array Oper} {o : Oper} {a : Act} {K : Act → World → Prop} {Q : Exit → Act → World → Prop} {E : Prop} (hg : o.guard = none) (t : TypeId) (p v : Operand) (hop : o.op = Op.store t p v)
    (g : Nat) (cs ds : Array Value) (hp : a.eval p = .pointer (some ⟨g, 0, none⟩)) (hv : a.eval v = .agg ds) (h : BxS w g t cs) (hi : (Try.prog.info? t).map (·.size) = some ds.size) (ho : cs.size = ds.size) (h1 : ds.all (·.oneCell') = true)
    (hK : ∀ w', BxS w' g t ds → w.grownBy w' (some g) → K (a.put o.dst undef) w') :
    if Region.wanted o (yielded ops a.tmps) = true then Oper.wp Try.prog o a w K Q else E := by
  have hw : Region.wanted o (yielded ops a.tmps) = true := by simp [Region.wanted, hg]
  rw [if_pos hw]
  have hst : (Instr.storeAt t (.pointer (some ⟨g, 0, none⟩)) (.agg ds)).run Try.prog w = .ok () (w.setRow g ds) := by
    simp only [Instr.storeAt, Instr.sureAddr, Sem.run_bind, Sem.run_pure, Result.andThen]
    exact run_storeVar_row w g t t cs ds h hi ho h1
  have hfin := hK _ (h.row ds) ⟨rfl, rfl, rfl, by simp, fun k _ hk => setRow_other w g k _ (fun e => hk (by rw [e]))⟩
  unfold Oper.wp
  simp [execOp, hop, hp, hv, hst, Result.andThen, Oper.upon]
  exact hfin
theorem step_val {w : World} {ops : Array Oper} {o : Oper} {a : Act} {K : Act → World → Prop} {Q : Exit → Act → World → Prop} {E : Prop} (v : Value) (hw : Region.wanted o (yielded ops a.tmps) = true) (hy : (execOp a.eval o).run Try.prog w = .ok (.value v) w) (h : K (a.put o.dst v) w) :
    if Region.wanted o (yielded ops a.tmps) = true then Oper.wp Try.prog o a w K Q else E := by
  rw [if_pos hw]
  unfold Oper.wp
  rw [hy]
  exact h
/-- between two units -/
structure OuS (wb wr : World) (gj M cc i n : Nat) (want got : Value) : Prop where
  js : ∃ m nx op ua un uc U, BxS wr gj 39 #[.int .i64 9, .int .i64 nx, .bool op, .slice ua un uc] ∧ Ans wr wb.heap.size ua un uc U ∧ Ub M [] cc m n 0 true nx op U
  ws : ∃ aw nw cw rsw ag ng cg rsg, want = .slice aw nw cw ∧ got = .slice ag ng cg ∧ OwW wr wb.heap.size aw nw cw rsw ∧ OwW wr wb.heap.size ag ng cg rsg ∧ rsg.map Uw.D = rsw.map Uw.D ∧ ((Value.slice aw nw cw).ownBlock = none ∨ (Value.slice aw nw cw).ownBlock ≠ (Value.slice ag ng cg).ownBlock) ∧ nw ≤ i
  nle : n ≤ i * 301
  gnew : wb.heap.size ≤ gj
  grown : wb.grownBy wr none
/-- between two packets of a unit -/
structure MiS (wb wr : World) (gj M cc n k pc : Nat) (wh : Bool) (u : List Nat) (au : Option Addr) (nu cu : Nat) (al : Option Addr) (cl : Nat) (ps : List Pk) (aw : Option Addr) (nw cw : Nat) (rsw : List Uw) (got : Value) : Prop where
  js : ∃ m nx op ua un uc U, BxS wr gj 39 #[.int .i64 9, .int .i64 nx, .bool op, .slice ua un uc] ∧ Ans wr wb.heap.size ua un uc U ∧ Ub M u cc m (n + k) k wh nx op U
  ws : ∃ ag ng cg rsg, got = .slice ag ng cg ∧ OwW wr wb.heap.size ag ng cg rsg ∧ rsg.map Uw.D = (if k = pc ∧ wh = true then rsw.map Uw.D ++ [u] else rsw.map Uw.D) ∧ ((Value.slice aw nw cw).ownBlock = none ∨ (Value.slice aw nw cw).ownBlock ≠ (Value.slice ag ng cg).ownBlock)
  want : OwW wr wb.heap.size aw nw cw rsw
  pk : OwD wr wb.heap.size al pc cl ps
  un : Ans wr wb.heap.size au nu cu u
  gnew : wb.heap.size ≤ gj
  grown : wb.grownBy wr none
theorem MiS.lose {wb wr : World} {gj M cc n k pc : Nat} {wh : Bool} {u : List Nat} {au : Option Addr} {nu cu : Nat} {al : Option Addr} {cl : Nat} {ps : List Pk} {aw : Option Addr} {nw cw : Nat} {rsw : List Uw} {got : Value}
    (h : MiS wb wr gj M cc n k pc wh u au nu cu al cl ps aw nw cw rsw got) (hk : k < pc) : MiS wb wr gj M cc n (k + 1) pc false u au nu cu al cl ps aw nw cw rsw got := by
  obtain ⟨m, nx, op, ua, un, uc, U, h1, h2, h3⟩ := h.js
  obtain ⟨ag, ng, cg, rsg, w1, w2, w3, w4⟩ := h.ws
  rw [if_neg (by omega)] at w3
  exact ⟨⟨m, nx, op, ua, un, uc, U, h1, h2, h3.lose⟩, ⟨ag, ng, cg, rsg, w1, w2, by rw [if_neg (by simp)]; exact w3, w4⟩, h.want, h.pk, h.un, h.gnew, h.grown⟩
set_option maxHeartbeats 32000000 in
theorem units_walk (a0 a1 : Option Addr) (n0 c0 n1 c1 : Nat) (mo ct : Int) (F : Nat → Uw) (G : Nat → Int) (w : World) (hU : RdU w a0 n0 c0 F) (hG : RdL w a1 n1 c1 G) (hm1 : -9223372036854775808 ≤ mo) (hm2 : mo ≤ 9223372036854775807) (hc1 : -9223372036854775808 ≤ ct) (hc2 : ct ≤ 9223372036854775807) :
    Calls Try.prog 4 #[.slice a0 n0 c0, .int .i64 mo, .int .i64 ct, .slice a1 n1 c1] w fun e w' => e = .returned (.bool true) ∧ Below w.heap.size w w' := by
  have hn1b : n1 ≤ 9223372036854775807 := by have := hG.le; have := hG.max; unfold maxLen at this; omega
  have t1 : True := trivial
  go_enter Try.func4, Try.ntmps4
  go_wp2_with (first
    | (go_at_call 11; have _t := t1; clear t1; with_reducible refine (pickU_any mo 40 _ hm1 hm2 (by decide) (by decide)).mono ?_; rintro e w' ⟨M', hM', rfl, hw'⟩; replace hw' := hw'.symm; subst hw'; have t2 : True := trivial)
    | (go_at_call 11; have _t := t2; clear t2; with_reducible refine (pickU_any ct 16384 _ hc1 hc2 (by decide) (by decide)).mono ?_; rintro e w' ⟨cc, hcc, rfl, hw'⟩; replace hw' := hw'.symm; subst hw'; have t3 : True := trivial)
    | (go_at_call 12; have _t := t3; clear t3; with_reducible refine (beginU_any _).mono ?_; rintro e w1 ⟨rfl, g1⟩))
  obtain ⟨M, hM⟩ : ∃ M : Nat, M = 1 + M' := ⟨_, rfl⟩
  have eM : (1 : Int) + (M' : Int) = (M : Int) := by omega
  rw [eM]
  have hM1 : 1 ≤ M := by omega
  have hM4 : M ≤ 40 := by omega
  have hcc' : cc < 16384 := by omega
  clear hM eM hM' hcc
  have gA := World.grownBy_alloc w1 (.cells #[.int .i64 9, .int .i64 (-1), .bool false, .slice none 0 0] 39) none
  have b0 := BxS.new w1 39 #[.int .i64 9, .int .i64 (-1), .bool false, .slice none 0 0]
  have g0 := grown_trans g1 gA
  have s1 := g1.size
  go_loopw [10, 13, 14, 15, 16] (fun c n want got i wr => ∃ i' n' : Nat, c = .int .i64 (((cc + n') % 16384 : Nat) : Int) ∧ n = .int .i64 (n' : Int) ∧ i = .int .i64 (i' : Int) ∧ i' ≤ n0 ∧ i' ≤ 40 ∧ OuS w wr w1.heap.size M cc i' n' want got) (fun _ _ _ _ i _ => 41 - (intOf i).toNat)
  case atStart =>
    refine ⟨0, 0, ?_, rfl, rfl, by omega, by omega, ⟨⟨0, -1, false, none, 0, 0, [], b0, ans_nil _ _, ⟨fun _ => rfl, Nat.le_refl _, .inl ⟨rfl, rfl⟩, (fun h => by cases h), fun _ => rfl, by simp, fun _ h => by omega, (fun h => by cases h)⟩⟩, ⟨none, 0, 0, [], none, 0, 0, [], rfl, rfl, OwW.nil _ _, OwW.nil _ _, rfl, .inl rfl, by omega⟩, by omega, s1, g0⟩⟩
    rw [Nat.add_zero, Nat.mod_eq_of_lt hcc']
  case round =>
    obtain ⟨i, n, rfl, rfl, rfl, hi0, hi4, hO⟩ := hrel
    have hgr := hO.grown
    obtain ⟨q, HQ⟩ : ∃ q, Hid (q = (cc + n) % 16384) := ⟨_, rfl⟩
    rw [← HQ.out]
    have hq16 : q < 16384 := by rw [HQ.out]; omega
    by_cases hi : i < n0 ∧ i < 40
    · obtain ⟨hi1, hi2⟩ := hi
      have l1 : (i : Int) < (n0 : Int) := by omega
      have l2 : (i : Int) < 40 := by omega
      have hUr := hU.keep hgr
      obtain ⟨b, off, rfl, hb, hcell⟩ := hUr.at' (by omega)
      have d1 := hcell i hi1
      have hD := hUr.data i hi1
      have hle := hUr.le
      have hdl := hD.len
      clear hcell
      generalize (F i).a = fa at *
      generalize (F i).n = fn at *
      generalize (F i).c = fc at *
      generalize (F i).D = fD at *
      by_cases h3 : 300 < fn
      · have l3 : (300 : Int) < (fn : Int) := by omega
        go_wp2
        go_ret
        exact ⟨rfl, (Below.refl _ _).grown hgr (Nat.le_refl _) (fun k hk => by cases hk)⟩
      · have l3 : ¬ ((300 : Int) < (fn : Int)) := by omega
        have hwrap : IntKind.u8.wrap (i : Int) = (i : Int) := by rw [IntKind.wrap_u8']; omega
        have n0' : Ans (wr.alloc (.cells #[.int .u8 (i : Int)] 5)) wr.heap.size (some ⟨wr.heap.size, 0, none⟩) 1 1 [i] := by
          refine ⟨⟨rfl, .inr ⟨wr.heap.size, 1, #[.int .u8 (i : Int)], rfl, Nat.zero_le _, heap_alloc_new wr _, Nat.le_refl _, by decide, rfl, rfl⟩⟩, ?_, fun g hg => by have e : wr.heap.size = g := Option.some.inj hg; omega⟩
          intro x hx
          have := List.mem_singleton.1 hx
          omega
        have gB := World.grownBy_alloc wr (.cells #[.int .u8 (i : Int)] 5) none
        have hCut := fun (gz nz cz : Nat) (Lz : List Nat) wz hz h1 h2 h3 => cut_ok false 9 q gz 0 nz cz M Lz wz hz (by decide) (by omega) h1 h2 hM1 (by omega) h3
        have t1 : True := trivial
        go_wp2_with (first
          | (at_builtin; have _t := t1; clear t1; refine wpList_joinZ rfl _ _ rfl (some ⟨wr.heap.size, 0, none⟩) 1 1 wr.heap.size [i] rfl n0' (by simp) fa fn fc fD rfl (hD.keep gB) (by omega) ?_; intro au cu w2 hA2 g2; have hlu := hA2.len; obtain ⟨gu, rfl⟩ := ans_some hA2 (by omega); generalize hnu : 1 + fn = nu at hA2 hlu ⊢; have t2 : True := trivial)
          | (go_at_call 7; have _t := t2; clear t2; with_reducible refine (hCut gu nu cu ([i] ++ fD) w2 hA2.rd (by omega) (by omega) (by have := pcN_self nu M hM1 (by omega); omega)).mono ?_; rintro e w3 ⟨al, cl, ps, rfl, hOl, hPl, g3⟩; have hdiv := pcN_int nu M; have hpn := pcN_self nu M hM1 (by omega); generalize hpc : pcN nu M = pc at hOl hPl hdiv hpn ⊢))
        have gw3 : wr.grownBy w3 none := grown_trans (grown_far gB g2 (fun g e => by have e2 : wr.heap.size = g := Option.some.inj e; omega)) g3
        have sw := hgr.size
        have s23 : wr.heap.size ≤ w2.heap.size := by have := gB.size; have := g2.size; simp at this; omega
        have hOl' := hOl.wide (show w.heap.size ≤ w2.heap.size by omega)
        have hAu := (hA2.keep g3).wide sw
        obtain ⟨u, hu⟩ : ∃ u, u = [i] ++ fD := ⟨_, rfl⟩
        rw [← hu] at hPl hAu hlu
        obtain ⟨m, nx, op, ua, un, uc, U, j1, j2, j3⟩ := hO.js
        obtain ⟨aw, nw, cw, rsw, ag, ng, cg, rsg, rfl, rfl, o1, o2, o3, o4, o5⟩ := hO.ws
        have hn301 := hO.nle
        have hMi : MiS w w3 w1.heap.size M cc n 0 pc true u (some ⟨gu, 0, none⟩) nu cu al cl ps aw nw cw rsw (.slice ag ng cg) :=
          ⟨⟨m, nx, op, ua, un, uc, U, j1.keep gw3 (by simp), j2.keep gw3, by rw [Nat.add_zero]; exact j3.start u⟩, ⟨ag, ng, cg, rsg, rfl, o2.keep gw3, by rw [if_neg (by omega)]; exact o3, o4⟩, o1.keep gw3, hOl', hAu, hO.gnew, grown_trans hgr gw3⟩
        have hpcE : Hid (pcN nu M = pc) := hpc
        have hnuE : nu ≤ 301 := by omega
        have hu1 : 1 ≤ nu := by omega
        clear hdiv
        clear hOl hOl' hAu j1 j2 j3 o1 o2 o3 o4 hO hA2 hCut n0' gB g2 g3 hpc hnu d1 hD hdl hwrap
        obtain ⟨wo, hwo⟩ : ∃ wo, wo = wr := ⟨_, rfl⟩
        subst hwo
        go_loopw [13, 15, 19, 20, 21] (fun nn got e wh k wr => ∃ (k' : Nat) (wh' : Bool), nn = .int .i64 ((n + k' : Nat) : Int) ∧ e = .int .i64 0 ∧ wh = .bool wh' ∧ k = .int .i64 (k' : Int) ∧ k' ≤ pc ∧ MiS w wr w1.heap.size M cc n k' pc wh' u (some ⟨gu, 0, none⟩) nu cu al cl ps aw nw cw rsw got) (fun _ _ _ _ k _ => pc - (intOf k).toNat)
        case atStart => exact ⟨0, true, rfl, rfl, rfl, rfl, by omega, hMi⟩
        case round =>
          obtain ⟨k, wh, rfl, rfl, rfl, rfl, hk, hm⟩ := hrel
          clear hMi
          have hgm := hm.grown
          by_cases hkp : k < pc
          · have lk : (k : Int) < (pc : Int) := by omega
            have hGr := hG.keep hgm
            obtain ⟨nk, HN⟩ : ∃ nk, Hid (nk = n + k) := ⟨_, rfl⟩
            rw [← HN.out]
            have hnk : nk ≤ 12040 := by rw [HN.out]; omega
            obtain ⟨wm, hwm⟩ : ∃ wm, wm = wr := ⟨_, rfl⟩
            subst hwm
            go_wp2
            go_loopw [22, 23] (fun gone x wr => ∃ (b : Bool) (x' : Nat), gone = .bool b ∧ x = .int .i64 (x' : Int) ∧ x' ≤ n1 ∧ wr = wm) (fun _ x _ => n1 - (intOf x).toNat)
            case atStart => exact ⟨false, 0, rfl, rfl, by omega, rfl⟩
            case round =>
              obtain ⟨gb, x, rfl, rfl, hx, hwx⟩ := hrel
              subst hwx
              by_cases hxl : x < n1
              · have lx : (x : Int) < (n1 : Int) := by omega
                obtain ⟨bl, ol, rfl, _, hcl⟩ := hGr.at' (by omega)
                have dx := hcl x hxl
                have gle := hGr.le
                have hx9 : (x : Int) + 1 ≤ 9223372036854775807 := by omega
                cases gb
                · go_wp2
                  go_roundw
                  case rel =>
                    refine ⟨_, x + 1, rfl, by go_num, ?_, ?_⟩
                    · omega
                    · first | rfl | trivial
                  case measure => simp [intOf]; omega
                · go_wp2
                  go_roundw
                  case rel =>
                    refine ⟨_, x + 1, rfl, by go_num, ?_, ?_⟩
                    · omega
                    · first | rfl | trivial
                  case measure => simp [intOf]; omega
              · have lx : ¬ ((x : Int) < (n1 : Int)) := by omega
                cases gb
                · obtain ⟨m, nx, op, ua, un, uc, U, j1, j2, j3⟩ := hm.js
                  obtain ⟨ag, ng, cg, rsg, rfl, o2, o3, o4⟩ := hm.ws
                  rw [if_neg (by omega)] at o3
                  have hlen : ps.length = pc := hm.pk.own.len
                  obtain ⟨gl, rfl⟩ := hm.pk.own.some (by omega)
                  have hkl : k < ps.length := by omega
                  obtain ⟨p0, p1, p2, p3, p4, p5⟩ := hm.pk.own.six k (by omega)
                  obtain ⟨e0, e1, e2, e3, e4, e5⟩ := hPl k (by omega)
                  have dk := hm.pk.data k (by omega)
                  rw [e5] at dk
                  rw [e0] at p0
                  rw [e1] at p1
                  rw [e2] at p2
                  rw [e3] at p3
                  rw [e4] at p4
                  have hkM : k * M < u.length := by
                    have h1 := (pcN_le nu M hM1).2
                    have h2 := Nat.mul_le_mul_right M (show k + 1 ≤ pcN nu M by rw [hpcE.out]; exact hkp)
                    rw [Nat.add_mul] at h2
                    omega
                  have hct : (((q + k) % 16384 : Nat) : Int) = (((cc + nk) % 16384 : Nat) : Int) := by
                    have h1 := HQ.out
                    have h2 := HN.out
                    omega
                  have hpcu : pcN u.length M = pc := by rw [hlu]; exact hpcE.out
                  rw [← HN.out] at j3
                  obtain ⟨a1', a2', a3', a4'⟩ := ub_arrive j3 hM1 hM4 (by omega) hkM hnk ((u.drop (k * M)).take M) rfl (((q + k) % 16384 : Nat) : Int) hct
                  rw [hpcu] at a1' a2'
                  have hjE := ub_may (pc := pc) j3 ((q + k) % 16384) (Nat.mod_lt _ (by decide)) _ a3' a4'
                  have hJ := fun wz hz1 hz2 => join_any 9 nx op ua un uc false false 9 (ptN k pc : Nat) (((q + k) % 16384 : Nat) : Int) (ps[k]'hkl).a (ps[k]'hkl).n (ps[k]'hkl).c U ((u.drop (k * M)).take M) wz hz1 hz2
                  unfold JnB at hJ
                  rw [hjE] at hJ
                  clear e0 e1 e2 e3 e4 e5 hjE hct
                  generalize ps[k].a = xa at *
                  generalize ps[k].n = xn at *
                  generalize ps[k].c = xc at *
                  generalize (u.drop (k * M)).take M = DD at *
                  generalize ((ptN k pc : Nat) : Int) = pt at *
                  generalize (((q + k) % 16384 : Nat) : Int) = ctk at *
                  unfold jnV pkV at hJ
                  go_wp2
                  refine wp_regionL (fun w' => w'.cell? ⟨w1.heap.size, 0, none⟩ = some (.int .i64 9) ∧ w'.cell? ⟨w1.heap.size, 1, none⟩ = some (.int .i64 nx) ∧ w'.cell? ⟨w1.heap.size, 2, none⟩ = some (.bool op) ∧ w'.cell? ⟨w1.heap.size, 3, none⟩ = some (.slice ua un uc) ∧ w'.cell? ⟨gl, k * 6, none⟩ = some (.bool false) ∧ w'.cell? ⟨gl, k * 6 + 1, none⟩ = some (.bool false) ∧ w'.cell? ⟨gl, k * 6 + 2, none⟩ = some (.int .i64 9) ∧ w'.cell? ⟨gl, k * 6 + 3, none⟩ = some (.int .i64 pt) ∧ w'.cell? ⟨gl, k * 6 + 4, none⟩ = some (.int .i64 ctk) ∧ w'.cell? ⟨gl, k * 6 + 5, none⟩ = some (.slice xa xn xc)) [6, 7, 8, 9, 10, 11, 12, 13] #[false, false, false, false, false, false, false, false, false, false, false, false, false, false] rfl (by kernel_rfl) ?_
                  obtain ⟨k0, k1, k2, k3⟩ := BxJ.cell j1
                  have hS0 : (wr.drew.cell? ⟨w1.heap.size, 0, none⟩ = some (.int .i64 9) ∧ wr.drew.cell? ⟨w1.heap.size, 1, none⟩ = some (.int .i64 nx) ∧ wr.drew.cell? ⟨w1.heap.size, 2, none⟩ = some (.bool op) ∧ wr.drew.cell? ⟨w1.heap.size, 3, none⟩ = some (.slice ua un uc) ∧ wr.drew.cell? ⟨gl, k * 6, none⟩ = some (.bool false) ∧ wr.drew.cell? ⟨gl, k * 6 + 1, none⟩ = some (.bool false) ∧ wr.drew.cell? ⟨gl, k * 6 + 2, none⟩ = some (.int .i64 9) ∧ wr.drew.cell? ⟨gl, k * 6 + 3, none⟩ = some (.int .i64 pt) ∧ wr.drew.cell? ⟨gl, k * 6 + 4, none⟩ = some (.int .i64 ctk) ∧ wr.drew.cell? ⟨gl, k * 6 + 5, none⟩ = some (.slice xa xn xc)) := ⟨k0, k1, k2, k3, p0, p1, p2, p3, p4, p5⟩
                  refine wpAnyZ_take [5, 6, 7, 8, 9, 10, 11, 12, 13] 0 (.agg #[.int .i64 9, .int .i64 nx, .bool op, .slice ua un uc]) rfl (by kernel_rfl) (fun _ _ _ h => h) hS0 rfl (by rintro wz ⟨y1, y2, y3, y4, y5, y6, y7, y8, y9, y10⟩; go_simp) ?_
                  try simp only [List.getElem_toArray, List.getElem_cons_succ, List.getElem_cons_zero, Act.put, List.setIfInBounds_toArray, List.set_cons_zero, List.set_cons_succ]
                  refine wpAnyZ_take [3, 4, 5, 6, 7, 8, 9, 10, 11, 12, 13] 1 (.slice (some ⟨gl, 0, none⟩) pc cl) rfl (by kernel_rfl) (fun _ _ _ h => h) hS0 rfl (by rintro wz ⟨y1, y2, y3, y4, y5, y6, y7, y8, y9, y10⟩; go_simp) ?_
                  try simp only [List.getElem_toArray, List.getElem_cons_succ, List.getElem_cons_zero, Act.put, List.setIfInBounds_toArray, List.set_cons_zero, List.set_cons_succ]
                  refine wpAnyZ_take [3, 4, 5, 6, 7, 8, 9, 10, 11, 12, 13] 2 (.int .i64 (k : Int)) rfl (by kernel_rfl) (fun _ _ _ h => h) hS0 rfl (by rintro wz ⟨y1, y2, y3, y4, y5, y6, y7, y8, y9, y10⟩; go_simp) ?_
                  try simp only [List.getElem_toArray, List.getElem_cons_succ, List.getElem_cons_zero, Act.put, List.setIfInBounds_toArray, List.set_cons_zero, List.set_cons_succ]
                  refine wpAnyZ_take [4, 5, 6, 7, 8, 9, 10, 11, 12, 13] 3 (.pointer (some ⟨gl, k * 6, none⟩)) rfl (by kernel_rfl) (fun _ _ _ h => h) hS0 rfl (by rintro wz ⟨y1, y2, y3, y4, y5, y6, y7, y8, y9, y10⟩; go_simp) ?_
                  try simp only [List.getElem_toArray, List.getElem_cons_succ, List.getElem_cons_zero, Act.put, List.setIfInBounds_toArray, List.set_cons_zero, List.set_cons_succ]
                  refine wpAnyZ_take [5, 6, 7, 8, 9, 10, 11, 12, 13] 4 (.agg #[.bool false, .bool false, .int .i64 9, .int .i64 pt, .int .i64 ctk, .slice xa xn xc]) rfl (by kernel_rfl) (fun _ _ _ h => h) hS0 rfl (by rintro wz ⟨y1, y2, y3, y4, y5, y6, y7, y8, y9, y10⟩; go_simp) ?_
                  try simp only [List.getElem_toArray, List.getElem_cons_succ, List.getElem_cons_zero, Act.put, List.setIfInBounds_toArray, List.set_cons_zero, List.set_cons_succ]
                  refine wpAnyZ_oneB 5 rfl (by kernel_rfl) (fun K hK => ?_)
                  go_simp
                  go_at_call 13
                  with_reducible refine (hJ _ (j2.rd.keep (grown_drew wr none)) (dk.rd.keep (grown_drew wr none))).mono ?_
                  rintro e w5 ⟨x1, m1, d1, x2, m2, d2, _, ⟨_, rfl, hX1, hX2⟩ | ⟨hno, _⟩, g5⟩
                  case inr => exact absurd rfl hno
                  have G5 := grown_trans (grown_drew wr none) g5
                  have j15 := j1.keep G5 (by simp)
                  dsimp only
                  obtain ⟨z0, z1, z2, z3⟩ := BxJ.cell j15
                  obtain ⟨r0, r1, r2, r3, r4, r5⟩ := (hm.pk.own.keep G5).six k (by omega)
                  have cK : ∀ j v, wr.cell? ⟨gl, j, none⟩ = some v → w5.cell? ⟨gl, j, none⟩ = some v := fun j v hv => cell_keepU hv G5 (by rcases hm.pk.own.cases with ⟨h, _⟩ | ⟨g, h, _, h2⟩ <;> cases h; exact h2)
                  refine hK _ _ (fun _ => ⟨z0, z1, z2, z3, cK _ _ p0, cK _ _ p1, cK _ _ p2, cK _ _ p3, cK _ _ p4, cK _ _ p5⟩) ?_
                  clear hK K r0 r1 r2 r3 r4 r5 z0 z1 z2 z3
                  try simp only [List.getElem_toArray, List.getElem_cons_succ, List.getElem_cons_zero, Act.put, List.setIfInBounds_toArray, List.set_cons_zero, List.set_cons_succ]
                  refine wpAnyZ_takeF 6 (.tuple #[.agg #[.int .i64 9, .int .i64 ((ctk + 1) % 16384), .bool (jOp nx op U pt ctk DD), .slice x1 m1 d1], .slice x2 m2 d2, .bool (jLo nx op U pt ctk DD), .int .i64 0]) rfl (by kernel_rfl) (fun _ _ _ h => h) rfl (by intro wz; first | rfl | go_simp) ?_
                  try simp only [List.getElem_toArray, List.getElem_cons_succ, List.getElem_cons_zero, Act.put, List.setIfInBounds_toArray, List.set_cons_zero, List.set_cons_succ]
                  refine wpAnyZ_takeF 7 (.agg #[.int .i64 9, .int .i64 ((ctk + 1) % 16384), .bool (jOp nx op U pt ctk DD), .slice x1 m1 d1]) rfl (by kernel_rfl) (fun _ _ _ h => h) rfl (by intro wz; first | rfl | go_simp) ?_
                  try simp only [List.getElem_toArray, List.getElem_cons_succ, List.getElem_cons_zero, Act.put, List.setIfInBounds_toArray, List.set_cons_zero, List.set_cons_succ]
                  refine wpAnyZ_takeF 8 (.slice x2 m2 d2) rfl (by kernel_rfl) (fun _ _ _ h => h) rfl (by intro wz; first | rfl | go_simp) ?_
                  try simp only [List.getElem_toArray, List.getElem_cons_succ, List.getElem_cons_zero, Act.put, List.setIfInBounds_toArray, List.set_cons_zero, List.set_cons_succ]
                  refine wpAnyZ_takeF 9 (.bool (jLo nx op U pt ctk DD)) rfl (by kernel_rfl) (fun _ _ _ h => h) rfl (by intro wz; first | rfl | go_simp) ?_
                  try simp only [List.getElem_toArray, List.getElem_cons_succ, List.getElem_cons_zero, Act.put, List.setIfInBounds_toArray, List.set_cons_zero, List.set_cons_succ]
                  refine wpAnyZ_takeF 10 (.int .i64 0) rfl (by kernel_rfl) (fun _ _ _ h => h) rfl (by intro wz; first | rfl | go_simp) ?_
                  try simp only [List.getElem_toArray, List.getElem_cons_succ, List.getElem_cons_zero, Act.put, List.setIfInBounds_toArray, List.set_cons_zero, List.set_cons_succ]
                  refine wpAnyZ_oneB 11 rfl (by kernel_rfl) (fun K hK => ?_)
                  refine step_stX w5 rfl _ (.tmp 11) (.tmp 118) rfl w1.heap.size _ #[.int .i64 9, .int .i64 ((ctk + 1) % 16384), .bool (jOp nx op U pt ctk DD), .slice x1 m1 d1] rfl rfl j15 Try.info_jn rfl (by simp [Value.oneCell']) ?_
                  intro w6 j6 g6
                  refine hK _ _ (fun e => absurd (by decide) e) ?_
                  clear hK K
                  try simp only [List.getElem_toArray, List.getElem_cons_succ, List.getElem_cons_zero, Act.put, List.setIfInBounds_toArray, List.set_cons_zero, List.set_cons_succ]
                  refine wpAnyZ_oneB 12 rfl (by kernel_rfl) (fun K hK => ?_)
                  refine step_val (.slice x2 m2 d2) rfl (by first | rfl | go_simp) ?_
                  refine hK _ _ (fun e => absurd (by decide) e) ?_
                  clear hK K
                  try simp only [List.getElem_toArray, List.getElem_cons_succ, List.getElem_cons_zero, Act.put, List.setIfInBounds_toArray, List.set_cons_zero, List.set_cons_succ]
                  refine wpAnyZ_oneB 13 rfl (by kernel_rfl) (fun K hK => ?_)
                  refine step_val (.int .i64 0) rfl (by first | rfl | go_simp) ?_
                  refine hK _ _ (fun e => absurd (by decide) e) ?_
                  clear hK K
                  try simp only [List.getElem_toArray, List.getElem_cons_succ, List.getElem_cons_zero, Act.put, List.setIfInBounds_toArray, List.set_cons_zero, List.set_cons_succ]
                  refine wpAnyZ_doneB (by kernel_rfl) ?_ _
                  have tb := TyR.box j15
                  have X1 := (hX1.wide (show w.heap.size ≤ wr.drew.heap.size from hgm.size)).ty g6 tb (by decide)
                  have X2 := (hX2.wide (show w.heap.size ≤ wr.drew.heap.size from hgm.size)).ty g6 tb (by decide)
                  have want6 := (hm.want.keep G5).ty g6 tb (by decide) (by decide)
                  have got6 := (o2.keep G5).ty g6 tb (by decide) (by decide)
                  have pk6 := (hm.pk.keep G5).ty g6 tb (by decide) (by decide)
                  have un6 := (hm.un.keep G5).ty g6 tb (by decide)
                  have G6 := grown_far (grown_trans hgm G5) g6 (fun q e => by cases e; exact hm.gnew)
                  have hgn := hm.gnew
                  have hng : ng ≤ 40 := by
                    have h1 := got6.len
                    have h2 := want6.len
                    have h3 := congrArg List.length o3
                    rw [List.length_map, List.length_map] at h3
                    omega
                  have e3 : Hid (nk + 1 = n + (k + 1)) := (by have := HN.out; omega : nk + 1 = n + (k + 1))
                  rw [a2'] at X2
                  rw [e3.out] at a1'
                  clear hJ hS0 p0 p1 p2 p3 p4 p5 k0 k1 k2 k3 cK hX1 hX2 hm j1 j2 j15 g6 g5 G5 tb dk o2 a2' j3 hGr lx
                  generalize jLo nx op U pt ctk DD = lo3 at *
                  generalize jOp nx op U pt ctk DD = op3 at *
                  generalize jRe nx op U pt ctk DD = U3 at *
                  generalize (ctk + 1) % 16384 = nx3 at *
                  by_cases ht : k + 1 = pc ∧ wh = true
                  · rw [if_pos ht] at X2
                    have hm2 := X2.len
                    have m2p : (0 : Int) < (m2 : Int) := by omega
                    have t1 : True := trivial
                    go_wp2_with (first
                      | (at_builtin; have _t := t1; clear t1; refine wpList_psW w6 ⟨x2, m2, d2, u⟩ rfl _ _ rfl ag ng cg w.heap.size rsg rfl got6 X2 G6.size rfl (by omega) ?_; intro gx cx w7 got7 g7 hgx))
                    have tr := TyR.row got6.own
                    go_roundw
                    case rel =>
                      refine ⟨k + 1, wh, congrArg (Value.int .i64) (by have := HN.out; omega), rfl, congrArg Value.bool ht.2.symm, by go_num, by omega, ⟨⟨n + (k + 1), nx3, op3, x1, m1, d1, U3, j6.keep g7 (fun e => ?_), X1.ty g7 tr (by decide), a1'⟩, ⟨_, _, _, _, rfl, got7, ?_, ?_⟩, want6.by got6 g7 o4, pk6.ty g7 tr (by decide) (by decide), un6.ty g7 tr (by decide), hgn, grown_far G6 g7 (fun y hy => got6.new y hy)⟩⟩
                      · obtain ⟨B, hB⟩ := tr _ e.symm
                        exact j6.apart hB (by decide) rfl
                      · rw [if_pos ht, List.map_append, o3]; rfl
                      · rcases hgx with h | h
                        · rw [h] at o4; exact o4
                        · cases hw : (Value.slice aw nw cw).ownBlock with
                          | none => exact .inl rfl
                          | some y =>
                            have := want6.lt y hw
                            refine .inr fun e => ?_
                            have e2 : y = gx := Option.some.inj e
                            omega
                    case measure => simp [intOf]; omega
                  · rw [if_neg ht] at X2
                    have hm2 : m2 = 0 := X2.len.symm
                    subst hm2
                    go_wp2
                    go_roundw
                    case rel =>
                      refine ⟨k + 1, wh, congrArg (Value.int .i64) (by have := HN.out; omega), rfl, rfl, by go_num, by omega, ⟨⟨n + (k + 1), nx3, op3, x1, m1, d1, U3, j6, X1, a1'⟩, ⟨_, _, _, _, rfl, got6, by rw [if_neg ht]; exact o3, o4⟩, want6, pk6, un6, hgn, G6⟩⟩
                    case measure => simp [intOf]; omega
                · go_wp2
                  go_roundw
                  case rel => exact ⟨k + 1, false, congrArg (Value.int .i64) (by have := HN.out; omega), rfl, rfl, by go_num, by omega, hm.lose hkp⟩
                  case measure => simp [intOf]; omega
          · have lk : ¬ ((k : Int) < (pc : Int)) := by omega
            have hkpc : k = pc := by omega
            subst hkpc
            obtain ⟨m, nx, op, ua, un, uc, U, j1, j2, j3⟩ := hm.js
            obtain ⟨ag, ng, cg, rsg, rfl, o2, o3, o4⟩ := hm.ws
            have hnew : Hid (n + k ≤ (i + 1) * 301) := (by rw [Nat.add_mul]; omega : n + k ≤ (i + 1) * 301)
            have hqn : Hid ((((q : Int) + (k : Int)) % 16384) = (((cc + (n + k)) % 16384 : Nat) : Int)) := (by have := HQ.out; omega : (((q : Int) + (k : Int)) % 16384) = (((cc + (n + k)) % 16384 : Nat) : Int))
            have hwant := hm.want
            have hun := hm.un
            have hgn := hm.gnew
            have hnw : nw ≤ 40 := by omega
            have t1 : True := trivial
            cases wh
            · rw [if_neg (by simp)] at o3
              go_wp2
              go_roundw
              case rel => exact ⟨i + 1, n + k, congrArg (Value.int .i64) hqn.out, rfl, by go_num, by omega, by omega, ⟨⟨m, nx, op, ua, un, uc, U, j1, j2, j3.start []⟩, ⟨aw, nw, cw, rsw, ag, ng, cg, rsg, rfl, rfl, hwant, o2, o3, o4, by omega⟩, hnew.out, hgn, hgm⟩⟩
              case measure => simp [intOf]; omega
            · rw [if_pos (by simp)] at o3
              go_wp2_with (first
                | (at_builtin; have _t := t1; clear t1; refine wpList_psW wr ⟨some ⟨gu, 0, none⟩, nu, cu, u⟩ rfl _ _ rfl aw nw cw w.heap.size rsw rfl hwant hun hgm.size rfl (by omega) ?_; intro gx cx w7 want7 g7 hgx))
              have tr := TyR.row hwant.own
              go_roundw
              case rel =>
                refine ⟨i + 1, n + k, congrArg (Value.int .i64) hqn.out, rfl, by go_num, by omega, by omega, ⟨⟨m, nx, op, ua, un, uc, U, j1.keep g7 (fun e => ?_), j2.ty g7 tr (by decide), j3.start []⟩, ⟨_, _, _, _, ag, ng, cg, rsg, rfl, rfl, want7, o2.by hwant g7 (flip_ne o4), ?_, ?_, by omega⟩, hnew.out, hgn, grown_far hgm g7 (fun y hy => hwant.new y hy)⟩⟩
                · obtain ⟨B, hB⟩ := tr _ e.symm
                  exact j1.apart hB (by decide) rfl
                · rw [o3, List.map_append]; rfl
                · rcases hgx with h | h
                  · rw [h] at o4; exact o4
                  · refine .inr fun e => ?_
                    have := o2.lt gx e.symm
                    omega
              case measure => simp [intOf]; omega
    · obtain ⟨m, nx, op, ua, un, uc, U, j1, j2, j3⟩ := hO.js
      obtain ⟨aw, nw, cw, rsw, ag, ng, cg, rsg, rfl, rfl, o1, o2, o3, o4, o5⟩ := hO.ws
      have l1 : (decide ((i : Int) < (n0 : Int)) && decide ((i : Int) < 40)) = false := by
        simp only [Bool.and_eq_false_iff, decide_eq_false_iff_not]
        omega
      have hle : rsg.length = rsw.length := by
        have := congrArg List.length o3
        rwa [List.length_map, List.length_map] at this
      have hng := o2.len
      have hnw := o1.len
      have hgw : ng = nw := by omega
      subst hgw
      clear hle j1 j2 j3 hO
      have fin : ∀ wz, wr.grownBy wz none → Below w.heap.size w wz := fun wz hz => (Below.refl _ _).grown (grown_trans hgr hz) (Nat.le_refl _) (fun k hk => by cases hk)
      go_wp2
      all_goals
        obtain ⟨wo, hwo⟩ : ∃ wo, wo = wr := ⟨_, rfl⟩
        subst hwo
        go_loopw [25] (fun t wr => ∃ t' : Nat, t = .int .i64 (t' : Int) ∧ t' ≤ ng ∧ wo.grownBy wr none) (fun t _ => ng - (intOf t).toNat)
        case atStart => exact ⟨0, rfl, by omega, World.grownBy.refl _ _⟩
        case round =>
          obtain ⟨t, rfl, ht, hgt⟩ := hrel
          by_cases htl : t < ng
          · have lt1 : (t : Int) < (ng : Int) := by omega
            have O1 := o1.keep hgt
            have O2 := o2.keep hgt
            have ht1 : t < rsw.length := by omega
            have ht2 : t < rsg.length := by omega
            have hDD : rsg[t].D = rsw[t].D := by
              have h1 := List.getElem_map (f := Uw.D) (l := rsg) (i := t) (h := by rw [List.length_map]; exact ht2)
              have h2 := List.getElem_map (f := Uw.D) (l := rsw) (i := t) (h := by rw [List.length_map]; exact ht1)
              rw [← h1, ← h2]
              simp only [o3]
            obtain ⟨gw, rfl, ltw⟩ := O1.some (by omega)
            obtain ⟨gg, rfl, ltg⟩ := O2.some (by omega)
            have c1 := O1.cell t ht1
            have c2 := O2.cell t ht2
            have r1 := (O1.each t ht1).rd
            have r2 := (O2.each t ht2).rd
            rw [hDD] at r2
            clear hDD
            generalize rsw[t].a = ya at *
            generalize rsw[t].n = yn at *
            generalize rsw[t].c = yc at *
            generalize rsg[t].a = za at *
            generalize rsg[t].n = zn at *
            generalize rsg[t].c = zc at *
            generalize rsw[t].D = DD at *
            have hle1 := O1.own
            clear O1 O2 hle1
            go_wp2
            refine wp_regionL (fun w' => wr.grownBy w' none) [] #[false, false, false, false, false, false, false, false, false, false, false] rfl (by kernel_rfl) ?_
            refine wpAnyZ_take [] 0 (.slice (some ⟨gg, 0, none⟩) ng cg) rfl (by kernel_rfl) (fun _ _ _ h => h) (grown_drew wr none) rfl (by intro wz hz; go_simp) ?_
            try simp only [List.getElem_toArray, List.getElem_cons_succ, List.getElem_cons_zero, Act.put, List.setIfInBounds_toArray, List.set_cons_zero, List.set_cons_succ]
            refine wpAnyZ_take [] 1 (.int .i64 (t : Int)) rfl (by kernel_rfl) (fun _ _ _ h => h) (grown_drew wr none) rfl (by intro wz hz; go_simp) ?_
            try simp only [List.getElem_toArray, List.getElem_cons_succ, List.getElem_cons_zero, Act.put, List.setIfInBounds_toArray, List.set_cons_zero, List.set_cons_succ]
            refine wpAnyZ_take [] 2 (.pointer (some ⟨gg, t, none⟩)) rfl (by kernel_rfl) (fun _ _ _ h => h) (grown_drew wr none) rfl (by intro wz hz; go_simp) ?_
            try simp only [List.getElem_toArray, List.getElem_cons_succ, List.getElem_cons_zero, Act.put, List.setIfInBounds_toArray, List.set_cons_zero, List.set_cons_succ]
            refine wpAnyZ_take [] 3 (.slice za zn zc) rfl (by kernel_rfl) (fun _ _ _ h => h) (grown_drew wr none) rfl (by intro wz hz; have c2z := cell_keepU c2 hz ltg; go_simp) ?_
            try simp only [List.getElem_toArray, List.getElem_cons_succ, List.getElem_cons_zero, Act.put, List.setIfInBounds_toArray, List.set_cons_zero, List.set_cons_succ]
            refine wpAnyZ_take [] 4 (.string (strB DD)) rfl (by kernel_rfl) (fun _ _ _ h => h) (grown_drew wr none) rfl (by intro wz hz; have cvz := str_any wz za zn zc DD (r2.keep hz); go_simp) ?_
            try simp only [List.getElem_toArray, List.getElem_cons_succ, List.getElem_cons_zero, Act.put, List.setIfInBounds_toArray, List.set_cons_zero, List.set_cons_succ]
            refine wpAnyZ_take [] 5 (.slice (some ⟨gw, 0, none⟩) ng cw) rfl (by kernel_rfl) (fun _ _ _ h => h) (grown_drew wr none) rfl (by intro wz hz; go_simp) ?_
            try simp only [List.getElem_toArray, List.getElem_cons_succ, List.getElem_cons_zero, Act.put, List.setIfInBounds_toArray, List.set_cons_zero, List.set_cons_succ]
            refine wpAnyZ_take [] 6 (.int .i64 (t : Int)) rfl (by kernel_rfl) (fun _ _ _ h => h) (grown_drew wr none) rfl (by intro wz hz; go_simp) ?_
            try simp only [List.getElem_toArray, List.getElem_cons_succ, List.getElem_cons_zero, Act.put, List.setIfInBounds_toArray, List.set_cons_zero, List.set_cons_succ]
            refine wpAnyZ_take [] 7 (.pointer (some ⟨gw, t, none⟩)) rfl (by kernel_rfl) (fun _ _ _ h => h) (grown_drew wr none) rfl (by intro wz hz; go_simp) ?_
            try simp only [List.getElem_toArray, List.getElem_cons_succ, List.getElem_cons_zero, Act.put, List.setIfInBounds_toArray, List.set_cons_zero, List.set_cons_succ]
            refine wpAnyZ_take [] 8 (.slice ya yn yc) rfl (by kernel_rfl) (fun _ _ _ h => h) (grown_drew wr none) rfl (by intro wz hz; have c1z := cell_keepU c1 hz ltw; go_simp) ?_
            try simp only [List.getElem_toArray, List.getElem_cons_succ, List.getElem_cons_zero, Act.put, List.setIfInBounds_toArray, List.set_cons_zero, List.set_cons_succ]
            refine wpAnyZ_take [] 9 (.string (strB DD)) rfl (by kernel_rfl) (fun _ _ _ h => h) (grown_drew wr none) rfl (by intro wz hz; have cvz := str_any wz ya yn yc DD (r1.keep hz); go_simp) ?_
            try simp only [List.getElem_toArray, List.getElem_cons_succ, List.getElem_cons_zero, Act.put, List.setIfInBounds_toArray, List.set_cons_zero, List.set_cons_succ]
            refine wpAnyZ_take [] 10 (.bool false) rfl (by kernel_rfl) (fun _ _ _ h => h) (grown_drew wr none) rfl (by intro wz hz; go_simp) ?_
            try simp only [List.getElem_toArray, List.getElem_cons_succ, List.getElem_cons_zero, Act.put, List.setIfInBounds_toArray, List.set_cons_zero, List.set_cons_succ]
            refine wpAnyZ_doneB (by kernel_rfl) ?_ _
            go_wp2
            go_roundw
            case rel => exact ⟨t + 1, by go_num, by omega, grown_trans hgt (grown_drew wr none)⟩
            case measure => simp [intOf]; omega
          · have lt1 : ¬ ((t : Int) < (ng : Int)) := by omega
            go_wp2
            go_ret
            exact ⟨rfl, fin _ hgt⟩
end Go.Proofs.Ytnnohgllnfmoeaa
