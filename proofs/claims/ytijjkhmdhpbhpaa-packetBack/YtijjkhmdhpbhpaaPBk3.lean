import Derived.Test.YtijjkhmdhpbhpaaPBk2
import Derived.Test.YtijjkhmdhpbhpaaPDec
import Derived.Deep.DeepAppendWide
namespace Go.Proofs.Ytijjkhmdhpbhpaa
open Go.RowKit
set_option maxRecDepth 100000
set_option linter.unusedVariables false
set_option linter.unusedSimpArgs false

theorem RdP.keep {w w' : World} {a : Option Addr} {n cap : Nat} {F : Nat → Pk} (h : RdP w a n cap F) (hg : w.grownBy w' none) : RdP w' a n cap F :=
  ⟨h.le, h.max, fun h0 => by
    obtain ⟨b, off, e, hb, hc⟩ := h.at' h0
    refine ⟨b, off, e, Nat.lt_of_lt_of_le hb hg.size, fun i hi j hj => ?_⟩
    rw [← hc i hi j hj]
    unfold World.cell?
    rw [hg.block b hb (by simp)], fun i hi => (h.data i hi).keep hg⟩
theorem Ans.up {w : World} {lo : Nat} {a : Option Addr} {n cap : Nat} {L : List Nat} (h : Ans w lo a n cap L) : w.ownsRow lo 5 1 (.slice a n cap) n (bys L) := by
  refine ⟨h.own.1, ?_⟩
  rcases h.own.2 with h1 | ⟨g, c1, cur, h1, h2, h3⟩
  · exact .inl h1
  · refine .inr ⟨g, c1, cur, h1, ?_, h3⟩
    simp only [Value.slice.injEq] at h1
    obtain ⟨rfl, _, _⟩ := h1
    exact h.new g rfl
/-- 'append(v, x...)', v an answer, x whatever bytes -/
theorem wpList_joinZ {w : World} {ops : Array Oper} {rest : List Oper} {o : Oper} {a : Act} {Q : Exit → Act → World → Prop} (hg : o.guard = none) (s x : Operand)
    (hop : o.op = Op.call { callee := .builtin .append, args := #[s, x], argTypes := #[23, 23] }) (ao : Option Addr) (m co lo : Nat) (D : List Nat) (hs : a.eval s = .slice ao m co)
    (hA : Ans w lo ao m co D) (hlo : lo ≤ w.heap.size) (ax : Option Addr) (nx cx : Nat) (X : List Nat) (hx : a.eval x = .slice ax nx cx) (hR : Rd w ax nx cx X) (hb : m + nx ≤ 200000000000000)
    (hK : ∀ a' c' w', Ans w' lo a' (m + nx) c' (D ++ X) → w.grownBy w' (Value.slice ao m co).ownBlock → wpList Try.prog ops Q rest (a.put o.dst (.slice a' (m + nx) c')) w') :
    wpList Try.prog ops Q (o :: rest) a w := by
  obtain ⟨i0, hi, hz0, hz1, hz2⟩ := info_parts Try.info_u8
  cases ax with
  | none =>
    have hc0 : cx = 0 := hR.nil rfl
    have hn0 : nx = 0 := by have := hR.le; omega
    subst hc0 hn0
    have e : X = [] := List.eq_nil_of_length_eq_zero hR.len
    subst e
    refine wpList_append_own_none hg s x 23 hop 0 5 i0 1 Try.underlying23 hi (.slice ao m co) m (bys D) hs hA.own hx ?_
    exact hK ao co w (by rw [List.append_nil]; exact hA) (World.grownBy.refl _ _)
  | some ad =>
    refine wpList_append_own_wide w hg s x 23 hop lo 5 i0 (.int .u8 0) 1 1 Try.underlying23 hi hz0 hz1 hz2 rfl (by decide) (.slice ao m co) m (bys D) hs hA.up ad nx cx (bys X) hx (by rw [bys_length, hR.len]; omega) ?_ (bys_one _) (by unfold maxLen; omega) (by omega) hlo ?_
    · intro j u hu
      have hj : j < X.length := by
        have := (List.getElem?_eq_some_iff.1 hu).1
        rw [bys_length] at this; exact this
      have h0 : 0 < nx := by rw [hR.len] at hj; omega
      obtain ⟨b, off, e, _, hc⟩ := hR.at' h0
      cases e
      rw [nth_bys X j hj] at hu
      rw [← hu, addr_add]
      exact hc j (by rw [← hR.len]; exact hj)
    · intro v' w' hown hgr _
      rw [bys_app] at hown
      have hown' := hown
      rcases hown.2 with ⟨h1, h2⟩ | ⟨g, c1, cur, h1, h2, h3⟩
      · subst h1
        have e0 : m + nx = 0 := h2
        have hq := hK none 0 w' ⟨by rw [e0]; exact own_base (by rw [e0] at hown'; exact hown'), isB_append hA.byte hR.byte, fun g h => by simp [Value.ownBlock] at h⟩ hgr
        rw [e0] at hq
        exact hq
      · subst h1
        exact hK (some ⟨g, 0, none⟩) c1 w' ⟨own_base hown', isB_append hA.byte hR.byte, fun g' h => by have e : g = g' := Option.some.inj h; omega⟩ hgr
theorem RdP.six {w wz : World} {b off n cap : Nat} {F : Nat → Pk} (h : RdP w (some ⟨b, off, none⟩) n cap F) (hz : w.grownBy wz none) (i : Nat) (hi : i < n) :
    wz.cell? ⟨b, off + i * 6, none⟩ = some (.bool (F i).up) ∧ wz.cell? ⟨b, off + i * 6 + 1, none⟩ = some (.bool (F i).se) ∧ wz.cell? ⟨b, off + i * 6 + 2, none⟩ = some (.int .i64 (F i).ap) ∧ wz.cell? ⟨b, off + i * 6 + 3, none⟩ = some (.int .i64 (F i).pt) ∧ wz.cell? ⟨b, off + i * 6 + 4, none⟩ = some (.int .i64 (F i).ct) ∧ wz.cell? ⟨b, off + i * 6 + 5, none⟩ = some (.slice (F i).a (F i).n (F i).c) := by
  obtain ⟨_, _, e, _, hc⟩ := (h.keep hz).at' (by omega)
  cases e
  exact ⟨hc i hi 0 (by decide), hc i hi 1 (by decide), hc i hi 2 (by decide), hc i hi 3 (by decide), hc i hi 4 (by decide), hc i hi 5 (by decide)⟩
theorem swap_own {x y : Option Nat} (h : x = none ∨ x ≠ y) : y = none ∨ y ≠ x := by
  cases y with
  | none => exact .inl rfl
  | some q =>
    refine .inr fun e => ?_
    rcases h with h | h
    · rw [h] at e; cases e
    · exact h e.symm
theorem rd_from {w : World} {b of nr cr m : Nat} {L : List Nat} (h : Rd w (some ⟨b, of, none⟩) nr cr L) (hm : m ≤ nr) : Rd w (some ⟨b, of + m, none⟩) (nr - m) (cr - m) (L.drop m) := by
  have := h.part m (nr - m) (by omega)
  rwa [List.take_of_length_le (by rw [List.length_drop, h.len]; omega)] at this
theorem rd_from0 {w : World} {b of nr m : Nat} {L : List Nat} (h : Rd w (some ⟨b, of, none⟩) nr m L) (hm : m ≤ nr) : Rd w (some ⟨b, of, none⟩) 0 0 (L.drop m) := by
  have e : L.drop m = [] := List.drop_eq_nil_of_le (by have := h.le; rw [h.len]; omega)
  rw [e]
  exact ⟨rfl, Nat.le_refl _, Nat.zero_le _, fun h => (by cases h), (fun x hx => by cases hx), fun h => absurd h (by decide)⟩
theorem two_newB (w : World) : Rd (w.alloc (.cells #[.int .u8 170, .int .u8 187] 5)) (some ⟨w.heap.size, 0, none⟩) 2 2 [170, 187] := by
  refine Ans.rd (lo := 0) ⟨⟨rfl, .inr ⟨w.heap.size, 2, #[.int .u8 170, .int .u8 187], rfl, Nat.zero_le _, heap_alloc_new w _, Nat.le_refl _, by decide, rfl, rfl⟩⟩, ?_, fun g hg => Nat.zero_le _⟩
  intro x hx
  simp at hx
  omega
theorem strB_one : strB [0, 5, 192, 7, 0, 1, 170, 187] = ⟨#[0, 5, 192, 7, 0, 1, 170, 187]⟩ := by decide
set_option maxHeartbeats 8000000 in
theorem back_walk (a : Option Addr) (n cap : Nat) (F : Nat → Pk) (aj : Option Addr) (nj cj : Nat) (J : List Nat) (w : World) (hP : RdP w a n cap F) (hJ : Rd w aj nj cj J) (hj : nj ≤ 140737488351232) :
    Calls Try.prog 3 #[.slice a n cap, .slice aj nj cj] w fun e w' => e = .returned (.bool true) ∧ Below w.heap.size w w' := by
  go_enter Try.func3, Try.ntmps3
  go_wp2
  go_loopw [5, 6, 7] (fun row good i wr => ∃ (k : Nat) (ar ag : Option Addr) (nr cr ng cg : Nat), k ≤ n ∧ k ≤ 30 ∧ i = .int .i64 k ∧ row = .slice ar nr cr ∧ good = .slice ag ng cg ∧ Ans wr w.heap.size ar nr cr (flB (gdP F k)) ∧ OwP wr w.heap.size ag ng cg (gdP F k) ∧ w.grownBy wr none) (fun _ _ i _ => 31 - (intOf i).toNat)
  case atStart => exact ⟨0, none, none, 0, 0, 0, 0, by omega, by omega, rfl, rfl, rfl, ans_nil _ _, OwP.nil _ _, World.grownBy.refl _ _⟩
  case round =>
    obtain ⟨k, ar, ag, nr, cr, ng, cg, hk, hk3, rfl, rfl, rfl, hA, hO, hgr⟩ := hrel
    have hgl := gdP_len F k
    have hrl := flB_le (gdP F k) (fun p hp => (gdP_ok F k p hp).1)
    have hnr := hA.len
    have hng := hO.len
    have hnr2 : nr ≤ 1966260 := by omega
    have hng2 : ng ≤ 30 := by omega
    clear hrl
    by_cases hlt : k < n
    · by_cases h30 : k < 30
      · obtain ⟨b, off, rfl, hb, _⟩ := hP.at' (by omega)
        have hd := (hP.keep hgr).data k hlt
        obtain ⟨c0, c1, c2, c3, c4, c5⟩ := hP.six hgr k hlt
        have l1 : (k : Int) < (n : Int) := by omega
        have l2 : (k : Int) < 30 := by omega
        have hen := encode_any (F k).up (F k).se (F k).ap (F k).pt (F k).ct (F k).a (F k).n (F k).c (F k).D wr hd
        unfold pkV at hen
        have t1 : True := trivial
        by_cases ho : okP (F k)
        · have hE : mayE (F k).ap (F k).pt (F k).ct (F k).n = 0 := by rw [← hd.len]; exact ho
          rw [hE] at hen
          have HG : Hid (gdP F (k + 1) = gdP F k ++ [F k]) := show _ = _ from if_pos ho
          have hel := enP_len (F k) ho
          have hok := okP_len (F k) ho
          go_wp2_with (first
            | (go_at_call 4; have _t := t1; clear t1; refine hen.mono ?_; rintro e w1 ⟨ae, ne, ce, rfl, hAe, g1⟩; have hle := hAe.len; have t2 : True := trivial)
            | (at_builtin; have _t := t2; clear t2; refine wpList_join w1 w1 rfl (.tmp 36) (.tmp 37) rfl ar nr cr w.heap.size (Value.slice ar nr cr).ownBlock _ rfl (hA.keep g1) (World.grownBy.refl _ _) (fun q h => .inl h) (Nat.le_trans hgr.size g1.size) ae ne ce _ rfl hAe.rd (by unfold enP at hel; omega) (by unfold enP at hel; omega) ?_; intro gx cx w2 hA2 hG2 hM2; clear c0 c1 c2 c3 c4 c5; have G2 := grown_far (grown_trans hgr g1) hG2 (fun q e => hA.new q e); obtain ⟨c0, c1, c2, c3, c4, c5⟩ := hP.six G2 k hlt; have hO2 := (hO.keep g1).kept hG2 (swap_own (apart_bp hA hO)); have t3 : True := trivial)
            | (at_builtin; have _t := t3; clear t3; refine wpList_psP w w2 (F k) rfl (.tmp 39) (.tmp 44) rfl ag ng cg (gdP F k) rfl hO2 G2 rfl (by omega) ?_; intro gy cy w3 hO3 G3 hG3))
          have hA3 := hA2.kept hG3 (apart_bp hA2 hO2)
          rw [← HG.out] at hO3
          have e2 : flB (gdP F k) ++ encP (F k).up (F k).se (F k).ap (F k).pt (F k).ct (F k).D = flB (gdP F (k + 1)) := by rw [HG.out, flB_add]; rfl
          rw [e2] at hA3
          go_roundw
          case rel => exact ⟨k + 1, _, _, nr + ne, cx, ng + 1, cy, by omega, by omega, by go_num, rfl, rfl, hA3, hO3, G3⟩
          case measure => simp [intOf]; omega
        · have hE : ¬ mayE (F k).ap (F k).pt (F k).ct (F k).n = 0 := by rw [← hd.len]; exact ho
          generalize mayE (F k).ap (F k).pt (F k).ct (F k).n = E at hE hen
          have hne : (((E : Int) == 0) : Bool) = false := by simp; omega
          have HG : Hid (gdP F (k + 1) = gdP F k) := show _ = _ from if_neg ho
          go_wp2_with (first
            | (go_at_call 4; have _t := t1; clear t1; refine hen.mono ?_; rintro e w1 ⟨ae, ne, ce, rfl, hAe, g1⟩))
          go_roundw
          case rel => exact ⟨k + 1, _, _, nr, cr, ng, cg, by omega, by omega, by go_num, rfl, rfl, by rw [HG.out]; exact hA.keep g1, by rw [HG.out]; exact hO.keep g1, grown_trans hgr g1⟩
          case measure => simp [intOf]; omega
      · have l1 : (k : Int) < (n : Int) := by omega
        have l1' : ¬ ((k : Int) < 30) := by omega
        have POK : ∀ p, p ∈ gdP F k → okP p ∧ Rd w p.a p.n p.c p.D := fun p hp => by
          obtain ⟨h1, i, hi, e⟩ := gdP_ok F k p hp
          exact ⟨h1, by rw [e]; exact hP.data i (by omega)⟩
        generalize gdP F k = ps at *
        have POK : Hid _ := POK
        go_wp2_with (at_builtin; refine wpList_joinZ rfl (.tmp 46) (.tmp 47) rfl ar nr cr w.heap.size _ rfl hA hgr.size aj nj cj J rfl (hJ.keep hgr) (by omega) ?_; intro a2 c2 w2 hA2 hG2)
        have G2 : w.grownBy w2 none := grown_far hgr hG2 (fun q e => hA.new q e)
        have hO2 := hO.kept hG2 (swap_own (apart_bp hA hO))
        have hR2 := hA2.rd
        have e0 : flB ps ++ J = rsP ps J 0 := rfl
        rw [e0] at hR2
        clear hA hO hgr hG2 hA2 e0
        go_loopw [5, 10] (fun row i wr => ∃ (q : Nat) (ar : Option Addr) (nr cr : Nat), q ≤ ng ∧ i = .int .i64 q ∧ row = .slice ar nr cr ∧ Rd wr ar nr cr (rsP ps J q) ∧ w2.grownBy wr none) (fun _ i _ => ng - (intOf i).toNat)
        case atStart => exact ⟨0, _, _, _, by omega, rfl, rfl, hR2, World.grownBy.refl _ _⟩
        case round =>
          obtain ⟨q, ar, nr, cr, hq, rfl, rfl, hR, hgr⟩ := hrel
          by_cases hlq : q < ng
          · have hlp : q < ps.length := by omega
            obtain ⟨ho, hd⟩ := POK.out _ (List.getElem_mem hlp)
            obtain ⟨f1, f2, f3, f4, f5, f6, f7, f8⟩ := dc_enc ps[q].up ps[q].se ps[q].ap ps[q].pt ps[q].ct ps[q].D (rsP ps J (q + 1)) ho
            have hst : encP ps[q].up ps[q].se ps[q].ap ps[q].pt ps[q].ct ps[q].D ++ rsP ps J (q + 1) = rsP ps J q := (rsP_step ps J q hlp).symm
            rw [hst] at f1 f2 f3 f4 f5 f6 f7 f8
            have hde := decode_any ar nr cr (rsP ps J q) wr hR
            rw [f1, f2, f3, f4, f5, f6, f7, f8] at hde
            unfold pkV at hde
            have hdr := rsP_drop ps J q hlp ho
            have hrl := rsP_len ps J q hlp ho
            rw [hR.len] at hrl
            have hok := okP_len _ ho
            have hO3 := hO2.keep hgr
            rcases hO3.cases with ⟨rfl, rfl, rfl⟩ | ⟨gg, rfl, hg1, hg2⟩
            · exact absurd hlq (Nat.not_lt_zero _)
            have hd1 := (hd.keep G2).keep hgr
            have hOc := fun wz (hz : wr.grownBy wz none) j hj => (hO3.keep hz).cell q j hlp hj
            obtain ⟨bb, of, rfl, _, _⟩ := hR.at' (by omega)
            have HDR : Hid _ := hdr
            have hdl := hd.len
            generalize hpq : ps[q] = p at *
            clear hdr hst f1 f2 f3 f4 f5 f6 f7 f8 ho hpq hd
            obtain ⟨d, hd0⟩ : ∃ d, p.D.length = d := ⟨_, rfl⟩
            rw [hd0] at hde hrl hok hdl HDR
            have HRL : Hid _ := hrl
            have HR : Hid _ := hR
            have hcr := hR.le
            have HCR : Hid _ := hcr
            clear hcr
            have HDL : Hid _ := hdl
            have HD0 : Hid _ := hd0
            have HNG : Hid _ := hng
            have HOK : Hid _ := hok
            have HQ : Hid (q < ng ∧ q < ps.length) := ⟨hlq, hlp⟩
            have l2 : (q : Int) < (ng : Int) := by omega
            have hq31 : q < 31 := by omega
            clear hrl hdl hd0 hng hok hnr hR2 hR hj hnr2 hng2 hgl hlp l1 hlt
            have t1 : True := trivial
            go_wp2_with (first
              | (go_at_call 5; have _t := t1; clear t1; refine hde.mono ?_; rintro e w3 ⟨a3, n3, c3, rfl, hA3, g3⟩; have p3 := BxP.new w3 p.up p.se p.ap p.pt p.ct a3 n3 c3; have gA3 := World.grownBy_alloc w3 (.cells #[.bool p.up, .bool p.se, .int .i64 p.ap, .int .i64 p.pt, .int .i64 p.ct, .slice a3 n3 c3] 29) none; generalize hv3 : w3.alloc (.cells #[.bool p.up, .bool p.se, .int .i64 p.ap, .int .i64 p.pt, .int .i64 p.ct, .slice a3 n3 c3] 29) = v3 at p3 gA3; have h13 := grown_trans g3 gA3; obtain ⟨x0, x1, x2, x3, x4, x5⟩ := p3.cell; have y0 : v3.cell? ⟨gg, q * 6, none⟩ = some (.bool p.up) := hOc v3 h13 0 (by decide); have y1 : v3.cell? ⟨gg, q * 6 + 1, none⟩ = some (.bool p.se) := hOc v3 h13 1 (by decide); have y2 : v3.cell? ⟨gg, q * 6 + 2, none⟩ = some (.int .i64 p.ap) := hOc v3 h13 2 (by decide); have y3 : v3.cell? ⟨gg, q * 6 + 3, none⟩ = some (.int .i64 p.pt) := hOc v3 h13 3 (by decide); have y4 : v3.cell? ⟨gg, q * 6 + 4, none⟩ = some (.int .i64 p.ct) := hOc v3 h13 4 (by decide); have y5 : v3.cell? ⟨gg, q * 6 + 5, none⟩ = some (.slice p.a p.n p.c) := hOc v3 h13 5 (by decide); clear hOc hde; have n3e : n3 = d := (by rw [← hA3.len, HD0.out]); subst n3e; have s1 := fun z => str_any (v3.drewN z) a3 n3 c3 p.D (((hA3.keep gA3).rd).keep (grown_drewN v3 z none)); have s2 := fun z => str_any (v3.drewN z) p.a p.n p.c p.D ((hd1.keep h13).keep (grown_drewN v3 z none))))
            have r6 : IntKind.i64.wrap ((n3 : Int) + 6) = (n3 : Int) + 6 := wrap_i64_in _ (by have := HOK.out; omega) (by have := HOK.out; omega)
            have r7 : wrap64 ((n3 : Int) + 6) = (n3 : Int) + 6 := by have := HOK.out; unfold wrap64; omega
            go_quiet (fail)
            generalize hdr4 : v3.drewN nq = w4
            have g4 := grown_drewN v3 nq none
            rw [hdr4] at g4
            have gR := grown_trans h13 g4
            have hR4 : Rd w4 (some ⟨bb, of, none⟩) nr cr (rsP ps J q) := Rd.keep HR.out gR
            have hrl := HRL.out
            have hcr : nr ≤ cr := HCR.out
            clear x0 x1 x2 x3 x4 x5 y0 y1 y2 y3 y4 y5 s1 s2 r6 r7 hdr4 hv3 p3 hO3 hd1 gA3 g3
            have u1 : ((n3 : Int) + 6).toNat = n3 + 6 := by omega
            have u2 : (n3 : Int) + 6 ≤ (nr : Int) := by omega
            have u3 : (0 : Int) ≤ (n3 : Int) + 6 := by omega
            have u4 : n3 + 6 ≤ nr := by omega
            have H1 := rd_from hR4 u4
            rw [HDR.out] at H1
            have H1 : Hid _ := H1
            have GR : Hid _ := grown_trans hgr gR
            by_cases hcc : cr = n3 + 6
            · have H0 : Rd w4 (some ⟨bb, of, none⟩) 0 0 (rsP ps J (q + 1)) := by
                rw [← HDR.out]
                subst hcc
                exact rd_from0 hR4 u4
              have H0 : Hid _ := H0
              have hnn : nr = n3 + 6 := by omega
              clear hR4 hrl hcr
              subst hcc
              subst hnn
              go_wp2
              go_roundw
              case rel => exact ⟨q + 1, _, _, _, (by have h := HQ.out; omega), by go_num, rfl, H0.out, GR.out⟩
              case measure => have h := HQ.out; simp [intOf]; omega
            · clear hR4 hrl hcr
              go_wp2
              go_roundw
              case rel => exact ⟨q + 1, _, _, _, (by have h := HQ.out; omega), by go_num, rfl, H1.out, GR.out⟩
              case measure => have h := HQ.out; simp [intOf]; omega
          · obtain rfl : q = ng := by omega
            have HR : Hid _ := hR
            rw [← hng, rsP_end] at hR
            have hJ3 := (hJ.keep G2).keep hgr
            have A1 := two_newB wr
            have gA1 := World.grownBy_alloc wr (.cells #[.int .u8 170, .int .u8 187] 5) none
            generalize hw3 : wr.alloc (.cells #[.int .u8 170, .int .u8 187] 5) = w3 at A1 gA1
            have hen := encode_any false false 5 3 7 (some ⟨wr.heap.size, 0, none⟩) 2 2 [170, 187] w3 A1
            rw [show mayE 5 3 7 2 = 0 from by decide, show encP false false 5 3 7 [170, 187] = [0, 5, 192, 7, 0, 1, 170, 187] from by decide] at hen
            unfold pkV at hen
            have hs0 := strB_one
            clear hR2 hj hnr2 hng2 hgl hnr
            have l2 : ¬ ((q : Int) < (q : Int)) := by omega
            have t1 : True := trivial
            go_wp2_with (first
              | (go_at_call 4; have _t := t1; clear t1; refine hen.mono ?_; rintro e w4 ⟨a4, n4, c4, rfl, hA4, g4⟩; have g34 := grown_trans gA1 g4; have s1 := str_any w4 ar nr cr J (hR.keep g34); have s2 := str_any w4 aj nj cj J (hJ3.keep g34); have s3 := str_any w4 a4 n4 c4 _ hA4.rd; rw [hs0] at s3))
            go_ret
            exact ⟨rfl, (Below.refl _ _).grown (grown_trans (grown_trans G2 hgr) g34) (Nat.le_refl _) (fun k hk => by cases hk)⟩
    · have l1 : ¬ ((k : Int) < (n : Int)) := by omega
      have POK : ∀ p, p ∈ gdP F k → okP p ∧ Rd w p.a p.n p.c p.D := fun p hp => by
        obtain ⟨h1, i, hi, e⟩ := gdP_ok F k p hp
        exact ⟨h1, by rw [e]; exact hP.data i (by omega)⟩
      generalize gdP F k = ps at *
      have POK : Hid _ := POK
      go_wp2_with (at_builtin; refine wpList_joinZ rfl (.tmp 46) (.tmp 47) rfl ar nr cr w.heap.size _ rfl hA hgr.size aj nj cj J rfl (hJ.keep hgr) (by omega) ?_; intro a2 c2 w2 hA2 hG2)
      have G2 : w.grownBy w2 none := grown_far hgr hG2 (fun q e => hA.new q e)
      have hO2 := hO.kept hG2 (swap_own (apart_bp hA hO))
      have hR2 := hA2.rd
      have e0 : flB ps ++ J = rsP ps J 0 := rfl
      rw [e0] at hR2
      clear hA hO hgr hG2 hA2 e0
      go_loopw [5, 10] (fun row i wr => ∃ (q : Nat) (ar : Option Addr) (nr cr : Nat), q ≤ ng ∧ i = .int .i64 q ∧ row = .slice ar nr cr ∧ Rd wr ar nr cr (rsP ps J q) ∧ w2.grownBy wr none) (fun _ i _ => ng - (intOf i).toNat)
      case atStart => exact ⟨0, _, _, _, by omega, rfl, rfl, hR2, World.grownBy.refl _ _⟩
      case round =>
        obtain ⟨q, ar, nr, cr, hq, rfl, rfl, hR, hgr⟩ := hrel
        by_cases hlq : q < ng
        · have hlp : q < ps.length := by omega
          obtain ⟨ho, hd⟩ := POK.out _ (List.getElem_mem hlp)
          obtain ⟨f1, f2, f3, f4, f5, f6, f7, f8⟩ := dc_enc ps[q].up ps[q].se ps[q].ap ps[q].pt ps[q].ct ps[q].D (rsP ps J (q + 1)) ho
          have hst : encP ps[q].up ps[q].se ps[q].ap ps[q].pt ps[q].ct ps[q].D ++ rsP ps J (q + 1) = rsP ps J q := (rsP_step ps J q hlp).symm
          rw [hst] at f1 f2 f3 f4 f5 f6 f7 f8
          have hde := decode_any ar nr cr (rsP ps J q) wr hR
          rw [f1, f2, f3, f4, f5, f6, f7, f8] at hde
          unfold pkV at hde
          have hdr := rsP_drop ps J q hlp ho
          have hrl := rsP_len ps J q hlp ho
          rw [hR.len] at hrl
          have hok := okP_len _ ho
          have hO3 := hO2.keep hgr
          rcases hO3.cases with ⟨rfl, rfl, rfl⟩ | ⟨gg, rfl, hg1, hg2⟩
          · exact absurd hlq (Nat.not_lt_zero _)
          have hd1 := (hd.keep G2).keep hgr
          have hOc := fun wz (hz : wr.grownBy wz none) j hj => (hO3.keep hz).cell q j hlp hj
          obtain ⟨bb, of, rfl, _, _⟩ := hR.at' (by omega)
          have HDR : Hid _ := hdr
          have hdl := hd.len
          generalize hpq : ps[q] = p at *
          clear hdr hst f1 f2 f3 f4 f5 f6 f7 f8 ho hpq hd
          obtain ⟨d, hd0⟩ : ∃ d, p.D.length = d := ⟨_, rfl⟩
          rw [hd0] at hde hrl hok hdl HDR
          have HRL : Hid _ := hrl
          have HR : Hid _ := hR
          have hcr := hR.le
          have HCR : Hid _ := hcr
          clear hcr
          have HDL : Hid _ := hdl
          have HD0 : Hid _ := hd0
          have HNG : Hid _ := hng
          have HOK : Hid _ := hok
          have HQ : Hid (q < ng ∧ q < ps.length) := ⟨hlq, hlp⟩
          have l2 : (q : Int) < (ng : Int) := by omega
          have hq31 : q < 31 := by omega
          clear hrl hdl hd0 hng hok hnr hR2 hR hj hnr2 hng2 hgl hlp l1 hlt
          have t1 : True := trivial
          go_wp2_with (first
            | (go_at_call 5; have _t := t1; clear t1; refine hde.mono ?_; rintro e w3 ⟨a3, n3, c3, rfl, hA3, g3⟩; have p3 := BxP.new w3 p.up p.se p.ap p.pt p.ct a3 n3 c3; have gA3 := World.grownBy_alloc w3 (.cells #[.bool p.up, .bool p.se, .int .i64 p.ap, .int .i64 p.pt, .int .i64 p.ct, .slice a3 n3 c3] 29) none; generalize hv3 : w3.alloc (.cells #[.bool p.up, .bool p.se, .int .i64 p.ap, .int .i64 p.pt, .int .i64 p.ct, .slice a3 n3 c3] 29) = v3 at p3 gA3; have h13 := grown_trans g3 gA3; obtain ⟨x0, x1, x2, x3, x4, x5⟩ := p3.cell; have y0 : v3.cell? ⟨gg, q * 6, none⟩ = some (.bool p.up) := hOc v3 h13 0 (by decide); have y1 : v3.cell? ⟨gg, q * 6 + 1, none⟩ = some (.bool p.se) := hOc v3 h13 1 (by decide); have y2 : v3.cell? ⟨gg, q * 6 + 2, none⟩ = some (.int .i64 p.ap) := hOc v3 h13 2 (by decide); have y3 : v3.cell? ⟨gg, q * 6 + 3, none⟩ = some (.int .i64 p.pt) := hOc v3 h13 3 (by decide); have y4 : v3.cell? ⟨gg, q * 6 + 4, none⟩ = some (.int .i64 p.ct) := hOc v3 h13 4 (by decide); have y5 : v3.cell? ⟨gg, q * 6 + 5, none⟩ = some (.slice p.a p.n p.c) := hOc v3 h13 5 (by decide); clear hOc hde; have n3e : n3 = d := (by rw [← hA3.len, HD0.out]); subst n3e; have s1 := fun z => str_any (v3.drewN z) a3 n3 c3 p.D (((hA3.keep gA3).rd).keep (grown_drewN v3 z none)); have s2 := fun z => str_any (v3.drewN z) p.a p.n p.c p.D ((hd1.keep h13).keep (grown_drewN v3 z none))))
          have r6 : IntKind.i64.wrap ((n3 : Int) + 6) = (n3 : Int) + 6 := wrap_i64_in _ (by have := HOK.out; omega) (by have := HOK.out; omega)
          have r7 : wrap64 ((n3 : Int) + 6) = (n3 : Int) + 6 := by have := HOK.out; unfold wrap64; omega
          go_quiet (fail)
          generalize hdr4 : v3.drewN nq = w4
          have g4 := grown_drewN v3 nq none
          rw [hdr4] at g4
          have gR := grown_trans h13 g4
          have hR4 : Rd w4 (some ⟨bb, of, none⟩) nr cr (rsP ps J q) := Rd.keep HR.out gR
          have hrl := HRL.out
          have hcr : nr ≤ cr := HCR.out
          clear x0 x1 x2 x3 x4 x5 y0 y1 y2 y3 y4 y5 s1 s2 r6 r7 hdr4 hv3 p3 hO3 hd1 gA3 g3
          have u1 : ((n3 : Int) + 6).toNat = n3 + 6 := by omega
          have u2 : (n3 : Int) + 6 ≤ (nr : Int) := by omega
          have u3 : (0 : Int) ≤ (n3 : Int) + 6 := by omega
          have u4 : n3 + 6 ≤ nr := by omega
          have H1 := rd_from hR4 u4
          rw [HDR.out] at H1
          have H1 : Hid _ := H1
          have GR : Hid _ := grown_trans hgr gR
          by_cases hcc : cr = n3 + 6
          · have H0 : Rd w4 (some ⟨bb, of, none⟩) 0 0 (rsP ps J (q + 1)) := by
              rw [← HDR.out]
              subst hcc
              exact rd_from0 hR4 u4
            have H0 : Hid _ := H0
            have hnn : nr = n3 + 6 := by omega
            clear hR4 hrl hcr
            subst hcc
            subst hnn
            go_wp2
            go_roundw
            case rel => exact ⟨q + 1, _, _, _, (by have h := HQ.out; omega), by go_num, rfl, H0.out, GR.out⟩
            case measure => have h := HQ.out; simp [intOf]; omega
          · clear hR4 hrl hcr
            go_wp2
            go_roundw
            case rel => exact ⟨q + 1, _, _, _, (by have h := HQ.out; omega), by go_num, rfl, H1.out, GR.out⟩
            case measure => have h := HQ.out; simp [intOf]; omega
        · obtain rfl : q = ng := by omega
          have HR : Hid _ := hR
          rw [← hng, rsP_end] at hR
          have hJ3 := (hJ.keep G2).keep hgr
          have A1 := two_newB wr
          have gA1 := World.grownBy_alloc wr (.cells #[.int .u8 170, .int .u8 187] 5) none
          generalize hw3 : wr.alloc (.cells #[.int .u8 170, .int .u8 187] 5) = w3 at A1 gA1
          have hen := encode_any false false 5 3 7 (some ⟨wr.heap.size, 0, none⟩) 2 2 [170, 187] w3 A1
          rw [show mayE 5 3 7 2 = 0 from by decide, show encP false false 5 3 7 [170, 187] = [0, 5, 192, 7, 0, 1, 170, 187] from by decide] at hen
          unfold pkV at hen
          have hs0 := strB_one
          clear hR2 hj hnr2 hng2 hgl hnr
          have l2 : ¬ ((q : Int) < (q : Int)) := by omega
          have t1 : True := trivial
          go_wp2_with (first
            | (go_at_call 4; have _t := t1; clear t1; refine hen.mono ?_; rintro e w4 ⟨a4, n4, c4, rfl, hA4, g4⟩; have g34 := grown_trans gA1 g4; have s1 := str_any w4 ar nr cr J (hR.keep g34); have s2 := str_any w4 aj nj cj J (hJ3.keep g34); have s3 := str_any w4 a4 n4 c4 _ hA4.rd; rw [hs0] at s3))
          go_ret
          exact ⟨rfl, (Below.refl _ _).grown (grown_trans (grown_trans G2 hgr) g34) (Nat.le_refl _) (fun k hk => by cases hk)⟩
end Go.Proofs.Ytijjkhmdhpbhpaa
