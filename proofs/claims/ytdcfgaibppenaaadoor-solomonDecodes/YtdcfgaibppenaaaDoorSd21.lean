import Derived.Test.YtdcfgaibppenaaaDoorSd20
namespace Go.Proofs.YtdcfgaibppenaaaDoor
open Go.RowKit
set_option maxRecDepth 100000
set_option linter.unusedVariables false
set_option linter.unusedSimpArgs false

section
open GF
theorem Roomy.ans [Add GF] [Mul GF] [OfNat GF 0] [OfNat GF 1] [L : Nonempty GL] {w : World} {g n lo : Nat} {L D : List Nat} (h : Roomy w g n L D) (hL : IsB L) (hl : L.length = n) (hn : n ≤ 140737488351232) (hlo : lo ≤ g) : Ans w lo (some ⟨g, 0, none⟩) n (n + 5) L := by
  refine ⟨⟨by rw [bys_length, hl, Nat.mul_one], .inr ⟨g, n + 5, (bys D).toArray, rfl, Nat.zero_le _, h.blk, by omega, by unfold maxLen; omega, by simp [bys_length, h.len], ?_⟩⟩, hL, fun x hx => ?_⟩
  · simp only [Nat.mul_one, List.toList_toArray]
    apply List.ext_getElem?
    intro i
    by_cases hi : i < n
    · rw [List.getElem?_take, if_pos hi, nth_bys D i (by rw [h.len]; omega), nth_bys L i (by omega), h.own i hi]
    · rw [List.getElem?_eq_none (by simp [bys_length]; omega), List.getElem?_eq_none (by rw [bys_length]; omega)]
  · have e : g = x := Option.some.inj hx
    omega
theorem wpList_psYd [Add GF] [Mul GF] [OfNat GF 0] [OfNat GF 1] [L : Nonempty GL] {t e : TypeId} {z : Value} {by' : Nat} (E : ElT t e z by') (w : World) (u : Value) (h1 : u.oneCell' = true) {ops : Array Oper} {rest : List Oper} {o : Oper} {a : Act} {Q : Exit → Act → World → Prop} (hg : o.guard = none) (s x : Operand)
    (hop : o.op = Op.call { callee := .builtin .append, args := #[s, x], argTypes := #[t, t] }) (ao : Option Addr) (m co lo : Nat) (D : List Value) (hs : a.eval s = .slice ao m co)
    (hA : AnsX e w lo ao m co D) (hlo : lo ≤ w.heap.size) (hx : a.eval x = .slice (some ⟨w.heap.size, 0, none⟩) 1 1) (hb : (m + 1) * by' ≤ 140737488351400) (hb3 : m + 1 ≤ 140737488351400)
    (hK : ∀ gx cx w', AnsX e w' lo (some ⟨gx, 0, none⟩) (m + 1) cx (D ++ [u]) → w.grownBy w' (Value.slice ao m co).ownBlock → ((Value.slice ao m co).ownBlock = some gx ∨ w.heap.size ≤ gx) → wpList Tryd.prog ops Q rest (a.put o.dst (.slice (some ⟨gx, 0, none⟩) (m + 1) cx)) w') :
    wpList Tryd.prog ops Q (o :: rest) a (w.alloc (.cells #[u] e)) := by
  obtain ⟨i0, hi, hz0, hz1, hz2⟩ := info_parts E.inf
  have gA := World.grownBy_alloc w (.cells #[u] e) none
  have hR := rdX_one w e u h1
  have hpos := E.pos
  refine wpList_apS _ hg s x t e i0 z 1 by' E.und hi hz0 hz1 hz2 E.one (by decide) hop (.slice ao m co) m D hs (hA.own.alloc _) ⟨w.heap.size, 0, none⟩ 1 1 [u] hx rfl ?_ hR.one (by decide) (by unfold maxLen; omega) (by omega) ?_
  · intro j v hv
    obtain ⟨b, off, e', _, hc⟩ := hR.at' (by decide)
    cases e'
    rw [addr_add]
    exact hc j v hv
  · intro g c w' hgx hgr hown
    have hsz := gA.size
    refine hK g c w' ⟨hown, ?_, fun y hy => ?_⟩ (grown_trans (grown_weak gA _) hgr) ?_
    · intro v hv
      rcases List.mem_append.1 hv with h | h
      · exact hA.one v h
      · exact hR.one v h
    · have e' : g = y := Option.some.inj hy
      subst e'
      rcases hgx with h | h
      · exact hA.new g h
      · omega
    · rcases hgx with h | h
      · exact .inl h
      · exact .inr (by omega)
set_option maxHeartbeats 4000000 in
theorem over_anyD [Add GF] [Mul GF] [OfNat GF 0] [OfNat GF 1] [L : Nonempty GL] (mk : Int) (a : Option Addr) (n cap lo : Nat) (S : List Value) (w : World) (h : AnsX 3 w lo a n cap S) (hn : n ≤ 17592186043904) :
    Calls Tryd.prog 21 #[.slice a n cap, .int .i64 mk] w fun e w' => e = .returned (.tuple #[]) ∧ w.grownBy w' (Value.slice a n cap).ownBlock := by
  have hm2 := h.max
  unfold maxLen at hm2
  go_enter Tryd.func21, Tryd.ntmps21
  go_wp2
  go_loopw [4] (fun i wr => ∃ (k : Nat) (X : List Value), k ≤ n ∧ i = .int .i64 k ∧ w.grownBy wr (Value.slice a n cap).ownBlock ∧ AnsX 3 wr lo a n cap X) (fun i _ => n - (intOf i).toNat)
  case atStart => exact ⟨0, _, by omega, rfl, World.grownBy.refl _ _, h⟩
  case round =>
    obtain ⟨k, X, hk, rfl, hgr, hA⟩ := hrel
    by_cases hlt : k < n
    · have hlt' : (k : Int) < (n : Int) := by omega
      rcases hA.cases with ⟨_, h0, _⟩ | ⟨g, e, _, _⟩
      · omega
      subst e
      have hc := hA.cell k _ (List.getElem?_eq_getElem (by rw [hA.len]; exact hlt))
      have hf := hA.free k
      have R := hA.set k (.int .i64 mk) rfl
      go_wp2
      go_roundw
      case rel => exact ⟨k + 1, _, by omega, by go_num, grown_trans hgr (grown_set _ _ _ _), R⟩
      case measure => simp [intOf]; omega
    · have hlt' : ¬ (k : Int) < (n : Int) := by omega
      go_wp2
      go_loopw [0, 5] (fun v i wq => ∃ (q : Nat) (b : Option Addr) (m c : Nat) (Y : List Value), q ≤ 20 ∧ m = n + q ∧ i = .int .i64 q ∧ v = .slice b m c ∧ w.grownBy wq (Value.slice a n cap).ownBlock ∧ AnsX 3 wq 0 b m c Y ∧ (∀ y, (Value.slice b m c).ownBlock = some y → (Value.slice a n cap).ownBlock = some y ∨ w.heap.size ≤ y)) (fun _ i _ => 20 - (intOf i).toNat)
      case atStart => exact ⟨0, a, n, cap, X, by omega, rfl, rfl, rfl, hgr, hA.low (Nat.zero_le _), fun y hy => .inl hy⟩
      case round =>
        obtain ⟨q, b, m, c, Y, hq, hmq, rfl, rfl, hgq, hY, hb⟩ := hrel
        by_cases hlq : q < 20
        · have hlq' : (q : Int) < 20 := by omega
          have hsz := hgq.size
          go_wp2_with (at_builtin; refine wpList_psYd Tryd.elJ wr (.int .i64 mk) rfl rfl _ _ rfl b m c 0 Y rfl hY (Nat.zero_le _) rfl (by omega) (by omega) ?_; intro gx cx w2 hA2 hg2 hx2)
          go_roundw
          case rel =>
            refine ⟨q + 1, some ⟨gx, 0, none⟩, m + 1, cx, _, by omega, by omega, by go_num, by rw [hmq], ?_, hA2, ?_⟩
            · cases hbo : (Value.slice b m c).ownBlock with
              | none => rw [hbo] at hg2; exact grown_trans hgq (grown_weak hg2 _)
              | some y => rw [hbo] at hg2; exact grown_new hgq hg2 (hb y hbo)
            · intro y hy
              have e : gx = y := Option.some.inj hy
              subst e
              rcases hx2 with h | h
              · exact hb gx h
              · exact .inr (by omega)
          case measure => simp [intOf]; omega
        · have hlq' : ¬ (q : Int) < 20 := by omega
          go_wp2
          go_end0
          exact ⟨rfl, hgq⟩
theorem copied_anyZ [Add GF] [Mul GF] [OfNat GF 0] [OfNat GF 1] [L : Nonempty GL] (a : Option Addr) (m cap : Nat) (L : List Int) (w : World) (hR : RdX w a m cap (zI L)) (hm : m * 8 ≤ 140737488351232) :
    Calls Tryd.prog 17 #[.slice a m cap] w fun e w' => ∃ a' c', e = .returned (.slice a' m c') ∧ AnsX 3 w' w.heap.size a' m c' (zI L) ∧ w.grownBy w' none := by
  have HR : Hid _ := hR
  clear hR
  go_enter Tryd.func17, Tryd.ntmps17
  go_wp2_with (at_builtin; refine wpList_apX Tryd.elJ rfl _ _ rfl none 0 0 w.heap.size [] rfl (AnsX.nil0 _ _ _) (Nat.le_refl _) a m cap (zI L) rfl HR.out (by omega) (by omega) ?_; intro a6 c6 w6 hA6 g6; rw [Nat.zero_add, List.nil_append] at hA6; (try rw [Nat.zero_add]))
  first | go_ret | skip
  exact ⟨a6, c6, rfl, hA6, g6⟩
set_option maxHeartbeats 1000000 in
theorem sameZ_any [Add GF] [Mul GF] [OfNat GF 0] [OfNat GF 1] [L : Nonempty GL] (a b : Option Addr) (n cap cap' : Nat) (L : List Int) (w : World) (hL : L.length = n) (h : RdX w a n cap (zI L)) (k : RdX w b n cap' (zI L)) :
    Calls Tryd.prog 18 #[.slice a n cap, .slice b n cap'] w fun e w' => e = .returned (.bool true) ∧ w.grownBy w' none := by
  have hm1 := h.max
  have hm2 := h.le
  unfold maxLen at hm1
  have HN : Hid _ := hL
  have HA : Hid _ := h
  have HB : Hid _ := k
  clear h k hL
  go_enter Tryd.func18, Tryd.ntmps18
  go_wp2
  go_loopw [5] (fun i wr => ∃ q : Nat, q ≤ n ∧ i = .int .i64 q ∧ w.grownBy wr none) (fun i _ => n - (intOf i).toNat)
  case atStart => exact ⟨0, by omega, rfl, World.grownBy.refl _ _⟩
  case round =>
    obtain ⟨q, hq, rfl, hgr⟩ := hrel
    by_cases hlt : q < n
    · obtain ⟨b1, o1, e1, _, hc1⟩ := (RdX.keep HA.out hgr).at' (by omega)
      obtain ⟨b2, o2, e2, _, hc2⟩ := (RdX.keep HB.out hgr).at' (by omega)
      subst e1
      subst e2
      have c1 := hc1 q _ (zI_at L (by rw [HN.out]; exact hlt))
      have c2 := hc2 q _ (zI_at L (by rw [HN.out]; exact hlt))
      have hqi : (q : Int) < (n : Int) := by omega
      clear hc1 hc2
      generalize L.getD q 0 = x at *
      go_wp2
      go_quiet (fail)
      go_wp2
      go_roundw
      case rel => exact ⟨q + 1, by omega, by go_num, grown_trans hgr (grown_drewN _ _ _)⟩
      case measure => simp [intOf]; omega
    · have hqi : ¬ (q : Int) < (n : Int) := by omega
      go_wp2
      go_ret
      exact ⟨rfl, hgr⟩
theorem ppI_zI (L : List Nat) : ppI L = zI (L.map fun (p : Nat) => (p : Int)) := by
  unfold ppI zI
  rw [List.map_map]
  rfl
theorem some_ne {a : Option Addr} {n c : Nat} {r : Option Nat} (h : ∀ y, (Value.slice a n c).ownBlock = some y → r ≠ some y) : ∀ g off, a = some ⟨g, off, none⟩ → some g ≠ r := fun g off e e2 => h g (by rw [e]; rfl) e2.symm
set_option maxHeartbeats 32000000 in
theorem decodes_law [Add GF] [Mul GF] [OfNat GF 0] [OfNat GF 1] [L : Nonempty GL] (fv : Value) (I : World → Prop) (hI : ∀ u v, I u → u.grownBy v none → I v) (W : List Nat) (a : Option Addr) (n cap : Nat) (L : List Int) (ah : Option Addr) (m ch : Nat) (D : List Nat) (wa : Option Addr) (wc : Nat) (X : List Nat) (xa : Option Addr) (xc : Nat) (z : Int) (w : World) (lo : Nat) (hw : I w)
    (hp : Rd w a n cap W) (hn : n ≤ 140737488351232) (hH : RdX w ah m ch (zI L)) (hLm : L.length = m) (hm : m * 8 ≤ 140737488351232) (hDB : IsB D) (hDl : D.length ≤ 255) (hD : AnsX 5 w lo wa D.length wc (bys D)) (hXl : X.length ≤ 255) (hX : AnsX 3 w lo xa X.length xc (ppI X))
    (hC : ∀ (wz : World) (g lo' : Nat) (ka : Option Addr) (kc : Nat), I wz → Rd wz (some ⟨g, 0, none⟩) n (n + 5) W → AnsX 3 wz lo' ka m kc (zI L) → Calls Tryd.prog 5 #[.slice (some ⟨g, 0, none⟩) n (n + 5), .slice ka m kc, fv] wz fun e w' => ∃ (a' p' : Option Addr) (c' q' : Nat), e = .returned (.tuple #[.slice a' D.length c', .slice p' X.length q', .int .i64 z]) ∧ AnsX 5 w' wz.heap.size a' D.length c' (bys D) ∧ AnsX 3 w' wz.heap.size p' X.length q' (ppI X) ∧ wz.grownBy w' none) :
    Calls Tryd.prog 7 #[.func (.func 5) #[] #[fv], .slice a n cap, .slice ah m ch, .slice wa D.length wc, .slice xa X.length xc, .int .i64 z] w fun e w' => e = .returned (.bool true) ∧ w.grownBy w' none := by
  have hWl := hp.len
  have hWB := hp.byte
  have HPX : Hid _ := hp
  have HHX : Hid _ := hH
  have HLM : Hid _ := hLm
  have HCC : Hid _ := hC
  have HDX : Hid _ := hD
  have HXX : Hid _ := hX
  have HXL : Hid ((X.map fun (p : Nat) => (p : Int)).length = X.length) := List.length_map _
  have HDB : Hid _ := hDB
  have HRO : Hid _ := roomy_any a n cap W w hp hn
  clear hp hH hLm hC hD hX hDB
  obtain ⟨d, hd⟩ : ∃ d, D.length = d := ⟨_, rfl⟩
  obtain ⟨k, hk⟩ : ∃ k, X.length = k := ⟨_, rfl⟩
  rw [hd] at HCC HDX hDl ⊢
  rw [hk] at HCC HXX hXl HXL ⊢
  clear hd hk
  go_enter Tryd.func7, Tryd.ntmps7
  refine wp_seq_k fun K0 hK0 => ?_
  have HK0 : Hid _ := hK0
  clear hK0
  go_wp2
  refine HK0.out _ _ ?_
  clear HK0
  refine wp_seq_k fun K1 hK1 => ?_
  have HK1 : Hid _ := hK1
  clear hK1
  have s1 : True := trivial
  go_wp2_with (first
    | (have _t := s1; clear s1; go_at_call 16; refine Calls.mono HRO.out ?_; rintro e w1 ⟨rfl, hRm, G1⟩; have s2 : True := trivial; have HRM : Hid _ := hRm; clear hRm)
    | (have _t := s2; clear s2; go_at_call 17; refine Calls.mono (copied_anyZ ah m ch L w1 (HHX.out.keep G1) hm) ?_; rintro e w2 ⟨ka, kc, rfl, hK2, G2⟩))
  refine HK1.out _ _ ?_
  clear HK1
  obtain ⟨D1, hR1⟩ := HRM.out
  obtain ⟨gh, hgh⟩ : ∃ x, w.heap.size = x := ⟨_, rfl⟩
  rw [hgh] at hR1 ⊢
  have hghl : w.heap.size ≤ gh := Nat.le_of_eq hgh
  clear hgh HRM
  have hR2 := hR1.keep G2
  have hgh2 : gh < w1.heap.size := (Array.getElem?_eq_some_iff.1 hR1.blk).1
  have GW2 := grown_trans G1 G2
  have hRd2 : Rd w2 (some ⟨gh, 0, none⟩) n (n + 5) W := hR2.rd hWB hWl hn
  have HK2 : Hid _ := hK2
  have HC2 : Hid _ := HCC.out w2 gh w1.heap.size ka kc (hI _ _ hw GW2) hRd2 hK2
  clear hK2 hRd2
  refine wp_seq_k fun K2 hK2 => ?_
  have HK2 : Hid _ := hK2
  clear hK2
  go_wp2_with (go_at_call 5; refine Calls.mono HC2.out ?_; rintro e w3 ⟨a3, p3, c3, q3, rfl, hA3, hP3, G3⟩)
  refine HK2.out _ _ ?_
  clear HK2
  have GW3 := grown_trans GW2 G3
  have hR3 := hR2.keep G3
  have hRd3 : Rd w3 (some ⟨gh, 0, none⟩) n (n + 5) W := hR3.rd hWB hWl hn
  have HC3 : Hid _ := HCC.out w3 gh w1.heap.size ka kc (hI _ _ hw GW3) hRd3 (HK2.out.keep G3)
  have HA3 : Hid _ := hA3
  have HP3 : Hid _ := hP3
  clear hA3 hP3 hRd3
  refine wp_seq_k fun K3 hK3 => ?_
  have HK3 : Hid _ := hK3
  clear hK3
  go_wp2_with (go_at_call 5; refine Calls.mono HC3.out ?_; rintro e w4 ⟨a4, p4, c4, q4, rfl, hA4, hP4, G4⟩)
  refine HK3.out _ _ ?_
  clear HK3
  have GW4 := grown_trans GW3 G4
  have hR4 := hR3.keep G4
  have HA4 : Hid _ := hA4
  have HP4 : Hid _ := hP4
  clear hA4 hP4 HC2 HC3
  -- what lies where
  have hs3 := G3.size
  have hs2 := G2.size
  have hs1 := G1.size
  have aA3 : ∀ y, (Value.slice a3 d c3).ownBlock = some y → w2.heap.size ≤ y ∧ y < w3.heap.size := fun y e => ⟨HA3.out.new y e, HA3.out.lt y e⟩
  have aP3 : ∀ y, (Value.slice p3 k q3).ownBlock = some y → w2.heap.size ≤ y ∧ y < w3.heap.size := fun y e => ⟨HP3.out.new y e, HP3.out.lt y e⟩
  have aA4 : ∀ y, (Value.slice a4 d c4).ownBlock = some y → w3.heap.size ≤ y := fun y e => HA4.out.new y e
  have aP4 : ∀ y, (Value.slice p4 k q4).ownBlock = some y → w3.heap.size ≤ y := fun y e => HP4.out.new y e
  have aK : ∀ y, (Value.slice ka m kc).ownBlock = some y → w1.heap.size ≤ y ∧ y < w2.heap.size := fun y e => ⟨HK2.out.new y e, HK2.out.lt y e⟩
  have aD : ∀ y, (Value.slice wa d wc).ownBlock = some y → y < w.heap.size := fun y e => HDX.out.lt y e
  have aX : ∀ y, (Value.slice xa k xc).ownBlock = some y → y < w.heap.size := fun y e => HXX.out.lt y e
  have zX := ppI_zI X
  have kX4 := (HXX.out.keep GW4)
  have kD4 := (HDX.out.keep GW4)
  have kP3 := HP3.out.keep G4
  have kA3 := HA3.out.keep G4
  have kK4 := (HK2.out.keep G3).keep G4
  have tA : ∀ {lo1 lo2 : Nat} {b1 b2 : Option Addr} {n1 n2 e1 e2 : Nat} {Y1 Y2 : List Value} {u : World}, AnsX 5 u lo1 b1 n1 e1 Y1 → AnsX 3 u lo2 b2 n2 e2 Y2 → ∀ y, (Value.slice b1 n1 e1).ownBlock = some y → (Value.slice b2 n2 e2).ownBlock ≠ some y := fun h1 h2 y e1 => by
    obtain ⟨t, cs, b9, e3⟩ := h1.tyR y e1
    exact h2.bxR b9 (by rw [e3]; decide)
  have HS1 : Hid _ := sameZ_any p3 xa k q3 xc _ w4 HXL.out (by rw [← zX]; exact kP3.rd) (by rw [← zX]; exact kX4.rd)
  have HWS : Hid _ := HPX.out.keep GW4
  refine wp_seq_k fun K4 hK4 => ?_
  have HK4 : Hid _ := hK4
  clear hK4
  have t1 : True := trivial
  go_wp2_with (first
    | (have _t := t1; clear t1; go_at_call 18; refine Calls.mono HS1.out ?_; rintro e w5 ⟨rfl, G5⟩; have t2 : True := trivial; have HS2 : Hid _ := sameZ_any p4 xa k q4 xc _ w5 HXL.out (by rw [← zX]; exact (HP4.out.keep G5).rd) (by rw [← zX]; exact (kX4.keep G5).rd))
    | (have _t := t2; clear t2; go_at_call 18; refine Calls.mono HS2.out ?_; rintro e w6 ⟨rfl, G6⟩; have t3 : True := trivial; have G56 := grown_trans G5 G6; have HS3 : Hid _ := sameZ_any ka ah m kc ch _ w6 HLM.out ((kK4.keep G56).rd) ((HHX.out.keep (grown_trans GW4 G56))))
    | (have _t := t3; clear t3; go_at_call 18; refine Calls.mono HS3.out ?_; rintro e w7 ⟨rfl, G7⟩; have t4 : True := trivial; have G47 := grown_trans G56 G7; have HTW : Hid _ := twice_any a3 a4 wa d d d c3 c4 wc w2.heap.size D w7 (rd_of (kA3.keep G47) HDB.out) ((rd_of (HA4.out.keep G47) HDB.out).rd) ((rd_of (kD4.keep G47) HDB.out).rd) (by omega) (some_ne (fun y e e2 => by have h1 := aA3 y e2; have h2 := aA4 y e; omega)) (some_ne (fun y e e2 => by have h1 := aA3 y e2; have h2 := aD y e; have := GW2.size; omega)))
    | (have _t := t4; clear t4; go_at_call 19; refine Calls.mono HTW.out ?_; rintro e w8 ⟨rfl, G8⟩; have t5 : True := trivial; have hR8 : Roomy w8 gh n W D1 := (hR4.keep G47).grown G8 (fun e2 => by have h1 := aA3 gh e2.symm; omega); have GW8 := grown_far (grown_trans GW4 G47) G8 (fun y e => by have h1 := aA3 y e; have h2 := GW2.size; omega); have HLF : Hid _ := left_any gh a n cap W D1 w8 hR8 (HPX.out.keep GW8) hn)
    | (have _t := t5; clear t5; go_at_call 20; refine Calls.mono HLF.out ?_; rintro e w9 ⟨rfl, G9⟩))
  have hwl := GW2.size
  have GW9 := grown_trans GW8 G9
  have kP9 := ((kP3.keep G47).kR G8 (fun y e1 e2 => tA (kA3.keep G47) (kP3.keep G47) y e2 e1)).keep G9
  have kK9 := ((kK4.keep G47).kR G8 (fun y e1 e2 => tA (kA3.keep G47) (kK4.keep G47) y e2 e1)).keep G9
  have kQ9 := ((HP4.out.keep G47).kR G8 (fun y e1 e2 => tA (kA3.keep G47) (HP4.out.keep G47) y e2 e1)).keep G9
  have kB9 := ((HA4.out.keep G47).kR G8 (fun y e1 e2 => by have h1 := aA3 y e2; have h2 := aA4 y e1; omega)).keep G9
  have hR9 := hR8.keep G9
  have HO1 : Hid _ := over_anyD (-7) p3 k q3 _ (ppI X) w9 kP9 (by omega)
  clear HS1 HS2 HS3 HTW HLF HA3 HP3 HA4 HP4
  refine HK4.out _ _ ?_
  clear HK4
  refine wp_seq_k fun K5 hK5 => ?_
  have HK5 : Hid _ := hK5
  clear hK5
  go_wp2_with (go_at_call 21; refine Calls.mono HO1.out ?_; rintro e w10 ⟨rfl, G10⟩)
  refine HK5.out _ _ ?_
  clear HK5
  have GW10 := grown_far GW9 G10 (fun y e => by have h1 := aP3 y e; omega)
  have kK10 := kK9.kR G10 (fun y e1 e2 => by have h1 := aP3 y e2; have h2 := aK y e1; omega)
  have kQ10 := kQ9.kR G10 (fun y e1 e2 => by have h1 := aP3 y e2; have h2 := aP4 y e1; omega)
  have kB10 := kB9.kR G10 (fun y e1 e2 => by have h1 := aP3 y e2; have h2 := aA4 y e1; omega)
  have hR10 := hR9.grown G10 (fun e2 => by have h1 := aP3 gh e2.symm; omega)
  have hm8 : m ≤ 17592186043904 := by omega
  have HO2 : Hid _ := over_anyD (-8) ka m kc _ (zI L) w10 kK10 hm8
  refine wp_seq_k fun K6 hK6 => ?_
  have HK6 : Hid _ := hK6
  clear hK6
  go_wp2_with (go_at_call 21; refine Calls.mono HO2.out ?_; rintro e w11 ⟨rfl, G11⟩)
  refine HK6.out _ _ ?_
  clear HK6
  have GW11 := grown_far GW10 G11 (fun y e => by have h1 := aK y e; omega)
  have kQ11 := kQ10.kR G11 (fun y e1 e2 => by have h1 := aK y e2; have h2 := aP4 y e1; omega)
  have kB11 := kB10.kR G11 (fun y e1 e2 => by have h1 := aK y e2; have h2 := aA4 y e1; omega)
  have hR11 := hR10.grown G11 (fun e2 => by have h1 := aK gh e2.symm; omega)
  have HSP : Hid _ := spoil_any (hR11.ans hWB hWl hn (Nat.zero_le gh)) (by omega)
  refine wp_seq_k fun K7 hK7 => ?_
  have HK7 : Hid _ := hK7
  clear hK7
  go_wp2_with (go_at_call 22; refine Calls.mono HSP.out ?_; rintro e w12 ⟨rfl, G12⟩)
  refine HK7.out _ _ ?_
  clear HK7
  have aH : ∀ y, (Value.slice (some ⟨gh, 0, none⟩) n (n + 5)).ownBlock = some y → y = gh := fun y e => (Option.some.inj e).symm
  have GW12 := grown_far GW11 G12 (fun y e => by have h1 := aH y e; omega)
  have kQ12 := kQ11.kR G12 (fun y e1 e2 => by have h1 := aH y e2; have h2 := aP4 y e1; omega)
  have kB12 := kB11.kR G12 (fun y e1 e2 => by have h1 := aH y e2; have h2 := aA4 y e1; omega)
  have HS4 : Hid _ := sameZ_any p4 xa k q4 xc _ w12 HXL.out (by rw [← zX]; exact kQ12.rd) (by rw [← zX]; exact (HXX.out.keep GW12).rd)
  have u1 : True := trivial
  go_wp2_with (first
    | (have _t := u1; clear u1; go_at_call 18; refine Calls.mono HS4.out ?_; rintro e w13 ⟨rfl, G13⟩; have u2 : True := trivial; have HSB : Hid _ := sameBytes_any a4 wa d d c4 wc D w13 ((rd_of (kB12.keep G13) HDB.out).rd) ((rd_of (HDX.out.keep (grown_trans GW12 G13)) HDB.out).rd))
    | (have _t := u2; clear u2; go_at_call 23; refine Calls.mono HSB.out ?_; rintro e w14 ⟨rfl, hw14⟩; rw [hw14]; clear hw14))
  first | go_ret | skip
  exact ⟨rfl, grown_trans GW12 G13⟩
end

section
open GF
theorem decode_err (a ah : Option Addr) (n cap m ch c : Nat) (z : Int) (w : World) (h1 : 1 ≤ c ∧ c ≤ 64 ∧ c < n ∧ n ≤ 255) (hz : z ≠ 0)
    (HM : Calls Tryd.prog 13 #[.slice ah m ch, .int .i64 (n : Int)] w fun e w' => e = .returned (.tuple #[.slice none 0 0, .int .i64 z]) ∧ w.grownBy w' none) :
    Calls Tryd.prog 6 #[.slice a n cap, .int .i64 (c : Int), .slice ah m ch] w fun e w' => e = .returned (.tuple #[.slice none 0 0, .slice none 0 0, .int .i64 z]) ∧ w.grownBy w' none := by
  have HF := rowFits_yes ((n : Int) - c) c w (by omega) (by omega) (by omega) (by omega)
  have HMM : Hid _ := HM
  have hzb : (z == 0) = false := beq_false_of_ne hz
  clear HM
  go_enter Tryd.func6, Tryd.ntmps6
  go_wp2_with (first
    | (go_at_call 12; refine HF.mono ?_; rintro e w' ⟨rfl, hw⟩; have hw := hw.symm; subst hw)
    | (go_at_call 13; refine Calls.mono HMM.out ?_; rintro e w1 ⟨rfl, G1⟩))
  (try simp only [Exit.inBlock, Exit.then])
  refine bodyPost_ret (results_tmp3 rfl _ _ _) rfl ?_
  exact ⟨rfl, G1⟩
theorem ansI_of {w : World} {lo : Nat} {a : Option Addr} {n c : Nat} {P : List Nat} (h : AnsX 3 w lo a n c (ppI P)) : AnsI w lo a n c P := ⟨h.own, h.new⟩
theorem ansX_of {w : World} {lo : Nat} {a : Option Addr} {n c : Nat} {P : List Nat} (h : AnsI w lo a n c P) : AnsX 3 w lo a n c (ppI P) := ⟨h.own, (fun u hu => by
    unfold ppI at hu
    obtain ⟨x, _, e⟩ := List.mem_map.1 hu
    rw [← e]; rfl), h.new⟩
theorem ansU_of {w : World} {lo : Nat} {a : Option Addr} {n c : Nat} {P : List Nat} (h : Ans w lo a n c P) : AnsX 5 w lo a n c (bys P) := ⟨h.own, (fun u hu => by
    unfold bys at hu
    obtain ⟨x, _, e⟩ := List.mem_map.1 hu
    rw [← e]; rfl), h.new⟩
theorem isB_take' {L : List Nat} (h : IsB L) (k : Nat) : IsB (L.take k) := fun x hx => h x (List.mem_of_mem_take hx)
/-- what both answer -/
theorem both [Add GF] [Mul GF] [OfNat GF 0] [OfNat GF 1] [L : Nonempty GL] (a : Option Addr) (n cap : Nat) (W : List Nat) (ck : Int) (ah : Option Addr) (m ch : Nat) (L : List Int) (hWl : W.length = n) (hWB : IsB W) (hn : n ≤ 140737488351232) (hck : -9223372036854775808 ≤ ck ∧ ck ≤ 9223372036854775807) (hL : L.length = m) :
    ∃ (D X : List Nat) (z : Int), IsB D ∧ D.length ≤ 255 ∧ X.length ≤ 255 ∧ (∀ (wz : World), Rd wz a n cap W → RdX wz ah m ch (zI L) → Calls Tryd.prog 4 #[.slice a n cap, .int .i64 ck, .slice ah m ch] wz fun e w' => ∃ (a' p' : Option Addr) (c' q' : Nat), e = .returned (.tuple #[.slice a' D.length c', .slice p' X.length q', .int .i64 z]) ∧ AnsX 5 w' wz.heap.size a' D.length c' (bys D) ∧ AnsX 3 w' wz.heap.size p' X.length q' (ppI X) ∧ wz.grownBy w' none) ∧ (∀ (wz : World) (g lo' : Nat) (ka : Option Addr) (kc : Nat), Rd wz (some ⟨g, 0, none⟩) n (n + 5) W → AnsX 3 wz lo' ka m kc (zI L) → Calls Tryd.prog 6 #[.slice (some ⟨g, 0, none⟩) n (n + 5), .int .i64 ck, .slice ka m kc] wz fun e w' => ∃ (a' p' : Option Addr) (c' q' : Nat), e = .returned (.tuple #[.slice a' D.length c', .slice p' X.length q', .int .i64 z]) ∧ AnsX 5 w' wz.heap.size a' D.length c' (bys D) ∧ AnsX 3 w' wz.heap.size p' X.length q' (ppI X) ∧ wz.grownBy w' none) := by
  by_cases hs : 1 ≤ ck ∧ ck ≤ 64 ∧ ck < (n : Int) ∧ (n : Int) ≤ 255
  · obtain ⟨c, rfl⟩ := Int.eq_ofNat_of_zero_le (a := ck) (by omega)
    have h1 : 1 ≤ c ∧ c ≤ 64 ∧ c < n ∧ n ≤ 255 := by omega
    by_cases hb : BadH n L
    · refine ⟨[], [], 2, (fun x h => by cases h), Nat.zero_le _, Nat.zero_le _, fun wz _ h3 => ?_, fun wz g lo' ka kc _ h3 => ?_⟩
      · refine (rdec_err a ah n cap m ch (c : Int) 2 wz hs (by decide) (fun wy gy => holed_bad ah m ch n L wy hL (h3.keep gy) (by omega) hb)).mono ?_
        rintro e w' ⟨rfl, hg⟩
        exact ⟨none, none, 0, 0, rfl, AnsX.nil0 _ _ _, AnsX.nil0 _ _ _, hg⟩
      · refine (decode_err _ ka n (n + 5) m kc c 2 wz h1 (by decide) (mark_bad ka m kc n L wz hL h3.rd (by omega) hb)).mono ?_
        rintro e w' ⟨rfl, hg⟩
        exact ⟨none, none, 0, 0, rfl, AnsX.nil0 _ _ _, AnsX.nil0 _ _ _, hg⟩
    · obtain ⟨P, hzp, hPl, hPn⟩ := all_nat hb
      have hPm : P.length = m := by omega
      by_cases hd : Dist P
      · have hPle := nd_len (dist_nd hd) hPn
        cases hO : decO W c (mkN P n P.length) with
        | none =>
          refine ⟨[], [], 5, (fun x h => by cases h), Nat.zero_le _, Nat.zero_le _, fun wz h2 h3 => ?_, fun wz g lo' ka kc h2 h3 => ?_⟩
          · rw [hzp, ← hPm] at h3
            rw [← hPm]
            refine (rdec_ok a ah n cap c ch W P wz h2 h3 h1.1 h1.2.1 h1.2.2.1 h1.2.2.2 hPn hd).mono ?_
            rintro e w' ⟨hg, ⟨_, rfl⟩ | ⟨V, PP, a1, ap, c1, cp, h8, _⟩⟩
            · exact ⟨none, none, 0, 0, rfl, AnsX.nil0 _ _ _, AnsX.nil0 _ _ _, hg⟩
            · rw [hO] at h8; cases h8
          · rw [hzp] at h3
            refine (Decode_with _ ka n (n + 5) m kc c W (mkN P n m) wz h2 h1.1 h1.2.1 h1.2.2.1 h1.2.2.2 (mark_ok ka m kc n lo' P wz (ansI_of h3) (fun i hi => hPn _ (nth_mem hi)) hd (by omega) (by omega))).mono ?_
            rintro e w' ⟨hg, ⟨_, rfl⟩ | ⟨W', P', a1, c1, ap, np, cp, h8, _⟩⟩
            · exact ⟨none, none, 0, 0, rfl, AnsX.nil0 _ _ _, AnsX.nil0 _ _ _, hg⟩
            · rw [← hPm, hO] at h8; cases h8
        | some q =>
          obtain ⟨V, PP⟩ := q
          obtain ⟨hN, hPP⟩ := nearD_of hWB hWl h1.2.2.2 h1.2.1 hd hPn hO
          have hVt : (V.take (n - c)).length = n - c := by rw [List.length_take, hN.lV]; omega
          refine ⟨V.take (n - c), PP, 0, isB_take' hN.bV _, by omega, by rw [hPP]; have := dif_len W V n; omega, fun wz h2 h3 => ?_, fun wz g lo' ka kc h2 h3 => ?_⟩
          · rw [hzp, ← hPm] at h3
            rw [← hPm]
            refine (rdec_ok a ah n cap c ch W P wz h2 h3 h1.1 h1.2.1 h1.2.2.1 h1.2.2.2 hPn hd).mono ?_
            rintro e w' ⟨hg, ⟨h8, _⟩ | ⟨V', PP', a1, ap, c1, cp, h8, rfl, h9, h10⟩⟩
            · rw [hO] at h8; cases h8
            · rw [hO] at h8
              cases h8
              exact ⟨a1, ap, c1, cp, by rw [hVt], by rw [hVt]; exact h9, h10, hg⟩
          · rw [hzp] at h3
            refine (Decode_with _ ka n (n + 5) m kc c W (mkN P n m) wz h2 h1.1 h1.2.1 h1.2.2.1 h1.2.2.2 (mark_ok ka m kc n lo' P wz (ansI_of h3) (fun i hi => hPn _ (nth_mem hi)) hd (by omega) (by omega))).mono ?_
            rintro e w' ⟨hg, ⟨h8, _⟩ | ⟨W', P', a1, c1, ap, np, cp, h8, rfl, h9, h10, h11⟩⟩
            · rw [← hPm, hO] at h8; cases h8
            · rw [← hPm, hO] at h8
              cases h8
              have hnp := h9.len
              exact ⟨a1, ap, c1, cp, by rw [hVt, hnp], by rw [hVt]; exact ansU_of h10, by rw [hnp]; exact ansX_of h9, hg⟩
      · refine ⟨[], [], 4, (fun x h => by cases h), Nat.zero_le _, Nat.zero_le _, fun wz _ h3 => ?_, fun wz g lo' ka kc _ h3 => ?_⟩
        · rw [hzp] at h3
          refine (rdec_err a ah n cap m ch (c : Int) 4 wz hs (by decide) (fun wy gy => (holed_in ah m ch n P wy hPm (h3.keep gy) (by omega) hPn).mono (fun e w' h => by
            rcases h with ⟨⟨h4, _⟩ | ⟨_, h4⟩, h5⟩
            · exact ⟨h4, h5⟩
            · exact absurd h4 hd))).mono ?_
          rintro e w' ⟨rfl, hg⟩
          exact ⟨none, none, 0, 0, rfl, AnsX.nil0 _ _ _, AnsX.nil0 _ _ _, hg⟩
        · rw [hzp] at h3
          refine (decode_err _ ka n (n + 5) m kc c 4 wz h1 (by decide) (mark_twice ka m kc n P wz hPm h3.rd (by omega) hPn hd)).mono ?_
          rintro e w' ⟨rfl, hg⟩
          exact ⟨none, none, 0, 0, rfl, AnsX.nil0 _ _ _, AnsX.nil0 _ _ _, hg⟩
  · refine ⟨[], [], 1, (fun x h => by cases h), Nat.zero_le _, Nat.zero_le _, fun wz _ h3 => ?_, fun wz g lo' ka kc _ h3 => ?_⟩
    · refine (rdec_bad a ah n cap m ch ck wz (by omega) hs).mono ?_
      rintro e w' ⟨rfl, hg⟩
      exact ⟨none, none, 0, 0, rfl, AnsX.nil0 _ _ _, AnsX.nil0 _ _ _, hg⟩
    · refine (Decode_bad _ ka n (n + 5) m kc ck wz (by omega) hck.1 hck.2 (by omega)).mono ?_
      rintro e w' ⟨rfl, rfl⟩
      exact ⟨none, none, 0, 0, rfl, AnsX.nil0 _ _ _, AnsX.nil0 _ _ _, World.grownBy.refl _ _⟩
set_option maxHeartbeats 8000000 in
theorem sdec_walk [Add GF] [Mul GF] [OfNat GF 0] [OfNat GF 1] [L : Nonempty GL] (a : Option Addr) (n cap : Nat) (W : List Nat) (ck : Int) (ah : Option Addr) (m ch : Nat) (L : List Int) (w : World) (hp : Rd w a n cap W) (hn : n ≤ 140737488351232) (hck : -9223372036854775808 ≤ ck ∧ ck ≤ 9223372036854775807) (hH : RdX w ah m ch (zI L)) (hL : L.length = m) (hm : m * 8 ≤ 140737488351232) :
    Calls Tryd.prog 3 #[.slice a n cap, .int .i64 ck, .slice ah m ch] w fun e w' => e = .returned (.bool true) ∧ w.grownBy w' none := by
  obtain ⟨D, X, z, hDB, hDl, hXl, hR, hC⟩ := both a n cap W ck ah m ch L hp.len hp.byte hn hck hL
  have bc := BxS.new w 3 #[.int .i64 ck]
  have Gc := World.grownBy_alloc w (.cells #[.int .i64 ck] 3) none
  have HR : Hid _ := hR
  have HC : Hid _ := hC
  have HP0 : Hid _ := hp
  have HH0 : Hid _ := hH
  clear hR hC hp hH
  have hcl : ∀ (g : Nat) (wz : World), BxS wz g 3 #[.int .i64 ck] → wz.cell? ⟨g, 0, none⟩ = some (.int .i64 ck) := fun g wz b => b.cell 0 (by show 0 < 1; decide)
  have HCL : Hid (∀ (gc : Nat) (wz : World) (g lo' : Nat) (ka : Option Addr) (kc : Nat), BxS wz gc 3 #[.int .i64 ck] → Rd wz (some ⟨g, 0, none⟩) n (n + 5) W → AnsX 3 wz lo' ka m kc (zI L) → Calls Tryd.prog 5 #[.slice (some ⟨g, 0, none⟩) n (n + 5), .slice ka m kc, .pointer (some ⟨gc, 0, none⟩)] wz fun e w' => ∃ (a' p' : Option Addr) (c' q' : Nat), e = .returned (.tuple #[.slice a' D.length c', .slice p' X.length q', .int .i64 z]) ∧ AnsX 5 w' wz.heap.size a' D.length c' (bys D) ∧ AnsX 3 w' wz.heap.size p' X.length q' (ppI X) ∧ wz.grownBy w' none) := fun gc wz g lo' ka kc hb h1 h2 => by
    have e1 := hcl gc wz hb
    have HD : Hid _ := HC.out wz g lo' ka kc h1 h2
    clear hcl bc Gc HR HC HP0 HH0 hDl hXl hDB
    go_enter Tryd.func5, Tryd.ntmps5
    go_wp2_with (go_at_call 6; refine Calls.mono HD.out ?_; rintro e w1 ⟨a', p', c', q', rfl, hA, hP, G1⟩)
    (try simp only [Exit.inBlock, Exit.then])
    refine bodyPost_ret (results_tmp3 rfl _ _ _) rfl ?_
    exact ⟨a', p', c', q', rfl, hA, hP, G1⟩
  have e1 := hcl w.heap.size _ bc
  have HB : Hid _ := bc
  have hlen : Hid _ := hDl
  clear hcl bc
  go_enter Tryd.func3, Tryd.ntmps3
  refine wp_seq_k fun K0 hK0 => ?_
  have HK0 : Hid _ := hK0
  clear hK0
  go_wp2
  refine HK0.out _ _ ?_
  clear HK0
  generalize hw0 : w.alloc (.cells #[.int .i64 ck] 3) = w0 at *
  have HR0 : Hid _ := HR.out w0 (HP0.out.keep Gc) (HH0.out.keep Gc)
  refine wp_seq_k fun K1 hK1 => ?_
  have HK1 : Hid _ := hK1
  clear hK1
  go_wp2_with (go_at_call 4; refine Calls.mono HR0.out ?_; rintro e w1 ⟨a1, p1, c1, q1, rfl, hA1, hP1, G1⟩)
  refine HK1.out _ _ ?_
  clear HK1
  refine wp_seq_k fun K2 hK2 => ?_
  have HK2 : Hid _ := hK2
  clear hK2
  go_wp2
  refine HK2.out _ _ ?_
  clear HK2
  have GW1 := grown_trans Gc G1
  have HLW : Hid _ := decodes_law (.pointer (some ⟨w.heap.size, 0, none⟩)) (fun u => BxS u w.heap.size 3 #[.int .i64 ck]) (fun u v h g => h.keep g (by simp)) W a n cap L ah m ch D a1 c1 X p1 q1 z w1 w0.heap.size (BxS.keep (w := w0) (g := w.heap.size) (t := 3) (cs := #[.int .i64 ck]) HB.out G1 (by simp)) (HP0.out.keep GW1) hn (HH0.out.keep GW1) hL hm hDB hlen.out hA1 hXl hP1 (fun wz g lo' ka kc hb h1 h2 => HCL.out w.heap.size wz g lo' ka kc hb h1 h2)
  go_wp2_with (go_at_call 7; refine Calls.mono HLW.out ?_; rintro e w2 ⟨rfl, G2⟩)
  first | go_ret | skip
  exact ⟨rfl, grown_trans GW1 G2⟩
end
end Go.Proofs.YtdcfgaibppenaaaDoor
