import Derived.Test.YtlmddjkplnbadaaHAC
import Derived.Lib.AppendZerosOnto
import Derived.Test.YtlmddjkplnbadaaZSub
namespace Go.Proofs.Ytlmddjkplnbadaa
open Go.RowKit
set_option maxRecDepth 100000
set_option linter.unusedVariables false
set_option linter.unusedSimpArgs false

/-- where packets begin, one behind the other; what is left behind them -/
def spS : Nat → List Nat → List (List Nat)
  | 0, _ => []
  | f + 1, B => if dcE B = 0 then B :: spS f (B.drop (dcK B)) else []
def spR : Nat → List Nat → List Nat
  | 0, B => B
  | f + 1, B => if dcE B = 0 then spR f (B.drop (dcK B)) else B
theorem dc_k {B : List Nat} (h : dcE B = 0) : 7 ≤ dcK B ∧ dcK B ≤ B.length := by
  unfold dcK
  rw [if_pos h]
  unfold dcE at h
  split at h
  · cases h
  · split at h
    · cases h
    · split at h
      · cases h
      · omega
theorem sp_end {B : List Nat} (h : dcE B ≠ 0) (f : Nat) : spS f B = [] ∧ spR f B = B := by
  cases f with
  | zero => exact ⟨rfl, rfl⟩
  | succ f => exact ⟨if_neg h, if_neg h⟩
theorem sp_go {B : List Nat} (h : dcE B = 0) (f : Nat) (hf : B.length ≤ f) : ∃ f', (B.drop (dcK B)).length ≤ f' ∧ spS f B = B :: spS f' (B.drop (dcK B)) ∧ spR f B = spR f' (B.drop (dcK B)) := by
  obtain ⟨h1, h2⟩ := dc_k h
  cases f with
  | zero => omega
  | succ f => exact ⟨f, by rw [List.length_drop]; omega, if_pos h, if_pos h⟩
/-- a packet as data -/
structure Pd where
  up : Bool
  se : Bool
  ap : Int
  pt : Int
  ct : Int
  D : List Nat
def pdB (B : List Nat) : Pd := ⟨dcU B, dcS B, (dcA B : Nat), (dcP B : Nat), (dcC B : Nat), dcD B⟩
def Pk.d (p : Pk) : Pd := ⟨p.up, p.se, p.ap, p.pt, p.ct, p.D⟩
def Pk.rw (p : Pk) : Rw := ⟨p.a, p.n, p.c, p.D⟩
def Pk.th (p : Pk) : Th := ⟨p.cells, p.rw⟩
/-- what is left behind a packet -/
theorem Rd.behind {w : World} {b off n cap k : Nat} {L : List Nat} (h : Rd w (some ⟨b, off, none⟩) n cap L) (hk : k ≤ n) : Rd w (some ⟨b, if cap = k then off else off + k, none⟩) (n - k) (cap - k) (L.drop k) := by
  have h1 := h.le
  have hl := h.len
  by_cases e : cap = k
  · rw [if_pos e]
    refine ⟨by rw [List.length_drop, hl], by omega, by have := h.max; omega, (fun e => by cases e), isB_drop h.byte k, fun h0 => by omega⟩
  · rw [if_neg e]
    have := h.part k (n - k) (by omega)
    rwa [List.take_of_length_le (by rw [List.length_drop, hl]; omega)] at this
def slM : Value → Nat
  | .slice _ n _ => n
  | _ => 0
/-- 'append([]byte(nil), make([]byte, k)...)' -/
theorem wpList_apN (w : World) {ops : Array Oper} {rest : List Oper} {o : Oper} {a : Act} {Q : Exit → Act → World → Prop} (hg : o.guard = none) (s x : Operand)
    (hop : o.op = Op.call { callee := .builtin .append, args := #[s, x], argTypes := #[22, 3] }) (k : Nat) (hs : a.eval s = .slice none 0 0) (hx : a.eval x = .int .i64 (k : Int))
    (hk : 0 < k) (hb : k ≤ 140737488355328)
    (hK : ∀ cap w', k ≤ cap → w.grownBy w' none → w'.ownsRow 0 5 1 (.slice (some ⟨w.heap.size, 0, none⟩) 0 cap) 0 (bys []) →
      wpList Try.prog ops Q rest (a.put o.dst (.slice (some ⟨w.heap.size, 0, none⟩) k cap)) w') :
    wpList Try.prog ops Q (o :: rest) a w := by
  obtain ⟨i0, hi, hz, hsz, hby⟩ := info_parts Try.info_u8
  have hr := Lib.run_append_nil_zeros (P := Try.prog) w 22 3 o.type 5 i0 (.int .u8 0) .i64 .i64 Try.underlying22 Try.underlying3 hi hz k hk (by omega) (by omega) (by rw [hby]; omega)
  have hge := grownCap_ge w k 0 5
  refine Lib.wpList_append_run w hg s x 22 3 hop _ _ hs hx _ _ hr (hK _ _ hge ⟨rfl, rfl, rfl, by simp, fun j hj _ => (World.grownBy_alloc w.drew _ none).block j hj (by simp)⟩ ⟨rfl, .inr ⟨w.heap.size, _, _, rfl, Nat.zero_le _, heap_alloc_new w.drew _, Nat.zero_le _, grownCap_le_maxLen w k 0 5 (by unfold maxLen; omega), ?_, rfl⟩⟩)
  simp only [Array.size_append, size_zeroCells]
  show k * 1 + _ * 1 = _
  omega
set_option maxHeartbeats 2000000 in
theorem grow_nil (k : Nat) (w : World) (hk : 0 < k) (hb : k ≤ 140737488355328) :
    Calls Try.prog 93 #[.slice none 0 0, .int .i64 (k : Int)] w fun e w' => ∃ g cap, e = .returned (.slice (some ⟨g, 0, none⟩) 0 cap) ∧ Ans w' w.heap.size (some ⟨g, 0, none⟩) 0 cap [] ∧ w.grownBy w' none := by
  have d1 : decide ((k : Int) < 0) = false := decide_eq_false (by omega)
  have d2 : decide ((0 : Int) < (k : Int)) = true := decide_eq_true (by omega)
  go_enter Try.func93, Try.ntmps93
  go_wp2_with (at_builtin; refine wpList_apN _ rfl _ _ rfl k rfl rfl hk hb ?_; intro cap w1 hc g1 ho)
  go_ret
  exact ⟨_, _, rfl, ⟨ho, (fun x hx => by cases hx), fun g hg => by have e : w.heap.size = g := Option.some.inj hg; omega⟩, g1⟩

theorem grow_int (kz : Int) (k : Nat) (w : World) (ek : kz = k) (hk : 0 < k) (hb : k ≤ 140737488355328) :
    Calls Try.prog 93 #[.slice none 0 0, .int .i64 kz] w fun e w' => ∃ g cap, e = .returned (.slice (some ⟨g, 0, none⟩) 0 cap) ∧ Ans w' w.heap.size (some ⟨g, 0, none⟩) 0 cap [] ∧ w.grownBy w' none := by
  subst ek; exact grow_nil k w hk hb
set_option maxHeartbeats 4000000 in
theorem concatZ_any (a b : Option Addr) (n m c d g0 : Nat) (U D : List Nat) (w : World) (hg : BxS w g0 22 #[.slice a n c, .slice b m d]) (hU : Rd w a n c U) (hD : Rd w b m d D) (h0 : 0 < n) (hn : n + m ≤ 140737488355328) :
    Calls Try.prog 90 #[.slice (some ⟨g0, 0, none⟩) 2 2] w fun e w' => ∃ a' cap, e = .returned (.slice a' (n + m) cap) ∧ Ans w' w.heap.size a' (n + m) cap (U ++ D) ∧ w.grownBy w' none := by
  have k0 : w.cell? ⟨g0, 0, none⟩ = some (.slice a n c) := hg.cell 0 (by show 0 < 2; decide)
  have k1 : w.cell? ⟨g0, 1, none⟩ = some (.slice b m d) := hg.cell 1 (by show 1 < 2; decide)
  have d0 : decide ((n : Int) < 0) = false := decide_eq_false (by omega)
  have d1 : decide ((n : Int) + (m : Int) < 0) = false := decide_eq_false (by omega)
  have e1 : ∀ w', w.grownBy w' none → w'.cell? ⟨g0, 0, none⟩ = some (.slice a n c) ∧ w'.cell? ⟨g0, 1, none⟩ = some (.slice b m d) := fun w' h => ⟨(hg.keep h (by simp)).cell 0 (by show 0 < 2; decide), (hg.keep h (by simp)).cell 1 (by show 1 < 2; decide)⟩
  have t1 : True := trivial
  go_enter Try.func90, Try.ntmps90
  go_wp2
  refine wp_loop_rounds 3 ?_
  rw [rounds_succ]
  go_wp2
  rw [rounds_succ]
  go_wp2
  rw [rounds_succ]
  have hnm : ((n : Int) + (m : Int)) = ((n + m : Nat) : Int) := by omega
  have HNM : Hid (_ = _) := hnm
  clear hnm
  go_wp2_with (first
    | (go_at_call 93; refine (grow_int _ (n + m) w HNM.out (by omega) hn).mono ?_; rintro e w1 ⟨g1, c1, rfl, hA1, G1⟩; obtain ⟨q0, q1⟩ := e1 w1 G1; have hU1 := hU.keep G1))
  refine wp_loop_rounds 3 ?_
  rw [rounds_succ]
  go_wp2_with (first
    | (at_builtin; have _t := t1; refine wpList_joinZ rfl _ _ rfl (some ⟨g1, 0, none⟩) 0 c1 w.heap.size [] rfl hA1 G1.size a n c U rfl hU1 (by omega) ?_; clear t1; intro a2 c2 w2 hA2 u2; rw [Nat.zero_add, List.nil_append] at hA2; have G2 := grown_far G1 u2 (fun q e => hA1.new q e); obtain ⟨r0, r1⟩ := e1 w2 G2; have hD2 := hD.keep G2; have t2 : True := trivial; rw [Nat.zero_add]))
  rw [rounds_succ]
  go_wp2_with (first
    | (at_builtin; have _t := t2; refine wpList_joinZ rfl _ _ rfl a2 n c2 w.heap.size U rfl hA2 G2.size b m d D rfl hD2 (by omega) ?_; clear t2; intro a3 c3 w3 hA3 u3))
  rw [rounds_succ]
  go_wp2
  go_ret
  exact ⟨a3, c3, rfl, hA3, grown_far G2 u3 (fun q e => hA2.new q e)⟩

set_option maxHeartbeats 32000000 in
theorem split_any (a : Option Addr) (n cap : Nat) (B : List Nat) (w : World) (hR : Rd w a n cap B) (hn : n ≤ 100000) :
    Calls Try.prog 81 #[.slice a n cap] w fun e w' => ∃ (pa : Option Addr) (pn pc : Nat) (ps : List Pk) (la : Option Addr) (ln lc : Nat), e = .returned (.tuple #[.slice pa pn pc, .slice la ln lc, .int .i64 ((dcE (spR B.length B) : Nat) : Int)]) ∧ OwT 64 6 w' w.heap.size pa pn pc (ps.map Pk.th) ∧ ps.map Pk.d = (spS B.length B).map pdB ∧ Rd w' la ln lc (spR B.length B) ∧ (∀ P : Nat → Prop, (0 < n → ∀ g off, a = some ⟨g, off, none⟩ → P g) → 0 < ln → ∀ g off, la = some ⟨g, off, none⟩ → P g) ∧ w.grownBy w' none := by
  have i6 := Try.info_pk
  go_enter Try.func81, Try.ntmps81
  refine wp_seq_k fun K0 hK0 => ?_
  have HK0 : Hid _ := hK0
  clear hK0
  go_wp2
  refine HK0.out _ _ ?_
  clear HK0
  go_wp2
  go_loopw [0, 2] (fun bv pv wr => ∃ (f : Nat) (a' : Option Addr) (n' c' : Nat) (B' : List Nat) (pa : Option Addr) (pn pc : Nat) (ps : List Pk) (DL : List (List Nat)), bv = .slice a' n' c' ∧ pv = .slice pa pn pc ∧ Rd wr a' n' c' B' ∧ (∀ P : Nat → Prop, (0 < n → ∀ g off, a = some ⟨g, off, none⟩ → P g) → 0 < n' → ∀ g off, a' = some ⟨g, off, none⟩ → P g) ∧ B'.length ≤ f ∧ pn + n' ≤ n ∧ Hid (spS B.length B = DL ++ spS f B') ∧ Hid (spR B.length B = spR f B') ∧ OwT 64 6 wr w.heap.size pa pn pc (ps.map Pk.th) ∧ Hid (ps.map Pk.d = DL.map pdB) ∧ w.grownBy wr none) (fun bv _ _ => slM bv)
  case atStart => exact ⟨B.length, a, n, cap, B, none, 0, 0, [], [], rfl, rfl, hR, (fun P h => h), Nat.le_refl _, by omega, show _ = _ from rfl, show _ = _ from rfl, OwT.nil _ _ _ _, show _ = _ from rfl, World.grownBy.refl _ _⟩
  case round =>
    obtain ⟨f, a', n', c', B', pa, pn, pc, ps, DL, rfl, rfl, hr, hPl, hf, hpn, HS, HR, hO, HD, hgr⟩ := hrel
    have hl := hr.len
    have hbl := hPl (fun g => g < w.heap.size) (fun h0 g off e => by obtain ⟨b, o, e2, hb, _⟩ := hR.at' h0; rw [e] at e2; cases e2; exact hb)
    refine wp_block ?_
    obtain ⟨E, hE⟩ : ∃ E, dcE B' = E := ⟨_, rfl⟩
    have HE : Hid (dcE B' = E) := hE
    have kD := decode_any a' n' c' B' wr hr
    rw [hE] at kD
    clear hE
    refine wp_seq_k fun K1 hK1 => ?_
    have HK1 : Hid _ := hK1
    clear hK1
    have s0 : True := trivial
    go_wp2_with (first
      | (go_at_call 75; have _t := s0; clear s0; refine kD.mono ?_; rintro e w1 ⟨da, dn, dc, rfl, hA1, g1⟩; unfold pkV; have bn := BxS.new w1 64 #[.bool false, .bool false, .int .i64 0, .int .i64 0, .int .i64 0, .slice none 0 0]; have gn := World.grownBy_alloc w1 (.cells #[.bool false, .bool false, .int .i64 0, .int .i64 0, .int .i64 0, .slice none 0 0] 64) none; generalize hw2 : w1.alloc (.cells #[.bool false, .bool false, .int .i64 0, .int .i64 0, .int .i64 0, .slice none 0 0] 64) = w2 at bn gn; have s1 : True := trivial)
      | (have _t := s1; clear s1; refine wpList_stX _ rfl _ (.tmp 5) (.tmp 11) rfl w1.heap.size _ _ rfl rfl bn i6 rfl (by simp [Value.oneCell']) ?_; intro w3 b3 u3))
    have l1 : w1.heap.size < w3.heap.size := b3.lt
    have hne : (Value.slice da dn dc).ownBlock = none ∨ (Value.slice da dn dc).ownBlock ≠ some w1.heap.size := by
      cases e : (Value.slice da dn dc).ownBlock with
      | none => exact .inl rfl
      | some y => exact .inr (fun e2 => by have := hA1.ltB e; have e2 := Option.some.inj e2; omega)
    have hA3 := (hA1.keep gn).kept u3 hne
    have Y3 := grown_far (grown_trans g1 gn) u3 (fun q e => by have e := Option.some.inj e; have := g1.size; omega)
    have G3 := grown_trans hgr Y3
    have hO3 := hO.keep Y3
    have hr3 := hr.keep Y3
    have z3 := hgr.size
    clear hw2 bn gn u3 hne
    refine HK1.out _ _ ?_
    clear HK1
    by_cases h0 : E = 0
    · subst h0
      have h0 := HE.out
      obtain ⟨q1, q2⟩ := dc_k h0
      have hlen := hA3.len
      obtain ⟨f', f1, f2, f3⟩ := sp_go h0 f hf
      obtain ⟨bb, ob, rfl, hbb, _⟩ := hr3.at' (by omega)
      have hbe := hr3.behind (k := dcK B') (by omega)
      have HP : Hid (Pk.d ⟨dcU B', dcS B', (dcA B' : Nat), (dcP B' : Nat), (dcC B' : Nat), da, dn, dc, dcD B'⟩ = pdB B') := rfl
      have HF2 : Hid _ := f2
      have HF3 : Hid _ := f3
      clear f2 f3 h0 kD
      generalize hK : dcK B' = K at *
      clear hK
      refine wp_seq_k fun K2 hK2 => ?_
      have HK2 : Hid _ := hK2
      clear hK2
      go_wp2
      refine HK2.out _ _ ?_
      clear HK2
      refine wp_seq_k fun K3 hK3 => ?_
      have HK3 : Hid _ := hK3
      clear hK3
      have s0 : True := trivial
      go_wp2_with (first
        | (have _t := s0; clear s0; refine wpList_ldX _ rfl _ (.tmp 5) rfl w1.heap.size _ rfl b3 Try.underlying64 i6 ?_; have s1 : True := trivial)
        | (at_builtin; have _t := s1; clear s1; refine wpList_psT 107 64 6 56 _ Try.underlying107 Try.info_pk3 rfl (by decide) (by decide) w3 w.heap.size (Pk.th ⟨dcU B', dcS B', (dcA B' : Nat), (dcP B' : Nat), (dcC B' : Nat), da, dn, dc, dcD B'⟩) rfl _ _ rfl pa pn pc (ps.map Pk.th) rfl hO3 (by have := G3.size; omega) rfl (by omega) (by unfold maxLen; omega) _ rfl rfl (by intro u hu; simp only [Pk.th, Pk.cells, List.mem_cons, List.not_mem_nil, or_false] at hu; rcases hu with rfl | rfl | rfl | rfl | rfl | rfl <;> rfl) (hA3.wide z3) (fun y hy b e => (hO.each y hy).later2 hA3 (Nat.le_refl _) b e) ?_; intro gx cx w4 hO4 u4 hor))
      have hnb : some bb ≠ (Value.slice pa pn pc).ownBlock := fun e => by
        have h1 := hO.new bb e.symm
        have h2 := hbl (by omega) bb ob rfl
        omega
      have G4 := grown_far G3 u4 (fun q e => hO.new q e)
      have hbe4 := hbe.grown u4 (fun g off e => by cases e; exact hnb)
      refine HK3.out _ _ ?_
      clear HK3
      have hk1 : (K : Int) ≤ (n' : Int) := by omega
      have hc1 := hr3.le
      have hc2 : (K : Int) ≤ (c' : Int) := by omega
      have tk : ((K : Int)).toNat = K := Int.toNat_natCast K
      by_cases hcK : c' = K
      · have hcK' : Hid (c' = K) := hcK
        rw [if_pos hcK] at hbe4
        clear hcK'
        subst hcK
        rw [show n' - c' = 0 by omega, Nat.sub_self] at hbe4
        go_wp2
        refine ⟨⟨f', _, _, _, _, _, _, _, ps ++ [⟨dcU B', dcS B', (dcA B' : Nat), (dcP B' : Nat), (dcC B' : Nat), da, dn, dc, dcD B'⟩], DL ++ [B'], rfl, rfl, hbe4, (fun P hP _ g off e => by cases e; exact hPl P hP (by omega) bb ob rfl), f1, by omega, ?_, ?_, ?_, ?_, G4⟩, ?_⟩
        · show _ = _; rw [HS.out, HF2.out, List.append_assoc]; rfl
        · show _ = _; rw [HR.out, HF3.out]
        · rw [List.map_append]; exact hO4
        · show _ = _; rw [List.map_append, List.map_append, HD.out]; rfl
        · show 0 < n'; omega
      · rw [if_neg hcK] at hbe4
        go_wp2
        refine ⟨⟨f', _, _, _, _, _, _, _, ps ++ [⟨dcU B', dcS B', (dcA B' : Nat), (dcP B' : Nat), (dcC B' : Nat), da, dn, dc, dcD B'⟩], DL ++ [B'], rfl, rfl, hbe4, (fun P hP _ g off e => by cases e; exact hPl P hP (by omega) bb ob rfl), f1, by omega, ?_, ?_, ?_, ?_, G4⟩, ?_⟩
        · show _ = _; rw [HS.out, HF2.out, List.append_assoc]; rfl
        · show _ = _; rw [HR.out, HF3.out]
        · rw [List.map_append]; exact hO4
        · show _ = _; rw [List.map_append, List.map_append, HD.out]; rfl
        · show n' - _ < n'; omega
    · have hne : (((E : Int) != 0) : Bool) = true := by simp; omega
      obtain ⟨s1, s2⟩ := sp_end (by rw [HE.out]; exact h0) f
      have hS := HS.out
      have hRr := HR.out
      rw [s1, List.append_nil] at hS
      rw [s2] at hRr
      have HS2 : Hid _ := hS
      have HR2 : Hid _ := hRr
      clear s1 s2 hS hRr HS HR
      go_wp2
      go_ret3
      refine ⟨pa, pn, pc, ps, a', n', c', ?_, hO3, ?_, ?_, hPl, G3⟩
      · rw [HR2.out, HE.out]; rfl
      · rw [HS2.out]; exact HD.out
      · rw [HR2.out]; exact hr3

/-- are these whole packets? -/
def whB (B : List Nat) : Bool := decide ((spR B.length B).length = 0)
set_option maxHeartbeats 4000000 in
theorem isRow_any (a : Option Addr) (n cap : Nat) (B : List Nat) (w : World) (hR : Rd w a n cap B) (hn : n ≤ 100000) :
    Calls Try.prog 91 #[.slice a n cap] w fun e w' => e = .returned (.bool (whB B)) ∧ w.grownBy w' none := by
  have hS := split_any a n cap B w hR hn
  have s0 : True := trivial
  go_enter Try.func91, Try.ntmps91
  go_wp2_with (go_at_call 81; have _t := s0; clear s0; refine hS.mono ?_; rintro e w1 ⟨pa, pn, pc, ps, la, ln, lc, rfl, _, _, hr, _, g1⟩)
  go_ret
  refine ⟨?_, g1⟩
  show Ending.returned (.bool ((ln : Int) == 0)) = _
  unfold whB
  rw [hr.len]
  have : ((ln : Int) == 0) = decide (ln = 0) := by
    by_cases h : ln = 0
    · subst h; rfl
    · rw [decide_eq_false h]
      have : ¬ ((ln : Int) = 0) := by omega
      simpa using this
  rw [this]
set_option maxHeartbeats 16000000 in
theorem wholes_any (a : Option Addr) (n cap : Nat) (B : List Nat) (w : World) (hR : Rd w a n cap B) (hn : n ≤ 100000) :
    Calls Try.prog 63 #[.slice a n cap] w fun e w' => e = .returned (.bool (whB B)) ∧ w.grownBy w' none := by
  have i6 := Try.info_pk
  go_enter Try.func63, Try.ntmps63
  refine wp_seq_k fun K0 hK0 => ?_
  have HK0 : Hid _ := hK0
  clear hK0
  go_wp2
  refine HK0.out _ _ ?_
  clear HK0
  refine wp_seq_k fun K9 hK9 => ?_
  have HK9 : Hid _ := hK9
  clear hK9
  go_wp2
  go_loopw [0] (fun bv wr => ∃ (f : Nat) (a' : Option Addr) (n' c' : Nat) (B' : List Nat), bv = .slice a' n' c' ∧ Rd wr a' n' c' B' ∧ B'.length ≤ f ∧ n' ≤ n ∧ Hid (spR B.length B = spR f B') ∧ w.grownBy wr none) (fun bv _ => slM bv)
  case atStart => exact ⟨B.length, a, n, cap, B, rfl, hR, Nat.le_refl _, Nat.le_refl _, show _ = _ from rfl, World.grownBy.refl _ _⟩
  case round =>
    obtain ⟨f, a', n', c', B', rfl, hr, hf, hnn, HR, hgr⟩ := hrel
    have hl := hr.len
    by_cases h00 : n' = 0
    · subst h00
      have e : B' = [] := List.eq_nil_of_length_eq_zero hl
      subst e
      have hw : whB B = true := by
        unfold whB
        rw [HR.out, (sp_end (B := []) (by decide) f).2]
        rfl
      go_wp2
      refine HK9.out _ _ ?_
      clear HK9
      go_wp2
      go_ret
      exact ⟨by rw [hw]; rfl, hgr⟩
    · have l0 : (0 : Int) < (n' : Int) := by omega
      have d0 : decide ((n' : Int) > 0) = true := decide_eq_true (by omega)
      refine wp_seq_k fun K1 hK1 => ?_
      have HK1 : Hid _ := hK1
      clear hK1
      go_wp2
      refine HK1.out _ _ ?_
      clear HK1
      refine wp_block ?_
      clear l0 d0
      obtain ⟨E, hE⟩ : ∃ E, dcE B' = E := ⟨_, rfl⟩
      have HE : Hid (dcE B' = E) := hE
      have kD := packetOf_any a' n' c' B' wr hr (by omega)
      rw [hE] at kD
      clear hE
      refine wp_seq_k fun K2 hK2 => ?_
      have HK2 : Hid _ := hK2
      clear hK2
      have s0 : True := trivial
      go_wp2_with (first
        | (go_at_call 64; have _t := s0; clear s0; refine kD.mono ?_; rintro e w1 ⟨da, dn, dc, rfl, hA1, g1⟩; unfold pkV; have bn := BxS.new w1 64 #[.bool false, .bool false, .int .i64 0, .int .i64 0, .int .i64 0, .slice none 0 0]; have gn := World.grownBy_alloc w1 (.cells #[.bool false, .bool false, .int .i64 0, .int .i64 0, .int .i64 0, .slice none 0 0] 64) none; generalize hw2 : w1.alloc (.cells #[.bool false, .bool false, .int .i64 0, .int .i64 0, .int .i64 0, .slice none 0 0] 64) = w2 at bn gn; have s1 : True := trivial)
        | (have _t := s1; clear s1; refine wpList_stX _ rfl _ (.tmp 3) (.tmp 12) rfl w1.heap.size _ _ rfl rfl bn i6 rfl (by simp [Value.oneCell']) ?_; intro w3 b3 u3))
      have Y3 := grown_far (grown_trans g1 gn) u3 (fun q e => by have e := Option.some.inj e; have := g1.size; omega)
      have G3 := grown_trans hgr Y3
      have hr3 := hr.keep Y3
      clear hw2 bn gn u3 hr
      refine HK2.out _ _ ?_
      clear HK2
      by_cases h0 : E = 0
      · subst h0
        have h0 := HE.out
        obtain ⟨q1, q2⟩ := dc_k h0
        obtain ⟨f', f1, f2, f3⟩ := sp_go h0 f hf
        obtain ⟨bb, ob, rfl, hbb, _⟩ := hr3.at' (by omega)
        have hbe := hr3.behind (k := dcK B') (by omega)
        have HF3 : Hid _ := f3
        clear f2 f3 h0 kD
        generalize hK : dcK B' = K at *
        clear hK
        refine wp_seq_k fun K3 hK3 => ?_
        have HK3 : Hid _ := hK3
        clear hK3
        go_wp2
        refine HK3.out _ _ ?_
        clear HK3
        have hk1 : (K : Int) ≤ (n' : Int) := by omega
        have hc1 := hr3.le
        have hc2 : (K : Int) ≤ (c' : Int) := by omega
        have tk : ((K : Int)).toNat = K := Int.toNat_natCast K
        by_cases hcK : c' = K
        · rw [if_pos hcK] at hbe
          subst hcK
          rw [show n' - c' = 0 by omega, Nat.sub_self] at hbe
          go_wp2
          refine ⟨⟨f', _, _, _, _, rfl, hbe, f1, by omega, ?_, G3⟩, ?_⟩
          · show _ = _; rw [HR.out, HF3.out]
          · show 0 < n'; omega
        · rw [if_neg hcK] at hbe
          go_wp2
          refine ⟨⟨f', _, _, _, _, rfl, hbe, f1, by omega, ?_, G3⟩, ?_⟩
          · show _ = _; rw [HR.out, HF3.out]
          · show n' - K < n'; omega
      · have hne : (((E : Int) != 0) : Bool) = true := by simp; omega
        have hw : whB B = false := by
          unfold whB
          rw [HR.out, (sp_end (by rw [HE.out]; exact h0) f).2]
          exact decide_eq_false (by omega)
        go_wp2
        go_ret
        exact ⟨by rw [hw]; rfl, G3⟩
/-- in which bytes packets are looked for -/
def goL (R D : List Nat) (f : Nat) : List Nat := if f = 2047 then (if R.length = 0 then [] else R ++ D) else if D.length ≤ f then [] else if 0 < R.length ∧ whB (R ++ D.take f) = true then R ++ D else D.drop f

set_option maxHeartbeats 16000000 in
theorem goThrough_any (a b : Option Addr) (n m c d f : Nat) (R D : List Nat) (w : World) (hR : Rd w a n c R) (hD : Rd w b m d D) (hn : n ≤ 65541) (hm : 1 ≤ m ∧ m ≤ 2036) (hf : f ≤ 2047) :
    Calls Try.prog 82 #[.slice a n c, .slice b m d, .int .i64 (f : Int)] w fun e w' => ∃ (a' : Option Addr) (n' c' : Nat), e = .returned (.slice a' n' c') ∧ Rd w' a' n' c' (goL R D f) ∧ (0 < n' → ∀ g off, a' = some ⟨g, off, none⟩ → w.heap.size ≤ g ∨ ∃ o, b = some ⟨g, o, none⟩) ∧ w.grownBy w' none := by
  have hlR := hR.len
  have hlD := hD.len
  have hN : ∀ wz, Rd wz none 0 0 [] := fun wz => (ans_nil wz 0).rd
  have HG : Hid (goL R D f = if f = 2047 then (if n = 0 then [] else R ++ D) else if m ≤ f then [] else if 0 < n ∧ whB (R ++ D.take f) = true then R ++ D else D.drop f) := by show _ = _; unfold goL; rw [hlR, hlD]
  generalize goL R D f = G at HG
  have cat : ∀ (wz : World) (X : List Nat) (k e : Nat) (bb : Option Addr), w.grownBy wz none → Rd wz bb k e X → k ≤ 2036 → 0 < n → Calls Try.prog 90 #[.slice (some ⟨wz.heap.size, 0, none⟩) 2 2] (wz.alloc (.cells #[.slice a n c, .slice bb k e] 22)) fun e w' => ∃ a' cap, e = .returned (.slice a' (n + k) cap) ∧ Ans w' wz.heap.size a' (n + k) cap (R ++ X) ∧ wz.grownBy w' none := by
    intro wz X k e bb hg hX hk h0
    have gA := World.grownBy_alloc wz (.cells #[.slice a n c, .slice bb k e] 22) none
    refine (concatZ_any a bb n k c e wz.heap.size R X _ (BxS.new wz _ _) ((hR.keep hg).keep gA) (hX.keep gA) h0 (by omega)).mono ?_
    rintro e w' ⟨a', cap, rfl, hA, g1⟩
    exact ⟨a', cap, rfl, hA.wide gA.size, grown_trans gA g1⟩
  by_cases h1 : f = 2047
  · rw [if_pos h1] at HG
    have b1 : ((((f : Nat) : Int) == 2047) : Bool) = true := by subst h1; rfl
    by_cases h2 : n = 0
    · rw [if_pos h2] at HG
      have b2 : ((((n : Nat) : Int) == 0) : Bool) = true := by subst h2; rfl
      clear h1 h2
      go_enter Try.func82, Try.ntmps82
      go_wp2
      go_ret
      rw [HG.out]
      exact ⟨none, 0, 0, rfl, hN _, (fun h => by omega), World.grownBy.refl _ _⟩
    · rw [if_neg h2] at HG
      have b2 : ((((n : Nat) : Int) == 0) : Bool) = false := by
        have : ¬ ((n : Int) = 0) := by omega
        simpa using this
      have kC := cat w D m d b (World.grownBy.refl _ _) hD hm.2 (by omega)
      clear h1 h2
      have s0 : True := trivial
      go_enter Try.func82, Try.ntmps82
      go_wp2_with (go_at_call 90; have _t := s0; clear s0; refine kC.mono ?_; rintro e w1 ⟨a', cap, rfl, hA, g1⟩)
      go_ret
      rw [HG.out]
      exact ⟨a', _, cap, rfl, hA.rd, (fun _ g off e => .inl (hA.new g (hA.at0 e))), g1⟩
  · rw [if_neg h1] at HG
    have b1 : ((((f : Nat) : Int) == 2047) : Bool) = false := by
      have : ¬ ((f : Int) = 2047) := by omega
      simpa using this
    by_cases h3 : m ≤ f
    · rw [if_pos h3] at HG
      have d3 : decide (((f : Nat) : Int) ≥ (m : Int)) = true := decide_eq_true (by omega)
      have d4 : decide ((m : Int) ≤ ((f : Nat) : Int)) = true := decide_eq_true (by omega)
      clear h1
      go_enter Try.func82, Try.ntmps82
      go_wp2
      go_ret
      rw [HG.out]
      exact ⟨none, 0, 0, rfl, hN _, (fun h => by omega), World.grownBy.refl _ _⟩
    · rw [if_neg h3] at HG
      have d3 : decide (((f : Nat) : Int) ≥ (m : Int)) = false := decide_eq_false (by omega)
      have d4 : decide ((m : Int) ≤ ((f : Nat) : Int)) = false := decide_eq_false (by omega)
      have hfm : (f : Int) ≤ (m : Int) := by omega
      have hmd := hD.le
      have hfd : (f : Int) ≤ (d : Int) := by omega
      have tf : ((f : Int)).toNat = f := Int.toNat_natCast f
      obtain ⟨bb, ob, rfl, hbb, _⟩ := hD.at' (by omega)
      have hcut := hD.cut (m := f) (by omega)
      have hbeh := hD.behind (k := f) (by omega)
      have hdf : ¬ d = f := by omega
      rw [if_neg hdf] at hbeh
      by_cases h4 : 0 < n
      · have l4 : (0 : Int) < (n : Int) := by omega
        have d5 : decide (((n : Nat) : Int) > 0) = true := decide_eq_true (by omega)
        have kC := cat w (D.take f) f d _ (World.grownBy.refl _ _) hcut (by omega) h4
        obtain ⟨bv, hbv⟩ : ∃ bv, whB (R ++ D.take f) = bv := ⟨_, rfl⟩
        rw [hbv] at HG
        have HBV : Hid _ := hbv
        clear hbv h1
        have s0 : True := trivial
        cases bv with
        | true =>
          rw [if_pos ⟨h4, rfl⟩] at HG
          go_enter Try.func82, Try.ntmps82
          go_wp2_with (first
            | (go_at_call 90; have _t := s0; clear s0; refine kC.mono ?_; rintro e w1 ⟨a', cap, rfl, hA, g1⟩; have kR := isRow_any a' (n + f) cap _ w1 hA.rd (by omega); rw [HBV.out] at kR; have s1 : True := trivial)
            | (go_at_call 91; have _t := s1; clear s1; refine kR.mono ?_; rintro e w2 ⟨rfl, g2⟩; have kC2 := cat w2 D m d _ (grown_trans g1 g2) (hD.keep (grown_trans g1 g2)) hm.2 h4; have s2 : True := trivial)
            | (go_at_call 90; have _t := s2; clear s2; refine kC2.mono ?_; rintro e w3 ⟨a3, cap3, rfl, hA3, g3⟩))
          go_ret
          rw [HG.out]
          exact ⟨a3, _, cap3, rfl, hA3.rd, (fun _ g off e => .inl (by have := hA3.new g (hA3.at0 e); have := (grown_trans g1 g2).size; omega)), grown_trans (grown_trans g1 g2) g3⟩
        | false =>
          rw [if_neg (fun e => by cases e.2)] at HG
          go_enter Try.func82, Try.ntmps82
          go_wp2_with (first
            | (go_at_call 90; have _t := s0; clear s0; refine kC.mono ?_; rintro e w1 ⟨a', cap, rfl, hA, g1⟩; have kR := isRow_any a' (n + f) cap _ w1 hA.rd (by omega); rw [HBV.out] at kR; have s1 : True := trivial)
            | (go_at_call 91; have _t := s1; clear s1; refine kR.mono ?_; rintro e w2 ⟨rfl, g2⟩))
          go_ret
          rw [HG.out]
          exact ⟨_, _, _, rfl, hbeh.keep (grown_trans g1 g2), (fun _ g off e => by cases e; exact .inr (by first | exact ⟨_, rfl⟩ | rfl)), grown_trans g1 g2⟩
      · rw [if_neg (fun e => h4 e.1)] at HG
        have l4 : ¬ (0 : Int) < (n : Int) := by omega
        have d5 : decide (((n : Nat) : Int) > 0) = false := decide_eq_false (by omega)
        have d6 : decide ((0 : Int) < ((n : Nat) : Int)) = false := decide_eq_false (by omega)
        clear h1
        go_enter Try.func82, Try.ntmps82
        go_wp2
        go_ret
        rw [HG.out]
        exact ⟨_, _, _, rfl, hbeh, (fun _ g off e => by cases e; exact .inr (by first | exact ⟨_, rfl⟩ | rfl)), World.grownBy.refl _ _⟩

/-- a packet that was heard -/
def Pk.he (ch : Int) (p : Pk) : Th := ⟨.int .i64 ch :: p.cells, p.rw⟩
theorem Try.info_he3 : (Try.prog.info? 66).map (fun i => (i.zero, i.size, i.bytes)) = some (some (.agg #[.int .i64 0, .bool false, .bool false, .int .i64 0, .int .i64 0, .int .i64 0, .slice none 0 0]), 7, 64) := by kernel_rfl
theorem Try.info_he7 : (Try.prog.info? 66).map (fun i => i.size) = some 7 := by kernel_rfl
theorem OwT.six {w : World} {lo g n c : Nat} {ps : List Pk} (h : OwT 64 6 w lo (some ⟨g, 0, none⟩) n c (ps.map Pk.th)) {i : Nat} {p : Pk} (hi : ps[i]? = some p) :
    w.cell? ⟨g, i * 6, none⟩ = some (.bool p.up) ∧ w.cell? ⟨g, i * 6 + 1, none⟩ = some (.bool p.se) ∧ w.cell? ⟨g, i * 6 + 2, none⟩ = some (.int .i64 p.ap) ∧ w.cell? ⟨g, i * 6 + 3, none⟩ = some (.int .i64 p.pt) ∧ w.cell? ⟨g, i * 6 + 4, none⟩ = some (.int .i64 p.ct) ∧ w.cell? ⟨g, i * 6 + 5, none⟩ = some (.slice p.a p.n p.c) := by
  have hi' : (ps.map Pk.th)[i]? = some p.th := by rw [List.getElem?_map, hi]; rfl
  exact ⟨h.cell hi' 0 (by decide), h.cell hi' 1 (by decide), h.cell hi' 2 (by decide), h.cell hi' 3 (by decide), h.cell hi' 4 (by decide), h.cell hi' 5 (by decide)⟩
/-- without those that fill -/
def noF (ps : List Pk) : List Pk := ps.filter fun p => p.ap != 2047
theorem noF_d (ps : List Pk) : (noF ps).map Pk.d = (ps.map Pk.d).filter fun p => p.ap != 2047 := by
  unfold noF
  rw [List.filter_map]
  rfl
theorem noF_take (ps : List Pk) (k : Nat) (p : Pk) (h : ps[k]? = some p) : noF (ps.take (k + 1)) = noF (ps.take k) ++ (if p.ap = 2047 then [] else [p]) := by
  unfold noF
  rw [List.take_add_one, h, List.filter_append]
  congr 1
  show [p].filter _ = _
  by_cases e : p.ap = 2047
  · rw [if_pos e]; simp [e]
  · rw [if_neg e]; simp [e]
set_option maxHeartbeats 16000000 in
theorem told_any (ch : Int) (pa : Option Addr) (pn pc lo : Nat) (ps : List Pk) (w : World) (h : OwT 64 6 w lo pa pn pc (ps.map Pk.th)) (hlo : lo ≤ w.heap.size) (hn : pn ≤ 100000) :
    Calls Try.prog 70 #[.int .i64 ch, .slice pa pn pc] w fun e w' => ∃ (a' : Option Addr) (n' c' : Nat), e = .returned (.slice a' n' c') ∧ OwT 66 7 w' lo a' n' c' ((noF ps).map (Pk.he ch)) ∧ (∀ x, (Value.slice a' n' c').ownBlock = some x → w.heap.size ≤ x) ∧ w.grownBy w' none := by
  have hlp : ps.length = pn := by have := h.len; rw [List.length_map] at this; exact this
  have i6 := Try.info_pk
  go_enter Try.func70, Try.ntmps70
  refine wp_seq_k fun K0 hK0 => ?_
  have HK0 : Hid _ := hK0
  clear hK0
  go_wp2
  refine HK0.out _ _ ?_
  clear HK0
  refine wp_seq_k fun K1 hK1 => ?_
  have HK1 : Hid _ := hK1
  clear hK1
  go_wp2
  refine HK1.out _ _ ?_
  clear HK1
  refine wp_seq_k fun K2 hK2 => ?_
  have HK2 : Hid _ := hK2
  clear hK2
  go_wp2
  go_loopw [5, 10] (fun ov iv wr => ∃ (k : Nat) (ao : Option Addr) (mo co : Nat), iv = .int .i64 k ∧ ov = .slice ao mo co ∧ k ≤ pn ∧ mo ≤ k ∧ OwT 66 7 wr lo ao mo co ((noF (ps.take k)).map (Pk.he ch)) ∧ (∀ x, (Value.slice ao mo co).ownBlock = some x → w.heap.size ≤ x) ∧ w.grownBy wr none) (fun _ iv _ => pn - (intOf iv).toNat)
  case atStart => exact ⟨0, none, 0, 0, by go_num, rfl, Nat.zero_le _, Nat.le_refl _, OwT.nil _ _ _ _, (fun x e => by simp [Value.ownBlock] at e), World.grownBy.refl _ _⟩
  case round =>
    obtain ⟨k, ao, mo, co, rfl, rfl, hk, hmo, hO, hnew, hgr⟩ := hrel
    by_cases hlk : k < pn
    · have l1 : (k : Int) < (pn : Int) := by omega
      have hP := h.keep hgr
      obtain ⟨g, rfl⟩ := hP.someT (by omega)
      have hpk : ps[k]? = some (ps.getD k pk0) := by rw [List.getD_eq_getElem?_getD, List.getElem?_eq_getElem (by omega)]; rfl
      obtain ⟨c0, c1, c2, c3, c4, c5⟩ := hP.six hpk
      have hAk : Ans wr lo (ps.getD k pk0).a (ps.getD k pk0).n (ps.getD k pk0).c (ps.getD k pk0).D := hP.each _ (List.mem_map_of_mem (List.mem_of_getElem? hpk))
      have hap : ∀ y, y ∈ (noF (ps.take k)).map (Pk.he ch) → ∀ b, y.r.v.ownBlock = some b → (Pk.he ch (ps.getD k pk0)).r.v.ownBlock ≠ some b := by
        intro y hy b e
        obtain ⟨q, hq, rfl⟩ := List.mem_map.1 hy
        have hq := (List.mem_filter.1 hq).1
        obtain ⟨i, hi, rfl⟩ := List.mem_iff_getElem.1 hq
        rw [List.length_take] at hi
        have hpw := List.pairwise_iff_getElem.1 h.apart i k (by rw [List.length_map]; omega) (by rw [List.length_map]; omega) (by omega) b
        rw [List.getElem_map, List.getElem_map] at hpw
        have e1 : ps.getD k pk0 = ps[k]'(by omega) := by rw [List.getD_eq_getElem?_getD, List.getElem?_eq_getElem (by omega)]; rfl
        rw [e1]
        rw [List.getElem_take] at e
        exact hpw e
      have HT := noF_take ps k _ hpk
      have HT : Hid _ := HT
      generalize hp : ps.getD k pk0 = p at *
      clear hp
      refine wp_seq_k fun K5 hK5 => ?_
      have HK5 : Hid _ := hK5
      clear hK5
      go_wp2
      refine HK5.out _ _ ?_
      clear HK5
      refine wp_seq_k fun K6 hK6 => ?_
      have HK6 : Hid _ := hK6
      clear hK6
      go_wp2
      refine HK6.out _ _ ?_
      clear HK6
      refine wp_seq_k fun K7 hK7 => ?_
      have HK7 : Hid _ := hK7
      clear hK7
      refine wp_block ?_
      refine wp_seq_k fun K8 hK8 => ?_
      have HK8 : Hid _ := hK8
      clear hK8
      have bn := BxS.new wr 64 #[.bool false, .bool false, .int .i64 0, .int .i64 0, .int .i64 0, .slice none 0 0]
      have gn := World.grownBy_alloc wr (.cells #[.bool false, .bool false, .int .i64 0, .int .i64 0, .int .i64 0, .slice none 0 0] 64) none
      have s0 : True := trivial
      go_wp2_with (have _t := s0; clear s0; refine wpList_stX _ rfl _ (.tmp 7) (.tmp 13) rfl wr.heap.size _ _ rfl rfl bn i6 rfl (by simp [Value.oneCell']) ?_; intro w4 b4 u4)
      have Y4 := grown_far gn u4 (fun q e => by have e := Option.some.inj e; omega)
      have hO4 := hO.keep Y4
      have hA4 := hAk.keep Y4
      have G4 := grown_trans hgr Y4
      clear c0 c1 c2 c3 c4 c5 u4 gn bn
      refine HK8.out _ _ ?_
      clear HK8
      have hwk : IntKind.i64.wrap ((k : Int) + 1) = (k : Int) + 1 := wrap_i64_in _ (by omega) (by omega)
      have q2 : w4.cell? ⟨wr.heap.size, 2, none⟩ = some (.int .i64 p.ap) := b4.cell 2 (by show 2 < 6; decide)
      by_cases hap2 : p.ap = 2047
      · have hb : ((p.ap != 2047) : Bool) = false := by simp [hap2]
        go_wp2
        try simp only [Exit.inBlock, Exit.then]
        refine HK7.out _ _ ?_
        clear HK7
        go_wp2
        go_roundw
        case rel =>
          refine ⟨k + 1, ao, mo, co, by go_num, rfl, by omega, by omega, ?_, hnew, G4⟩
          rw [HT.out, if_pos hap2, List.append_nil]; exact hO4
        case measure => simp [intOf]; omega
      · have hb : ((p.ap != 2047) : Bool) = true := by simpa using hap2
        have s0 : True := trivial
        go_wp2_with (first
          | (have _t := s0; clear s0; refine wpList_ldX _ rfl _ (.tmp 7) rfl wr.heap.size _ rfl b4 Try.underlying64 i6 ?_; have s1 : True := trivial)
          | (at_builtin; have _t := s1; clear s1; refine wpList_psT 57 66 7 64 _ Try.underlying57 Try.info_he3 rfl (by decide) (by decide) w4 lo (Pk.he ch p) rfl _ _ rfl ao mo co ((noF (ps.take k)).map (Pk.he ch)) rfl hO4 (by have := G4.size; omega) rfl (by omega) (by unfold maxLen; omega) _ rfl rfl (by intro u hu; simp only [Pk.he, Pk.cells, List.mem_cons, List.not_mem_nil, or_false] at hu; rcases hu with rfl | rfl | rfl | rfl | rfl | rfl | rfl <;> rfl) hA4 hap ?_; intro gx cx w5 hO5 u5 hor))
        try simp only [Exit.inBlock, Exit.then]
        refine HK7.out _ _ ?_
        clear HK7
        go_wp2
        go_roundw
        case rel =>
          refine ⟨k + 1, some ⟨gx, 0, none⟩, mo + 1, cx, by go_num, rfl, by omega, by omega, ?_, fun x e => ?_, grown_far G4 u5 (fun q e => hnew q e)⟩
          · rw [HT.out, if_neg hap2, List.map_append]; exact hO5
          · have e : gx = x := Option.some.inj e
            rcases hor with h1 | h1
            · exact hnew x (by rw [← e]; exact h1)
            · have := G4.size; omega
        case measure => simp [intOf]; omega
    · obtain rfl : k = pn := by omega
      have l1 : ¬ (k : Int) < (k : Int) := by omega
      go_wp2
      refine HK2.out _ _ ?_
      clear HK2
      go_wp2
      go_ret
      rw [List.take_of_length_le (by omega)] at hO
      exact ⟨ao, mo, co, rfl, hO, hnew, hgr⟩

/-- one cell of a thing is written -/
theorem flT_set {k : Nat} {ts : List Th} (hz : SzT k ts) (i : Nat) (x x' : Th) (h : ts[i]? = some x) (j : Nat) (hj : j < k) (v : Value) (hc : x'.cs = x.cs.set j v) : (flT ts).set (i * k + j) v = flT (ts.set i x') := by
  induction ts generalizing i with
  | nil => cases h
  | cons a ts ih =>
    have ha := hz a List.mem_cons_self
    cases i with
    | zero =>
      have h : some a = some x := h
      have h := Option.some.inj h
      subst h
      show (a.cs ++ flT ts).set (0 * k + j) v = x'.cs ++ flT ts
      rw [hc, Nat.zero_mul, Nat.zero_add, List.set_append_left _ _ (by rw [ha]; exact hj)]
    | succ i =>
      have h : ts[i]? = some x := h
      show (a.cs ++ flT ts).set ((i + 1) * k + j) v = a.cs ++ flT (ts.set i x')
      have e : (i + 1) * k + j = i * k + j + k := by rw [Nat.succ_mul]; omega
      rw [e, List.set_append_right _ _ (by rw [ha]; omega), ha, Nat.add_sub_cancel, ih (fun y hy => hz y (List.mem_cons_of_mem _ hy)) i h]

theorem spS_len (f : Nat) : ∀ B : List Nat, (spS f B).length ≤ B.length := by
  induction f with
  | zero => intro B; exact Nat.zero_le _
  | succ f ih =>
    intro B
    by_cases h : dcE B = 0
    · have e : spS (f + 1) B = B :: spS f (B.drop (dcK B)) := if_pos h
      have := ih (B.drop (dcK B))
      obtain ⟨h1, h2⟩ := dc_k h
      rw [List.length_drop] at this
      rw [e, List.length_cons]
      omega
    · have e : spS (f + 1) B = [] := if_neg h
      rw [e]; exact Nat.zero_le _
theorem goL_len (R D : List Nat) (f : Nat) : (goL R D f).length ≤ R.length + D.length := by
  unfold goL
  split
  · split
    · exact Nat.zero_le _
    · rw [List.length_append]; exact Nat.le_refl _
  · split
    · exact Nat.zero_le _
    · split
      · rw [List.length_append]; exact Nat.le_refl _
      · rw [List.length_drop]; omega
theorem Rd.grown0 {w w' : World} {a : Option Addr} {n cap : Nat} {L : List Nat} {r : Option Nat} (h : Rd w a n cap L) (hg : w.grownBy w' r) (hne : 0 < n → ∀ g off, a = some ⟨g, off, none⟩ → some g ≠ r) : Rd w' a n cap L := by
  by_cases h0 : 0 < n
  · exact h.grown hg (hne h0)
  · exact ⟨h.len, h.le, h.max, h.nil, h.byte, fun h1 => absurd h1 h0⟩
/-- what is kept of what is left -/
def keL (G : List Nat) : List Nat := if dcE (spR G.length G) = 7 then spR G.length G else []
theorem stc_slb (g i : Nat) (p : Option Addr) (l c : Nat) (w : World) (hc : ∃ u, w.cell? ⟨g, i, none⟩ = some u) (hf : w.frozen? ⟨g, i, none⟩ = false) : (Instr.storeAt 22 (.pointer (some ⟨g, i, none⟩)) (.slice p l c)).run Try.prog w = .ok () (w.setCell ⟨g, i, none⟩ (.slice p l c)) := by
  obtain ⟨u, hc⟩ := hc
  simp [go_sem, hc, hf]

set_option maxHeartbeats 32000000 in
theorem hp_t4 {u1 u3 u5 u6 u8 u9 u10 u11 u12 u13 u14 u15 u16 u17 u18 u19 u20 u21 u22 u23 u24 u25 u26 u27 u28 u29 u30 u31 u32 u33 u34 u35 u36 u37 u38 u39 u40 u41 u42 u43 u44 u45 : Value} (w w1 : World) (lo ge i : Nat) (es : List Er) (Es : List Ed) (e : Er) (cr ch ma ow : Int) (fi : Nat) (da : Option Addr) (dm dc : Nat) (D : List Nat) (ra : Option Addr) (rn rc : Nat) (R G : List Nat) (hL : OwL w1 lo (some ⟨ge, 0, none⟩) 7 7 es Es) (hi : es[i]? = some e) (hR : Rd w1 ra rn rc R) (hrn : rn ≤ 65541) (lod : Nat) (hDA : Ans w1 lod da dm dc D) (hdm : 1 ≤ dm ∧ dm ≤ 2036) (how : 0 ≤ ow ∧ ow ≤ 255) (hfi : fi ≤ 2047) (hG : Hid (G = goL R D fi)) (bh : BxS w1 w.heap.size 28 #[.int .i64 cr, .int .i64 ch, .int .i64 ma, .int .i64 ow, .int .i64 (fi : Int)]) (G1 : w.grownBy w1 none) (hold : ∀ x, Tbl (.slice (some ⟨ge, 0, none⟩) 7 7) (es.map Er.th) x → x < w.heap.size) :
    Code.wp Try.prog (tailR 4 (Try.f69.body.getD .skip)) (bodyPost Try.prog Try.f69 (fun r w' => ∃ (pa : Option Addr) (pn pc : Nat) (ps : List Pk) (es' : List Er), r = .returned (.slice pa pn pc) ∧ OwT 64 6 w' w.heap.size pa pn pc (ps.map Pk.th) ∧ ps.map Pk.d = (spS G.length G).map pdB ∧ OwL w' lo (some ⟨ge, 0, none⟩) 7 7 es' (Es.set i ⟨(ow + 1) % 256, keL G⟩) ∧ (∀ x, Tbl (.slice pa pn pc) (ps.map Pk.th) x → ¬ Tbl (.slice (some ⟨ge, 0, none⟩) 7 7) (es'.map Er.th) x) ∧ pn ≤ 100000 ∧ w.grownBy w' (some ge))) (Act.mk (List.toArray ((.pointer (some ⟨ge, i * 2, none⟩)) :: u1 :: (.slice da dm dc) :: u3 :: (.pointer (some ⟨w.heap.size, 0, none⟩)) :: u5 :: u6 :: (.slice ra rn rc) :: u8 :: u9 :: u10 :: u11 :: u12 :: u13 :: u14 :: u15 :: u16 :: u17 :: u18 :: u19 :: u20 :: u21 :: u22 :: u23 :: u24 :: u25 :: u26 :: u27 :: u28 :: u29 :: u30 :: u31 :: u32 :: u33 :: u34 :: u35 :: u36 :: u37 :: u38 :: u39 :: u40 :: u41 :: u42 :: u43 :: u44 :: u45 :: [])) []) w1 := by
  conv => enter [2]; whnf
  have hle := hL.lenE
  have hil : i < 7 := by have := (List.getElem?_eq_some_iff.1 hi).1; omega
  have hgel := hold ge (.inl rfl)
  have hem : e.th ∈ es.map Er.th := List.mem_map_of_mem (List.mem_of_getElem? hi)
  have hthi : (es.map Er.th)[i]? = some e.th := by rw [List.getElem?_map, hi]; rfl
  have i2 := Try.info_ea2
  have hD := hDA.rd
  have hGl := goL_len R D fi
  rw [← hG.out, hR.len, hD.len] at hGl
  refine wp_seq_k fun K1 hK1 => ?_
  have HK1 : Hid _ := hK1
  clear hK1
  obtain ⟨z0, z1, z2, z3, z4⟩ := BxS.cell5 bh
  have s0 : True := trivial
  have kG := goThrough_any ra da rn dm rc dc fi R D w1 hR hD hrn hdm hfi
  rw [← hG.out] at kG
  go_wp2_with (first
    | (go_at_call 82; have _t := s0; clear s0; refine kG.mono ?_; rintro e2 w2 ⟨ga, gn, gc, rfl, hR2, hgb, g2⟩; have kS := split_any ga gn gc G w2 hR2 (by have := hR2.len; omega); have s1 : True := trivial)
    | (go_at_call 81; have _t := s1; clear s1; refine kS.mono ?_; rintro e3 w3 ⟨pa, pn, pc, ps, la, ln, lc, rfl, hP3, hpd, hR3, hlb, g3⟩))
  have Y3 := grown_trans g2 g3
  have hL3 := hL.keep Y3
  have bh3 := bh.keep Y3 (by simp)
  have G3 := grown_trans G1 Y3
  have zz1 := G1.size
  have zz2 := g2.size
  have zz3 := g3.size
  have hpn : pn ≤ 100000 := by
    have h1 := hP3.len
    rw [List.length_map] at h1
    have h2 : ps.length = (spS G.length G).length := by have := congrArg List.length hpd; rw [List.length_map, List.length_map] at this; exact this
    have := spS_len G.length G
    omega
  have hP3w := hP3.wide (lo' := w.heap.size) (by omega)
  have hPhi : ∀ x, Tbl (.slice pa pn pc) (ps.map Pk.th) x → x < w3.heap.size := fun x hx => (hP3.hi hx).1
  have hll := hR3.len
  obtain ⟨L, hLL⟩ : ∃ L, spR G.length G = L := ⟨_, rfl⟩
  have HKE : Hid (keL G = if dcE L = 7 then L else []) := by show _ = _; unfold keL; rw [hLL]
  rw [hLL] at hR3 hll ⊢
  have hLn : ln ≤ 100000 := by
    have h1 : ∀ (f : Nat) (B : List Nat), (spR f B).length ≤ B.length := by
      intro f
      induction f with
      | zero => intro B; exact Nat.le_refl _
      | succ f ih =>
        intro B
        by_cases h : dcE B = 0
        · have e : spR (f + 1) B = spR f (B.drop (dcK B)) := if_pos h
          have := ih (B.drop (dcK B))
          rw [List.length_drop] at this
          rw [e]; omega
        · have e : spR (f + 1) B = B := if_neg h
          rw [e]; exact Nat.le_refl _
    have := h1 G.length G
    rw [hLL] at this
    omega
  obtain ⟨E, hE⟩ : ∃ E, dcE L = E := ⟨_, rfl⟩
  rw [hE] at HKE ⊢
  clear z0 z1 z2 z3 z4 kG hE hLL g2 g3 Y3 hR hD bh hR2
  refine HK1.out _ _ ?_
  clear HK1
  refine wp_seq_k fun K2 hK2 => ?_
  have HK2 : Hid _ := hK2
  clear hK2
  obtain ⟨z0, z1, z2, z3, z4⟩ := BxS.cell5 bh3
  have kB := fun wz => fbehind_any ow ((ow + 1) % 256) (show _ = _ from rfl) how.1 how.2 wz
  have s0 : True := trivial
  have hpi : (.pointer (some ⟨ge, i * 2, none⟩) : Value) = .pointer (some ⟨ge, i * 2, none⟩) := rfl
  obtain ⟨c0, c1⟩ := hL3.cell hi
  go_wp2_with (first
    | (go_at_call 68; have _t := s0; clear s0; refine (kB _).mono ?_; rintro e4 wx ⟨rfl, hw⟩; have hw := hw.symm; subst hw; have s1 : True := trivial)
    | (have _t := s1; clear s1; refine wpList_stTh i2 _ rfl _ _ rfl ge i 7 7 _ (es.map Er.th) (Er.th ⟨(ow + 1) % 256, kr0⟩) rfl rfl _ rfl rfl rfl (by intro u hu; simp only [Er.th, List.mem_cons, List.not_mem_nil, or_false] at hu; rcases hu with rfl | rfl <;> rfl) hL3.o.own hL3.o.sz hL3.o.len hil ?_; intro w4 ho4 u4))
  have hL4 : OwT 68 2 w4 lo (some ⟨ge, 0, none⟩) 7 7 ((es.map Er.th).set i (Er.th ⟨(ow + 1) % 256, kr0⟩)) := hL3.o.set (by decide) ho4 u4 rfl (ans_nil _ _) (fun j y hj hy b e e2 => by simp [Er.th, kr0, Rw.v, Value.ownBlock] at e2)
  have hP4 := hP3w.far u4 hgel
  have hR4 : Rd w4 la ln lc L := hR3.grown0 u4 (hlb (fun g => some g ≠ some ge) (fun h0 g off e => by
    intro e2
    have e2 := Option.some.inj e2
    subst e2
    rcases hgb h0 g off e with h1 | ⟨o, h1⟩
    · omega
    · obtain ⟨cs, hb⟩ := hL.o.row
      exact hDA.apart hb (by decide) (hDA.at0 h1)))
  have G4 := grown_trans (grown_weak G3 (some ge)) u4
  have zz4 := u4.size
  clear z0 z1 z2 z3 z4 c0 c1 hP3 hP3w bh3 hR3
  refine HK2.out _ _ ?_
  clear HK2
  refine wp_seq_k fun K3 hK3 => ?_
  have HK3 : Hid _ := hK3
  clear hK3
  by_cases h7 : E = 7
  · have b7 : ((((E : Nat) : Int) == 7) : Bool) = true := by subst h7; rfl
    rw [if_pos h7] at HKE
    have hL4f := hL4.free (i * 2 + 1)
    have hset : ((es.map Er.th).set i (Er.th ⟨(ow + 1) % 256, kr0⟩))[i]? = some (Er.th ⟨(ow + 1) % 256, kr0⟩) := List.getElem?_set_self (by rw [List.length_map]; omega)
    have hL4c : w4.cell? ⟨ge, i * 2 + 1, none⟩ = some (.slice none 0 0) := hL4.cell hset 1 (by decide)
    have s0 : True := trivial
    go_wp2_with (first
      | (go_at_call 49; have _t := s0; clear s0; refine (hclone_any la ln lc L w4 hR4 (by omega)).mono ?_; rintro e5 w5 ⟨na, nc, rfl, hA5, g5⟩; have hL5 := hL4.keep g5; have hc5 : w5.cell? ⟨ge, i * 2 + 1, none⟩ = some (.slice none 0 0) := hL5.cell hset 1 (by decide); have hf5 := hL5.free (i * 2 + 1))
      )
    have hs5 := (hL5.own.stored (i * 2 + 1) (.slice na ln nc)).1
    rw [flT_set hL5.sz i _ (Er.th ⟨(ow + 1) % 256, ⟨na, ln, nc, L⟩⟩) hset 1 (by decide) (.slice na ln nc) rfl, List.set_set] at hs5
    have u5 := grown_set w5 ge (i * 2 + 1) (.slice na ln nc)
    have hL6 := hL5.set (x' := Er.th ⟨(ow + 1) % 256, ⟨na, ln, nc, L⟩⟩) (i := i) (by decide) (by rw [List.set_set]; exact hs5) u5 rfl (hA5.wide (by have := (hL4.hi (x := ge) (.inl rfl)).2; omega)) (fun j y hj hy b e e2 => by
      have hj4 : y ∈ (es.map Er.th).set i (Er.th ⟨(ow + 1) % 256, kr0⟩) := List.mem_of_getElem? hy
      exact (hL4.each y hj4).later2 hA5 (Nat.le_refl _) b e e2)
    rw [List.set_set] at hL6
    have hwz : w5.setCell ⟨ge, i * 2 + 1, none⟩ (.slice na ln nc) = w5.setCell ⟨ge, i * 2 + 1, none⟩ (.slice na ln nc) := rfl
    generalize w5.setCell ⟨ge, i * 2 + 1, none⟩ (.slice na ln nc) = w6 at *
    refine HK3.out _ _ ?_
    clear HK3
    go_wp2
    go_ret
    have hnewb : ∀ x, (Value.slice na ln nc).ownBlock = some x → w4.heap.size ≤ x := hA5.new
    have hP6 := (hP4.keep g5).far u5 hgel
    refine ⟨pa, pn, pc, rfl, ps, hP6, hpd, es.set i ⟨(ow + 1) % 256, ⟨na, ln, nc, L⟩⟩, ⟨by rw [List.map_set]; exact hL6, ?_⟩, fun x hx e => ?_, hpn, grown_trans (grown_trans G4 (grown_weak g5 _)) u5⟩
    · rw [List.map_set, hL.d, HKE.out]; rfl
    · have h1 := hPhi x hx
      have h2 := (hP6.hi hx).2
      rcases e with e | ⟨y, hy, e⟩
      · have := hold x (.inl e); omega
      · rw [List.map_set] at hy
        rcases List.mem_or_eq_of_mem_set hy with hy | rfl
        · have := hold x (.inr ⟨y, hy, e⟩); omega
        · have := hnewb x e; omega
  · have b7 : ((((E : Nat) : Int) == 7) : Bool) = false := by
      have : ¬ ((E : Int) = 7) := by omega
      simpa using this
    rw [if_neg h7] at HKE
    go_wp2
    refine HK3.out _ _ ?_
    clear HK3
    go_wp2
    go_ret
    refine ⟨pa, pn, pc, ps, es.set i ⟨(ow + 1) % 256, kr0⟩, rfl, hP4, hpd, ⟨by rw [List.map_set]; exact hL4, ?_⟩, fun x hx e => ?_, hpn, G4⟩
    · rw [List.map_set, hL.d, HKE.out]; rfl
    · have h2 := (hP4.hi hx).2
      rcases e with e | ⟨y, hy, e⟩
      · have := hold x (.inl e); omega
      · rw [List.map_set] at hy
        rcases List.mem_or_eq_of_mem_set hy with hy | rfl
        · have := hold x (.inr ⟨y, hy, e⟩); omega
        · simp [Er.th, kr0, Rw.v, Value.ownBlock] at e

set_option maxHeartbeats 32000000 in
theorem hearPackets_any (w : World) (lo ge i : Nat) (es : List Er) (Es : List Ed) (e : Er) (cr ch ma ow : Int) (fi : Nat) (da : Option Addr) (dm dc : Nat) (D : List Nat) (hL : OwL w lo (some ⟨ge, 0, none⟩) 7 7 es Es) (hi : es[i]? = some e) (hrn : e.r.n ≤ 65541) (lod : Nat) (hDA : Ans w lod da dm dc D) (hdm : 1 ≤ dm ∧ dm ≤ 2036) (how : 0 ≤ ow ∧ ow ≤ 255) (hfi : fi ≤ 2047) (G : List Nat) (hG : G = goL (if e.x = ow then e.r.D else []) D fi) :
    Calls Try.prog 69 #[.pointer (some ⟨ge, i * 2, none⟩), .agg #[.int .i64 cr, .int .i64 ch, .int .i64 ma, .int .i64 ow, .int .i64 (fi : Int)], .slice da dm dc] w (fun r w' => ∃ (pa : Option Addr) (pn pc : Nat) (ps : List Pk) (es' : List Er), r = .returned (.slice pa pn pc) ∧ OwT 64 6 w' w.heap.size pa pn pc (ps.map Pk.th) ∧ ps.map Pk.d = (spS G.length G).map pdB ∧ OwL w' lo (some ⟨ge, 0, none⟩) 7 7 es' (Es.set i ⟨(ow + 1) % 256, keL G⟩) ∧ (∀ x, Tbl (.slice pa pn pc) (ps.map Pk.th) x → ¬ Tbl (.slice (some ⟨ge, 0, none⟩) 7 7) (es'.map Er.th) x) ∧ pn ≤ 100000 ∧ w.grownBy w' (some ge)) := by
  have HG : Hid _ := hG
  clear hG
  have hle := hL.lenE
  have hil : i < 7 := by have := (List.getElem?_eq_some_iff.1 hi).1; omega
  have hold : ∀ x, Tbl (.slice (some ⟨ge, 0, none⟩) 7 7) (es.map Er.th) x → x < w.heap.size := fun x hx => (hL.o.hi hx).1
  have hem : e.th ∈ es.map Er.th := List.mem_map_of_mem (List.mem_of_getElem? hi)
  have b0 := BxS.new w 28 #[.int .i64 cr, .int .i64 ch, .int .i64 ma, .int .i64 ow, .int .i64 (fi : Int)]
  have g0 := World.grownBy_alloc w (.cells #[.int .i64 cr, .int .i64 ch, .int .i64 ma, .int .i64 ow, .int .i64 (fi : Int)] 28) none
  generalize hw0 : w.alloc (.cells #[.int .i64 cr, .int .i64 ch, .int .i64 ma, .int .i64 ow, .int .i64 (fi : Int)] 28) = w0 at b0 g0
  have hL0 := hL.keep g0
  obtain ⟨c0, c1⟩ := hL0.cell hi
  have hr0 : Rd w0 e.r.a e.r.n e.r.c e.r.D := (hL0.o.each _ hem).rd
  obtain ⟨ex, hex⟩ : ∃ ex, e.x = ex := ⟨_, rfl⟩
  rw [hex] at c0 HG
  clear hex
  go_enter Try.func69, Try.ntmps69
  refine wp_seq_k fun K0 hK0 => ?_
  have HK0 : Hid _ := hK0
  clear hK0
  go_wp2
  refine HK0.out _ _ ?_
  clear HK0
  refine wp_seq_k fun K1 hK1 => ?_
  have HK1 : Hid _ := hK1
  clear hK1
  go_wp2
  refine HK1.out _ _ ?_
  clear HK1
  refine wp_seq_k fun K2 hK2 => ?_
  have HK2 : Hid _ := hK2
  clear hK2
  refine wp_seq_k fun K3 hK3 => ?_
  have HK3 : Hid _ := hK3
  clear hK3
  have SS : w0.drew.cell? ⟨ge, i * 2, none⟩ = some (.int .i64 ex) ∧ BxS w0.drew w.heap.size 28 #[.int .i64 cr, .int .i64 ch, .int .i64 ma, .int .i64 ow, .int .i64 (fi : Int)] := ⟨c0, b0.keep (grown_drew w0 none) (by simp)⟩
  have hLd := hL0.keep (grown_drew w0 none)
  have hrd := hr0.keep (grown_drew w0 none)
  have hDd := (hDA.keep g0).keep (grown_drew w0 none)
  have Gd := grown_trans g0 (grown_drew w0 none)
  clear hw0 c0 c1 hL0 hr0 b0 g0
  refine wp_regionL (fun wz => wz.cell? ⟨ge, i * 2, none⟩ = some (.int .i64 ex) ∧ BxS wz w.heap.size 28 #[.int .i64 cr, .int .i64 ch, .int .i64 ma, .int .i64 ow, .int .i64 (fi : Int)]) [] #[false, false, false, false, false, false, false] rfl (by kernel_rfl) ?_
  refine wpAnyZ_take [] 0 (.pointer (some ⟨ge, i * 2, none⟩)) rfl (by kernel_rfl) (fun _ _ _ h => h) SS rfl (by intro wz hz; go_simp) ?_
  try simp only [List.getElem_toArray, List.getElem_cons_succ, List.getElem_cons_zero, Act.put, List.setIfInBounds_toArray, List.set_cons_zero, List.set_cons_succ]
  refine wpAnyZ_take [] 1 (.pointer (some ⟨ge, i * 2, none⟩)) rfl (by kernel_rfl) (fun _ _ _ h => h) SS rfl (by intro wz hz; go_simp) ?_
  try simp only [List.getElem_toArray, List.getElem_cons_succ, List.getElem_cons_zero, Act.put, List.setIfInBounds_toArray, List.set_cons_zero, List.set_cons_succ]
  refine wpAnyZ_take [] 2 (.pointer (some ⟨ge, i * 2, none⟩)) rfl (by kernel_rfl) (fun _ _ _ h => h) SS rfl (by intro wz hz; go_simp) ?_
  try simp only [List.getElem_toArray, List.getElem_cons_succ, List.getElem_cons_zero, Act.put, List.setIfInBounds_toArray, List.set_cons_zero, List.set_cons_succ]
  refine wpAnyZ_take [] 3 (.int .i64 ex) rfl (by kernel_rfl) (fun _ _ _ h => h) SS rfl (by rintro wz ⟨q0, hz⟩; obtain ⟨z0, z1, z2, z3, z4⟩ := BxS.cell5 hz; go_simp) ?_
  try simp only [List.getElem_toArray, List.getElem_cons_succ, List.getElem_cons_zero, Act.put, List.setIfInBounds_toArray, List.set_cons_zero, List.set_cons_succ]
  refine wpAnyZ_take [] 4 (.pointer (some ⟨w.heap.size, 3, none⟩)) rfl (by kernel_rfl) (fun _ _ _ h => h) SS rfl (by intro wz hz; go_simp) ?_
  try simp only [List.getElem_toArray, List.getElem_cons_succ, List.getElem_cons_zero, Act.put, List.setIfInBounds_toArray, List.set_cons_zero, List.set_cons_succ]
  refine wpAnyZ_take [] 5 (.int .i64 ow) rfl (by kernel_rfl) (fun _ _ _ h => h) SS rfl (by rintro wz ⟨q0, hz⟩; obtain ⟨z0, z1, z2, z3, z4⟩ := BxS.cell5 hz; go_simp) ?_
  try simp only [List.getElem_toArray, List.getElem_cons_succ, List.getElem_cons_zero, Act.put, List.setIfInBounds_toArray, List.set_cons_zero, List.set_cons_succ]
  refine wpAnyZ_take [] 6 (.bool (ex != ow)) rfl (by kernel_rfl) (fun _ _ _ h => h) SS rfl (by intro wz hz; go_simp) ?_
  try simp only [List.getElem_toArray, List.getElem_cons_succ, List.getElem_cons_zero, Act.put, List.setIfInBounds_toArray, List.set_cons_zero, List.set_cons_succ]
  generalize w0.drew = w1 at *
  refine wpAnyZ_doneB (by kernel_rfl) ?_ _
  refine HK3.out _ _ ?_
  clear HK3
  by_cases hx : ex = ow
  · have hG := HG.out
    rw [if_pos hx] at hG
    have hb : ((ex != ow) : Bool) = false := by simp [hx]
    rw [hb]
    clear hx hb
    go_wp2
    refine HK2.out _ _ ?_
    clear HK2
    exact hp_t4 w w1 lo ge i es Es e cr ch ma ow fi da dm dc D _ _ _ _ G hLd hi hrd hrn lod hDd hdm how hfi hG SS.2 Gd hold
  · have hG := HG.out
    rw [if_neg hx] at hG
    have hb : ((ex != ow) : Bool) = true := by simpa using hx
    rw [hb]
    clear hx hb
    go_wp2
    refine HK2.out _ _ ?_
    clear HK2
    exact hp_t4 w w1 lo ge i es Es e cr ch ma ow fi da dm dc D none 0 0 [] G hLd hi (ans_nil w1 0).rd (by omega) lod hDd hdm how hfi hG SS.2 Gd hold
end Go.Proofs.Ytlmddjkplnbadaa
