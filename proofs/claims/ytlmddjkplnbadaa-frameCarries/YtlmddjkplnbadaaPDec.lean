import Derived.Lib.AppendZerosOnto
import Derived.Test.YtlmddjkplnbadaaPRdH
namespace Go.Proofs.Ytlmddjkplnbadaa
open Go.RowKit
set_option maxRecDepth 100000
set_option linter.unusedVariables false
set_option linter.unusedSimpArgs false

theorem pclone_any (b off n cap : Nat) (D : List Nat) (w : World) (hp : Rd w (some ⟨b, off, none⟩) n cap D) (h0 : 0 < n) (hn : n ≤ 140737488355328) :
    Calls Try.prog 49 #[.slice (some ⟨b, off, none⟩) n cap] w fun e w' => ∃ g' c', e = .returned (.slice (some ⟨g', 0, none⟩) n c') ∧ Ans w' w.heap.size (some ⟨g', 0, none⟩) n c' D ∧ w.grownBy w' none := by
  have gA := World.grownBy_alloc w (.cells #[] 5) none
  have hA := heap_alloc_new w (.cells #[] 5)
  have hown : (w.alloc (.cells #[] 5)).ownsRow 0 5 1 (.slice (some ⟨w.heap.size, 0, none⟩) 0 0) 0 (bys []) := ⟨rfl, .inr ⟨w.heap.size, 0, #[], rfl, Nat.zero_le _, hA, Nat.le_refl _, Nat.zero_le _, rfl, rfl⟩⟩
  have hpA := hp.keep gA
  have heq := fun w => Lib.run_eql_slice_nil (P := Try.prog) w 22 5 (some ⟨b, off, none⟩) n cap 0 0 Try.underlying22
  go_enter Try.func49, Try.ntmps49
  go_wp2_with (at_builtin; refine wpList_apB _ rfl _ _ rfl (.slice (some ⟨w.heap.size, 0, none⟩) 0 0) 0 (bys []) rfl hown ⟨b, off, none⟩ n cap (bys D) rfl (by rw [bys_length, hp.len]) (rd_news hpA h0) (bys_one _) h0 (by omega) ?_; intro g' c' w2 hg2 hgr2 hown2)
  go_ret
  rw [Nat.zero_add] at *
  refine ⟨g', c', rfl, ⟨hown2, hp.byte, fun x hx => ?_⟩, grown_far gA hgr2 (fun x hx => by have e : w.heap.size = x := Option.some.inj hx; omega)⟩
  have e : g' = x := Option.some.inj hx
  rcases hg2 with h | h
  · have e2 : w.heap.size = g' := Option.some.inj h
    omega
  · simp at h; omega
/-- some of the bytes -/
theorem Rd.part {w : World} {b off n cap : Nat} {L : List Nat} (h : Rd w (some ⟨b, off, none⟩) n cap L) (m k : Nat) (hk : m + k ≤ n) : Rd w (some ⟨b, off + m, none⟩) k (cap - m) ((L.drop m).take k) := by
  have hl := h.len
  have h1 := h.le
  have h2 := h.max
  refine ⟨by simp; omega, by omega, by omega, (fun e => by cases e), isB_take (isB_drop h.byte m) k, fun h0 => ?_⟩
  obtain ⟨b', off', e, hb, hc⟩ := h.at' (by omega)
  cases e
  refine ⟨b, off + m, rfl, hb, fun i hi => ?_⟩
  have := hc (m + i) (by omega)
  rw [show off + m + i = off + (m + i) by omega, this]
  congr 3
  unfold nth
  rw [List.getD_eq_getElem?_getD, List.getD_eq_getElem?_getD, List.getElem?_take, if_pos hi, List.getElem?_drop]
/-- what a packet's bytes say -/
def dcE (B : List Nat) : Nat := if B.length < 6 then 7 else if hdV B 6 / 2 ^ 45 ≠ 0 then 8 else if B.length < 7 + hdV B 6 % 65536 then 7 else 0
def dcU (B : List Nat) : Bool := if dcE B = 0 then decide (hdV B 6 / 2 ^ 44 % 2 = 1) else false
def dcS (B : List Nat) : Bool := if dcE B = 0 then decide (hdV B 6 / 2 ^ 43 % 2 = 1) else false
def dcA (B : List Nat) : Nat := if dcE B = 0 then hdV B 6 / 2 ^ 32 % 2048 else 0
def dcP (B : List Nat) : Nat := if dcE B = 0 then hdV B 6 / 2 ^ 30 % 4 else 0
def dcC (B : List Nat) : Nat := if dcE B = 0 then hdV B 6 / 2 ^ 16 % 16384 else 0
def dcK (B : List Nat) : Nat := if dcE B = 0 then 7 + hdV B 6 % 65536 else 0
def dcD (B : List Nat) : List Nat := if dcE B = 0 then (B.drop 6).take (hdV B 6 % 65536 + 1) else []
theorem hdV_take (B : List Nat) (k : Nat) (hk : k ≤ 6) : hdV (B.take 6) k = hdV B k := by
  induction k with
  | zero => rfl
  | succ k ih =>
    simp only [hdV]
    rw [ih (by omega)]
    congr 1
    unfold nth
    rw [List.getD_eq_getElem?_getD, List.getD_eq_getElem?_getD, List.getElem?_take, if_pos (by omega)]
/-- what is told where no packet is: all noughts -/
theorem dc_no (B : List Nat) (E : Nat) (h : dcE B = E) (h0 : E ≠ 0) (w : World) (lo : Nat) :
    ∃ a' n' c', (Value.tuple #[pkV false false 0 0 0 none 0 0, .int .i64 0, .int .i64 (E : Int)]) = .tuple #[pkV (dcU B) (dcS B) (dcA B : Nat) (dcP B : Nat) (dcC B : Nat) a' n' c', .int .i64 (dcK B : Nat), .int .i64 (dcE B : Nat)] ∧ Ans w lo a' n' c' (dcD B) := by
  have hn : ¬ dcE B = 0 := by omega
  refine ⟨none, 0, 0, ?_, ?_⟩
  · unfold dcU dcS dcA dcP dcC dcK
    rw [if_neg hn, if_neg hn, if_neg hn, if_neg hn, if_neg hn, if_neg hn, h]
    rfl
  · unfold dcD
    rw [if_neg hn]
    exact ans_nil w lo
set_option maxHeartbeats 8000000 in
theorem decode_any (a : Option Addr) (n cap : Nat) (B : List Nat) (w : World) (hR : Rd w a n cap B) :
    Calls Try.prog 75 #[.slice a n cap] w fun e w' => ∃ a' n' c', e = .returned (.tuple #[pkV (dcU B) (dcS B) (dcA B : Nat) (dcP B : Nat) (dcC B : Nat) a' n' c', .int .i64 (dcK B : Nat), .int .i64 (dcE B : Nat)]) ∧ Ans w' w.heap.size a' n' c' (dcD B) ∧ w.grownBy w' none := by
  have HL : Hid (B.length = n) := hR.len
  have hle := hR.le
  have hmx := hR.max
  unfold maxLen at hmx
  have b0 := BxP.new w false false 0 0 0 none 0 0
  have g0 := World.grownBy_alloc w (.cells #[.bool false, .bool false, .int .i64 0, .int .i64 0, .int .i64 0, .slice none 0 0] 64) none
  by_cases h6 : n < 6
  · have HE : Hid (dcE B = 7) := by show _ = _; unfold dcE; rw [HL.out, if_pos h6]
    have d6 : decide ((n : Int) < 6) = true := decide_eq_true (by omega)
    go_enter Try.func75, Try.ntmps75
    go_wp2
    refine bodyPost_ret (results_cell3 rfl _ _ _ ⟨w.heap.size, 0, none⟩ _ (.int .i64 0) (.int .i64 7) rfl (BxS.load (t := 64) b0 Try.underlying64 Try.info_pk) rfl rfl) rfl ?_
    obtain ⟨a', n', c', e, hA⟩ := dc_no B 7 HE.out (by decide) (w.alloc (.cells #[.bool false, .bool false, .int .i64 0, .int .i64 0, .int .i64 0, .slice none 0 0] 64)) w.heap.size
    exact ⟨a', n', c', congrArg Ending.returned e, hA, g0⟩
  · have d6 : decide ((n : Int) < 6) = false := decide_eq_false (by omega)
    obtain ⟨b, off, rfl, hbw, hc⟩ := hR.at' (by omega)
    obtain ⟨H, eH⟩ : ∃ H, H = hdV B 6 := ⟨_, rfl⟩
    have hrh : ∃ (up se : Bool) (ap pt ct fo si : Nat), Hid (up = decide (H / 2 ^ 44 % 2 = 1) ∧ se = decide (H / 2 ^ 43 % 2 = 1) ∧ ap = H / 2 ^ 32 % 2048 ∧ pt = H / 2 ^ 30 % 4 ∧ ct = H / 2 ^ 16 % 16384 ∧ fo = H / 2 ^ 45 ∧ si = H % 65536) ∧ si < 65536 ∧
        ∀ wz, Rd wz (some ⟨b, off, none⟩) 6 cap (B.take 6) → Calls Try.prog 86 #[.slice (some ⟨b, off, none⟩) 6 cap] wz fun e w' => e = .returned (.tuple #[.agg #[.bool up, .bool se, .int .i64 (ap : Nat), .int .i64 (pt : Nat), .int .i64 (ct : Nat), .slice none 0 0], .int .i64 (fo : Nat), .int .i64 ((si : Nat) + 1)]) ∧ wz.grownBy w' none := by
      refine ⟨_, _, _, _, _, _, _, ⟨rfl, rfl, rfl, rfl, rfl, rfl, rfl⟩, Nat.mod_lt _ (by decide), fun wz hz => (readHead_any _ cap _ wz hz).mono ?_⟩
      rintro e w' ⟨H', EH', _, rfl, g⟩
      have e2 : H' = H := by rw [EH'.out, hdV_take B 6 (by decide), eH]
      subst e2
      exact ⟨rfl, g⟩
    obtain ⟨up, se, ap, pt, ct, fo, si, HV, hsi, hrh⟩ := hrh
    have EH : Hid (H = hdV B 6) := eH
    clear eH
    have i6 := Try.info_pk
    generalize hw0 : w.alloc (.cells #[.bool false, .bool false, .int .i64 0, .int .i64 0, .int .i64 0, .slice none 0 0] 64) = w0 at b0 g0
    have hR0 := (hR.keep g0).cut (m := 6) (by omega)
    have t1 : True := trivial
    by_cases hfo : fo = 0
    · have d1 : (((fo : Int) != 0) : Bool) = false := by simp [hfo]
      by_cases hlen : n < 7 + si
      · have HE : Hid (dcE B = 7) := by
          show _ = _
          unfold dcE
          have := HV.out
          rw [EH.out] at this
          rw [HL.out, if_neg h6, if_neg (by omega), if_pos (by omega)]
        have d2 : decide ((n : Int) - 6 < (si : Int) + 1) = true := decide_eq_true (by omega)
        clear hfo
        go_enter Try.func75, Try.ntmps75
        go_wp2_with (first
          | (go_at_call 86; have _t := t1; clear t1; refine (hrh w0 hR0).mono ?_; rintro e w1 ⟨rfl, g1⟩; have b1 := b0.keep (grown_trans g1 (World.grownBy_alloc w1 (.cells #[.bool up, .bool se, .int .i64 (ap : Nat), .int .i64 (pt : Nat), .int .i64 (ct : Nat), .slice none 0 0] 64) none)) (by simp); have t2 : True := trivial)
          | (have _t := t2; refine wpList_stX _ rfl _ (.tmp 2) (.tmp 27) rfl w.heap.size _ _ rfl rfl b1 i6 rfl (by simp [Value.oneCell']) ?_; clear t2; intro w2 b2 g2))
        refine bodyPost_ret (results_cell3 rfl _ _ _ ⟨w.heap.size, 0, none⟩ _ (.int .i64 0) (.int .i64 7) rfl (BxS.load (t := 64) b2 Try.underlying64 Try.info_pk) rfl rfl) rfl ?_
        obtain ⟨a', n', c', e, hA⟩ := dc_no B 7 HE.out (by decide) w2 w.heap.size
        exact ⟨a', n', c', congrArg Ending.returned e, hA, grown_far (grown_trans g0 (grown_trans g1 (World.grownBy_alloc w1 _ none))) g2 (fun g e => by cases e; exact Nat.le_refl _)⟩
      · have d2 : decide ((n : Int) - 6 < (si : Int) + 1) = false := decide_eq_false (by omega)
        have HE : Hid (dcE B = 0 ∧ dcU B = up ∧ dcS B = se ∧ dcA B = ap ∧ dcP B = pt ∧ dcC B = ct ∧ dcK B = 7 + si ∧ dcD B = (B.drop 6).take (si + 1)) := by
          have hv := HV.out
          rw [EH.out] at hv
          have h0 : dcE B = 0 := by
            unfold dcE
            rw [HL.out, if_neg h6, if_neg (by omega), if_neg (by omega)]
          obtain ⟨v1, v2, v3, v4, v5, v6, v7⟩ := hv
          unfold dcU dcS dcA dcP dcC dcK dcD
          rw [if_pos h0, if_pos h0, if_pos h0, if_pos h0, if_pos h0, if_pos h0, if_pos h0, ← v1, ← v2, ← v3, ← v4, ← v5, ← v7]
          exact ⟨h0, rfl, rfl, rfl, rfl, rfl, rfl, rfl⟩
        clear hfo
        have t1 : True := trivial
        have hto : (6 + ((si : Int) + 1)).toNat = si + 7 := by omega
        go_enter Try.func75, Try.ntmps75
        go_wp2_with (first
          | (go_at_call 86; have _t := t1; clear t1; refine (hrh w0 hR0).mono ?_; rintro e w1 ⟨rfl, g1⟩; have gA := World.grownBy_alloc w1 (.cells #[.bool up, .bool se, .int .i64 (ap : Nat), .int .i64 (pt : Nat), .int .i64 (ct : Nat), .slice none 0 0] 64) none; have b1 := b0.keep (grown_trans g1 gA) (by simp); have p1 := BxP.new w1 up se (ap : Nat) (pt : Nat) (ct : Nat) none 0 0; have hR1 := (hR.keep (grown_trans g0 (grown_trans g1 gA))).part 6 (si + 1) (by omega); have t2 : True := trivial)
          | (go_at_call 49; have _t := t2; clear t2; refine (pclone_any b (off + 6) (si + 1) (cap - 6) _ _ hR1 (by omega) (by omega)).mono ?_; rintro e w2 ⟨gc, cc, rfl, hA2, g2⟩; have b2 := b1.keep g2 (by simp); have p2 := p1.keep g2 (by simp); have t3 : True := trivial)
          | (have _t := t3; refine wpList_stC _ rfl _ (.tmp 33) (.tmp 32) rfl w1.heap.size 5 _ _ _ _ rfl rfl p2 (stc_sl _ _ _ _ _) (by simp) rfl ?_; clear t3; intro w3 p3 g3; have b3 := b2.keep g3 (by have h1 := b1.lt; have h2 := b0.lt; have h3 := g1.size; simp; omega); have t4 : True := trivial)
          | (have _t := t4; refine wpList_ldX _ rfl _ (.tmp 5) rfl w1.heap.size _ rfl p3 Try.underlying64 i6 ?_; clear t4; have t5 : True := trivial)
          | (have _t := t5; refine wpList_stX _ rfl _ (.tmp 2) (.tmp 34) rfl w.heap.size _ _ rfl rfl b3 i6 rfl (by simp [Value.oneCell']) ?_; clear t5; intro w4 b4 g4))
        have hs0 : w.heap.size < w1.heap.size := Nat.lt_of_lt_of_le b0.lt g1.size
        have hgc : w1.heap.size + 1 ≤ gc := by have := hA2.new gc rfl; simpa using this
        have hA4 := ((hA2.kept g3 (.inr (by simp [Value.ownBlock]; omega))).kept g4 (.inr (by simp [Value.ownBlock]; omega)))
        have e7 : (.int .i64 (6 + ((si : Int) + 1)) : Value) = .int .i64 ((7 + si : Nat) : Int) := by congr 1; omega
        refine bodyPost_ret (results_cell3 rfl _ _ _ ⟨w.heap.size, 0, none⟩ _ (.int .i64 (6 + ((si : Int) + 1))) (.int .i64 0) rfl (BxS.load (t := 64) b4 Try.underlying64 Try.info_pk) rfl rfl) rfl ?_
        obtain ⟨r0, r1, r2, r3, r4, r5, r6, r7⟩ := HE.out
        refine ⟨some ⟨gc, 0, none⟩, si + 1, cc, ?_, ?_, ?_⟩
        · rw [r0, r1, r2, r3, r4, r5, r6, e7]; rfl
        · rw [r7]
          exact hA4.wide (by have h := hs0; simp; omega)
        · exact grown_far (grown_far (grown_trans g0 (grown_trans g1 (grown_trans gA g2))) g3 (fun g e => by cases e; omega)) g4 (fun g e => by cases e; exact Nat.le_refl _)
    · have HE : Hid (dcE B = 8) := by
        show _ = _
        unfold dcE
        have := HV.out
        rw [EH.out] at this
        rw [HL.out, if_neg h6, if_pos (by omega)]
      have d1 : (((fo : Int) != 0) : Bool) = true := by simp; omega
      clear hfo
      go_enter Try.func75, Try.ntmps75
      go_wp2_with (first
        | (go_at_call 86; have _t := t1; clear t1; refine (hrh w0 hR0).mono ?_; rintro e w1 ⟨rfl, g1⟩; have b1 := b0.keep (grown_trans g1 (World.grownBy_alloc w1 (.cells #[.bool up, .bool se, .int .i64 (ap : Nat), .int .i64 (pt : Nat), .int .i64 (ct : Nat), .slice none 0 0] 64) none)) (by simp); have t2 : True := trivial)
        | (have _t := t2; refine wpList_stX _ rfl _ (.tmp 2) (.tmp 21) rfl w.heap.size _ _ rfl rfl b1 i6 rfl (by simp [Value.oneCell']) ?_; clear t2; intro w2 b2 g2))
      refine bodyPost_ret (results_cell3 rfl _ _ _ ⟨w.heap.size, 0, none⟩ _ (.int .i64 0) (.int .i64 8) rfl (BxS.load (t := 64) b2 Try.underlying64 Try.info_pk) rfl rfl) rfl ?_
      obtain ⟨a', n', c', e, hA⟩ := dc_no B 8 HE.out (by decide) w2 w.heap.size
      exact ⟨a', n', c', congrArg Ending.returned e, hA, grown_far (grown_trans g0 (grown_trans g1 (World.grownBy_alloc w1 _ none))) g2 (fun g e => by cases e; exact Nat.le_refl _)⟩
end Go.Proofs.Ytlmddjkplnbadaa
