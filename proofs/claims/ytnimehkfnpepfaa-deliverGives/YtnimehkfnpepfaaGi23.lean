import Derived.Test.YtnimehkfnpepfaaGi22
import Derived.Test.YtnimehkfnpepfaaGi5
import Derived.Test.YtnimehkfnpepfaaGi6
import Derived.Test.YtnimehkfnpepfaaGi3
import Derived.Test.YtnimehkfnpepfaaGi7
import Derived.Test.YtnimehkfnpepfaaGi4
import Derived.Test.YtnimehkfnpepfaaGi13
import Derived.Test.YtnimehkfnpepfaaGi12
import Derived.Test.YtnimehkfnpepfaaGi9
namespace Go.Proofs.Ytnimehkfnpepfaa
open Go.RowKit
set_option maxRecDepth 100000
set_option linter.unusedVariables false
set_option linter.unusedSimpArgs false

section
def lenV : Value → Nat
  | .slice _ n _ => n
  | _ => 0

set_option maxHeartbeats 64000000 in
theorem rgive_any (V : Gv) (a q : Option Addr) (c d : Nat) (w : World) (hL : Rd w a V.L.length c V.L) (hG : RdG w q V.G.length d (giF V.G)) (hn : V.L.length ≤ 140737488351232) (hm : V.G.length ≤ 8796093021952) :
    Calls Try.prog 30 #[.agg (gvA V.id V.nm (.slice a V.L.length c) V.mo V.bu V.st V.fi V.at' (.slice q V.G.length d) V.ti V.pa V.tr V.li)] w fun e w' => RDo w (giV (gvB V.id V.nm.size V.L.length V.mo V.bu V.st V.fi V.at' V.G.length (alG (giF V.G) V.L.length V.G.length) V.ti V.pa V.tr V.li) V).1 (giV (gvB V.id V.nm.size V.L.length V.mo V.bu V.st V.fi V.at' V.G.length (alG (giF V.G) V.L.length V.G.length) V.ti V.pa V.tr V.li) V).2.1 (giV (gvB V.id V.nm.size V.L.length V.mo V.bu V.st V.fi V.at' V.G.length (alG (giF V.G) V.L.length V.G.length) V.ti V.pa V.tr V.li) V).2.2 e w' := by
  have i13 := Try.info_gv
  have kM := fun wz (k1 : Rd wz a V.L.length c V.L) (k : RdG wz q V.G.length d (giF V.G)) => rgiverMay_any V.id V.nm a V.L.length c V.mo V.bu V.st V.fi V.at' q V.G.length d V.ti V.pa V.tr V.li (giF V.G) V.L wz k1 k
  have kA := fun wz (k1 : Rd wz a V.L.length c V.L) (k : RdG wz q V.G.length d (giF V.G)) => giverOf_any V.id V.nm a V.L.length c V.mo V.bu V.st V.fi V.at' q V.G.length d V.ti V.pa V.tr V.li (giF V.G) V.L wz k1 k hn hm
  have hgo := fun h => gvB_go (V := V) h
  have HGO : Hid _ := hgo
  clear hgo
  unfold gvA at kM kA
  generalize (gvB V.id V.nm.size V.L.length V.mo V.bu V.st V.fi V.at' V.G.length (alG (giF V.G) V.L.length V.G.length) V.ti V.pa V.tr V.li) = gB at kM HGO
  have b1 := BxS.new w 44 #[.int .i64 V.id, .string V.nm, .slice a V.L.length c, .int .i64 V.mo, .int .i64 V.bu, .int .i64 V.st, .bool V.fi, .int .i64 V.at', .slice q V.G.length d, .int .i64 V.ti, .int .i64 V.pa, .int .i64 V.tr, .int .i64 V.li]
  have y1 := World.grownBy_alloc w (.cells #[.int .i64 V.id, .string V.nm, .slice a V.L.length c, .int .i64 V.mo, .int .i64 V.bu, .int .i64 V.st, .bool V.fi, .int .i64 V.at', .slice q V.G.length d, .int .i64 V.ti, .int .i64 V.pa, .int .i64 V.tr, .int .i64 V.li] 44) none
  unfold gvA
  have hz1 : (w.alloc (.cells #[.int .i64 V.id, .string V.nm, .slice a V.L.length c, .int .i64 V.mo, .int .i64 V.bu, .int .i64 V.st, .bool V.fi, .int .i64 V.at', .slice q V.G.length d, .int .i64 V.ti, .int .i64 V.pa, .int .i64 V.tr, .int .i64 V.li] 44)).heap.size = w.heap.size + 1 := by simp
  generalize hw1 : w.alloc (.cells #[.int .i64 V.id, .string V.nm, .slice a V.L.length c, .int .i64 V.mo, .int .i64 V.bu, .int .i64 V.st, .bool V.fi, .int .i64 V.at', .slice q V.G.length d, .int .i64 V.ti, .int .i64 V.pa, .int .i64 V.tr, .int .i64 V.li] 44) = w1 at b1 y1 hz1
  have b2 := BxS.new w1 44 #[.int .i64 0, .string ⟨#[]⟩, .slice none 0 0, .int .i64 0, .int .i64 0, .int .i64 0, .bool false, .int .i64 0, .slice none 0 0, .int .i64 0, .int .i64 0, .int .i64 0, .int .i64 0]
  have y2 := World.grownBy_alloc w1 (.cells #[.int .i64 0, .string ⟨#[]⟩, .slice none 0 0, .int .i64 0, .int .i64 0, .int .i64 0, .bool false, .int .i64 0, .slice none 0 0, .int .i64 0, .int .i64 0, .int .i64 0, .int .i64 0] 44) none
  rw [hz1] at b2
  generalize hw2 : w1.alloc (.cells #[.int .i64 0, .string ⟨#[]⟩, .slice none 0 0, .int .i64 0, .int .i64 0, .int .i64 0, .bool false, .int .i64 0, .slice none 0 0, .int .i64 0, .int .i64 0, .int .i64 0, .int .i64 0] 44) = w2 at b2 y2
  have b1 := b1.keep y2 (by simp)
  have G2 := grown_trans y1 y2
  go_enter Try.func30, Try.ntmps30
  refine wp_seq_k fun K1 hK1 => ?_
  have HK1 : Hid _ := hK1
  clear hK1
  go_wp2
  refine HK1.out _ _ ?_
  clear HK1
  clear hw1 hw2 y1 y2
  have s0 : True := trivial
  cases gB with
  | false =>
    go_wp2_with (first
      | (have _t := s0; clear s0; refine wpList_ldX _ rfl _ (.tmp 1) rfl w.heap.size _ rfl b1 Try.underlying44 i13 ?_; have s1 : True := trivial)
      | (go_at_call 59; have _t := s1; clear s1; refine (kM w2 (hL.keep G2) (hG.keep G2)).mono ?_; rintro e w3 ⟨rfl, y3⟩; have b23 := b2.keep y3 (by simp); have s2 : True := trivial)
      | (have _t := s2; clear s2; refine wpList_stX _ rfl _ (.tmp 2) (.tmp 14) rfl (w.heap.size + 1) _ _ rfl rfl b23 i13 rfl (by simp [Value.oneCell']) ?_; intro w4 b24 u4))
    refine bodyPost_ret (results_c1t2 rfl _ _ _ ⟨w.heap.size + 1, 0, none⟩ _ _ _ rfl (BxS.load (t := 44) b24 Try.underlying44 Try.info_gv) rfl rfl) rfl ?_
    exact ⟨none, 0, none, 0, none, 0, [], rfl, rfl, (Ans.nil w4 0).rd, (OwGi.nil w4 0).rd, OwN.nil _ _, grown_far (grown_trans G2 y3) u4 (fun z e => by have e := Option.some.inj e; omega)⟩
  | true =>
    obtain ⟨ho, ⟨B, hB, hB9⟩, hst⟩ := HGO.out rfl
    have HO : Hid _ := ho
    have HBB : Hid _ := hB
    clear ho hB HGO
    refine wp_seq_k fun K2 hK2 => ?_
    have HK2 : Hid _ := hK2
    clear hK2
    go_wp2_with (first
      | (have _t := s0; clear s0; refine wpList_ldX _ rfl _ (.tmp 1) rfl w.heap.size _ rfl b1 Try.underlying44 i13 ?_; have s1 : True := trivial)
      | (go_at_call 59; have _t := s1; clear s1; refine (kM w2 (hL.keep G2) (hG.keep G2)).mono ?_; rintro e w3 ⟨rfl, y3⟩; have s2 : True := trivial))
    refine HK2.out _ _ ?_
    clear HK2
    have b13 := b1.keep y3 (by simp)
    have b23 := b2.keep y3 (by simp)
    have G3 := grown_trans G2 y3
    refine wp_seq_k fun K3 hK3 => ?_
    have HK3 : Hid _ := hK3
    clear hK3
    go_wp2_with (first
      | (have _t := s2; clear s2; refine wpList_ldX _ rfl _ (.tmp 1) rfl w.heap.size _ rfl b13 Try.underlying44 i13 ?_; have s3 : True := trivial)
      | (go_at_call 60; have _t := s3; clear s3; refine (kA w3 (hL.keep G3) (hG.keep G3)).mono ?_; rintro e w4 ⟨a', c', q', d', rfl, hA, hO, y4⟩; have bv0 := BxS.new w4 92 #[.int .i64 V.id, .string V.nm, .slice a' V.L.length c', .int .i64 V.mo, .int .i64 V.bu, .int .i64 V.st, .bool V.fi, .int .i64 V.at', .slice q' V.G.length d', .int .i64 V.ti, .int .i64 V.pa, .int .i64 V.tr, .int .i64 V.li]; have yv := World.grownBy_alloc w4 (.cells #[.int .i64 V.id, .string V.nm, .slice a' V.L.length c', .int .i64 V.mo, .int .i64 V.bu, .int .i64 V.st, .bool V.fi, .int .i64 V.at', .slice q' V.G.length d', .int .i64 V.ti, .int .i64 V.pa, .int .i64 V.tr, .int .i64 V.li] 92) none; generalize hwv : w4.alloc (.cells #[.int .i64 V.id, .string V.nm, .slice a' V.L.length c', .int .i64 V.mo, .int .i64 V.bu, .int .i64 V.st, .bool V.fi, .int .i64 V.at', .slice q' V.G.length d', .int .i64 V.ti, .int .i64 V.pa, .int .i64 V.tr, .int .i64 V.li] 92) = w5 at bv0 yv))
    refine HK3.out _ _ ?_
    clear HK3
    rw [tab_giF] at hO
    have z3 := G3.size
    have z4 := y4.size
    have Y5 := grown_trans y4 yv
    obtain ⟨gv, hgv⟩ : ∃ gv, w4.heap.size = gv := ⟨_, rfl⟩
    obtain ⟨g1, hg1⟩ : ∃ g1, w.heap.size = g1 := ⟨_, rfl⟩
    obtain ⟨g2, hg2⟩ : ∃ g2, w.heap.size + 1 = g2 := ⟨_, rfl⟩
    have hD : DX w w5 g1 g2 gv V.st V a' c' q' d' none 0 0 [] := by
      rw [← hgv, ← hg1, ← hg2]
      exact ⟨⟨_, b13.keep Y5 (by simp), rfl⟩, ⟨_, rfl, b23.keep Y5 (by simp)⟩, bv0, (hA.keep yv).wide z3, ((hO.keep yv).wide z3).og, OwN.nil _ _, (fun x hx => by cases hx), by omega, by omega, grown_trans G3 Y5⟩
    rw [hgv, hg2, hg1]
    clear hwv hgv hg2 bv0 yv Y5 b1 b2 b13 b23 hA hO y4 y3 z3 z4
    have x5 : w5.cell? ⟨gv, 5, none⟩ = some (.int .i64 V.st) := hD.bv.cell 5 (by show 5 < 13; decide)
    by_cases hs34 : V.st = 3 ∨ V.st = 4
    · have HX : Hid (tiG V = (V, [])) := by show _ = _; unfold tiG; rw [if_pos hs34]
      obtain ⟨cs2, hs2, b2⟩ := hD.b2
      obtain ⟨cc0, cc1, cc2, cc3, cc4, cc5, cc6, cc7, cc8, cc9, cc10, cc11, cc12⟩ := (hD.bv).cell13
      have fin9 : ∀ wA, w5.grownBy wA (some g2) → RDo w (tiG V).1 (tiG V).2 0 (.returned (.tuple #[.agg #[.int .i64 V.id, .string V.nm, .slice a' V.L.length c', .int .i64 V.mo, .int .i64 V.bu, .int .i64 V.st, .bool V.fi, .int .i64 V.at', .slice q' V.G.length d', .int .i64 V.ti, .int .i64 V.pa, .int .i64 V.tr, .int .i64 V.li], .slice none 0 0, .int .i64 0])) wA := by
        intro wA uA
        rw [HX.out]
        exact hD.fin uA rfl
      have HF9 : Hid _ := fin9
      clear fin9
      have hD9 : Hid _ := hD
      clear hD
      rcases hs34 with e34 | e34
      · rw [e34] at x5 cc5
        have HE34 : Hid _ := e34
        clear e34
        have s0' : True := trivial
        go_wp2_with (have _t := s0'; clear s0'; refine wpList_stX _ rfl _ (.tmp 2) (.tmp 36) rfl g2 _ _ rfl rfl b2 i13 hs2 (by simp [Value.oneCell']) ?_; intro wA bA uA)
        refine bodyPost_ret (results_c1t2 rfl _ _ _ ⟨g2, 0, none⟩ _ _ _ rfl (BxS.load (t := 44) bA Try.underlying44 Try.info_gv) rfl rfl) rfl ?_
        have h9 := HF9.out wA uA
        rw [HE34.out] at h9
        exact h9
      · rw [e34] at x5 cc5
        have HE34 : Hid _ := e34
        clear e34
        have s0' : True := trivial
        go_wp2_with (have _t := s0'; clear s0'; refine wpList_stX _ rfl _ (.tmp 2) (.tmp 36) rfl g2 _ _ rfl rfl b2 i13 hs2 (by simp [Value.oneCell']) ?_; intro wA bA uA)
        refine bodyPost_ret (results_c1t2 rfl _ _ _ ⟨g2, 0, none⟩ _ _ _ rfl (BxS.load (t := 44) bA Try.underlying44 Try.info_gv) rfl rfl) rfl ?_
        have h9 := HF9.out wA uA
        rw [HE34.out] at h9
        exact h9
    · have hB2 : V.bu.toNat = B := by have := HBB.out; omega
      have HX : Hid (tiG V = if decide (V.st ≠ 0) = true then ((wtV (gvL B V []).1).1, (gvL B V []).2 ++ (wtV (gvL B V []).1).2) else gvL B V []) := by
        show _ = _
        unfold tiG
        rw [if_neg hs34, hB2]
        by_cases e : V.st = 0
        · rw [if_neg (fun h9 => h9 e), if_neg (by rw [decide_eq_false (fun h9 => h9 e)]; decide)]
        · rw [if_pos e, if_pos (decide_eq_true e)]
      have HWT : Hid (decide (V.st ≠ 0) = true ↔ (V.st = 1 ∨ V.st = 2)) := by
        show _ ↔ _
        rw [decide_eq_true_eq]
        omega
      have h3 : (V.st == 3) = false := beq_eq_false_iff_ne.2 (fun e => hs34 (.inl e))
      have h4 : (V.st == 4) = false := beq_eq_false_iff_ne.2 (fun e => hs34 (.inr e))
      have h3' : ¬ V.st = 3 := fun e => hs34 (.inl e)
      have h4' : ¬ V.st = 4 := fun e => hs34 (.inr e)
      clear hs34 hB2
      refine wp_seq_k fun K1 hK1 => ?_
      have HK1 : Hid _ := hK1
      clear hK1
      go_wp2
      refine HK1.out _ _ ?_
      clear HK1
      clear x5 h3 h4 h3' h4'
      refine wp_seq_k fun K1 hK1 => ?_
      have HK1 : Hid _ := hK1
      clear hK1
      go_wp2
      refine HK1.out _ _ ?_
      clear HK1
      refine wp_seq_k fun K3 hK3 => ?_
      have HK3 : Hid _ := hK3
      clear hK3
      go_wp2
      go_loopw [6] (fun s6 wr => ∃ (k : Nat) (V1 : Gv) (T1 : List Nt) (a : Option Addr) (c : Nat) (q : Option Addr) (d : Nat) (na : Option Addr) (nn nc : Nat) (xs : List Nx), s6 = .slice na nn nc ∧ nn + k = B ∧ Hid (xs.map Nx.dt = T1) ∧ DX w wr g1 g2 gv V.st V1 a c q d na nn nc xs ∧ GvO V1 ∧ Hid (V1.bu = (B : Int)) ∧ Hid (gvL k V1 T1 = gvL B V [])) (fun s6 _ => B - lenV s6)
      case atStart => exact ⟨B, V, [], a', c', q', d', none, 0, 0, [], rfl, by omega, rfl, hD, HO.out, HBB.out, rfl⟩
      case round =>
        obtain ⟨k, V1, T1, a, c, q, d, na, nn, nc, xs, rfl, hk, HT1, hD1, hO1, HB1, HE⟩ := hrel
        have x4 : wr.cell? ⟨gv, 4, none⟩ = some (.int .i64 (B : Int)) := by have := hD1.bv.cell 4 (by show 4 < 13; decide); rw [← HB1.out]; exact this
        cases k with
        | zero =>
          have hlt : ¬ (nn : Int) < (B : Int) := by omega
          have hlt2 : ¬ nn < B := by omega
          have hle : B ≤ nn := by omega
          have HE0 : Hid (gvL B V [] = (V1, T1)) := HE.out.symm
          have HKK : Hid _ := hk
          clear hk
          go_wp2
          try simp only [Exit.inBlock, Exit.then]
          refine HK3.out _ _ ?_
          clear HK3
          refine go_t34 _ w wr g1 g2 gv V.st V1 a c q d na nn nc xs T1 hD1 (HT1.out) hO1 (by have := HKK.out; omega) (decide (V.st ≠ 0)) HWT.out ?_
          intro e w' h9
          show RDo w (tiG V).1 (tiG V).2 0 e w'
          rw [HX.out, HE0.out]
          by_cases e9 : decide (V.st ≠ 0) = true
          · rw [if_pos e9] at h9 ⊢
            rw [if_pos e9] at h9
            exact h9
          · rw [if_neg e9] at h9 ⊢
            rw [if_neg e9] at h9
            exact h9
        | succ k =>
          have hlt : (nn : Int) < (B : Int) := by omega
          have hlt2 : nn < B := by omega
          have HKK : Hid _ := hk
          clear hk
          refine wp_seq_k fun K4 hK4 => ?_
          have HK4 : Hid _ := hK4
          clear hK4
          go_wp2
          refine HK4.out _ _ ?_
          clear HK4
          refine wp_block ?_
          refine gf_t8 _ w wr g1 g2 gv V.st V1 a c q d na nn nc xs V1 T1 hD1 hO1 (by omega) (fun c a a' wz e h => by cases a; cases a'; cases e; exact h) HT1.out rfl ?_ ?_
          · intro htr
            intros
            rename_i w6 a6 c6 q6 d6 na6 nn6 nc6 xs6 hT6 h6
            have hsn := snV_ok hO1
            have hl1 := hsn.2.1 htr
            have hnn6 : nn6 = nn + 1 := by
              have e1 := h6.N.len
              have e2 := hD1.N.len
              have e3 : (xs6.map Nx.dt).length = (T1 ++ (snV V1).2.1).length := by rw [hT6]
              have e4 : xs.length = T1.length := by rw [← HT1.out, List.length_map]
              rw [List.length_map, List.length_append, hl1] at e3
              omega
            have HE0 : Hid (gvL k (snV V1).1 (T1 ++ (snV V1).2.1) = gvL B V []) := by
              show _ = _
              rw [← HE.out]
              show _ = (if (snV V1).2.2 = true then _ else _)
              rw [htr, if_pos rfl]
            have HB6 : Hid ((snV V1).1.bu = (B : Int)) := by show _ = _; rw [snV_bu]; exact HB1.out
            have HT6 : Hid _ := hT6
            have HO6 : Hid _ := hsn.1
            have HN6 : Hid _ := hnn6
            clear hT6 hsn hl1 htr hnn6
            constructor
            · try simp only [Exit.inBlock, Exit.then]
              refine ⟨?_, ?_⟩
              · repeat apply Exists.intro
                refine ⟨?_, rfl⟩
                exact ⟨k, _, _, a6, c6, q6, d6, na6, nn6, nc6, xs6, rfl, by have h8 := HKK.out; have h9 := HN6.out; omega, HT6, h6, HO6.out, HB6, HE0⟩
              · show B - nn6 < B - nn; have h8 := HKK.out; have h9 := HN6.out; omega
            · try simp only [Exit.inBlock, Exit.then]
              refine ⟨?_, ?_⟩
              · repeat apply Exists.intro
                refine ⟨?_, rfl⟩
                exact ⟨k, _, _, a6, c6, q6, d6, na6, nn6, nc6, xs6, rfl, by have h8 := HKK.out; have h9 := HN6.out; omega, HT6, h6, HO6.out, HB6, HE0⟩
              · show B - nn6 < B - nn; have h8 := HKK.out; have h9 := HN6.out; omega
          · intro htr
            intros
            rename_i w6 a6 c6 q6 d6 na6 nn6 nc6 xs6 hT6 h6
            have hsn := snV_ok hO1
            have hnn6 : nn6 ≤ nn + 1 := by
              have e1 := h6.N.len
              have e2 := hD1.N.len
              have e3 : (xs6.map Nx.dt).length = (T1 ++ (snV V1).2.1).length := by rw [hT6]
              have e4 : xs.length = T1.length := by rw [← HT1.out, List.length_map]
              have e5 := hsn.2.2
              rw [List.length_map, List.length_append] at e3
              omega
            have HE0 : Hid (gvL B V [] = ((snV V1).1, T1 ++ (snV V1).2.1)) := by
              show _ = _
              rw [← HE.out]
              show (if (snV V1).2.2 = true then _ else _) = _
              rw [htr, if_neg (by decide)]
            try simp only [Exit.inBlock, Exit.then]
            refine HK3.out _ _ ?_
            clear HK3
            refine go_t34 _ w w6 g1 g2 gv V.st (snV V1).1 a6 c6 q6 d6 na6 nn6 nc6 xs6 (T1 ++ (snV V1).2.1) h6 (hT6) hsn.1 (by have := HKK.out; omega) (decide (V.st ≠ 0)) HWT.out ?_
            intro e w' h9
            show RDo w (tiG V).1 (tiG V).2 0 e w'
            rw [HX.out, HE0.out]
            by_cases e9 : decide (V.st ≠ 0) = true
            · rw [if_pos e9] at h9 ⊢
              rw [if_pos e9] at h9
              exact h9
            · rw [if_neg e9] at h9 ⊢
              rw [if_neg e9] at h9
              exact h9
end

section
theorem RdG.tab {w : World} {q : Option Addr} {m d : Nat} {F : Nat → Int × Int} (h : RdG w q m d F) : RdG w q m d (giF (tabG F m)) :=
  ⟨h.le, h.max, h.nil, fun h0 => by
    obtain ⟨b, off, e, hb, hc⟩ := h.at' h0
    exact ⟨b, off, e, hb, fun i hi => by rw [giF_tab F m i hi]; exact hc i hi⟩⟩
open Go.ChangeShapes Go.WideShapes
set_option maxHeartbeats 8000000 in
theorem shown_giver {w : World} {full : Bool} {k : Nat} {v : Value} (h : (Sh.fcons 1 (.int .i64) (.fcons 1 .str (.fcons 1 (.slice 1 1 (.int .u8)) (.fcons 1 (.int .i64) (.fcons 1 (.int .i64) (.fcons 1 (.int .i64) (.fcons 1 .bool (.fcons 1 (.int .i64) (.fcons 1 (.slice 2 16 (Sh.rep 1 (.int .i64) 2)) (.fcons 1 (.int .i64) (.fcons 1 (.int .i64) (.fcons 1 (.int .i64) (.fcons 1 (.int .i64) .fend))))))))))))).shown w full v k) :
    ∃ (V : Gv) (a q : Option Addr) (c d : Nat), v = .agg (gvA V.id V.nm (.slice a V.L.length c) V.mo V.bu V.st V.fi V.at' (.slice q V.G.length d) V.ti V.pa V.tr V.li) ∧ Rd w a V.L.length c V.L ∧ RdG w q V.G.length d (giF V.G) ∧ (full = true → V.L.length ≤ 140737488351232) ∧ (full = true → V.G.length ≤ 8796093021952) ∧ (-9223372036854775808 ≤ V.pa ∧ V.pa ≤ 9223372036854775807) ∧ (-9223372036854775808 ≤ V.ti ∧ V.ti ≤ 9223372036854775807) ∧ (-9223372036854775808 ≤ V.at' ∧ V.at' ≤ 9223372036854775807) ∧ (-9223372036854775808 ≤ V.mo ∧ V.mo ≤ 9223372036854775807) := by
  obtain ⟨cs, rfl, hm⟩ := h
  obtain ⟨_, _, rfl, ⟨_, id, e0, _⟩, _, _, rfl, ⟨nm, e1, _⟩, _, _, rfl, h2, _, _, rfl, ⟨_, mo, e3, r3⟩, _, _, rfl, ⟨_, bu, e4, _⟩, _, _, rfl, ⟨_, st, e5, _⟩, _, _, rfl, ⟨_, fi, e6⟩, _, _, rfl, ⟨_, at', e7, r7⟩, _, _, rfl, h8, _, _, rfl, ⟨_, ti, e9, r9⟩, _, _, rfl, ⟨_, pa, e10, r10⟩, _, _, rfl, ⟨_, tr, e11, _⟩, _, _, rfl, ⟨_, li, e12, _⟩, e13, _⟩ := hm
  obtain ⟨a, n, c, L, e2, hR, hf, _⟩ := met_bytes h2
  obtain ⟨q, m, d, F, e8, hG, hg, _⟩ := met_pairs h8
  have hl := hR.len
  subst hl
  have hG2 := hG.tab
  obtain ⟨G, hGG⟩ : ∃ G, tabG F m = G := ⟨_, rfl⟩
  have hlG : G.length = m := by rw [← hGG, tabG_len]
  rw [hGG] at hG2
  subst hlG
  refine ⟨⟨id, nm, mo, bu, st, fi, at', ti, pa, tr, li, L, G⟩, a, q, c, d, ?_, hR, hG2, (fun h9 => Nat.le_trans hR.le (hf h9)), (fun h9 => ?_), bounds_i64 r10, bounds_i64 r9, bounds_i64 r7, bounds_i64 r3⟩
  · unfold gvA
    congr 1
    apply Array.toList_inj.1
    generalize cs.toList = l at *
    match l with
    | [] => simp at e0
    | [_] => simp at e1
    | [_, _] => simp at e2
    | [_, _, _] => simp at e3
    | [_, _, _, _] => simp at e4
    | [_, _, _, _, _] => simp at e5
    | [_, _, _, _, _, _] => simp at e6
    | [_, _, _, _, _, _, _] => simp at e7
    | [_, _, _, _, _, _, _, _] => simp at e8
    | [_, _, _, _, _, _, _, _, _] => simp at e9
    | [_, _, _, _, _, _, _, _, _, _] => simp at e10
    | [_, _, _, _, _, _, _, _, _, _, _] => simp at e11
    | [_, _, _, _, _, _, _, _, _, _, _, _] => simp at e12
    | [x0, x1, x2, x3, x4, x5, x6, x7, x8, x9, x10, x11, x12] => simp_all
    | x0 :: x1 :: x2 :: x3 :: x4 :: x5 :: x6 :: x7 :: x8 :: x9 :: x10 :: x11 :: x12 :: x13 :: r => simp at e13
  · have h1 := hg h9
    have h2 := hG.le
    unfold reachBytes at h1
    show G.length ≤ _
    omega
end

section
def NtO (t : Nt) : Prop := t.da.length ≤ 100000 ∧ t.ga.length ≤ 100000
theorem pie_ok {V : Gv} (h : GvO V) (x e : Nat) : NtO (ntPie V x e) := by
  refine ⟨?_, by show 0 ≤ 100000; omega⟩
  show ((V.L.drop x).take (e - x)).length ≤ 100000
  have := h.n9
  rw [List.length_take, List.length_drop]
  omega
theorem one_ok {t u : Nt} (h : NtO u) (ht : t ∈ [u]) : NtO t := by rw [List.mem_singleton.1 ht]; exact h
theorem meta_ok (V : Gv) : NtO (ntMeta V) := ⟨by show 0 ≤ 100000; omega, by show 0 ≤ 100000; omega⟩
theorem end_ok (V : Gv) : NtO (ntEnd V) := ⟨by show 0 ≤ 100000; omega, by show 0 ≤ 100000; omega⟩
theorem sn_nt {V : Gv} (h : GvO V) : ∀ t, t ∈ (snV V).2.1 → NtO t := by
  intro t
  unfold snV
  by_cases e : V.fi = true
  · rw [if_pos e]; exact one_ok (meta_ok V)
  · rw [if_neg e]
    cases hG : V.G with
    | cons p G =>
      show t ∈ (agD V p G).2 → _
      unfold agD
      by_cases e1 : p.1 = 0 ∧ p.2 = 0
      · rw [if_pos e1]; exact one_ok (meta_ok V)
      · rw [if_neg e1]; exact one_ok (pie_ok h _ _)
    | nil =>
      dsimp only
      by_cases e1 : V.st ≠ 0
      · rw [if_pos e1]; intro ht; cases ht
      · rw [if_neg e1]
        by_cases e2 : V.at' < (V.L.length : Int)
        · rw [if_pos e2]; exact one_ok (pie_ok h _ _)
        · rw [if_neg e2]; exact one_ok (end_ok V)
theorem gvL_nt : ∀ (k : Nat) (V : Gv) (T : List Nt), GvO V → (∀ t, t ∈ T → NtO t) → ∀ t, t ∈ (gvL k V T).2 → NtO t := by
  intro k
  induction k with
  | zero => intro V T h hT; exact hT
  | succ k ih =>
    intro V T h hT
    have h2 : ∀ t, t ∈ T ++ (snV V).2.1 → NtO t := fun t ht => by
      rcases List.mem_append.1 ht with ht | ht
      · exact hT t ht
      · exact sn_nt h t ht
    show ∀ t, t ∈ (if (snV V).2.2 = true then gvL k (snV V).1 (T ++ (snV V).2.1) else ((snV V).1, T ++ (snV V).2.1)).2 → NtO t
    by_cases e : (snV V).2.2 = true
    · rw [if_pos e]; exact ih _ _ (snV_ok h).1 h2
    · rw [if_neg e]; exact h2
theorem wt_all (V : Gv) : (wtV V).1.L = V.L ∧ (wtV V).1.G = V.G ∧ (wtV V).2.length ≤ 1 ∧ ∀ t, t ∈ (wtV V).2 → NtO t := by
  unfold wtV
  by_cases e : V.ti + 1 < V.pa
  · rw [if_pos e]; exact ⟨rfl, rfl, Nat.zero_le _, fun t ht => by cases ht⟩
  · rw [if_neg e]
    by_cases e1 : V.tr = V.li
    · rw [if_pos e1]; exact ⟨rfl, rfl, Nat.zero_le _, fun t ht => by cases ht⟩
    · rw [if_neg e1]; exact ⟨rfl, rfl, Nat.le_refl _, fun t ht => one_ok (end_ok V) ht⟩
theorem ti_all {V : Gv} (h : GvO V) (B : Nat) (hB : V.bu = (B : Int)) (hB9 : B ≤ 50) : (tiG V).1.L.length ≤ 140737488351232 ∧ (tiG V).1.G.length ≤ 8796093021952 ∧ (tiG V).2.length ≤ 100000 ∧ ∀ t, t ∈ (tiG V).2 → NtO t := by
  have hb : V.bu.toNat = B := by omega
  unfold tiG
  have n9 := h.n9
  have gl := h.gl
  by_cases e : V.st = 3 ∨ V.st = 4
  · rw [if_pos e]; exact ⟨by show V.L.length ≤ _; omega, by show V.G.length ≤ _; omega, Nat.zero_le _, fun t ht => by cases ht⟩
  · rw [if_neg e, hb]
    have h1 := gvL_ok B V [] h
    have h2 := gvL_len B V [] h
    have h3 := gvL_nt B V [] h (fun t ht => by cases ht)
    have h2 : (gvL B V []).2.length ≤ 0 + B := h2
    have n8 := h1.n9
    have g8 := h1.gl
    by_cases e1 : V.st ≠ 0
    · rw [if_pos e1]
      obtain ⟨w1, w2, w3, w4⟩ := wt_all (gvL B V []).1
      refine ⟨by show (wtV _).1.L.length ≤ _; rw [w1]; omega, by show (wtV _).1.G.length ≤ _; rw [w2]; omega, by show List.length (_ ++ _) ≤ _; rw [List.length_append]; omega, fun t ht => ?_⟩
      rcases List.mem_append.1 ht with ht | ht
      · exact h3 t ht
      · exact w4 t ht
    · rw [if_neg e1]
      exact ⟨by omega, by omega, by omega, h3⟩
theorem gi_bounds (V : Gv) (hn : V.L.length ≤ 140737488351232) (hm : V.G.length ≤ 8796093021952) : (giV (gvB V.id V.nm.size V.L.length V.mo V.bu V.st V.fi V.at' V.G.length (alG (giF V.G) V.L.length V.G.length) V.ti V.pa V.tr V.li) V).1.L.length ≤ 140737488351232 ∧ (giV (gvB V.id V.nm.size V.L.length V.mo V.bu V.st V.fi V.at' V.G.length (alG (giF V.G) V.L.length V.G.length) V.ti V.pa V.tr V.li) V).1.G.length ≤ 8796093021952 ∧ (giV (gvB V.id V.nm.size V.L.length V.mo V.bu V.st V.fi V.at' V.G.length (alG (giF V.G) V.L.length V.G.length) V.ti V.pa V.tr V.li) V).2.1.length ≤ 100000 ∧ ∀ t, t ∈ (giV (gvB V.id V.nm.size V.L.length V.mo V.bu V.st V.fi V.at' V.G.length (alG (giF V.G) V.L.length V.G.length) V.ti V.pa V.tr V.li) V).2.1 → NtO t := by
  by_cases e : (gvB V.id V.nm.size V.L.length V.mo V.bu V.st V.fi V.at' V.G.length (alG (giF V.G) V.L.length V.G.length) V.ti V.pa V.tr V.li) = true
  · obtain ⟨ho, ⟨B, hB, hB9⟩, _⟩ := gvB_go e
    rw [e]
    exact ti_all ho B hB hB9
  · have e := Bool.eq_false_iff.2 e
    rw [e]
    exact ⟨by show 0 ≤ _; omega, by show 0 ≤ _; omega, Nat.zero_le _, fun t ht => by cases ht⟩

set_option maxHeartbeats 64000000 in
theorem gives_walk (V : Gv) (a q : Option Addr) (c d : Nat) (w : World) (hL : Rd w a V.L.length c V.L) (hG : RdG w q V.G.length d (giF V.G)) (hn : V.L.length ≤ 140737488351232) (hm : V.G.length ≤ 8796093021952) (hpa : -9223372036854775808 ≤ V.pa ∧ V.pa ≤ 9223372036854775807) :
    Calls Try.prog 6 #[.agg (gvA V.id V.nm (.slice a V.L.length c) V.mo V.bu V.st V.fi V.at' (.slice q V.G.length d) V.ti V.pa V.tr V.li)] w fun e w' => e = .returned (.bool true) ∧ Below w.heap.size w w' := by
  have i13 := Try.info_gv
  have hbd := gi_bounds V hn hm
  have kR := fun wz (aa qq : Option Addr) (cc dd : Nat) (k1 : Rd wz aa V.L.length cc V.L) (k2 : RdG wz qq V.G.length dd (giF V.G)) => give_any V aa qq cc dd wz k1 k2 hn hm hpa
  have kD := fun wz (k1 : Rd wz a V.L.length c V.L) (k2 : RdG wz q V.G.length d (giF V.G)) => rgive_any V a q c d wz k1 k2 hn hm
  generalize giV (gvB V.id V.nm.size V.L.length V.mo V.bu V.st V.fi V.at' V.G.length (alG (giF V.G) V.L.length V.G.length) V.ti V.pa V.tr V.li) V = R at hbd kR kD
  obtain ⟨W, T, E⟩ := R
  dsimp only at hbd kR kD
  obtain ⟨bW1, bW2, hT1, hT2⟩ := hbd
  have KR : Hid _ := kR
  have HT2 : Hid _ := hT2
  clear kR hT2
  unfold gvA at kD
  have b1 := BxS.new w 44 #[.int .i64 V.id, .string V.nm, .slice a V.L.length c, .int .i64 V.mo, .int .i64 V.bu, .int .i64 V.st, .bool V.fi, .int .i64 V.at', .slice q V.G.length d, .int .i64 V.ti, .int .i64 V.pa, .int .i64 V.tr, .int .i64 V.li]
  have y1 := World.grownBy_alloc w (.cells #[.int .i64 V.id, .string V.nm, .slice a V.L.length c, .int .i64 V.mo, .int .i64 V.bu, .int .i64 V.st, .bool V.fi, .int .i64 V.at', .slice q V.G.length d, .int .i64 V.ti, .int .i64 V.pa, .int .i64 V.tr, .int .i64 V.li] 44) none
  unfold gvA
  generalize hw1 : w.alloc (.cells #[.int .i64 V.id, .string V.nm, .slice a V.L.length c, .int .i64 V.mo, .int .i64 V.bu, .int .i64 V.st, .bool V.fi, .int .i64 V.at', .slice q V.G.length d, .int .i64 V.ti, .int .i64 V.pa, .int .i64 V.tr, .int .i64 V.li] 44) = w1 at b1 y1
  go_enter Try.func6, Try.ntmps6
  refine wp_seq_k fun K1 hK1 => ?_
  have HK1 : Hid _ := hK1
  clear hK1
  go_wp2
  refine HK1.out _ _ ?_
  clear HK1
  clear hw1
  refine wp_seq_k fun K2 hK2 => ?_
  have HK2 : Hid _ := hK2
  clear hK2
  have s0 : True := trivial
  go_wp2_with (first
    | (have _t := s0; clear s0; refine wpList_ldX _ rfl _ (.tmp 1) rfl w.heap.size _ rfl b1 Try.underlying44 i13 ?_; have s1 : True := trivial)
    | (go_at_call 30; have _t := s1; clear s1; refine (kD _ (hL.keep y1) (hG.keep y1)).mono ?_; rintro e w4 ⟨aW, cW, qW, dW, na, nc, xsN, rfl, hxN, hAW, hOW, hNW, y4⟩; have z4 := y4.size; have z3 := y1.size; have bn := BxS.new w4 44 #[.int .i64 0, .string ⟨#[]⟩, .slice none 0 0, .int .i64 0, .int .i64 0, .int .i64 0, .bool false, .int .i64 0, .slice none 0 0, .int .i64 0, .int .i64 0, .int .i64 0, .int .i64 0]; have gn := World.grownBy_alloc w4 (.cells #[.int .i64 0, .string ⟨#[]⟩, .slice none 0 0, .int .i64 0, .int .i64 0, .int .i64 0, .bool false, .int .i64 0, .slice none 0 0, .int .i64 0, .int .i64 0, .int .i64 0, .int .i64 0] 44) none; generalize hwn : w4.alloc (.cells #[.int .i64 0, .string ⟨#[]⟩, .slice none 0 0, .int .i64 0, .int .i64 0, .int .i64 0, .bool false, .int .i64 0, .slice none 0 0, .int .i64 0, .int .i64 0, .int .i64 0, .int .i64 0] 44) = w5 at bn gn; have s3 : True := trivial)
    | (have _t := s3; clear s3; refine wpList_stX _ rfl _ (.tmp 3) (.tmp 9) rfl w4.heap.size _ _ rfl rfl bn i13 rfl (by simp [gvA, Value.oneCell']) ?_; intro w6 b5 u6))
  refine HK2.out _ _ ?_
  clear HK2
  unfold gvA at b5
  have Y46 : w4.grownBy w6 none := grown_far gn u6 (fun z e => by have e := Option.some.inj e; omega)
  have Y6 : w1.grownBy w6 none := grown_trans y4 Y46
  have hAW := hAW.keep Y46
  have hOW := hOW.keep Y46
  have hNW := hNW.keep Y46
  obtain ⟨g5, hg5⟩ : ∃ g, w4.heap.size = g := ⟨_, rfl⟩
  rw [hg5] at b5 ⊢
  clear hg5 u6 bn gn hwn y4 z4 z3 kD Y46
  have G6 := grown_trans y1 Y6
  have b1 := b1.keep Y6 (by simp)
  have kA := giverAs_give V W T E a q aW qW na c d cW dW nc _ xsN w6 (fun wz => True) (fun x y h1 h2 => trivial) trivial (fun wz aa cc qq dd hI k1 k2 => KR.out wz aa qq cc dd k1 k2) (hL.keep G6) (hG.keep G6) hAW hOW hNW hxN hn hm bW1 bW2 hT1 HT2.out
  unfold gvA at kA
  have KA : Hid _ := kA
  clear kA
  refine wp_seq_k fun K3 hK3 => ?_
  have HK3 : Hid _ := hK3
  clear hK3
  have s0 : True := trivial
  go_wp2_with (first
    | (have _t := s0; clear s0; refine wpList_ldX _ rfl _ (.tmp 1) rfl w.heap.size _ rfl b1 Try.underlying44 i13 ?_; have s1 : True := trivial)
    | (have _t := s1; clear s1; refine wpList_ldX _ rfl _ (.tmp 3) rfl g5 _ rfl b5 Try.underlying44 i13 ?_; have s2 : True := trivial)
    | (go_at_call 31; have _t := s2; clear s2; refine Calls.mono KA.out ?_; rintro e wA ⟨rfl, yA⟩; have GA9 := grown_trans G6 yA))
  refine HK3.out _ _ ?_
  clear HK3
  go_wp2
  go_ret
  exact ⟨rfl, (Below.refl _ _).grown GA9 (Nat.le_refl _) (fun k hk => by cases hk)⟩
end
end Go.Proofs.Ytnimehkfnpepfaa
