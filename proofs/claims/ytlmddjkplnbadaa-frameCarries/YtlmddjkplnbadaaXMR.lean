import Derived.Test.YtlmddjkplnbadaaXIL
import Derived.Test.YtlmddjkplnbadaaNHe
import Derived.Test.YtlmddjkplnbadaaNPk
namespace Go.Proofs.Ytlmddjkplnbadaa
open Go.RowKit
set_option maxRecDepth 100000
set_option linter.unusedVariables false
set_option linter.unusedSimpArgs false

/-- the channel whose turn it is, of the last r that are asked -/
def chF (tu : Nat) (Qs : List Qd) : Nat → Nat
  | 0 => 7
  | r + 1 => if 0 < (Qs.getD ((tu + (6 - r)) % 7) qd0).P.length then (tu + (6 - r)) % 7 else chF tu Qs r
theorem chF_ne (tu : Nat) (Qs : List Qd) (r : Nat) (h : chF tu Qs r ≠ 7) : chF tu Qs r < 7 ∧ 0 < (Qs.getD (chF tu Qs r) qd0).P.length := by
  induction r with
  | zero => exact absurd rfl h
  | succ r ih =>
    by_cases hc : 0 < (Qs.getD ((tu + (6 - r)) % 7) qd0).P.length
    · have e : chF tu Qs (r + 1) = (tu + (6 - r)) % 7 := if_pos hc
      rw [e]
      exact ⟨Nat.mod_lt _ (by decide), hc⟩
    · have e : chF tu Qs (r + 1) = chF tu Qs r := if_neg hc
      rw [e] at h ⊢
      exact ih h
/-- where the first packet begins -/
def fiT (P : List (List Nat)) (go room : Nat) : Nat := if go = 0 then 0 else (if (P.getD 0 []).length - go < room then (P.getD 0 []).length - go else 2047)

set_option maxHeartbeats 16000000 in
theorem channelInTurn_any (cr sz ma : Int) (tu : Nat) (a : Option Addr) (c : Nat) (Qs : List Qd) (w : World) (h : RdS w a 7 c Qs) (htu : tu ≤ 6) :
    Calls Try.prog 77 #[.agg #[.int .i64 cr, .int .i64 sz, .int .i64 ma, .int .i64 (tu : Int), .slice a 7 c]] w fun e w' => e = .returned (.int .i64 (chF tu Qs 7 : Nat)) ∧ w.grownBy w' none := by
  obtain ⟨F, hF1, hF2⟩ := h.ex
  have HF2 : Hid _ := hF2
  clear hF2
  have b0 := BxS.new w 38 #[.int .i64 cr, .int .i64 sz, .int .i64 ma, .int .i64 (tu : Int), .slice a 7 c]
  have g0 := World.grownBy_alloc w (.cells #[.int .i64 cr, .int .i64 sz, .int .i64 ma, .int .i64 (tu : Int), .slice a 7 c] 38) none
  generalize hw0 : w.alloc (.cells #[.int .i64 cr, .int .i64 sz, .int .i64 ma, .int .i64 (tu : Int), .slice a 7 c] 38) = w0 at b0 g0
  obtain ⟨ba, oa, rfl, hba, _⟩ := hF1.at' (by decide)
  obtain ⟨x0, x1, x2, x3, x4⟩ := BxS.cell5 b0
  go_enter Try.func77, Try.ntmps77
  go_wp2
  go_loopw [5] (fun iv wr => ∃ k : Nat, iv = .int .i64 k ∧ k ≤ 7 ∧ Hid (chF tu Qs (7 - k) = chF tu Qs 7) ∧ Hid (wr = w0)) (fun iv _ => 7 - (intOf iv).toNat)
  case atStart => exact ⟨0, by go_num, by decide, rfl, rfl⟩
  case round =>
    obtain ⟨k, rfl, hk, HC, hwr⟩ := hrel
    have hwr := hwr.out
    subst hwr
    by_cases hlt : k < 7
    · have hlt' : (k : Int) < 7 := by omega
      obtain ⟨ch, hch⟩ : ∃ ch, (tu + k) % 7 = ch := ⟨_, rfl⟩
      have hch7 : ch < 7 := by omega
      have hw1 : IntKind.i64.wrap ((tu : Int) + (k : Int)) = (tu : Int) + (k : Int) := wrap_i64_in _ (by omega) (by omega)
      have ht1 : ((tu : Int) + (k : Int)).tmod 7 = (ch : Int) := by rw [Int.tmod_eq_emod_of_nonneg (by omega)]; omega
      have ht2 : ((tu : Int) + (k : Int)) % 7 = (ch : Int) := by omega
      have hwk : IntKind.i64.wrap ((k : Int) + 1) = (k : Int) + 1 := wrap_i64_in _ (by omega) (by omega)
      obtain ⟨_, _, ee, _, ca⟩ := (hF1.keep g0).at' (by decide)
      cases ee
      obtain ⟨y0, y1, y2⟩ := ca ch hch7
      have hc7' : (ch : Int) < 7 := by omega
      have e3 := (HF2.out ch hch7).2.2.1
      have HS : Hid (chF tu Qs (7 - k) = if 0 < (F ch).n then ch else chF tu Qs (7 - (k + 1))) := by
        show _ = _
        rw [show 7 - k = (6 - k) + 1 by omega]
        show (if 0 < (Qs.getD ((tu + (6 - (6 - k))) % 7) qd0).P.length then (tu + (6 - (6 - k))) % 7 else chF tu Qs (6 - k)) = _
        rw [show 6 - (6 - k) = k by omega, hch, e3, show 7 - (k + 1) = 6 - k by omega]
      clear ca e3 hch
      by_cases hp : 0 < (F ch).n
      · have hp' : (0 : Int) < ((F ch).n : Int) := by omega
        go_wp2
        go_ret
        refine ⟨?_, g0⟩
        rw [← HC.out, HS.out, if_pos hp]
        rfl
      · have hp' : ¬ (0 : Int) < ((F ch).n : Int) := by omega
        go_wp2
        go_roundw
        case rel => exact ⟨k + 1, by go_num, by omega, (by have e := HS.out; rw [if_neg hp] at e; exact (e.symm.trans HC.out : _ = _)), trivial⟩
        case measure => simp [intOf]; omega
    · obtain rfl : k = 7 := by omega
      go_wp2
      go_ret
      refine ⟨?_, g0⟩
      rw [← HC.out]
      rfl
set_option maxHeartbeats 16000000 in
theorem firstIn_any (ow : Int) (g room : Nat) (a : Option Addr) (n c : Nat) (P : List (List Nat)) (w : World) (h : RdW w a n c P) (h0 : 0 < P.length) (hg : g < (P.getD 0 []).length) (hl : (P.getD 0 []).length ≤ 100000) (hr : room ≤ 60000) :
    Calls Try.prog 78 #[.agg #[.int .i64 ow, .slice a n c, .int .i64 (g : Int)], .int .i64 (room : Int)] w fun e w' => e = .returned (.int .i64 (fiT P g room : Nat)) ∧ w.grownBy w' none := by
  obtain ⟨F, hF1, hF2⟩ := h.ex
  have hn := h.len
  have b0 := BxS.new w 83 #[.int .i64 ow, .slice a n c, .int .i64 (g : Int)]
  have g0 := World.grownBy_alloc w (.cells #[.int .i64 ow, .slice a n c, .int .i64 (g : Int)] 83) none
  generalize hw0 : w.alloc (.cells #[.int .i64 ow, .slice a n c, .int .i64 (g : Int)] 83) = w0 at b0 g0
  obtain ⟨x0, x1, x2⟩ := BxS.cell3 b0
  by_cases hg0 : g = 0
  · have e : fiT P g room = 0 := if_pos hg0
    rw [e]
    have hg0' : ((g : Int) == 0) = true := by rw [hg0]; rfl
    clear hg0 e
    go_enter Try.func78, Try.ntmps78
    go_wp2
    go_ret
    exact ⟨rfl, g0⟩
  · have hg0' : ((g : Int) == 0) = false := by simp; omega
    have hrd := (hF1.data 0 (by omega)).len
    rw [hF2 0 (by omega)] at hrd
    obtain ⟨ba, oa, rfl, hba, _⟩ := hF1.at' (by omega)
    obtain ⟨_, _, ee, _, ca⟩ := (hF1.keep g0).at' (by omega)
    cases ee
    have y0 := ca 0 (by omega)
    rw [Nat.add_zero] at y0
    clear ca
    have hn1 : (0 : Int) < (n : Int) := by omega
    have hn0 : ¬ n = 0 := by omega
    have hcell : ∀ wz, w0.grownBy wz none → wz.cell? ⟨ba, oa, none⟩ = some (.slice (F 0).a (F 0).n (F 0).c) := fun wz hz => by
      obtain ⟨_, _, ee, _, ca⟩ := ((hF1.keep g0).keep hz).at' (by omega)
      cases ee
      exact ca 0 (by omega)
    obtain ⟨d, hd⟩ : ∃ d, (F 0).n - g = d := ⟨_, rfl⟩
    have hwd : IntKind.i64.wrap (((F 0).n : Int) - (g : Int)) = (d : Int) := by rw [show ((F 0).n : Int) - (g : Int) = (d : Int) by omega]; exact wrap_i64_in _ (by omega) (by omega)
    have HV : Hid (fiT P g room = if d < room then d else 2047) := by show _ = _; unfold fiT; rw [if_neg hg0, hrd, hd]
    clear hd hrd hF2
    generalize (F 0).n = nf at *
    have SE := grown_drew w0 none
    go_enter Try.func78, Try.ntmps78
    refine wp_seq_k fun K1 hK1 => ?_
    have HK1 : Hid _ := hK1
    clear hK1
    go_wp2
    refine HK1.out _ _ ?_
    clear HK1
    refine wp_seq_k fun K2 hK2 => ?_
    have HK2 : Hid _ := hK2
    clear hK2
    go_wp2
    refine HK2.out _ _ ?_
    clear HK2
    refine wp_seq_k fun K3 hK3 => ?_
    have HK3 : Hid _ := hK3
    clear hK3
    refine wp_seq_k fun K4 hK4 => ?_
    have HK4 : Hid _ := hK4
    clear hK4
    refine wp_regionL (fun wz => w0.grownBy wz none) [] #[false, false, false, false, false, false, false, false, false] rfl (by kernel_rfl) ?_
    refine wpAnyZ_take [] 0 (.pointer (some ⟨w.heap.size, 1, none⟩)) rfl (by kernel_rfl) (fun _ _ _ h => h) SE rfl (by intro wz hz; obtain ⟨z0, z1, z2⟩ := BxS.cell3 (b0.keep hz (by simp)); go_simp) ?_
    try simp only [List.getElem_toArray, List.getElem_cons_succ, List.getElem_cons_zero, Act.put, List.setIfInBounds_toArray, List.set_cons_zero, List.set_cons_succ]
    refine wpAnyZ_take [] 1 (.slice (some ⟨ba, oa, none⟩) n c) rfl (by kernel_rfl) (fun _ _ _ h => h) SE rfl (by intro wz hz; obtain ⟨z0, z1, z2⟩ := BxS.cell3 (b0.keep hz (by simp)); go_simp) ?_
    try simp only [List.getElem_toArray, List.getElem_cons_succ, List.getElem_cons_zero, Act.put, List.setIfInBounds_toArray, List.set_cons_zero, List.set_cons_succ]
    refine wpAnyZ_take [] 2 (.pointer (some ⟨ba, oa, none⟩)) rfl (by kernel_rfl) (fun _ _ _ h => h) SE rfl (by intro wz hz; have hcz := hcell wz hz; go_simp) ?_
    try simp only [List.getElem_toArray, List.getElem_cons_succ, List.getElem_cons_zero, Act.put, List.setIfInBounds_toArray, List.set_cons_zero, List.set_cons_succ]
    refine wpAnyZ_take [] 3 (.slice (F 0).a nf (F 0).c) rfl (by kernel_rfl) (fun _ _ _ h => h) SE rfl (by intro wz hz; have hcz := hcell wz hz; go_simp) ?_
    try simp only [List.getElem_toArray, List.getElem_cons_succ, List.getElem_cons_zero, Act.put, List.setIfInBounds_toArray, List.set_cons_zero, List.set_cons_succ]
    refine wpAnyZ_take [] 4 (.int .i64 (nf : Int)) rfl (by kernel_rfl) (fun _ _ _ h => h) SE rfl (by intro wz hz; go_simp) ?_
    try simp only [List.getElem_toArray, List.getElem_cons_succ, List.getElem_cons_zero, Act.put, List.setIfInBounds_toArray, List.set_cons_zero, List.set_cons_succ]
    refine wpAnyZ_take [] 5 (.pointer (some ⟨w.heap.size, 2, none⟩)) rfl (by kernel_rfl) (fun _ _ _ h => h) SE rfl (by intro wz hz; obtain ⟨z0, z1, z2⟩ := BxS.cell3 (b0.keep hz (by simp)); go_simp) ?_
    try simp only [List.getElem_toArray, List.getElem_cons_succ, List.getElem_cons_zero, Act.put, List.setIfInBounds_toArray, List.set_cons_zero, List.set_cons_succ]
    refine wpAnyZ_take [] 6 (.int .i64 (g : Int)) rfl (by kernel_rfl) (fun _ _ _ h => h) SE rfl (by intro wz hz; obtain ⟨z0, z1, z2⟩ := BxS.cell3 (b0.keep hz (by simp)); go_simp) ?_
    try simp only [List.getElem_toArray, List.getElem_cons_succ, List.getElem_cons_zero, Act.put, List.setIfInBounds_toArray, List.set_cons_zero, List.set_cons_succ]
    refine wpAnyZ_take [] 7 (.int .i64 (d : Int)) rfl (by kernel_rfl) (fun _ _ _ h => h) SE rfl (by intro wz hz; go_simp) ?_
    try simp only [List.getElem_toArray, List.getElem_cons_succ, List.getElem_cons_zero, Act.put, List.setIfInBounds_toArray, List.set_cons_zero, List.set_cons_succ]
    refine wpAnyZ_take [] 8 (.int .i64 (d : Int)) rfl (by kernel_rfl) (fun _ _ _ h => h) SE rfl (by intro wz hz; go_simp) ?_
    try simp only [List.getElem_toArray, List.getElem_cons_succ, List.getElem_cons_zero, Act.put, List.setIfInBounds_toArray, List.set_cons_zero, List.set_cons_succ]
    refine wpAnyZ_doneB (by kernel_rfl) ?_ _
    refine HK4.out _ _ ?_
    clear HK4
    by_cases hdr : d < room
    · have hdr' : (d : Int) < (room : Int) := by omega
      go_wp2
      go_ret
      exact ⟨by rw [HV.out, if_pos hdr]; rfl, grown_trans g0 SE⟩
    · have hdr' : ¬ (d : Int) < (room : Int) := by omega
      go_wp2
      refine HK3.out _ _ ?_
      clear HK3
      go_wp2
      go_ret
      exact ⟨by rw [HV.out, if_neg hdr]; rfl, grown_trans g0 SE⟩

theorem wpAnyZ_twoB {P : Program} {ops : Array Oper} {Q : Exit → Act → World → Prop} {md : Region.Mode} {S : World → Prop} {Z : List Nat} (i j : Nat) {o o' : Oper} {fuel : Nat} {listed : Array Bool} {a : Act} {w : World} (ho : ops[i]? = some o) (ho' : ops[j]? = some o') (hr : (Region.ready md ops listed == [i, j]) = true)
    (h : ∀ K' : Act → World → Prop, (∀ a w, (i ∉ Z → S w) → wpAnyZ P md ops Q S Z fuel (listed.setIfInBounds i true) a w → K' a w) → if Region.wanted o (yielded ops a.tmps) = true then Oper.wp P o a w K' Q else K' (a.put o.dst undef) w)
    (h' : ∀ K' : Act → World → Prop, (∀ a w, (j ∉ Z → S w) → wpAnyZ P md ops Q S Z fuel (listed.setIfInBounds j true) a w → K' a w) → if Region.wanted o' (yielded ops a.tmps) = true then Oper.wp P o' a w K' Q else K' (a.put o'.dst undef) w) :
    wpAnyZ P md ops Q S Z (fuel + 1) listed a w := by
  have hr := eq_of_beq hr
  refine ⟨fun h0 => (by rw [hr] at h0; cases h0), fun k hk => ?_⟩
  rw [hr] at hk
  rcases List.mem_cons.1 hk with e | hk
  · subst e
    exact wpOp_step ho (fun K' hK => h K' (fun a w hS hW => hK a w ⟨hS, hW⟩))
  · have e := List.mem_singleton.1 hk
    subst e
    exact wpOp_step ho' (fun K' hK => h' K' (fun a w hS hW => hK a w ⟨hS, hW⟩))

theorem Try.info_he : (Try.prog.info? 28).map (fun i => i.size) = some 5 := by kernel_rfl
/-- 'make([]byte, n)' in a region that draws -/
theorem step_mkB (w : World) {ops : Array Oper} {o : Oper} {a : Act} {K : Act → World → Prop} {Q : Exit → Act → World → Prop} {E : Prop} (hg : o.guard = none) (l c : Operand)
    (hop : o.op = Op.makeSlice 22 l c) (n : Nat) (hl : a.eval l = .int .i64 (n : Int)) (hc : a.eval c = .int .i64 (n : Int)) (hn : n ≤ 140737488355328)
    (hK : ∀ w', Ans w' w.heap.size (some ⟨w.heap.size, 0, none⟩) n n (List.replicate n 0) → w.grownBy w' none → K (a.put o.dst (.slice (some ⟨w.heap.size, 0, none⟩) n n)) w') :
    if Region.wanted o (yielded ops a.tmps) = true then Oper.wp Try.prog o a w K Q else E := by
  have hw : Region.wanted o (yielded ops a.tmps) = true := by simp [Region.wanted, hg]
  rw [if_pos hw]
  obtain ⟨i0, hi, hz0, hz1, hz2⟩ := info_parts Try.info_u8
  obtain ⟨w', hrun, r1, r2⟩ := run_make_full (P := Try.prog) w w.heap.size 22 5 i0 (.int .u8 0) 1 Try.underlying22 hi hz0 hz1 .i64 .i64 n (by rw [hz2]; omega) (by unfold maxLen; omega) (Nat.le_refl _)
  have e : (madeCells (Value.int .u8 0).cells (n * 1)).toList = bys (List.replicate n 0) := by
    rw [Nat.mul_one]
    have e2 : (madeCells (Value.int .u8 0).cells n).toList = List.replicate n (Value.int .u8 0) := toList_madeCells_one _ _
    rw [e2]
    simp [bys]
  rw [e] at r1
  unfold Oper.wp
  simp [execOp, hop, hl, hc, hrun, Result.andThen]
  exact hK w' ⟨own_baseG r1, (fun x hx => by rw [(List.mem_replicate.1 hx).2]; decide), fun g hg => by have e : w.heap.size = g := Option.some.inj hg; omega⟩ r2
theorem WkQ.ofTD {wb w' : World} {p : Nat → Prop} {lo gq n c j : Nat} {qs : List Qw} {q2 : Qw} (h : OwQ wb lo (some ⟨gq, 0, none⟩) n c qs) (hj : j < n) (F : Fz p wb w') (hp : ∀ i r, i ≠ j → qs[i]? = some r → ∀ x, Ofr r.v r.rs x → ¬ p x) (ho : w'.ownsRow 0 83 3 (.slice (some ⟨gq, 0, none⟩) n c) n (flQ (qs.set j q2))) (hq : OwO w' lo q2.a q2.n q2.c q2.rs) (hap : ∀ i r, i ≠ j → qs[i]? = some r → ∀ x, Ofr r.v r.rs x → ¬ Ofo q2.a q2.rs x) :
    WkQ w' lo (some ⟨gq, 0, none⟩) n c (qs.set j q2) := by
  have hl := h.len
  have hpw := List.pairwise_iff_getElem.1 h.apart
  refine ⟨ho, by rw [List.length_set]; exact hl, h.new, fun r hr => ?_, List.pairwise_iff_getElem.2 (fun k i hkl hil hki x hx e => ?_)⟩
  · obtain ⟨i, hil, rfl⟩ := List.mem_iff_getElem.1 hr
    have hil' := hil
    rw [List.length_set] at hil'
    by_cases hij : i = j
    · subst hij
      rw [List.getElem_set_self]
      exact hq
    · rw [List.getElem_set_ne (fun e => hij e.symm)]
      exact ((h.each _ (List.getElem_mem hil')).fz F (fun x hx => hp i _ hij (List.getElem?_eq_getElem hil') x hx)).wk
  · have hkl' := hkl
    have hil' := hil
    rw [List.length_set] at hkl' hil'
    by_cases hkj : k = j
    · subst hkj
      rw [List.getElem_set_self] at hx
      rw [List.getElem_set_ne (by omega)] at e
      exact hap i _ (by omega) (List.getElem?_eq_getElem hil') x (ofo_of (h.each _ (List.getElem_mem hil')) e) hx
    · rw [List.getElem_set_ne (fun e => hkj e.symm)] at hx
      by_cases hij : i = j
      · subst hij
        rw [List.getElem_set_self] at e
        exact hap k _ hkj (List.getElem?_eq_getElem hkl') x (ofo_of (h.each _ (List.getElem_mem hkl')) hx) e
      · rw [List.getElem_set_ne (fun e => hij e.symm)] at e
        exact hpw k i hkl' hil' hki x (ofo_of (h.each _ (List.getElem_mem hkl')) hx) (ofo_of (h.each _ (List.getElem_mem hil')) e)

set_option maxHeartbeats 32000000 in
theorem tf_t6 {u1 u3 u6 u7 u8 u9 u10 u11 u12 u13 u14 u15 u16 u17 u18 u19 u20 u21 u22 u23 u24 u25 u26 u27 u28 u29 u30 u31 u32 u33 u34 u35 u36 u37 u38 u39 u40 u41 u42 u43 u44 u45 u46 u47 u48 u49 u50 u51 u52 u53 u54 u55 u56 u57 u58 u59 u60 u61 u62 u63 u64 u65 u66 u67 u68 u69 u70 u71 u72 u73 u74 u75 : Value} (w0 w : World) (lo g2 gR g5 gq room : Nat) (cr sz ma ma2 CH OW FI MA TU : Int) (tu ch : Nat) (DA : List Nat) (qs : List Qw) (Qs V : List Qd) (b2 : BxS w g2 38 #[.int .i64 cr, .int .i64 sz, .int .i64 ma2, .int .i64 (tu : Int), .slice (some ⟨gq, 0, none⟩) 7 7]) (bR : BxS w gR 28 #[.int .i64 0, .int .i64 0, .int .i64 0, .int .i64 0, .int .i64 0]) (b5 : BxS w g5 28 #[.int .i64 cr, .int .i64 (ch : Int), .int .i64 ma, .int .i64 0, .int .i64 2046]) (hO : OwS w lo (some ⟨gq, 0, none⟩) 7 7 qs Qs) (h2 : g2 < lo ∧ lo ≤ w0.heap.size ∧ w0.heap.size ≤ gR ∧ w0.heap.size ≤ g5 ∧ gR ≠ g5) (hF : Fz (fun x => x = g2 ∨ x = gq) w0 w) (hold : ∀ x, Qbl (.slice (some ⟨gq, 0, none⟩) 7 7) qs x → x < w0.heap.size) (hroom : 1 ≤ room ∧ room ≤ 60000) (q : Qw) (g : Nat) (TP : List (List Nat)) (TG : Nat) (hch : ch < 7) (hq : qs[ch]? = some q) (hgo : q.go = (g : Int)) (how : q.ow = OW ∧ 0 ≤ OW ∧ OW ≤ 255) (hCH : CH = (ch : Int)) (hMA : MA = ma2) (hTU : TU = (((ch + 1) % 7 : Nat) : Int)) (hFI : FI = ((fiT (q.rs.map Rw.D) g room : Nat) : Int)) (hne : 0 < (q.rs.map Rw.D).length) (hK : TK room DA TP TG [] (q.rs.map Rw.D) g) (hV : V = Qs.set ch ⟨(OW + 1) % 256, (TG : Int), TP⟩) :
    Code.wp Try.prog (tailR 6 (Try.f61.body.getD .skip)) (bodyPost Try.prog Try.f61 (fun e w' => ∃ (ya : Option Addr) (yc : Nat) (qs' : List Qw), e = .returned (.tuple #[.agg #[.int .i64 cr, .int .i64 CH, .int .i64 ma, .int .i64 OW, .int .i64 FI], .slice ya room yc]) ∧ Ans w' w0.heap.size ya room yc DA ∧ BxS w' g2 38 #[.int .i64 cr, .int .i64 sz, .int .i64 MA, .int .i64 TU, .slice (some ⟨gq, 0, none⟩) 7 7] ∧ WkS w' lo (some ⟨gq, 0, none⟩) 7 7 qs' V ∧ (∀ x, Wbl (.slice (some ⟨gq, 0, none⟩) 7 7) qs' x → (Value.slice ya room yc).ownBlock ≠ some x) ∧ Fz (fun x => x = g2 ∨ x = gq) w0 w')) (Act.mk (List.toArray ((.pointer (some ⟨g2, 0, none⟩)) :: u1 :: (.pointer (some ⟨gR, 0, none⟩)) :: u3 :: (.int .i64 (room : Int)) :: (.pointer (some ⟨g5, 0, none⟩)) :: u6 :: u7 :: u8 :: u9 :: u10 :: u11 :: u12 :: u13 :: u14 :: u15 :: u16 :: u17 :: u18 :: u19 :: u20 :: u21 :: u22 :: u23 :: u24 :: u25 :: u26 :: u27 :: u28 :: u29 :: u30 :: u31 :: u32 :: u33 :: u34 :: u35 :: u36 :: u37 :: u38 :: u39 :: u40 :: u41 :: u42 :: u43 :: u44 :: u45 :: u46 :: u47 :: u48 :: u49 :: u50 :: u51 :: u52 :: u53 :: u54 :: u55 :: u56 :: u57 :: u58 :: u59 :: u60 :: u61 :: u62 :: u63 :: u64 :: u65 :: u66 :: u67 :: u68 :: u69 :: u70 :: u71 :: u72 :: u73 :: u74 :: u75 :: [])) []) w := by
  conv => enter [2]; whnf
  subst hCH hMA
  obtain ⟨qow, qa, qn, qc, qgo, qrs⟩ := q
  obtain ⟨how, hOW0, hOW1⟩ := how
  have how : qow = OW := how
  have hgo : qgo = (g : Int) := hgo
  subst how hgo
  replace hFI : FI = ((fiT (qrs.map Rw.D) g room : Nat) : Int) := hFI
  replace hne : 0 < (qrs.map Rw.D).length := hne
  replace hK : TK room DA TP TG [] (qrs.map Rw.D) g := hK
  have hmem := List.mem_of_getElem? hq
  have hc7' : (ch : Int) < 7 := by omega
  have i5 := Try.info_he
  have b2l := b2.lt
  have hgqr := hold gq (.inl rfl)
  have hlq := hO.o.len
  have hgqlo := (hO.o.hi (x := gq) (.inl rfl)).2
  have hz0 := hF.size
  refine wp_seq_k fun K1 hK1 => ?_
  have HK1 : Hid _ := hK1
  clear hK1
  have SE := grown_drew w none
  refine wp_regionL (fun wz => w.grownBy wz none) [] #[false, false, false, false, false, false, false, false] rfl (by kernel_rfl) ?_
  refine wpAnyZ_take [] 0 (.pointer (some ⟨g2, 0, none⟩)) rfl (by kernel_rfl) (fun _ _ _ h => h) SE rfl (by intro wz hz; obtain ⟨z0, z1, z2, z3, z4⟩ := BxS.cell5 (b2.keep hz (by simp)); obtain ⟨y0, y1, y2, y3, y4⟩ := BxS.cell5 (b5.keep hz (by simp)); go_simp) ?_
  try simp only [List.getElem_toArray, List.getElem_cons_succ, List.getElem_cons_zero, Act.put, List.setIfInBounds_toArray, List.set_cons_zero, List.set_cons_succ]
  refine wpAnyZ_take [] 1 (.pointer (some ⟨g2, 0, none⟩)) rfl (by kernel_rfl) (fun _ _ _ h => h) SE rfl (by intro wz hz; obtain ⟨z0, z1, z2, z3, z4⟩ := BxS.cell5 (b2.keep hz (by simp)); obtain ⟨y0, y1, y2, y3, y4⟩ := BxS.cell5 (b5.keep hz (by simp)); go_simp) ?_
  try simp only [List.getElem_toArray, List.getElem_cons_succ, List.getElem_cons_zero, Act.put, List.setIfInBounds_toArray, List.set_cons_zero, List.set_cons_succ]
  refine wpAnyZ_take [] 2 (.pointer (some ⟨g2, 4, none⟩)) rfl (by kernel_rfl) (fun _ _ _ h => h) SE rfl (by intro wz hz; obtain ⟨z0, z1, z2, z3, z4⟩ := BxS.cell5 (b2.keep hz (by simp)); obtain ⟨y0, y1, y2, y3, y4⟩ := BxS.cell5 (b5.keep hz (by simp)); go_simp) ?_
  try simp only [List.getElem_toArray, List.getElem_cons_succ, List.getElem_cons_zero, Act.put, List.setIfInBounds_toArray, List.set_cons_zero, List.set_cons_succ]
  refine wpAnyZ_take [] 3 (.slice (some ⟨gq, 0, none⟩) 7 7) rfl (by kernel_rfl) (fun _ _ _ h => h) SE rfl (by intro wz hz; obtain ⟨z0, z1, z2, z3, z4⟩ := BxS.cell5 (b2.keep hz (by simp)); obtain ⟨y0, y1, y2, y3, y4⟩ := BxS.cell5 (b5.keep hz (by simp)); go_simp) ?_
  try simp only [List.getElem_toArray, List.getElem_cons_succ, List.getElem_cons_zero, Act.put, List.setIfInBounds_toArray, List.set_cons_zero, List.set_cons_succ]
  refine wpAnyZ_take [] 4 (.pointer (some ⟨g5, 1, none⟩)) rfl (by kernel_rfl) (fun _ _ _ h => h) SE rfl (by intro wz hz; obtain ⟨z0, z1, z2, z3, z4⟩ := BxS.cell5 (b2.keep hz (by simp)); obtain ⟨y0, y1, y2, y3, y4⟩ := BxS.cell5 (b5.keep hz (by simp)); go_simp) ?_
  try simp only [List.getElem_toArray, List.getElem_cons_succ, List.getElem_cons_zero, Act.put, List.setIfInBounds_toArray, List.set_cons_zero, List.set_cons_succ]
  refine wpAnyZ_take [] 5 (.int .i64 (ch : Int)) rfl (by kernel_rfl) (fun _ _ _ h => h) SE rfl (by intro wz hz; obtain ⟨z0, z1, z2, z3, z4⟩ := BxS.cell5 (b2.keep hz (by simp)); obtain ⟨y0, y1, y2, y3, y4⟩ := BxS.cell5 (b5.keep hz (by simp)); go_simp) ?_
  try simp only [List.getElem_toArray, List.getElem_cons_succ, List.getElem_cons_zero, Act.put, List.setIfInBounds_toArray, List.set_cons_zero, List.set_cons_succ]
  refine wpAnyZ_take [] 6 (.pointer (some ⟨gq, ch * 3, none⟩)) rfl (by kernel_rfl) (fun _ _ _ h => h) SE rfl (by intro wz hz; obtain ⟨z0, z1, z2, z3, z4⟩ := BxS.cell5 (b2.keep hz (by simp)); obtain ⟨y0, y1, y2, y3, y4⟩ := BxS.cell5 (b5.keep hz (by simp)); go_simp) ?_
  try simp only [List.getElem_toArray, List.getElem_cons_succ, List.getElem_cons_zero, Act.put, List.setIfInBounds_toArray, List.set_cons_zero, List.set_cons_succ]
  refine wpAnyZ_take [] 7 (.pointer (some ⟨gq, ch * 3, none⟩)) rfl (by kernel_rfl) (fun _ _ _ h => h) SE rfl (by intro wz hz; obtain ⟨z0, z1, z2, z3, z4⟩ := BxS.cell5 (b2.keep hz (by simp)); obtain ⟨y0, y1, y2, y3, y4⟩ := BxS.cell5 (b5.keep hz (by simp)); go_simp) ?_
  try simp only [List.getElem_toArray, List.getElem_cons_succ, List.getElem_cons_zero, Act.put, List.setIfInBounds_toArray, List.set_cons_zero, List.set_cons_succ]
  refine wpAnyZ_doneB (by kernel_rfl) ?_ _
  have b2 := b2.keep SE (by simp)
  have bR := bR.keep SE (by simp)
  have b5 := b5.keep SE (by simp)
  have hO := hO.keep SE
  have hF := hF.step SE (fun x e _ => by cases e)
  generalize w.drew = w1 at *
  refine HK1.out _ _ ?_
  clear HK1
  refine wp_seq_k fun K2 hK2 => ?_
  have HK2 : Hid _ := hK2
  clear hK2
  have SD := grown_drew w1 none
  have hO1 := hO.keep SD
  have SX := hO1.o.cell hq
  refine wp_regionL (fun wz => wz.cell? ⟨gq, ch * 3, none⟩ = some (.int .i64 qow) ∧ wz.cell? ⟨gq, ch * 3 + 1, none⟩ = some (.slice qa qn qc) ∧ wz.cell? ⟨gq, ch * 3 + 2, none⟩ = some (.int .i64 (g : Int))) [] #[false, false, false, false, false, false, false, false, false, false, false, false, false] rfl (by kernel_rfl) ?_
  refine wpAnyZ_take [] 0 (.pointer (some ⟨gq, ch * 3, none⟩)) rfl (by kernel_rfl) (fun _ _ _ h => h) SX rfl (by rintro wz ⟨y0, y1, y2⟩; go_simp) ?_
  try simp only [List.getElem_toArray, List.getElem_cons_succ, List.getElem_cons_zero, Act.put, List.setIfInBounds_toArray, List.set_cons_zero, List.set_cons_succ]
  refine wpAnyZ_take [] 1 (.pointer (some ⟨gq, ch * 3, none⟩)) rfl (by kernel_rfl) (fun _ _ _ h => h) SX rfl (by rintro wz ⟨y0, y1, y2⟩; go_simp) ?_
  try simp only [List.getElem_toArray, List.getElem_cons_succ, List.getElem_cons_zero, Act.put, List.setIfInBounds_toArray, List.set_cons_zero, List.set_cons_succ]
  refine wpAnyZ_take [] 2 (.pointer (some ⟨gq, ch * 3, none⟩)) rfl (by kernel_rfl) (fun _ _ _ h => h) SX rfl (by rintro wz ⟨y0, y1, y2⟩; go_simp) ?_
  try simp only [List.getElem_toArray, List.getElem_cons_succ, List.getElem_cons_zero, Act.put, List.setIfInBounds_toArray, List.set_cons_zero, List.set_cons_succ]
  refine wpAnyZ_take [] 3 (.int .i64 qow) rfl (by kernel_rfl) (fun _ _ _ h => h) SX rfl (by rintro wz ⟨y0, y1, y2⟩; go_simp) ?_
  try simp only [List.getElem_toArray, List.getElem_cons_succ, List.getElem_cons_zero, Act.put, List.setIfInBounds_toArray, List.set_cons_zero, List.set_cons_succ]
  refine wpAnyZ_take [] 9 (.pointer (some ⟨g5, 3, none⟩)) rfl (by kernel_rfl) (fun _ _ _ h => h) SX rfl (by rintro wz ⟨y0, y1, y2⟩; go_simp) ?_
  try simp only [List.getElem_toArray, List.getElem_cons_succ, List.getElem_cons_zero, Act.put, List.setIfInBounds_toArray, List.set_cons_zero, List.set_cons_succ]
  refine wpAnyZ_take [] 4 (.pointer (some ⟨gq, ch * 3, none⟩)) rfl (by kernel_rfl) (fun _ _ _ h => h) SX rfl (by rintro wz ⟨y0, y1, y2⟩; go_simp) ?_
  try simp only [List.getElem_toArray, List.getElem_cons_succ, List.getElem_cons_zero, Act.put, List.setIfInBounds_toArray, List.set_cons_zero, List.set_cons_succ]
  refine wpAnyZ_take [] 5 (.pointer (some ⟨gq, ch * 3, none⟩)) rfl (by kernel_rfl) (fun _ _ _ h => h) SX rfl (by rintro wz ⟨y0, y1, y2⟩; go_simp) ?_
  try simp only [List.getElem_toArray, List.getElem_cons_succ, List.getElem_cons_zero, Act.put, List.setIfInBounds_toArray, List.set_cons_zero, List.set_cons_succ]
  refine wpAnyZ_take [] 6 (.agg #[.int .i64 qow, .slice qa qn qc, .int .i64 (g : Int)]) rfl (by kernel_rfl) (fun _ _ _ h => h) SX rfl (by rintro wz ⟨y0, y1, y2⟩; go_simp) ?_
  try simp only [List.getElem_toArray, List.getElem_cons_succ, List.getElem_cons_zero, Act.put, List.setIfInBounds_toArray, List.set_cons_zero, List.set_cons_succ]
  refine wpAnyZ_take [] 7 (.int .i64 (room : Int)) rfl (by kernel_rfl) (fun _ _ _ h => h) SX rfl (by rintro wz ⟨y0, y1, y2⟩; go_simp) ?_
  try simp only [List.getElem_toArray, List.getElem_cons_succ, List.getElem_cons_zero, Act.put, List.setIfInBounds_toArray, List.set_cons_zero, List.set_cons_succ]
  have b2 := b2.keep SD (by simp)
  have bR := bR.keep SD (by simp)
  have b5 := b5.keep SD (by simp)
  have hF := hF.step SD (fun x e _ => by cases e)
  generalize w1.drew = w2 at *
  have hqO := hO1.o.each _ hmem
  have hqW : RdW w2 qa qn qc (qrs.map Rw.D) := (RO.of hqO).rd rfl
  have hx0 : (qrs.map Rw.D)[0]? = some ((qrs.map Rw.D).getD 0 []) := by rw [List.getD_eq_getElem?_getD, List.getElem?_eq_getElem hne]; rfl
  have hfg := hK.go _ hx0
  have hfl := (hK.ne _ (List.mem_of_getElem? hx0)).2
  refine wpAnyZ_oneB 8 rfl (by kernel_rfl) (fun K hK' => ?_)
  go_simp
  go_at_call 78
  refine (firstIn_any qow g room qa qn qc (qrs.map Rw.D) w2 hqW hne hfg hfl hroom.2).mono ?_
  rintro e w3 ⟨rfl, y3⟩
  dsimp only
  rw [← hFI]
  clear hFI
  have hO3 := hO1.keep y3
  have SX3 := hO3.o.cell hq
  refine hK' _ _ (fun _ => SX3) ?_
  try simp only [List.getElem_toArray, List.getElem_cons_succ, List.getElem_cons_zero, Act.put, List.setIfInBounds_toArray, List.set_cons_zero, List.set_cons_succ]
  have b23 := b2.keep y3 (by simp)
  have bR3 := bR.keep y3 (by simp)
  have b53 := b5.keep y3 (by simp)
  have hF3 := hF.step y3 (fun x e _ => by cases e)
  have hg5q : g5 ≠ gq := by omega
  have hg5n : ∀ x, Qbl (.slice (some ⟨gq, 0, none⟩) 7 7) qs x → x ≠ g5 := fun x hx => by have := hold x hx; omega
  refine wpAnyZ_oneB 10 rfl (by kernel_rfl) (fun K hK' => ?_)
  refine step_stC _ rfl _ _ _ rfl g5 3 28 _ #[.int .i64 cr, .int .i64 (ch : Int), .int .i64 ma, .int .i64 qow, .int .i64 2046] (.int .i64 qow) rfl rfl b53 (stc_int _ _ _) (by show 3 < 5; decide) rfl ?_
  intro w4 b54 u4
  have hO4 := hO3.fz (Fz.of1 u4) (fun x hx e => hg5n x hx e)
  have SX4 := hO4.o.cell hq
  refine hK' _ _ (fun _ => SX4) ?_
  try simp only [List.getElem_toArray, List.getElem_cons_succ, List.getElem_cons_zero, Act.put, List.setIfInBounds_toArray, List.set_cons_zero, List.set_cons_succ]
  refine wpAnyZ_take [] 11 (.pointer (some ⟨g5, 4, none⟩)) rfl (by kernel_rfl) (fun _ _ _ h => h) SX4 rfl (by rintro wz ⟨y0, y1, y2⟩; go_simp) ?_
  try simp only [List.getElem_toArray, List.getElem_cons_succ, List.getElem_cons_zero, Act.put, List.setIfInBounds_toArray, List.set_cons_zero, List.set_cons_succ]
  refine wpAnyZ_oneB 12 rfl (by kernel_rfl) (fun K hK' => ?_)
  refine step_stC _ rfl _ _ _ rfl g5 4 28 _ #[.int .i64 cr, .int .i64 (ch : Int), .int .i64 ma, .int .i64 qow, .int .i64 FI] (.int .i64 FI) rfl rfl b54 (stc_int _ _ _) (by show 4 < 5; decide) rfl ?_
  intro w5 b55 u5
  have hO5 := hO4.fz (Fz.of1 u5) (fun x hx e => hg5n x hx e)
  have SX5 := hO5.o.cell hq
  refine hK' _ _ (fun _ => SX5) ?_
  try simp only [List.getElem_toArray, List.getElem_cons_succ, List.getElem_cons_zero, Act.put, List.setIfInBounds_toArray, List.set_cons_zero, List.set_cons_succ]
  refine wpAnyZ_doneB (by kernel_rfl) ?_ _
  have hF5 := (hF3.step u4 (fun x e hl => by have e := Option.some.inj e; omega)).step u5 (fun x e hl => by have e := Option.some.inj e; omega)
  have b25 := (b23.keep u4 (fun e => by have e := Option.some.inj e; omega)).keep u5 (fun e => by have e := Option.some.inj e; omega)
  have bR5 := (bR3.keep u4 (fun e => by have e := Option.some.inj e; omega)).keep u5 (fun e => by have e := Option.some.inj e; omega)
  refine HK2.out _ _ ?_
  clear HK2
  refine wp_seq_k fun K3 hK3 => ?_
  have HK3 : Hid _ := hK3
  clear hK3
  have hjl : ch < qs.length := by omega
  have hset : qs.set ch ⟨qow, qa, qn, qc, (g : Int), qrs⟩ = qs := by
    obtain ⟨h1, h2⟩ := List.getElem?_eq_some_iff.1 hq
    rw [← h2]; exact List.set_getElem_self h1
  have hT5 : TD w5 w5 lo gq 7 7 ch qs ⟨qow, qa, qn, qc, (g : Int), qrs⟩ ⟨qow, qa, qn, qc, (g : Int), qrs⟩ := ⟨by rw [hset]; exact hO5.o.own, (hO5.o.each _ hmem).wk, Fz.refl _ _, fun x hx => .inl hx⟩
  obtain ⟨OW2, hOW2⟩ : ∃ z : Int, z = (qow + 1) % 256 := ⟨_, rfl⟩
  have HOW2 : Hid (OW2 = (qow + 1) % 256) := hOW2
  rw [← hOW2] at hV
  clear hOW2
  obtain ⟨c0, c1, c2⟩ := SX5
  have s0 : True := trivial
  go_wp2_with (first
    | (go_at_call 68; have _t := s0; clear s0; refine (fbehind_any qow OW2 HOW2 hOW0 hOW1 _).mono ?_; rintro e w' ⟨rfl, hw'⟩; have hw' := hw'.symm; subst hw'; have s1 : True := trivial)
    | (have _t := s1; clear s1; refine wpList_stT _ rfl _ _ _ rfl hT5 hjl 0 (by decide) (.int .i64 OW2) ⟨OW2, qa, qn, qc, (g : Int), qrs⟩ rfl rfl (stc_int _ _ _) rfl hT5.oo (fun x hx => .inl hx) ?_; intro w6 hT6 u6))
  have b56 := b55.keep u6 (fun e => by have e := Option.some.inj e; omega)
  have b26 := b25.keep u6 (fun e => by have e := Option.some.inj e; omega)
  have bR6 := bR5.keep u6 (fun e => by have e := Option.some.inj e; omega)
  have hF6 := hF5.step u6 (fun x e _ => .inr (Option.some.inj e).symm)
  clear c0 c1 c2
  refine HK3.out _ _ ?_
  clear HK3
  refine wp_seq_k fun K4 hK4 => ?_
  have HK4 : Hid _ := hK4
  clear hK4
  obtain ⟨x0, x1, x2, x3, x4⟩ := BxS.cell5 b56
  obtain ⟨TU', hTU'⟩ : ∃ t : Nat, (ch + 1) % 7 = t := ⟨_, rfl⟩
  have hw1 : IntKind.i64.wrap ((ch : Int) + 1) = (ch : Int) + 1 := wrap_i64_in _ (by omega) (by omega)
  have ht1 : ((ch : Int) + 1).tmod 7 = (TU' : Int) := by rw [Int.tmod_eq_emod_of_nonneg (by omega)]; omega
  have ht2 : ((ch : Int) + 1) % 7 = (TU' : Int) := by omega
  rw [hTU'] at hTU
  clear hTU'
  have s0 : True := trivial
  go_wp2_with (have _t := s0; clear s0; refine wpList_stC _ rfl _ _ _ rfl g2 3 38 _ #[.int .i64 cr, .int .i64 sz, .int .i64 MA, .int .i64 (TU' : Int), .slice (some ⟨gq, 0, none⟩) 7 7] (.int .i64 (TU' : Int)) rfl rfl b26 (stc_int _ _ _) (by show 3 < 5; decide) rfl ?_; intro w7 b27 u7)
  have b57 := b56.keep u7 (fun e => by have e := Option.some.inj e; omega)
  have bR7 := bR6.keep u7 (fun e => by have e := Option.some.inj e; omega)
  have hF7 := hF6.step u7 (fun x e _ => .inl (Option.some.inj e).symm)
  clear x0 x1 x2 x3 x4
  refine HK4.out _ _ ?_
  clear HK4
  refine wp_seq_k fun K5 hK5 => ?_
  have HK5 : Hid _ := hK5
  clear hK5
  have SD7 := grown_drew w7 none
  have SX7 : BxS w7.drew g5 28 #[.int .i64 cr, .int .i64 (ch : Int), .int .i64 ma, .int .i64 qow, .int .i64 FI] := b57.keep SD7 (by simp)
  refine wp_regionL (fun wz => BxS wz g5 28 #[.int .i64 cr, .int .i64 (ch : Int), .int .i64 ma, .int .i64 qow, .int .i64 FI]) [] #[false, false, false, false, false, false] rfl (by kernel_rfl) ?_
  refine wpAnyZ_take [] 0 (.agg #[.int .i64 cr, .int .i64 (ch : Int), .int .i64 ma, .int .i64 qow, .int .i64 FI]) rfl (by kernel_rfl) (fun _ _ _ h => h) SX7 rfl (by intro wz hz; obtain ⟨x0, x1, x2, x3, x4⟩ := BxS.cell5 hz; go_simp) ?_
  try simp only [List.getElem_toArray, List.getElem_cons_succ, List.getElem_cons_zero, Act.put, List.setIfInBounds_toArray, List.set_cons_zero, List.set_cons_succ]
  refine wpAnyZ_take [] 1 (.pointer (some ⟨gq, ch * 3, none⟩)) rfl (by kernel_rfl) (fun _ _ _ h => h) SX7 rfl (by intro wz hz; obtain ⟨x0, x1, x2, x3, x4⟩ := BxS.cell5 hz; go_simp) ?_
  try simp only [List.getElem_toArray, List.getElem_cons_succ, List.getElem_cons_zero, Act.put, List.setIfInBounds_toArray, List.set_cons_zero, List.set_cons_succ]
  refine wpAnyZ_take [] 2 (.int .i64 (room : Int)) rfl (by kernel_rfl) (fun _ _ _ h => h) SX7 rfl (by intro wz hz; obtain ⟨x0, x1, x2, x3, x4⟩ := BxS.cell5 hz; go_simp) ?_
  try simp only [List.getElem_toArray, List.getElem_cons_succ, List.getElem_cons_zero, Act.put, List.setIfInBounds_toArray, List.set_cons_zero, List.set_cons_succ]
  have b28 := b27.keep SD7 (by simp)
  have bR8 := bR7.keep SD7 (by simp)
  have hF8 := hF7.step SD7 (fun x e _ => by cases e)
  have hlen5 := hO5.o.each _ hmem
  have hQlo : ∀ x, Ofo qa qrs x → x < w0.heap.size ∧ lo ≤ x := fun x hx => by
    have h1 : Qbl (.slice (some ⟨gq, 0, none⟩) 7 7) qs x := .inr ⟨_, hmem, ofo_of hlen5 hx⟩
    exact ⟨hold x h1, (hO5.o.hi h1).2⟩
  have hrow7 := (hT6.row.kept u7 (.inr (fun e => by have e : gq = g2 := Option.some.inj e; omega))).kept SD7 (.inr (by simp [Value.ownBlock]))
  have hoo7 := (hT6.oo.fz (Fz.of1 u7) (fun x hx e => by have := (hQlo x hx).2; omega)).keep SD7
  have h05 : w5.heap.size ≤ w7.drew.heap.size := Nat.le_trans u6.size (Nat.le_trans u7.size SD7.size)
  have h5g : g5 < w5.heap.size := b55.lt
  have h5R : gR < w5.heap.size := bR5.lt
  have h0s := hF5.size
  generalize w7.drew = w8 at *
  have hset2 : (qs.set ch ⟨OW2, qa, qn, qc, (g : Int), qrs⟩)[ch]? = some ⟨OW2, qa, qn, qc, (g : Int), qrs⟩ := List.getElem?_set_self hjl
  refine wpAnyZ_oneB 3 rfl (by kernel_rfl) (fun K hK' => ?_)
  go_simp
  go_at_call 79
  refine (takeData_any w8 lo gq 7 7 ch room g (qs.set ch ⟨OW2, qa, qn, qc, (g : Int), qrs⟩) ⟨OW2, qa, qn, qc, (g : Int), qrs⟩ hset2 hrow7 hoo7 (by omega) rfl hroom DA TP TG hK).mono ?_
  rintro e w9 ⟨ya, yc, q2, rfl, hA, hT9, hq2o, hq2g, hq2r, hq2n⟩
  dsimp only
  have b59 := SX7.fz hT9.fz (by omega)
  have b29 := b28.fz hT9.fz (by omega)
  have bR9 := bR8.fz hT9.fz (by omega)
  refine hK' _ _ (fun _ => b59) ?_
  try simp only [List.getElem_toArray, List.getElem_cons_succ, List.getElem_cons_zero, Act.put, List.setIfInBounds_toArray, List.set_cons_zero, List.set_cons_succ]
  refine wpAnyZ_oneB 4 rfl (by kernel_rfl) (fun K hK' => ?_)
  refine step_stX _ rfl 28 _ _ rfl gR _ #[.int .i64 cr, .int .i64 (ch : Int), .int .i64 ma, .int .i64 qow, .int .i64 FI] rfl rfl bR9 i5 rfl (by simp [Value.oneCell']) ?_
  intro w10 bR10 u10
  have b510 := b59.keep u10 (fun e => by have e := Option.some.inj e; omega)
  refine hK' _ _ (fun _ => b510) ?_
  try simp only [List.getElem_toArray, List.getElem_cons_succ, List.getElem_cons_zero, Act.put, List.setIfInBounds_toArray, List.set_cons_zero, List.set_cons_succ]
  refine wpAnyZ_take [] 5 (.slice ya room yc) rfl (by kernel_rfl) (fun _ _ _ h => h) b510 rfl (by intro wz hz; obtain ⟨x0, x1, x2, x3, x4⟩ := BxS.cell5 hz; go_simp) ?_
  try simp only [List.getElem_toArray, List.getElem_cons_succ, List.getElem_cons_zero, Act.put, List.setIfInBounds_toArray, List.set_cons_zero, List.set_cons_succ]
  refine wpAnyZ_doneB (by kernel_rfl) ?_ _
  refine HK5.out _ _ ?_
  clear HK5
  have hya : ∀ x, (Value.slice ya room yc).ownBlock = some x → w8.heap.size ≤ x := hA.new
  have hF10 : Fz (fun x => x = g2 ∨ x = gq) w0 w10 := (hF8.trans hT9.fz (fun i _ e => .inr e)).step u10 (fun x e hl => by have e := Option.some.inj e; omega)
  have hG : Fz (fun x => x = g2 ∨ x = gq ∨ x = gR) w5 w10 := (((((Fz.refl _ w5).step u6 (fun x e _ => .inr (.inl (Option.some.inj e).symm))).step u7 (fun x e _ => .inl (Option.some.inj e).symm)).step SD7 (fun x e _ => by cases e)).trans hT9.fz (fun i _ e => .inr (.inl e))).step u10 (fun x e _ => .inr (.inr (Option.some.inj e).symm))
  have hbl2 : ∀ x, Ofo q2.a q2.rs x → Ofo qa qrs x ∨ w8.heap.size ≤ x := hT9.bl
  have hoth : ∀ i r, i ≠ ch → qs[i]? = some r → ∀ x, Ofr r.v r.rs x → x < w0.heap.size ∧ lo ≤ x ∧ x ≠ gq := fun i r hi hr x hx => by
    have hrm := List.mem_of_getElem? hr
    have h1 : Qbl (.slice (some ⟨gq, 0, none⟩) 7 7) qs x := .inr ⟨r, hrm, hx⟩
    exact ⟨hold x h1, (hO5.o.hi h1).2, hO5.o.row_ne (hO5.o.each r hrm) hx⟩
  have hWq : WkQ w10 lo (some ⟨gq, 0, none⟩) 7 7 (qs.set ch q2) := by
    refine WkQ.ofTD hO5.o hch hG (fun i r hi hr x hx => ?_) ?_ ?_ (fun i r hi hr x hx e => ?_)
    · obtain ⟨h1, h2', h3⟩ := hoth i r hi hr x hx
      rintro (e | e | e) <;> omega
    · have := hT9.row.kept u10 (.inr (fun e => by have e : gq = gR := Option.some.inj e; omega))
      rwa [List.set_set] at this
    · refine hT9.oo.fz (Fz.of1 u10) (fun x hx e => ?_)
      rcases hbl2 x hx with h1 | h1
      · have := (hQlo x h1).1; omega
      · omega
    · rcases hbl2 x e with h1 | h1
      · exact hO5.o.sep hi hr hq x hx (ofo_of hlen5 h1)
      · have := (hoth i r hi hr x hx).1; omega
  have hdat : (qs.set ch q2).map Qw.d = V := by
    rw [List.map_set, hO5.d, hV]
    have : q2.d = ⟨OW2, (TG : Int), TP⟩ := by unfold Qw.d; rw [hq2o, hq2g, hq2r]
    rw [this]
  have hAf : Ans w10 w0.heap.size ya room yc DA := (hA.kept u10 (.inr (fun e => by have := hya _ e; omega))).wide (by omega)
  have hWb : ∀ x, Wbl (.slice (some ⟨gq, 0, none⟩) 7 7) (qs.set ch q2) x → (Value.slice ya room yc).ownBlock ≠ some x := fun x hx e => by
    have hx8 := hya x e
    rcases hx with hx | ⟨r, hr, hx⟩
    · have hx : gq = x := Option.some.inj hx
      omega
    · rcases List.mem_or_eq_of_mem_set hr with h1 | h1
      · obtain ⟨i, hi⟩ := List.mem_iff_getElem?.1 h1
        have h3 : Qbl (.slice (some ⟨gq, 0, none⟩) 7 7) qs x := .inr ⟨r, h1, ofo_of (hO5.o.each r h1) hx⟩
        have := hold x h3
        omega
      · subst h1; exact hq2n x hx e
  have b210 := b29.keep u10 (fun e => by have e := Option.some.inj e; omega)
  subst hTU
  refine wp_ret ?_
  refine bodyPost_ret (results_cell1t rfl _ _ _ ⟨gR, 0, none⟩ _ (.slice ya room yc) rfl (BxS.load (t := 28) bR10 Try.underlying28 i5) rfl) rfl ?_
  exact ⟨ya, yc, qs.set ch q2, rfl, hAf, b210, ⟨hWq, hdat⟩, hWb, hF10⟩

/-- what the next frame of a sender is, and what stays -/
structure TF (room tu : Nat) (ma : Int) (Qs : List Qd) (CH OW FI MA TU : Int) (DA : List Nat) (V : List Qd) : Prop where
  p : ((chF tu Qs 7 = 7 ∧ 7 = CH ∧ 0 = OW ∧ 2046 = FI ∧ (ma + 1) % 256 = MA ∧ (tu : Int) = TU ∧ List.replicate room 0 = DA ∧ Qs = V) ∨
  ∃ (ch g TG : Nat) (q : Qd) (TP : List (List Nat)), chF tu Qs 7 = ch ∧ ch < 7 ∧ Qs[ch]? = some q ∧ q.go = (g : Int) ∧ (0 ≤ q.ow ∧ q.ow ≤ 255) ∧ 0 < q.P.length ∧ TK room DA TP TG [] q.P g ∧ (ch : Int) = CH ∧ q.ow = OW ∧ ((fiT q.P g room : Nat) : Int) = FI ∧ (ma + 1) % 256 = MA ∧ (((ch + 1) % 7 : Nat) : Int) = TU ∧ Qs.set ch ⟨(q.ow + 1) % 256, (TG : Int), TP⟩ = V)
theorem TF.fill {room tu : Nat} {ma : Int} {Qs : List Qd} (h : chF tu Qs 7 = 7) : TF room tu ma Qs 7 0 2046 ((ma + 1) % 256) (tu : Int) (List.replicate room 0) Qs := ⟨Or.inl ⟨h, rfl, rfl, rfl, rfl, rfl, rfl, rfl⟩⟩
theorem TF.take {room tu : Nat} {ma : Int} {Qs : List Qd} (ch g TG : Nat) (q : Qd) (DA : List Nat) (TP : List (List Nat)) (h : chF tu Qs 7 = ch) (hch : ch < 7) (hq : Qs[ch]? = some q) (hg : q.go = (g : Int)) (h0 : 0 ≤ q.ow ∧ q.ow ≤ 255) (hne : 0 < q.P.length) (hK : TK room DA TP TG [] q.P g) : TF room tu ma Qs (ch : Int) q.ow ((fiT q.P g room : Nat) : Int) ((ma + 1) % 256) (((ch + 1) % 7 : Nat) : Int) DA (Qs.set ch ⟨(q.ow + 1) % 256, (TG : Int), TP⟩) := ⟨Or.inr ⟨ch, g, TG, q, TP, h, hch, hq, hg, h0, hne, hK, rfl, rfl, rfl, rfl, rfl, rfl⟩⟩
theorem TF.inv {room tu : Nat} {ma : Int} {Qs : List Qd} {CH OW FI MA TU : Int} {DA : List Nat} {V : List Qd} (h : TF room tu ma Qs CH OW FI MA TU DA V) :
    (chF tu Qs 7 = 7 ∧ 7 = CH ∧ 0 = OW ∧ 2046 = FI ∧ (ma + 1) % 256 = MA ∧ (tu : Int) = TU ∧ List.replicate room 0 = DA ∧ Qs = V) ∨
    ∃ (ch g TG : Nat) (q : Qd) (TP : List (List Nat)), chF tu Qs 7 = ch ∧ ch < 7 ∧ Qs[ch]? = some q ∧ q.go = (g : Int) ∧ (0 ≤ q.ow ∧ q.ow ≤ 255) ∧ 0 < q.P.length ∧ TK room DA TP TG [] q.P g ∧ (ch : Int) = CH ∧ q.ow = OW ∧ ((fiT q.P g room : Nat) : Int) = FI ∧ (ma + 1) % 256 = MA ∧ (((ch + 1) % 7 : Nat) : Int) = TU ∧ Qs.set ch ⟨(q.ow + 1) % 256, (TG : Int), TP⟩ = V := h.p

set_option maxHeartbeats 32000000 in
theorem tf_t3 {u1 u6 u7 u8 u9 u10 u11 u12 u13 u14 u15 u16 u17 u18 u19 u20 u21 u22 u23 u24 u25 u26 u27 u28 u29 u30 u31 u32 u33 u34 u35 u36 u37 u38 u39 u40 u41 u42 u43 u44 u45 u46 u47 u48 u49 u50 u51 u52 u53 u54 u55 u56 u57 u58 u59 u60 u61 u62 u63 u64 u65 u66 u67 u68 u69 u70 u71 u72 u73 u74 u75 : Value} (w0 w : World) (lo g2 gR g5 gq room : Nat) (cr sz ma CH OW FI MA TU : Int) (tu : Nat) (DA : List Nat) (qs : List Qw) (Qs V : List Qd) (b2 : BxS w g2 38 #[.int .i64 cr, .int .i64 sz, .int .i64 ma, .int .i64 (tu : Int), .slice (some ⟨gq, 0, none⟩) 7 7]) (bR : BxS w gR 28 #[.int .i64 0, .int .i64 0, .int .i64 0, .int .i64 0, .int .i64 0]) (b5 : BxS w g5 28 #[.int .i64 cr, .int .i64 CH, .int .i64 ma, .int .i64 0, .int .i64 2046]) (hO : OwS w lo (some ⟨gq, 0, none⟩) 7 7 qs Qs) (h2 : g2 < lo ∧ lo ≤ w0.heap.size ∧ w0.heap.size ≤ gR ∧ w0.heap.size ≤ g5 ∧ gR ≠ g5) (hF : Fz (fun x => x = g2 ∨ x = gq) w0 w) (hold : ∀ x, Qbl (.slice (some ⟨gq, 0, none⟩) 7 7) qs x → x < w0.heap.size) (hroom : 1 ≤ room ∧ room ≤ 60000) (hma : 0 ≤ ma ∧ ma ≤ 255) (hTF : TF room tu ma Qs CH OW FI MA TU DA V) :
    Code.wp Try.prog (tailR 3 (Try.f61.body.getD .skip)) (bodyPost Try.prog Try.f61 (fun e w' => ∃ (ya : Option Addr) (yc : Nat) (qs' : List Qw), e = .returned (.tuple #[.agg #[.int .i64 cr, .int .i64 CH, .int .i64 ma, .int .i64 OW, .int .i64 FI], .slice ya room yc]) ∧ Ans w' w0.heap.size ya room yc DA ∧ BxS w' g2 38 #[.int .i64 cr, .int .i64 sz, .int .i64 MA, .int .i64 TU, .slice (some ⟨gq, 0, none⟩) 7 7] ∧ WkS w' lo (some ⟨gq, 0, none⟩) 7 7 qs' V ∧ (∀ x, Wbl (.slice (some ⟨gq, 0, none⟩) 7 7) qs' x → (Value.slice ya room yc).ownBlock ≠ some x) ∧ Fz (fun x => x = g2 ∨ x = gq) w0 w')) (Act.mk (List.toArray ((.pointer (some ⟨g2, 0, none⟩)) :: u1 :: (.pointer (some ⟨gR, 0, none⟩)) :: (.slice none 0 0) :: (.int .i64 (room : Int)) :: (.pointer (some ⟨g5, 0, none⟩)) :: u6 :: u7 :: u8 :: u9 :: u10 :: u11 :: u12 :: u13 :: u14 :: u15 :: u16 :: u17 :: u18 :: u19 :: u20 :: u21 :: u22 :: u23 :: u24 :: u25 :: u26 :: u27 :: u28 :: u29 :: u30 :: u31 :: u32 :: u33 :: u34 :: u35 :: u36 :: u37 :: u38 :: u39 :: u40 :: u41 :: u42 :: u43 :: u44 :: u45 :: u46 :: u47 :: u48 :: u49 :: u50 :: u51 :: u52 :: u53 :: u54 :: u55 :: u56 :: u57 :: u58 :: u59 :: u60 :: u61 :: u62 :: u63 :: u64 :: u65 :: u66 :: u67 :: u68 :: u69 :: u70 :: u71 :: u72 :: u73 :: u74 :: u75 :: [])) []) w := by
  conv => enter [2]; whnf
  have i5 := Try.info_he
  have b2l := b2.lt
  have bRl := bR.lt
  have b5l := b5.lt
  have hgqr := hold gq (.inl rfl)
  have hgqlo := (hO.o.hi (x := gq) (.inl rfl)).2
  obtain ⟨MA', hMA'⟩ : ∃ z : Int, z = (ma + 1) % 256 := ⟨_, rfl⟩
  have HMA : Hid (MA' = (ma + 1) % 256) := hMA'
  have hMA : MA = MA' := by rw [hMA']; rcases hTF.inv with ⟨h, rfl, rfl, rfl, rfl, rfl, rfl, rfl⟩ | ⟨ch, g, TG, q, TP, h, hch, hq, hg, h0, hne, hK, rfl, rfl, rfl, rfl, rfl, rfl⟩ <;> rfl
  clear hMA'
  refine wp_seq_k fun K1 hK1 => ?_
  have HK1 : Hid _ := hK1
  clear hK1
  obtain ⟨z0, z1, z2, z3, z4⟩ := BxS.cell5 b2
  have s0 : True := trivial
  go_wp2_with (first
    | (go_at_call 68; have _t := s0; clear s0; refine (fbehind_any ma MA' HMA hma.1 hma.2 _).mono ?_; rintro e w' ⟨rfl, hw'⟩; have hw' := hw'.symm; subst hw'; have s1 : True := trivial)
    | (have _t := s1; clear s1; refine wpList_stC _ rfl _ _ _ rfl g2 2 38 _ #[.int .i64 cr, .int .i64 sz, .int .i64 MA', .int .i64 (tu : Int), .slice (some ⟨gq, 0, none⟩) 7 7] (.int .i64 MA') rfl rfl b2 (stc_int _ _ _) (by show 2 < 5; decide) rfl ?_; intro w1 b21 v1))
  clear z0 z1 z2 z3 z4
  have b51 := b5.keep v1 (fun e => by have e := Option.some.inj e; omega)
  have bR1 := bR.keep v1 (fun e => by have e := Option.some.inj e; omega)
  have hO1 := hO.fz (Fz.of1 v1) (fun x hx e => by have := (hO.o.hi hx).2; omega)
  have hF1 := hF.step v1 (fun x e _ => .inl (Option.some.inj e).symm)
  have hs1 := v1.size
  refine HK1.out _ _ ?_
  clear HK1
  refine wp_seq_k fun K2 hK2 => ?_
  have HK2 : Hid _ := hK2
  clear hK2
  have HTF : Hid _ := hTF
  clear hTF
  have HM2 : Hid _ := hMA
  clear hMA
  refine wp_seq_k fun K3 hK3 => ?_
  have HK3 : Hid _ := hK3
  clear hK3
  by_cases h7 : CH = 7
  · subst h7
    obtain ⟨y0, y1, y2, y3, y4⟩ := BxS.cell5 b51
    go_wp2
    clear y0 y1 y2 y3 y4
    refine HK3.out _ _ ?_
    clear HK3
    refine wp_cond_true rfl ?_
    refine wp_seq_k fun K3 hK3 => ?_
    have HK3 : Hid _ := hK3
    clear hK3
    have SD := grown_drew w1 none
    have SX : BxS w1.drew g5 28 #[.int .i64 cr, .int .i64 7, .int .i64 ma, .int .i64 0, .int .i64 2046] := b51.keep SD (by simp)
    refine wp_regionL (fun wz => BxS wz g5 28 #[.int .i64 cr, .int .i64 7, .int .i64 ma, .int .i64 0, .int .i64 2046]) [] #[false, false, false, false, false] rfl (by kernel_rfl) ?_
    refine wpAnyZ_take [] 0 (.agg #[.int .i64 cr, .int .i64 7, .int .i64 ma, .int .i64 0, .int .i64 2046]) rfl (by kernel_rfl) (fun _ _ _ h => h) SX rfl (by intro wz hz; obtain ⟨x0, x1, x2, x3, x4⟩ := BxS.cell5 hz; go_simp) ?_
    try simp only [List.getElem_toArray, List.getElem_cons_succ, List.getElem_cons_zero, Act.put, List.setIfInBounds_toArray, List.set_cons_zero, List.set_cons_succ]
    refine wpAnyZ_take [] 1 (.int .i64 (room : Int)) rfl (by kernel_rfl) (fun _ _ _ h => h) SX rfl (by intro wz hz; obtain ⟨x0, x1, x2, x3, x4⟩ := BxS.cell5 hz; go_simp) ?_
    try simp only [List.getElem_toArray, List.getElem_cons_succ, List.getElem_cons_zero, Act.put, List.setIfInBounds_toArray, List.set_cons_zero, List.set_cons_succ]
    have b22 := b21.keep SD (by simp)
    have bR2 := bR1.keep SD (by simp)
    have hO2 := hO1.keep SD
    have hF2 := hF1.step SD (fun x e _ => by cases e)
    have hs2 := SD.size
    generalize w1.drew = w2 at *
    have hTF := HTF.out
    have hMA := HM2.out
    have hall : OW = 0 ∧ FI = 2046 ∧ TU = (tu : Int) ∧ DA = List.replicate room 0 ∧ V = Qs := by
      generalize hc : (7 : Int) = c7 at hTF
      rcases hTF.inv with ⟨h, rfl, rfl, rfl, rfl, rfl, rfl, rfl⟩ | ⟨ch, g, TG, q, TP, h, hch, hq, hg, h0, hne, hK, rfl, rfl, rfl, rfl, rfl, rfl⟩
      · exact ⟨rfl, rfl, rfl, rfl, rfl⟩
      · omega
    obtain ⟨rfl, rfl, rfl, rfl, rfl⟩ := hall
    subst hMA
    clear hTF HTF HM2
    refine wpAnyZ_twoB 2 3 rfl rfl (by kernel_rfl) (fun K hK' => ?_) (fun K hK' => ?_)
    · refine step_mkB _ rfl _ _ rfl room rfl rfl (by omega) ?_
      intro w3 hA3 v3
      have b53 := SX.keep v3 (by simp)
      refine hK' _ _ (fun _ => b53) ?_
      try simp only [List.getElem_toArray, List.getElem_cons_succ, List.getElem_cons_zero, Act.put, List.setIfInBounds_toArray, List.set_cons_zero, List.set_cons_succ]
      refine wpAnyZ_oneB 3 rfl (by kernel_rfl) (fun K hK' => ?_)
      refine step_stX _ rfl 28 _ _ rfl gR _ #[.int .i64 cr, .int .i64 7, .int .i64 ma, .int .i64 0, .int .i64 2046] rfl rfl (bR2.keep v3 (by simp)) i5 rfl (by simp [Value.oneCell']) ?_
      intro w4 bRz v4
      have b5z := b53.keep v4 (fun e => by have e := Option.some.inj e; omega)
      refine hK' _ _ (fun _ => b5z) ?_
      try simp only [List.getElem_toArray, List.getElem_cons_succ, List.getElem_cons_zero, Act.put, List.setIfInBounds_toArray, List.set_cons_zero, List.set_cons_succ]
      have hAz := hA3.kept v4 (.inr (fun e => by have e : w2.heap.size = gR := Option.some.inj e; omega))
      have b2z := (b22.keep v3 (by simp)).keep v4 (fun e => by have e := Option.some.inj e; omega)
      have hOz := (hO2.keep v3).fz (Fz.of1 v4) (fun x hx e => by have := hold x hx; omega)
      have hFz := (hF2.step v3 (fun x e _ => by cases e)).step v4 (fun x e hl => by have e := Option.some.inj e; omega)
      generalize hgy : w2.heap.size = gy at *
      refine wpAnyZ_take [] 4 (.slice (some ⟨gy, 0, none⟩) room room) rfl (by kernel_rfl) (fun _ _ _ h => h) b5z rfl (by intro wz hz; obtain ⟨x0, x1, x2, x3, x4⟩ := BxS.cell5 hz; go_simp) ?_
      try simp only [List.getElem_toArray, List.getElem_cons_succ, List.getElem_cons_zero, Act.put, List.setIfInBounds_toArray, List.set_cons_zero, List.set_cons_succ]
      refine wpAnyZ_doneB (by kernel_rfl) ?_ _
      refine HK3.out _ _ ?_
      clear HK3
      refine wp_ret ?_
      simp only [Exit.then]
      refine bodyPost_ret (results_cell1t rfl _ _ _ ⟨gR, 0, none⟩ _ (.slice (some ⟨gy, 0, none⟩) room room) rfl (BxS.load (t := 28) bRz Try.underlying28 i5) rfl) rfl ?_
      refine ⟨_, _, qs, rfl, hAz.wide (by omega), b2z, hOz.wk, fun x hx e => ?_, hFz⟩
      have h1 := hold x (wbl_of hOz.o hx)
      have h2 := hAz.new x e
      omega
    · refine step_stX _ rfl 28 _ _ rfl gR _ #[.int .i64 cr, .int .i64 7, .int .i64 ma, .int .i64 0, .int .i64 2046] rfl rfl bR2 i5 rfl (by simp [Value.oneCell']) ?_
      intro w3 bR3 v3
      have b53 := SX.keep v3 (fun e => by have e := Option.some.inj e; omega)
      refine hK' _ _ (fun _ => b53) ?_
      try simp only [List.getElem_toArray, List.getElem_cons_succ, List.getElem_cons_zero, Act.put, List.setIfInBounds_toArray, List.set_cons_zero, List.set_cons_succ]
      refine wpAnyZ_oneB 2 rfl (by kernel_rfl) (fun K hK' => ?_)
      refine step_mkB _ rfl _ _ rfl room rfl rfl (by omega) ?_
      intro w4 hAz v4
      have b5z := b53.keep v4 (by simp)
      have bRz := bR3.keep v4 (by simp)
      have hs3 := v3.size
      refine hK' _ _ (fun _ => b5z) ?_
      try simp only [List.getElem_toArray, List.getElem_cons_succ, List.getElem_cons_zero, Act.put, List.setIfInBounds_toArray, List.set_cons_zero, List.set_cons_succ]
      have b2z := (b22.keep v3 (fun e => by have e := Option.some.inj e; omega)).keep v4 (by simp)
      have hOz := (hO2.fz (Fz.of1 v3) (fun x hx e => by have := hold x hx; omega)).keep v4
      have hFz := (hF2.step v3 (fun x e hl => by have e := Option.some.inj e; omega)).step v4 (fun x e _ => by cases e)
      generalize hgy : w3.heap.size = gy at *
      refine wpAnyZ_take [] 4 (.slice (some ⟨gy, 0, none⟩) room room) rfl (by kernel_rfl) (fun _ _ _ h => h) b5z rfl (by intro wz hz; obtain ⟨x0, x1, x2, x3, x4⟩ := BxS.cell5 hz; go_simp) ?_
      try simp only [List.getElem_toArray, List.getElem_cons_succ, List.getElem_cons_zero, Act.put, List.setIfInBounds_toArray, List.set_cons_zero, List.set_cons_succ]
      refine wpAnyZ_doneB (by kernel_rfl) ?_ _
      refine HK3.out _ _ ?_
      clear HK3
      refine wp_ret ?_
      simp only [Exit.then]
      refine bodyPost_ret (results_cell1t rfl _ _ _ ⟨gR, 0, none⟩ _ (.slice (some ⟨gy, 0, none⟩) room room) rfl (BxS.load (t := 28) bRz Try.underlying28 i5) rfl) rfl ?_
      refine ⟨_, _, qs, rfl, hAz.wide (by omega), b2z, hOz.wk, fun x hx e => ?_, hFz⟩
      have h1 := hold x (wbl_of hOz.o hx)
      have h2 := hAz.new x e
      omega
  · obtain ⟨y0, y1, y2, y3, y4⟩ := BxS.cell5 b51
    go_wp2
    clear y0 y1 y2 y3 y4
    refine HK3.out _ _ ?_
    clear HK3
    refine wp_cond_false (by show Value.bool (CH == 7) = _; rw [(by simp [h7] : (CH == 7) = false)]) ?_
    refine wp_skip ?_
    refine HK2.out _ _ ?_
    clear HK2
    have hTF := HTF.out
    have hMA := HM2.out
    rcases hTF.inv with ⟨h, rfl, rfl, rfl, rfl, rfl, rfl, rfl⟩ | ⟨ch, g, TG, q, TP, h, hch, hq, hg, h0, hne, hK, rfl, rfl, rfl, rfl, rfl, rfl⟩
    · exact absurd rfl h7
    · skip
      have hd := hO1.d
      rw [← hd, List.getElem?_map] at hq
      obtain ⟨qw, hqw, hqd⟩ := Option.map_eq_some_iff.1 hq
      subst hqd
      exact tf_t6 w0 w1 lo g2 gR g5 gq room cr sz ma MA' _ _ _ _ _ tu ch DA qs Qs _ b21 bR1 b51 hO1 h2 hF1 hold hroom qw g TP TG hch hqw hg ⟨rfl, h0⟩ rfl hMA rfl rfl hne hK rfl

set_option maxHeartbeats 32000000 in
theorem takeFrame_any (w : World) (lo g2 gq room tu : Nat) (cr sz ma CH OW FI MA TU : Int) (DA : List Nat) (qs : List Qw) (Qs V : List Qd) (b2 : BxS w g2 38 #[.int .i64 cr, .int .i64 sz, .int .i64 ma, .int .i64 (tu : Int), .slice (some ⟨gq, 0, none⟩) 7 7]) (hO : OwS w lo (some ⟨gq, 0, none⟩) 7 7 qs Qs) (h2 : g2 < lo) (hlo : lo ≤ w.heap.size) (hsz : sz = (room : Int) + 12) (hroom : 1 ≤ room ∧ room ≤ 60000) (hma : 0 ≤ ma ∧ ma ≤ 255) (htu : tu ≤ 6) (hTF : TF room tu ma Qs CH OW FI MA TU DA V) :
    Calls Try.prog 61 #[.pointer (some ⟨g2, 0, none⟩)] w (fun e w' => ∃ (ya : Option Addr) (yc : Nat) (qs' : List Qw), e = .returned (.tuple #[.agg #[.int .i64 cr, .int .i64 CH, .int .i64 ma, .int .i64 OW, .int .i64 FI], .slice ya room yc]) ∧ Ans w' w.heap.size ya room yc DA ∧ BxS w' g2 38 #[.int .i64 cr, .int .i64 sz, .int .i64 MA, .int .i64 TU, .slice (some ⟨gq, 0, none⟩) 7 7] ∧ WkS w' lo (some ⟨gq, 0, none⟩) 7 7 qs' V ∧ (∀ x, Wbl (.slice (some ⟨gq, 0, none⟩) 7 7) qs' x → (Value.slice ya room yc).ownBlock ≠ some x) ∧ Fz (fun x => x = g2 ∨ x = gq) w w') := by
  have i5 := Try.info_he
  have hCH : ((chF tu Qs 7 : Nat) : Int) = CH := by
    rcases hTF.inv with ⟨h, rfl, rfl, rfl, rfl, rfl, rfl, rfl⟩ | ⟨ch, g, TG, q, TP, h, hch, hq, hg, h0, hne, hK, rfl, rfl, rfl, rfl, rfl, rfl⟩
    · rw [h]; rfl
    · rw [h]
  have HTF : Hid _ := hTF
  clear hTF
  have hold : ∀ x, Qbl (.slice (some ⟨gq, 0, none⟩) 7 7) qs x → x < w.heap.size := fun x hx => (hO.o.hi hx).1
  have hw1 : IntKind.i64.wrap (sz - 12) = (room : Int) := by rw [wrap_i64_in _ (by omega) (by omega)]; omega
  clear hsz
  have HCH : Hid _ := hCH
  clear hCH
  go_enter Try.func61, Try.ntmps61
  refine wp_seq_k fun K1 hK1 => ?_
  have HK1 : Hid _ := hK1
  clear hK1
  go_wp2
  have v0 := World.grownBy_alloc w (.cells #[.int .i64 0, .int .i64 0, .int .i64 0, .int .i64 0, .int .i64 0] 28) none
  have bR := BxS.new w 28 #[.int .i64 0, .int .i64 0, .int .i64 0, .int .i64 0, .int .i64 0]
  have b2 := b2.keep v0 (by simp)
  have hO := hO.keep v0
  have hF : Fz (fun x => x = g2 ∨ x = gq) w _ := (Fz.refl _ w).step v0 (fun x e _ => by cases e)
  have hgR : w.heap.size = w.heap.size := rfl
  generalize w.alloc (.cells #[.int .i64 0, .int .i64 0, .int .i64 0, .int .i64 0, .int .i64 0] 28) = w1 at *
  have hs1 := v0.size
  clear v0
  generalize hgRe : w.heap.size = gR at bR ⊢
  refine HK1.out _ _ ?_
  clear HK1
  refine wp_seq_k fun K2 hK2 => ?_
  have HK2 : Hid _ := hK2
  clear hK2
  obtain ⟨z0, z1, z2, z3, z4⟩ := BxS.cell5 b2
  go_wp2
  clear z0 z1 z2 z3 z4
  refine HK2.out _ _ ?_
  clear HK2
  refine wp_seq_k fun K3 hK3 => ?_
  have HK3 : Hid _ := hK3
  clear hK3
  have SD := grown_drew w1 none
  have SX : BxS w1.drew g2 38 #[.int .i64 cr, .int .i64 sz, .int .i64 ma, .int .i64 (tu : Int), .slice (some ⟨gq, 0, none⟩) 7 7] := b2.keep SD (by simp)
  refine wp_regionL (fun wz => BxS wz g2 38 #[.int .i64 cr, .int .i64 sz, .int .i64 ma, .int .i64 (tu : Int), .slice (some ⟨gq, 0, none⟩) 7 7]) [] #[false, false, false, false, false, false, false, false, false, false, false, false, false, false, false] rfl (by kernel_rfl) ?_
  refine wpAnyZ_take [] 0 (.pointer (some ⟨g2, 0, none⟩)) rfl (by kernel_rfl) (fun _ _ _ h => h) SX rfl (by intro wz hz; obtain ⟨x0, x1, x2, x3, x4⟩ := BxS.cell5 hz; go_simp) ?_
  try simp only [List.getElem_toArray, List.getElem_cons_succ, List.getElem_cons_zero, Act.put, List.setIfInBounds_toArray, List.set_cons_zero, List.set_cons_succ]
  refine wpAnyZ_take [] 1 (.pointer (some ⟨g2, 0, none⟩)) rfl (by kernel_rfl) (fun _ _ _ h => h) SX rfl (by intro wz hz; obtain ⟨x0, x1, x2, x3, x4⟩ := BxS.cell5 hz; go_simp) ?_
  try simp only [List.getElem_toArray, List.getElem_cons_succ, List.getElem_cons_zero, Act.put, List.setIfInBounds_toArray, List.set_cons_zero, List.set_cons_succ]
  refine wpAnyZ_take [] 2 (.pointer (some ⟨g2, 0, none⟩)) rfl (by kernel_rfl) (fun _ _ _ h => h) SX rfl (by intro wz hz; obtain ⟨x0, x1, x2, x3, x4⟩ := BxS.cell5 hz; go_simp) ?_
  try simp only [List.getElem_toArray, List.getElem_cons_succ, List.getElem_cons_zero, Act.put, List.setIfInBounds_toArray, List.set_cons_zero, List.set_cons_succ]
  refine wpAnyZ_take [] 3 (.int .i64 cr) rfl (by kernel_rfl) (fun _ _ _ h => h) SX rfl (by intro wz hz; obtain ⟨x0, x1, x2, x3, x4⟩ := BxS.cell5 hz; go_simp) ?_
  try simp only [List.getElem_toArray, List.getElem_cons_succ, List.getElem_cons_zero, Act.put, List.setIfInBounds_toArray, List.set_cons_zero, List.set_cons_succ]
  refine wpAnyZ_take [] 4 (.pointer (some ⟨g2, 0, none⟩)) rfl (by kernel_rfl) (fun _ _ _ h => h) SX rfl (by intro wz hz; obtain ⟨x0, x1, x2, x3, x4⟩ := BxS.cell5 hz; go_simp) ?_
  try simp only [List.getElem_toArray, List.getElem_cons_succ, List.getElem_cons_zero, Act.put, List.setIfInBounds_toArray, List.set_cons_zero, List.set_cons_succ]
  refine wpAnyZ_take [] 5 (.pointer (some ⟨g2, 0, none⟩)) rfl (by kernel_rfl) (fun _ _ _ h => h) SX rfl (by intro wz hz; obtain ⟨x0, x1, x2, x3, x4⟩ := BxS.cell5 hz; go_simp) ?_
  try simp only [List.getElem_toArray, List.getElem_cons_succ, List.getElem_cons_zero, Act.put, List.setIfInBounds_toArray, List.set_cons_zero, List.set_cons_succ]
  refine wpAnyZ_take [] 6 (.agg #[.int .i64 cr, .int .i64 sz, .int .i64 ma, .int .i64 (tu : Int), .slice (some ⟨gq, 0, none⟩) 7 7]) rfl (by kernel_rfl) (fun _ _ _ h => h) SX rfl (by intro wz hz; obtain ⟨x0, x1, x2, x3, x4⟩ := BxS.cell5 hz; go_simp) ?_
  try simp only [List.getElem_toArray, List.getElem_cons_succ, List.getElem_cons_zero, Act.put, List.setIfInBounds_toArray, List.set_cons_zero, List.set_cons_succ]
  refine wpAnyZ_take [] 8 (.pointer (some ⟨g2, 0, none⟩)) rfl (by kernel_rfl) (fun _ _ _ h => h) SX rfl (by intro wz hz; obtain ⟨x0, x1, x2, x3, x4⟩ := BxS.cell5 hz; go_simp) ?_
  try simp only [List.getElem_toArray, List.getElem_cons_succ, List.getElem_cons_zero, Act.put, List.setIfInBounds_toArray, List.set_cons_zero, List.set_cons_succ]
  refine wpAnyZ_take [] 9 (.pointer (some ⟨g2, 0, none⟩)) rfl (by kernel_rfl) (fun _ _ _ h => h) SX rfl (by intro wz hz; obtain ⟨x0, x1, x2, x3, x4⟩ := BxS.cell5 hz; go_simp) ?_
  try simp only [List.getElem_toArray, List.getElem_cons_succ, List.getElem_cons_zero, Act.put, List.setIfInBounds_toArray, List.set_cons_zero, List.set_cons_succ]
  refine wpAnyZ_take [] 10 (.pointer (some ⟨g2, 2, none⟩)) rfl (by kernel_rfl) (fun _ _ _ h => h) SX rfl (by intro wz hz; obtain ⟨x0, x1, x2, x3, x4⟩ := BxS.cell5 hz; go_simp) ?_
  try simp only [List.getElem_toArray, List.getElem_cons_succ, List.getElem_cons_zero, Act.put, List.setIfInBounds_toArray, List.set_cons_zero, List.set_cons_succ]
  refine wpAnyZ_take [] 11 (.int .i64 ma) rfl (by kernel_rfl) (fun _ _ _ h => h) SX rfl (by intro wz hz; obtain ⟨x0, x1, x2, x3, x4⟩ := BxS.cell5 hz; go_simp) ?_
  try simp only [List.getElem_toArray, List.getElem_cons_succ, List.getElem_cons_zero, Act.put, List.setIfInBounds_toArray, List.set_cons_zero, List.set_cons_succ]
  have bR2 := bR.keep SD (by simp)
  have hO2 := hO.keep SD
  have hF2 := hF.step SD (fun x e _ => by cases e)
  have hs2 := SD.size
  have hR2 := bR2.lt
  generalize w1.drew = w2 at *
  have hCH := HCH.out
  refine wpAnyZ_twoB 7 13 rfl rfl (by kernel_rfl) (fun K hK' => ?_) (fun K hK' => ?_)
  · go_simp
    go_at_call 77
    refine (channelInTurn_any cr sz ma tu _ 7 Qs _ hO2.rd htu).mono ?_
    rintro e w3 ⟨rfl, v3⟩
    dsimp only
    rw [hCH]
    have b23 := SX.keep v3 (by simp)
    have bR3 := bR2.keep v3 (by simp)
    have hO3 := hO2.keep v3
    have hF3 := hF2.step v3 (fun x e _ => by cases e)
    have hs3 := v3.size
    refine hK' _ _ (fun _ => b23) ?_
    try simp only [List.getElem_toArray, List.getElem_cons_succ, List.getElem_cons_zero, Act.put, List.setIfInBounds_toArray, List.set_cons_zero, List.set_cons_succ]
    refine wpAnyZ_take [] 12 (.agg #[.int .i64 cr, .int .i64 CH, .int .i64 ma, .int .i64 0, .int .i64 2046]) rfl (by kernel_rfl) (fun _ _ _ h => h) b23 rfl (by intro wz hz; obtain ⟨x0, x1, x2, x3, x4⟩ := BxS.cell5 hz; go_simp) ?_
    try simp only [List.getElem_toArray, List.getElem_cons_succ, List.getElem_cons_zero, Act.put, List.setIfInBounds_toArray, List.set_cons_zero, List.set_cons_succ]
    refine wpAnyZ_oneB 13 rfl (by kernel_rfl) (fun K hK' => ?_)
    go_simp
    have v4 := World.grownBy_alloc w3 (.cells #[.int .i64 0, .int .i64 0, .int .i64 0, .int .i64 0, .int .i64 0] 28) none
    have b5z := BxS.new w3 28 #[.int .i64 0, .int .i64 0, .int .i64 0, .int .i64 0, .int .i64 0]
    have b2z := b23.keep v4 (by simp)
    have bRz := bR3.keep v4 (by simp)
    have hOz := hO3.keep v4
    have hFz := hF3.step v4 (fun x e _ => by cases e)
    have b2l := b23.lt
    refine hK' _ _ (fun _ => b2z) ?_
    try simp only [List.getElem_toArray, List.getElem_cons_succ, List.getElem_cons_zero, Act.put, List.setIfInBounds_toArray, List.set_cons_zero, List.set_cons_succ]
    generalize w3.alloc (.cells #[.int .i64 0, .int .i64 0, .int .i64 0, .int .i64 0, .int .i64 0] 28) = w4 at *
    have hg5a : w3.heap.size ≠ gR := fun e => by have := bR3.lt; omega
    generalize hg5 : w3.heap.size = g5 at *
    refine wpAnyZ_oneB 14 rfl (by kernel_rfl) (fun K hK' => ?_)
    refine step_stX _ rfl 28 _ _ rfl g5 _ #[.int .i64 cr, .int .i64 CH, .int .i64 ma, .int .i64 0, .int .i64 2046] rfl rfl b5z i5 rfl (by simp [Value.oneCell']) ?_
    intro w9 b59 v9
    have b29 := b2z.keep v9 (fun e => by have e := Option.some.inj e; omega)
    refine hK' _ _ (fun _ => b29) ?_
    try simp only [List.getElem_toArray, List.getElem_cons_succ, List.getElem_cons_zero, Act.put, List.setIfInBounds_toArray, List.set_cons_zero, List.set_cons_succ]
    refine wpAnyZ_doneB (by kernel_rfl) ?_ _
    refine HK3.out _ _ ?_
    clear HK3
    exact tf_t3 w w9 lo g2 gR g5 gq room cr sz ma CH OW FI MA TU tu DA qs Qs V b29 (bRz.keep v9 (fun e => by have e := Option.some.inj e; omega)) b59 (hOz.fz (Fz.of1 v9) (fun x hx e => by have := hold x hx; omega)) ⟨h2, hlo, by omega, by omega, by omega⟩ (hFz.step v9 (fun x e hl => by have e := Option.some.inj e; omega)) hold hroom hma HTF.out
  · go_simp
    have v3 := World.grownBy_alloc w2 (.cells #[.int .i64 0, .int .i64 0, .int .i64 0, .int .i64 0, .int .i64 0] 28) none
    have b53 := BxS.new w2 28 #[.int .i64 0, .int .i64 0, .int .i64 0, .int .i64 0, .int .i64 0]
    have b23 := SX.keep v3 (by simp)
    have bR3 := bR2.keep v3 (by simp)
    have hO3 := hO2.keep v3
    have hF3 := hF2.step v3 (fun x e _ => by cases e)
    refine hK' _ _ (fun _ => b23) ?_
    try simp only [List.getElem_toArray, List.getElem_cons_succ, List.getElem_cons_zero, Act.put, List.setIfInBounds_toArray, List.set_cons_zero, List.set_cons_succ]
    generalize w2.alloc (.cells #[.int .i64 0, .int .i64 0, .int .i64 0, .int .i64 0, .int .i64 0] 28) = w3 at *
    generalize hg5 : w2.heap.size = g5 at *
    refine wpAnyZ_oneB 7 rfl (by kernel_rfl) (fun K hK' => ?_)
    go_simp
    go_at_call 77
    refine (channelInTurn_any cr sz ma tu _ 7 Qs _ hO3.rd htu).mono ?_
    rintro e w4 ⟨rfl, v4⟩
    dsimp only
    rw [hCH]
    have b2z := b23.keep v4 (by simp)
    have bRz := bR3.keep v4 (by simp)
    have b5z := b53.keep v4 (by simp)
    have hOz := hO3.keep v4
    have hFz := hF3.step v4 (fun x e _ => by cases e)
    refine hK' _ _ (fun _ => b2z) ?_
    try simp only [List.getElem_toArray, List.getElem_cons_succ, List.getElem_cons_zero, Act.put, List.setIfInBounds_toArray, List.set_cons_zero, List.set_cons_succ]
    refine wpAnyZ_take [] 12 (.agg #[.int .i64 cr, .int .i64 CH, .int .i64 ma, .int .i64 0, .int .i64 2046]) rfl (by kernel_rfl) (fun _ _ _ h => h) b2z rfl (by intro wz hz; obtain ⟨x0, x1, x2, x3, x4⟩ := BxS.cell5 hz; go_simp) ?_
    try simp only [List.getElem_toArray, List.getElem_cons_succ, List.getElem_cons_zero, Act.put, List.setIfInBounds_toArray, List.set_cons_zero, List.set_cons_succ]
    refine wpAnyZ_oneB 14 rfl (by kernel_rfl) (fun K hK' => ?_)
    refine step_stX _ rfl 28 _ _ rfl g5 _ #[.int .i64 cr, .int .i64 CH, .int .i64 ma, .int .i64 0, .int .i64 2046] rfl rfl b5z i5 rfl (by simp [Value.oneCell']) ?_
    intro w9 b59 v9
    have b29 := b2z.keep v9 (fun e => by have e := Option.some.inj e; omega)
    refine hK' _ _ (fun _ => b29) ?_
    try simp only [List.getElem_toArray, List.getElem_cons_succ, List.getElem_cons_zero, Act.put, List.setIfInBounds_toArray, List.set_cons_zero, List.set_cons_succ]
    refine wpAnyZ_doneB (by kernel_rfl) ?_ _
    refine HK3.out _ _ ?_
    clear HK3
    exact tf_t3 w w9 lo g2 gR g5 gq room cr sz ma CH OW FI MA TU tu DA qs Qs V b29 (bRz.keep v9 (fun e => by have e := Option.some.inj e; omega)) b59 (hOz.fz (Fz.of1 v9) (fun x hx e => by have := hold x hx; omega)) ⟨h2, hlo, by omega, by omega, by omega⟩ (hFz.step v9 (fun x e hl => by have e := Option.some.inj e; omega)) hold hroom hma HTF.out

/-- what Next answers -/
structure NX (cr sz ma tu : Int) (Qs : List Qd) (st r0 r1 r2 r3 : Int) (Q' : List Qd) (Y : List Nat) (Er : Nat) : Prop where
  p : ((seD cr sz ma tu Qs = false ∧ 0 = r0 ∧ 0 = r1 ∧ 0 = r2 ∧ 0 = r3 ∧ [] = Q' ∧ [] = Y ∧ 11 = Er) ∨
    (seD cr sz ma tu Qs = true ∧ wiB st 4294967295 = false ∧ cr = r0 ∧ sz = r1 ∧ ma = r2 ∧ tu = r3 ∧ Qs = Q' ∧ [] = Y ∧ 2 = Er) ∨
    (seD cr sz ma tu Qs = true ∧ wiB st 4294967295 = true ∧ ∃ (room t : Nat) (CH OW FI MA TU : Int) (DA : List Nat) (V : List Qd), (1 ≤ room ∧ room ≤ 60000) ∧ sz = (room : Int) + 12 ∧ (0 ≤ ma ∧ ma ≤ 255) ∧ t ≤ 6 ∧ tu = (t : Int) ∧ TF room t ma Qs CH OW FI MA TU DA V ∧ cr = r0 ∧ sz = r1 ∧ MA = r2 ∧ TU = r3 ∧ V = Q' ∧ pakL cr CH ma OW FI st DA = Y ∧ paE cr CH ma OW FI st room = Er))
theorem NX.bad {cr sz ma tu : Int} {Qs : List Qd} {st : Int} (h : seD cr sz ma tu Qs = false) : NX cr sz ma tu Qs st 0 0 0 0 [] [] 11 := ⟨Or.inl ⟨h, rfl, rfl, rfl, rfl, rfl, rfl, rfl⟩⟩
theorem NX.state {cr sz ma tu : Int} {Qs : List Qd} {st : Int} (h : seD cr sz ma tu Qs = true) (hw : wiB st 4294967295 = false) : NX cr sz ma tu Qs st cr sz ma tu Qs [] 2 := ⟨Or.inr (Or.inl ⟨h, hw, rfl, rfl, rfl, rfl, rfl, rfl, rfl⟩)⟩
theorem NX.next {cr sz ma tu : Int} {Qs : List Qd} {st : Int} (h : seD cr sz ma tu Qs = true) (hw : wiB st 4294967295 = true) (room t : Nat) (CH OW FI MA TU : Int) (DA : List Nat) (V : List Qd) (hr : 1 ≤ room ∧ room ≤ 60000) (hsz : sz = (room : Int) + 12) (hma : 0 ≤ ma ∧ ma ≤ 255) (htu : t ≤ 6) (ht : tu = (t : Int)) (hT : TF room t ma Qs CH OW FI MA TU DA V) : NX cr sz ma tu Qs st cr sz MA TU V (pakL cr CH ma OW FI st DA) (paE cr CH ma OW FI st room) := ⟨Or.inr (Or.inr ⟨h, hw, room, t, CH, OW, FI, MA, TU, DA, V, hr, hsz, hma, htu, ht, hT, rfl, rfl, rfl, rfl, rfl, rfl, rfl⟩)⟩
theorem NX.inv {cr sz ma tu : Int} {Qs : List Qd} {st r0 r1 r2 r3 : Int} {Q' : List Qd} {Y : List Nat} {Er : Nat} (h : NX cr sz ma tu Qs st r0 r1 r2 r3 Q' Y Er) :
    (seD cr sz ma tu Qs = false ∧ 0 = r0 ∧ 0 = r1 ∧ 0 = r2 ∧ 0 = r3 ∧ [] = Q' ∧ [] = Y ∧ 11 = Er) ∨
    (seD cr sz ma tu Qs = true ∧ wiB st 4294967295 = false ∧ cr = r0 ∧ sz = r1 ∧ ma = r2 ∧ tu = r3 ∧ Qs = Q' ∧ [] = Y ∧ 2 = Er) ∨
    (seD cr sz ma tu Qs = true ∧ wiB st 4294967295 = true ∧ ∃ (room t : Nat) (CH OW FI MA TU : Int) (DA : List Nat) (V : List Qd), (1 ≤ room ∧ room ≤ 60000) ∧ sz = (room : Int) + 12 ∧ (0 ≤ ma ∧ ma ≤ 255) ∧ t ≤ 6 ∧ tu = (t : Int) ∧ TF room t ma Qs CH OW FI MA TU DA V ∧ cr = r0 ∧ sz = r1 ∧ MA = r2 ∧ TU = r3 ∧ V = Q' ∧ pakL cr CH ma OW FI st DA = Y ∧ paE cr CH ma OW FI st room = Er) := h.p


set_option maxHeartbeats 32000000 in
theorem next_any (cr sz ma tu st r0 r1 r2 r3 : Int) (Q' : List Qd) (Y : List Nat) (Er : Nat) (a : Option Addr) (n c : Nat) (Qs : List Qd) (w : World) (h : RdS w a n c Qs) (hN : NX cr sz ma tu Qs st r0 r1 r2 r3 Q' Y Er) :
    Calls Try.prog 34 #[.agg #[.int .i64 cr, .int .i64 sz, .int .i64 ma, .int .i64 tu, .slice a n c], .int .i64 st] w fun e w' => ∃ (a' : Option Addr) (n' c' : Nat) (qs' : List Qw) (ya : Option Addr) (yn yc : Nat), e = .returned (.tuple #[.agg #[.int .i64 r0, .int .i64 r1, .int .i64 r2, .int .i64 r3, .slice a' n' c'], .slice ya yn yc, .int .i64 (Er : Int)]) ∧ WkS w' w.heap.size a' n' c' qs' Q' ∧ (Ans w' w.heap.size ya yn yc Y ∧ ∀ x, Wbl (.slice a' n' c') qs' x → (Value.slice ya yn yc).ownBlock ≠ some x) ∧ w.grownBy w' none := by
  have hlQ := h.len
  have b0 := BxS.new w 38 #[.int .i64 cr, .int .i64 sz, .int .i64 ma, .int .i64 tu, .slice a n c]
  have g0 := World.grownBy_alloc w (.cells #[.int .i64 cr, .int .i64 sz, .int .i64 ma, .int .i64 tu, .slice a n c] 38) none
  generalize hw0 : w.alloc (.cells #[.int .i64 cr, .int .i64 sz, .int .i64 ma, .int .i64 tu, .slice a n c] 38) = w0 at b0 g0
  have hz0 : w0.heap.size = w.heap.size + 1 := by rw [← hw0]; simp
  have b1 := BxS.new w0 38 #[.int .i64 0, .int .i64 0, .int .i64 0, .int .i64 0, .slice none 0 0]
  have g1 := World.grownBy_alloc w0 (.cells #[.int .i64 0, .int .i64 0, .int .i64 0, .int .i64 0, .slice none 0 0] 38) none
  generalize hw1 : w0.alloc (.cells #[.int .i64 0, .int .i64 0, .int .i64 0, .int .i64 0, .slice none 0 0] 38) = w1 at b1 g1
  rw [hz0] at b1
  have sz1 : w.heap.size + 2 ≤ w1.heap.size := by rw [← hw1]; simp [hz0]
  have p0 := b0.keep g1 (by simp)
  have G1 := grown_trans g0 g1
  have i5 := Try.info_se
  have j5 := Try.info_he
  obtain ⟨x0, x1, x2, x3, x4⟩ := BxS.cell5 p0
  have kM := senderMay2_any cr sz ma tu a n c Qs w1 (h.keep G1)
  have s0 : True := trivial
  rcases hN.inv with ⟨hS, rfl, rfl, rfl, rfl, rfl, rfl, rfl⟩ | ⟨hS, hW, rfl, rfl, rfl, rfl, rfl, rfl, rfl⟩ | ⟨hS, hW, room, t, CH, OW, FI, MA, TU, DA, V, hr, hsz, hma, htu, ht, hT, rfl, rfl, rfl, rfl, rfl, rfl, rfl⟩ <;> clear hN
  · rw [hS] at kM
    go_enter Try.func34, Try.ntmps34
    go_wp2_with (first
      | (go_at_call 56; have _t := s0; clear s0; refine kM.mono ?_; rintro e w2 ⟨rfl, y2⟩; have q0 := p0.keep y2 (by simp); have q1 := b1.keep y2 (by simp); have z2 := y2.size; clear x0 x1 x2 x3 x4; obtain ⟨x0, x1, x2, x3, x4⟩ := BxS.cell5 q0; have s1 : True := trivial)
      | (have _t := s1; clear s1; refine wpList_stX _ rfl _ (.tmp 4) (.tmp 14) rfl (w.heap.size + 1) _ _ rfl rfl q1 i5 rfl (by simp [Value.oneCell']) ?_; intro w9 b9 u9; skip))
    refine bodyPost_ret (results_cell3 rfl _ _ _ ⟨w.heap.size + 1, 0, none⟩ _ (.slice none 0 0) (.int .i64 11) rfl (BxS.load (t := 38) b9 Try.underlying38 i5) rfl rfl) rfl ?_
    exact ⟨none, 0, 0, [], none, 0, 0, rfl, WkS.nil _ _, ⟨ans_nil _ _, fun x _ e => by cases e⟩, grown_far (grown_trans G1 y2) u9 (fun q e => by have e := Option.some.inj e; omega)⟩
  · rw [hS] at kM
    obtain ⟨hl7, hq7⟩ := seD_ok hS
    have hn7 : n = 7 := by omega
    subst hn7
    have kC := fun wz hz => copySender_any cr sz ma tu a c Qs wz hz (fun q hq => ⟨(hq7 q hq).1, fun r hr => by have := (hq7 q hq).2 r hr; omega⟩)
    have kW := fun wz => fwithin_any st 4294967295 wz
    rw [hW] at kW
    go_enter Try.func34, Try.ntmps34
    go_wp2_with (first
      | (go_at_call 56; have _t := s0; clear s0; refine kM.mono ?_; rintro e w2 ⟨rfl, y2⟩; have q0 := p0.keep y2 (by simp); have q1 := b1.keep y2 (by simp); have z2 := y2.size; clear x0 x1 x2 x3 x4; obtain ⟨x0, x1, x2, x3, x4⟩ := BxS.cell5 q0; have s1 : True := trivial)
      | (go_at_call 57; have _t := s1; clear s1; refine (kC _ (h.keep (grown_trans G1 y2))).mono ?_; rintro e w3 ⟨gq, qs3, rfl, hO3, y3⟩; have q0 := q0.keep y3 (by simp); have q1 := q1.keep y3 (by simp); have z3 := y3.size; clear x0 x1 x2 x3 x4; have s2 : True := trivial)
      | (have _t := s2; clear s2; refine wpList_stX _ rfl _ (.tmp 2) (.tmp 16) rfl w.heap.size _ _ rfl rfl q0 i5 rfl (by simp [Value.oneCell']) ?_; intro w4 q0 u4; obtain ⟨x0, x1, x2, x3, x4⟩ := BxS.cell5 q0; have hO4 := hO3.far u4 (by omega); have q1 := q1.keep u4 (fun e => by have e := Option.some.inj e; omega); have z4 := u4.size; have G4 := grown_far (grown_trans (grown_trans G1 y2) y3) u4 (fun q e => by have e := Option.some.inj e; omega); have s3 : True := trivial)
      | (go_at_call 43; have _t := s3; clear s3; refine (kW _).mono ?_; rintro e w5 ⟨rfl, hw5⟩; have hw5 := hw5.symm; subst hw5; have s4 : True := trivial)
      | (have _t := s4; clear s4; refine wpList_stX _ rfl _ (.tmp 4) (.tmp 20) rfl (w.heap.size + 1) _ _ rfl rfl q1 i5 rfl (by simp [Value.oneCell']) ?_; intro w9 b9 u9; skip))
    refine bodyPost_ret (results_cell3 rfl _ _ _ ⟨w.heap.size + 1, 0, none⟩ _ (.slice none 0 0) (.int .i64 2) rfl (BxS.load (t := 38) b9 Try.underlying38 i5) rfl rfl) rfl ?_
    exact ⟨_, _, _, _, none, 0, 0, rfl, ((hO4.far u9 (by omega)).wide (by omega)).wk, ⟨ans_nil _ _, fun x _ e => by cases e⟩, grown_far G4 u9 (fun q e => by have e := Option.some.inj e; omega)⟩
  · subst ht
    rw [hS] at kM
    have HSZ : Hid _ := hsz
    clear hsz
    have HT : Hid _ := hT
    clear hT
    obtain ⟨hl7, hq7⟩ := seD_ok hS
    have hn7 : n = 7 := by omega
    subst hn7
    have kC := fun wz hz => copySender_any cr sz ma t a c Qs wz hz (fun q hq => ⟨(hq7 q hq).1, fun r hr => by have := (hq7 q hq).2 r hr; omega⟩)
    have kW := fun wz => fwithin_any st 4294967295 wz
    rw [hW] at kW
    go_enter Try.func34, Try.ntmps34
    go_wp2_with (first
      | (go_at_call 56; have _t := s0; clear s0; refine kM.mono ?_; rintro e w2 ⟨rfl, y2⟩; have q0 := p0.keep y2 (by simp); have q1 := b1.keep y2 (by simp); have z2 := y2.size; clear x0 x1 x2 x3 x4; obtain ⟨x0, x1, x2, x3, x4⟩ := BxS.cell5 q0; have s1 : True := trivial)
      | (go_at_call 57; have _t := s1; clear s1; refine (kC _ (h.keep (grown_trans G1 y2))).mono ?_; rintro e w3 ⟨gq, qs3, rfl, hO3, y3⟩; have q0 := q0.keep y3 (by simp); have q1 := q1.keep y3 (by simp); have z3 := y3.size; clear x0 x1 x2 x3 x4; have s2 : True := trivial)
      | (have _t := s2; clear s2; refine wpList_stX _ rfl _ (.tmp 2) (.tmp 16) rfl w.heap.size _ _ rfl rfl q0 i5 rfl (by simp [Value.oneCell']) ?_; intro w4 q0 u4; obtain ⟨x0, x1, x2, x3, x4⟩ := BxS.cell5 q0; have hO4 := hO3.far u4 (by omega); have q1 := q1.keep u4 (fun e => by have e := Option.some.inj e; omega); have z4 := u4.size; have G4 := grown_far (grown_trans (grown_trans G1 y2) y3) u4 (fun q e => by have e := Option.some.inj e; omega); have s3 : True := trivial)
      | (go_at_call 43; have _t := s3; clear s3; refine (kW _).mono ?_; rintro e w5 ⟨rfl, hw5⟩; have hw5 := hw5.symm; subst hw5; have s4 : True := trivial)
      | (go_at_call 61; have _t := s4; clear s4; refine (takeFrame_any _ w2.heap.size w.heap.size gq room t cr sz ma CH OW FI MA TU DA qs3 Qs V q0 hO4 (by omega) (by omega) HSZ.out hr hma htu HT.out).mono ?_; rintro e w5 ⟨ya, yc, qs5, rfl, hA5, q0', hW5, hWb5, hF5⟩; clear x0 x1 x2 x3 x4; have q0 := q0'; clear q0'; have q1 := q1.fz hF5 (by have := (hO4.o.hi (x := gq) (.inl rfl)).2; omega); have z5 := hF5.size; have G5 := Fz.grown G4 hF5 (fun i e => by have := (hO4.o.hi (x := gq) (.inl rfl)).2; omega); have bn := BxS.new w5 28 #[.int .i64 0, .int .i64 0, .int .i64 0, .int .i64 0, .int .i64 0]; have gn := World.grownBy_alloc w5 (.cells #[.int .i64 0, .int .i64 0, .int .i64 0, .int .i64 0, .int .i64 0] 28) none; have s5 : True := trivial)
      | (have _t := s5; clear s5; refine wpList_stX _ rfl _ (.tmp 7) (.tmp 23) rfl w5.heap.size _ #[.int .i64 cr, .int .i64 CH, .int .i64 ma, .int .i64 OW, .int .i64 FI] rfl rfl bn j5 rfl (by simp [Value.oneCell']) ?_; intro w6 b6 u6; have Y6 := grown_far gn u6 (fun q e => by have e := Option.some.inj e; omega); obtain ⟨c0, c1, c2, c3, c4⟩ := BxS.cell5 b6; have q0 := q0.keep Y6 (by simp); have q1 := q1.keep Y6 (by simp); have z6 := Y6.size; have s6 : True := trivial)
      | (go_at_call 17; have _t := s6; clear s6; refine (pack_any cr CH ma OW FI st ya room yc DA w6 (hA5.keep Y6).rd (by omega)).mono ?_; rintro e w7 ⟨fa, fn', fc, rfl, hA7, y7⟩; clear c0 c1 c2 c3 c4; have q0 := q0.keep y7 (by simp); have q1 := q1.keep y7 (by simp); obtain ⟨x0, x1, x2, x3, x4⟩ := BxS.cell5 q0; have s7 : True := trivial)
      | (have _t := s7; clear s7; refine wpList_stX _ rfl _ (.tmp 4) (.tmp 32) rfl (w.heap.size + 1) _ _ rfl rfl q1 i5 rfl (by simp [Value.oneCell']) ?_; intro w9 b9 u9; skip))
    refine bodyPost_ret (results_cell3 rfl _ _ _ ⟨w.heap.size + 1, 0, none⟩ _ (.slice fa fn' fc) (.int .i64 (paE cr CH ma OW FI st room : Nat)) rfl (BxS.load (t := 38) b9 Try.underlying38 i5) rfl rfl) rfl ?_
    refine ⟨_, _, _, qs5, fa, fn', fc, rfl, ((((hW5.keep Y6).keep y7).far u9 (by omega)).wide (by omega)), ⟨(hA7.kept u9 (.inr (fun e => by have := hA7.new _ e; omega))).wide (by omega), fun x hx e => ?_⟩, grown_far (grown_trans (grown_trans G5 Y6) y7) u9 (fun q e => by have e := Option.some.inj e; omega)⟩
    have h1 := (hW5.o.hi hx).1
    have h2 := hA7.new _ e
    omega
end Go.Proofs.Ytlmddjkplnbadaa
