import Derived.Test.YtnimehkfnpepfaaWt17
import Derived.Test.YtnimehkfnpepfaaWt2
import Derived.Test.YtnimehkfnpepfaaWt3
import Derived.Test.YtnimehkfnpepfaaWt4
import Derived.Test.YtnimehkfnpepfaaWt5
namespace Go.Proofs.Ytnimehkfnpepfaa
open Go.RowKit
set_option maxRecDepth 100000
set_option linter.unusedVariables false
set_option linter.unusedSimpArgs false

section
set_option maxHeartbeats 16000000 in
theorem wo_t4y {u0 u1 u3 u4 u6 u7 u8 u9 u10 u11 u12 u13 u14 u15 u16 u17 u18 u19 u20 u21 u22 u23 u24 u25 u26 u27 u28 u29 u30 u31 u32 u33 u34 u35 u36 u37 u38 u39 u40 u41 u42 u43 u44 u45 u46 u47 u48 u49 u50 u51 u52 u53 u54 u55 u56 u57 u58 u59 u60 u61 u62 u63 u64 u65 u66 u67 u68 u69 u70 u71 u72 u73 u74 u75 u76 u77 u78 u79 u80 u81 u82 : Value} (P : Ending → World → Prop) (wB w : World) (g2 g5 : Nat) (V : Tv) (a : Option Addr) (c : Nat) (q : Option Addr) (d : Nat) (h : DTk wB w g2 g5 V a c q d) (hs0 : V.st = 0) (hen : V.en = true) (ho : TvO V)
    (hP : ∀ e w', RDk wB (tiT V).1 (tiT V).2 0 e w' → P e w') :
    Code.wp Try.prog (tailR 4 (Try.f41.body.getD .skip)) (bodyPost Try.prog Try.f41 P) (Act.mk (List.toArray (u0 :: u1 :: (.pointer (some ⟨g2, 0, none⟩)) :: u3 :: u4 :: (.pointer (some ⟨g5, 0, none⟩)) :: u6 :: u7 :: u8 :: u9 :: u10 :: u11 :: u12 :: u13 :: u14 :: u15 :: u16 :: u17 :: u18 :: u19 :: u20 :: u21 :: u22 :: u23 :: u24 :: u25 :: u26 :: u27 :: u28 :: u29 :: u30 :: u31 :: u32 :: u33 :: u34 :: u35 :: u36 :: u37 :: u38 :: u39 :: u40 :: u41 :: u42 :: u43 :: u44 :: u45 :: u46 :: u47 :: u48 :: u49 :: u50 :: u51 :: u52 :: u53 :: u54 :: u55 :: u56 :: u57 :: u58 :: u59 :: u60 :: u61 :: u62 :: u63 :: u64 :: u65 :: u66 :: u67 :: u68 :: u69 :: u70 :: u71 :: u72 :: u73 :: u74 :: u75 :: u76 :: u77 :: u78 :: u79 :: u80 :: u81 :: u82 :: [])) []) w := by
  conv => enter [2]; whnf
  have HP : Hid _ := hP
  clear hP
  have i14 := Try.info_tk
  have HX : Hid (tiT V = (if wtN V.ti V.pa = 0 then (if V.tr = V.li then ({ V with st := 4, ti := 0, tr := V.tr }, []) else ({ V with st := V.st, ti := 0, tr := V.tr + 1 }, sgL V.id (misL V.kn V.la V.G))) else ({ V with st := V.st, ti := wtN V.ti V.pa, tr := V.tr }, []))) := by
    show _ = _
    unfold tiT
    rw [if_pos ⟨hs0, hen⟩]
  rw [HX.out] at HP
  clear HX
  have HO : Hid _ := ho
  have HS0 : Hid _ := hs0
  have hti := ho.ti
  have htr := ho.tr
  clear ho
  obtain ⟨t1, ht1⟩ : ∃ t1, V.ti + 1 = t1 := ⟨_, rfl⟩
  obtain ⟨r1, hr1⟩ : ∃ r1, V.tr + 1 = r1 := ⟨_, rfl⟩
  have hwt : IntKind.i64.wrap (V.ti + 1) = t1 := by rw [ht1]; exact wrap_i64_in _ (by omega) (by omega)
  have hwr : IntKind.i64.wrap (V.tr + 1) = r1 := by rw [hr1]; exact wrap_i64_in _ (by omega) (by omega)
  have hwn : wtN V.ti V.pa = if t1 = V.pa then 0 else t1 := by unfold wtN; rw [ht1]
  rw [hwn, hr1] at HP
  have HPA : Hid (0 < V.pa ∧ 1 ≤ t1) := ⟨by omega, by omega⟩
  have hrl : V.tr = V.li → V.li < r1 := fun e => by omega
  have hrl2 : ¬ V.tr = V.li → ¬ V.li < r1 := fun e => by omega
  have HRL : Hid _ := hrl
  have HRL2 : Hid _ := hrl2
  clear hwn ht1 hr1 hrl hrl2
  have y9 : w.cell? ⟨g5, 9, none⟩ = some (.int .i64 V.st) := h.b5.cell 9 (by show 9 < 14; decide)
  rw [hs0] at y9
  have y4 : w.cell? ⟨g5, 4, none⟩ = some (.bool V.en) := h.b5.cell 4 (by show 4 < 14; decide)
  rw [hen] at y4
  have y10 : w.cell? ⟨g5, 10, none⟩ = some (.int .i64 V.ti) := h.b5.cell 10 (by show 10 < 14; decide)
  clear hs0 hen hti htr
  refine wp_seq_k fun K1 hK1 => ?_
  have HK1 : Hid _ := hK1
  clear hK1
  refine wp_seq_k fun K2 hK2 => ?_
  have HK2 : Hid _ := hK2
  clear hK2
  go_wp2
  refine HK2.out _ _ ?_
  clear HK2
  refine wp_cond_true rfl ?_
  clear y9 y4
  refine wp_seq_k fun K2 hK2 => ?_
  have HK2 : Hid _ := hK2
  clear hK2
  have s0 : True := trivial
  go_wp2_with (have _t := s0; clear s0; refine wpList_stC _ rfl _ _ _ rfl g5 10 48 _ #[.int .i64 V.id, .bool V.kn, .string V.nm, .int .i64 V.si, .bool V.en, .int .i64 V.la, .int .i64 V.su, .slice q V.G.length d, .slice a V.L.length c, .int .i64 V.st, .int .i64 t1, .int .i64 V.pa, .int .i64 V.tr, .int .i64 V.li] (.int .i64 t1) rfl rfl h.b5 (stc_int _ _ _) (by show 10 < 14; decide) rfl ?_; intro w1 bw1 uw1)
  refine HK2.out _ _ ?_
  clear HK2
  have h1 := h.set uw1 bw1
  clear y10 uw1 bw1 h
  have y10 : w1.cell? ⟨g5, 10, none⟩ = some (.int .i64 t1) := h1.b5.cell 10 (by show 10 < 14; decide)
  have y11 : w1.cell? ⟨g5, 11, none⟩ = some (.int .i64 V.pa) := h1.b5.cell 11 (by show 11 < 14; decide)
  refine wp_seq_k fun K2 hK2 => ?_
  have HK2 : Hid _ := hK2
  clear hK2
  by_cases hel : t1 = V.pa
  · have hel2 : (t1 == V.pa) = true := by rw [hel]; exact beq_self_eq_true _
    rw [if_pos hel, if_pos rfl] at HP
    clear hel
    go_wp2
    refine HK2.out _ _ ?_
    clear HK2
    refine wp_cond_true rfl ?_
    clear y10 y11 hel2
    refine wp_seq_k fun K2 hK2 => ?_
    have HK2 : Hid _ := hK2
    clear hK2
    have s0 : True := trivial
    go_wp2_with (have _t := s0; clear s0; refine wpList_stC _ rfl _ _ _ rfl g5 10 48 _ #[.int .i64 V.id, .bool V.kn, .string V.nm, .int .i64 V.si, .bool V.en, .int .i64 V.la, .int .i64 V.su, .slice q V.G.length d, .slice a V.L.length c, .int .i64 V.st, .int .i64 0, .int .i64 V.pa, .int .i64 V.tr, .int .i64 V.li] (.int .i64 0) rfl rfl h1.b5 (stc_int _ _ _) (by show 10 < 14; decide) rfl ?_; intro w2 bw2 uw2)
    refine HK2.out _ _ ?_
    clear HK2
    have h2 := h1.set uw2 bw2
    clear uw2 bw2 h1
    have y12 : w2.cell? ⟨g5, 12, none⟩ = some (.int .i64 V.tr) := h2.b5.cell 12 (by show 12 < 14; decide)
    refine wp_seq_k fun K2 hK2 => ?_
    have HK2 : Hid _ := hK2
    clear hK2
    have s0 : True := trivial
    go_wp2_with (have _t := s0; clear s0; refine wpList_stC _ rfl _ _ _ rfl g5 12 48 _ #[.int .i64 V.id, .bool V.kn, .string V.nm, .int .i64 V.si, .bool V.en, .int .i64 V.la, .int .i64 V.su, .slice q V.G.length d, .slice a V.L.length c, .int .i64 V.st, .int .i64 0, .int .i64 V.pa, .int .i64 r1, .int .i64 V.li] (.int .i64 r1) rfl rfl h2.b5 (stc_int _ _ _) (by show 12 < 14; decide) rfl ?_; intro w3 bw3 uw3)
    refine HK2.out _ _ ?_
    clear HK2
    have h3 : DTk wB w3 g2 g5 { V with st := V.st, ti := 0, tr := r1 } a c q d := h2.set uw3 bw3
    clear y12 uw3 bw3 h2
    have y12 : w3.cell? ⟨g5, 12, none⟩ = some (.int .i64 r1) := h3.b5.cell 12 (by show 12 < 14; decide)
    have y13 : w3.cell? ⟨g5, 13, none⟩ = some (.int .i64 V.li) := h3.b5.cell 13 (by show 13 < 14; decide)
    refine wp_seq_k fun K2 hK2 => ?_
    have HK2 : Hid _ := hK2
    clear hK2
    by_cases heq : V.tr = V.li
    · have hgt := HRL.out heq
      rw [if_pos heq] at HP
      have HEQ : Hid _ := heq
      clear heq
      go_wp2
      refine HK2.out _ _ ?_
      clear HK2
      refine wp_cond_true rfl ?_
      clear y12 hgt
      refine wp_seq_k fun K2 hK2 => ?_
      have HK2 : Hid _ := hK2
      clear hK2
      have s0 : True := trivial
      go_wp2_with (have _t := s0; clear s0; refine wpList_stC _ rfl _ _ _ rfl g5 12 48 _ #[.int .i64 V.id, .bool V.kn, .string V.nm, .int .i64 V.si, .bool V.en, .int .i64 V.la, .int .i64 V.su, .slice q V.G.length d, .slice a V.L.length c, .int .i64 V.st, .int .i64 0, .int .i64 V.pa, .int .i64 V.li, .int .i64 V.li] (.int .i64 V.li) rfl rfl h3.b5 (stc_int _ _ _) (by show 12 < 14; decide) rfl ?_; intro w4 bw4 uw4)
      refine HK2.out _ _ ?_
      clear HK2
      have h4 := h3.set uw4 bw4
      clear uw4 bw4 h3 y13
      have s0 : True := trivial
      go_wp2_with (have _t := s0; clear s0; refine wpList_stC _ rfl _ _ _ rfl g5 9 48 _ #[.int .i64 V.id, .bool V.kn, .string V.nm, .int .i64 V.si, .bool V.en, .int .i64 V.la, .int .i64 V.su, .slice q V.G.length d, .slice a V.L.length c, .int .i64 4, .int .i64 0, .int .i64 V.pa, .int .i64 V.li, .int .i64 V.li] (.int .i64 4) rfl rfl h4.b5 (stc_stg _ _ _) (by show 9 < 14; decide) rfl ?_; intro w5 bw5 uw5)
      have h5 : DTk wB w5 g2 g5 { V with st := 4, ti := 0, tr := V.li } a c q d := h4.set uw5 bw5
      try simp only [Exit.then]
      refine HK1.out _ _ ?_
      clear HK1
      have e9 : ({ V with st := 4, ti := 0, tr := V.tr } : Tv) = { V with st := 4, ti := 0, tr := V.li } := by rw [HEQ.out]
      rw [e9] at HP
      exact wo_t15n P wB w5 g2 g5 { V with st := 4, ti := 0, tr := V.li } a c q d h5 (fun e => by have e1 : (4 : Int) = 3 := e.1; omega) (.inr (.inr rfl)) (fun e w' k => HP.out e w' k)
    · have hgt : ¬ V.li < r1 := by have := HRL2.out heq; omega
      have hgt2 : decide (V.li < r1) = false := decide_eq_false hgt
      rw [if_neg heq] at HP
      clear heq
      go_wp2
      refine HK2.out _ _ ?_
      clear HK2
      refine wp_cond_false rfl ?_
      clear y12 y13 hgt hgt2
      have b5 := h3.b5
      have kM := fun wz (k : RdG wz q V.G.length d (giF V.G)) => rmissing_any V.id V.kn V.nm V.si V.en V.la V.su q V.G.length d a V.L.length c V.st 0 V.pa r1 V.li V.G rfl wz k HO.out.ri HO.out.la HO.out.gl
      unfold tkA at kM
      generalize misL V.kn V.la V.G = M at kM HP
      refine wp_seq_k fun K2 hK2 => ?_
      have HK2 : Hid _ := hK2
      clear hK2
      have s0 : True := trivial
      go_wp2_with (first
        | (have _t := s0; clear s0; refine wpList_ldX _ rfl _ (.tmp 5) rfl g5 _ rfl b5 Try.underlying48 i14 ?_; have s1 : True := trivial)
        | (go_at_call 76; have _t := s1; clear s1; refine (kM w3 h3.O.rd).mono ?_; rintro e w4 ⟨q6, d6, rfl, hO6, y4⟩))
      refine HK2.out _ _ ?_
      clear HK2
      have h4 := h3.keepN y4
      have z4 := h3.g.size
      clear b5 kM
      refine wp_seq_k fun K2 hK2 => ?_
      have HK2 : Hid _ := hK2
      clear hK2
      by_cases hM : M.length = 0
      · have hMM : M = [] := List.eq_nil_of_length_eq_zero hM
        subst hMM
        go_wp2
        refine HK2.out _ _ ?_
        clear HK2
        refine wp_cond_false rfl ?_
        refine wp_skip ?_
        try simp only [Exit.then]
        refine HK1.out _ _ ?_
        clear HK1
        exact wo_t15n P wB w4 g2 g5 { V with st := V.st, ti := 0, tr := r1 } a c q d h4 (fun e => by have e1 : V.st = 3 := e.1; have e2 := HS0.out; omega) (.inl HS0.out) (fun e w' k => HP.out e w' k)
      · have k1 : (0 : Int) < (M.length : Int) := by omega
        have hsg : sgL V.id M = [ntGaps V.id M] := if_neg hM
        rw [hsg] at HP
        clear hsg hM
        have kd : decide ((0 : Int) < (M.length : Int)) = true := decide_eq_true k1
        have kd2 : 0 < M.length := by omega
        go_wp2
        refine HK2.out _ _ ?_
        clear HK2
        refine wp_cond_true rfl ?_
        clear k1 kd kd2
        refine wp_seq_k fun K2 hK2 => ?_
        have HK2 : Hid _ := hK2
        clear hK2
        have Gd := grown_drew w4 none
        have hd := h4.keepN Gd
        have hO7 := (hO6.keep Gd).wide z4
        have SS : BxS w4.drew g5 48 #[.int .i64 V.id, .bool V.kn, .string V.nm, .int .i64 V.si, .bool V.en, .int .i64 V.la, .int .i64 V.su, .slice q V.G.length d, .slice a V.L.length c, .int .i64 V.st, .int .i64 0, .int .i64 V.pa, .int .i64 r1, .int .i64 V.li] := hd.b5
        refine wp_regionL (fun wz => BxS wz g5 48 #[.int .i64 V.id, .bool V.kn, .string V.nm, .int .i64 V.si, .bool V.en, .int .i64 V.la, .int .i64 V.su, .slice q V.G.length d, .slice a V.L.length c, .int .i64 V.st, .int .i64 0, .int .i64 V.pa, .int .i64 r1, .int .i64 V.li]) [] #[false, false, false, false, false, false, false, false, false] rfl (by kernel_rfl) ?_
        generalize w4.drew = w5 at *
        refine wpAnyZ_take [] 0 (.agg #[.int .i64 V.id, .bool V.kn, .string V.nm, .int .i64 V.si, .bool V.en, .int .i64 V.la, .int .i64 V.su, .slice q V.G.length d, .slice a V.L.length c, .int .i64 V.st, .int .i64 0, .int .i64 V.pa, .int .i64 r1, .int .i64 V.li]) rfl (by kernel_rfl) (fun _ _ _ h => h) SS rfl (by intro wz hz; exact ld_execD rfl rfl hz Try.underlying48 i14) ?_
        try simp only [List.getElem_toArray, List.getElem_cons_succ, List.getElem_cons_zero, Act.put, List.setIfInBounds_toArray, List.set_cons_zero, List.set_cons_succ]
        refine wpAnyZ_take [] 1 (.pointer (some ⟨g5, 0, none⟩)) rfl (by kernel_rfl) (fun _ _ _ h => h) SS rfl (by intro wz hz; go_simp) ?_
        try simp only [List.getElem_toArray, List.getElem_cons_succ, List.getElem_cons_zero, Act.put, List.setIfInBounds_toArray, List.set_cons_zero, List.set_cons_succ]
        refine wpAnyZ_take [] 2 (.int .i64 V.id) rfl (by kernel_rfl) (fun _ _ _ h => h) SS rfl (by intro wz hz; have z : wz.cell? ⟨g5, 0, none⟩ = some (.int .i64 V.id) := hz.cell 0 (by show 0 < 14; decide); go_simp) ?_
        try simp only [List.getElem_toArray, List.getElem_cons_succ, List.getElem_cons_zero, Act.put, List.setIfInBounds_toArray, List.set_cons_zero, List.set_cons_succ]
        refine wpAnyZ_take [] 3 (.slice q6 M.length d6) rfl (by kernel_rfl) (fun _ _ _ h => h) SS rfl (by intro wz hz; go_simp) ?_
        try simp only [List.getElem_toArray, List.getElem_cons_succ, List.getElem_cons_zero, Act.put, List.setIfInBounds_toArray, List.set_cons_zero, List.set_cons_succ]
        refine wpAnyZ_take [] 4 (.agg #[.int .i64 4, .int .i64 V.id, .string ⟨#[]⟩, .int .i64 0, .int .i64 0, .int .i64 0, .slice none 0 0, .slice q6 M.length d6, .int .i64 0, .int .i64 0]) rfl (by kernel_rfl) (fun _ _ _ h => h) SS rfl (by intro wz hz; go_simp) ?_
        try simp only [List.getElem_toArray, List.getElem_cons_succ, List.getElem_cons_zero, Act.put, List.setIfInBounds_toArray, List.set_cons_zero, List.set_cons_succ]
        refine wpAnyZ_twoD 5 6 rfl rfl (by kernel_rfl) (fun KK hKK => ?_) (fun KK hKK => ?_)
        · have bA := BxS.new w5 27 (xGaps V.id M q6 d6).arr
          have yA := World.grownBy_alloc w5 (.cells (xGaps V.id M q6 d6).arr 27) none
          have harr : (xGaps V.id M q6 d6).arr = #[.int .i64 4, .int .i64 V.id, .string ⟨#[]⟩, .int .i64 0, .int .i64 0, .int .i64 0, .slice none 0 0, .slice q6 M.length d6, .int .i64 0, .int .i64 0] := rfl
          try rw [harr]
          go_simp
          rw [← harr]
          have S6 := SS.keep yA (by simp)
          have h6 := hd.keepN yA
          refine hKK _ _ (fun _ => S6) ?_
          try simp only [List.getElem_toArray, List.getElem_cons_succ, List.getElem_cons_zero, Act.put, List.setIfInBounds_toArray, List.set_cons_zero, List.set_cons_succ]
          have lA : wB.heap.size ≤ w5.heap.size := hd.g.size
          have hN : OwN (w5.alloc (.cells (xGaps V.id M q6 d6).arr 27)) wB.heap.size (some ⟨w5.heap.size, 0, none⟩) 1 1 [(xGaps V.id M q6 d6)] := OwN.oneN bA lA (Ans.nil _ _) (hO7.keep yA)
          generalize w5.alloc (.cells (xGaps V.id M q6 d6).arr 27) = w6 at *
          refine wpAnyZ_oneB 6 rfl (by kernel_rfl) (fun KK hKK => ?_)
          refine step_stX _ rfl _ _ _ rfl g2 _ _ rfl rfl h6.b2 i14 rfl (by simp [Value.oneCell']) ?_
          intro w7 b7 u7
          have S7 := S6.keep u7 (fun e => h6.ne (Option.some.inj e).symm)
          refine hKK _ _ (fun _ => S7) ?_
          try simp only [List.getElem_toArray, List.getElem_cons_succ, List.getElem_cons_zero, Act.put, List.setIfInBounds_toArray, List.set_cons_zero, List.set_cons_succ]
          refine wpAnyZ_take [] 7 (.slice (some ⟨w5.heap.size, 0, none⟩) 1 1) rfl (by kernel_rfl) (fun _ _ _ h => h) S7 rfl (by intro wz hz; go_simp) ?_
          try simp only [List.getElem_toArray, List.getElem_cons_succ, List.getElem_cons_zero, Act.put, List.setIfInBounds_toArray, List.set_cons_zero, List.set_cons_succ]
          refine wpAnyZ_take [] 8 (.int .i64 0) rfl (by kernel_rfl) (fun _ _ _ h => h) S7 rfl (by intro wz hz; go_simp) ?_
          try simp only [List.getElem_toArray, List.getElem_cons_succ, List.getElem_cons_zero, Act.put, List.setIfInBounds_toArray, List.set_cons_zero, List.set_cons_succ]
          refine wpAnyZ_doneB (by kernel_rfl) ?_ _
          refine HK2.out _ _ ?_
          clear HK2
          refine wp_ret ?_
          try simp only [Exit.then]
          refine bodyPost_ret (results_c1t2 rfl _ _ _ ⟨g2, 0, none⟩ _ _ _ rfl (BxS.load (t := 48) b7 Try.underlying48 Try.info_tk) rfl rfl) rfl ?_
          exact HP.out _ _ (h6.fin u7 (T := [ntGaps V.id M]) rfl hN)
        · refine step_stX _ rfl _ _ _ rfl g2 _ _ rfl rfl hd.b2 i14 rfl (by simp [Value.oneCell']) ?_
          intro w7 b7 u7
          have S7 := SS.keep u7 (fun e => hd.ne (Option.some.inj e).symm)
          refine hKK _ _ (fun _ => S7) ?_
          try simp only [List.getElem_toArray, List.getElem_cons_succ, List.getElem_cons_zero, Act.put, List.setIfInBounds_toArray, List.set_cons_zero, List.set_cons_succ]
          have bA := BxS.new w7 27 (xGaps V.id M q6 d6).arr
          have yA := World.grownBy_alloc w7 (.cells (xGaps V.id M q6 d6).arr 27) none
          refine wpAnyZ_oneB 5 rfl (by kernel_rfl) (fun KK hKK => ?_)
          have harr : (xGaps V.id M q6 d6).arr = #[.int .i64 4, .int .i64 V.id, .string ⟨#[]⟩, .int .i64 0, .int .i64 0, .int .i64 0, .slice none 0 0, .slice q6 M.length d6, .int .i64 0, .int .i64 0] := rfl
          try rw [harr]
          go_simp
          rw [← harr]
          have S8 := S7.keep yA (by simp)
          have b7 := b7.keep yA (by simp)
          refine hKK _ _ (fun _ => S8) ?_
          try simp only [List.getElem_toArray, List.getElem_cons_succ, List.getElem_cons_zero, Act.put, List.setIfInBounds_toArray, List.set_cons_zero, List.set_cons_succ]
          have lA : wB.heap.size ≤ w7.heap.size := Nat.le_trans hd.g.size u7.size
          have hN : OwN (w7.alloc (.cells (xGaps V.id M q6 d6).arr 27)) wB.heap.size (some ⟨w7.heap.size, 0, none⟩) 1 1 [(xGaps V.id M q6 d6)] := OwN.oneN bA lA (Ans.nil _ _) ((hO7.bx hd.b2 (by decide) u7).keep yA)
          generalize w7.alloc (.cells (xGaps V.id M q6 d6).arr 27) = w8 at *
          refine wpAnyZ_take [] 7 (.slice (some ⟨w7.heap.size, 0, none⟩) 1 1) rfl (by kernel_rfl) (fun _ _ _ h => h) S8 rfl (by intro wz hz; go_simp) ?_
          try simp only [List.getElem_toArray, List.getElem_cons_succ, List.getElem_cons_zero, Act.put, List.setIfInBounds_toArray, List.set_cons_zero, List.set_cons_succ]
          refine wpAnyZ_take [] 8 (.int .i64 0) rfl (by kernel_rfl) (fun _ _ _ h => h) S8 rfl (by intro wz hz; go_simp) ?_
          try simp only [List.getElem_toArray, List.getElem_cons_succ, List.getElem_cons_zero, Act.put, List.setIfInBounds_toArray, List.set_cons_zero, List.set_cons_succ]
          refine wpAnyZ_doneB (by kernel_rfl) ?_ _
          refine HK2.out _ _ ?_
          clear HK2
          refine wp_ret ?_
          try simp only [Exit.then]
          refine bodyPost_ret (results_c1t2 rfl _ _ _ ⟨g2, 0, none⟩ _ _ _ rfl (BxS.load (t := 48) b7 Try.underlying48 Try.info_tk) rfl rfl) rfl ?_
          exact HP.out _ _ (hd.fin2 u7 yA (T := [ntGaps V.id M]) rfl hN)
  · have hel2 : (t1 == V.pa) = false := beq_eq_false_iff_ne.2 hel
    rw [if_neg hel, if_neg (by have := HPA.out; omega)] at HP
    clear hel
    go_wp2
    refine HK2.out _ _ ?_
    clear HK2
    refine wp_cond_false rfl ?_
    refine wp_skip ?_
    try simp only [Exit.then]
    refine HK1.out _ _ ?_
    clear HK1
    exact wo_t15n P wB w1 g2 g5 { V with st := V.st, ti := t1, tr := V.tr } a c q d h1 (fun e => by have e1 : V.st = 3 := e.1; have e2 := HS0.out; omega) (.inl HS0.out) (fun e w' k => HP.out e w' k)

set_option maxHeartbeats 16000000 in
theorem wo_t4n {u0 u1 u3 u4 u6 u7 u8 u9 u10 u11 u12 u13 u14 u15 u16 u17 u18 u19 u20 u21 u22 u23 u24 u25 u26 u27 u28 u29 u30 u31 u32 u33 u34 u35 u36 u37 u38 u39 u40 u41 u42 u43 u44 u45 u46 u47 u48 u49 u50 u51 u52 u53 u54 u55 u56 u57 u58 u59 u60 u61 u62 u63 u64 u65 u66 u67 u68 u69 u70 u71 u72 u73 u74 u75 u76 u77 u78 u79 u80 u81 u82 : Value} (P : Ending → World → Prop) (wB w : World) (g2 g5 : Nat) (V : Tv) (a : Option Addr) (c : Nat) (q : Option Addr) (d : Nat) (h : DTk wB w g2 g5 V a c q d) (hno : ¬ (V.st = 0 ∧ V.en = true)) (ho : TvO V)
    (hP : ∀ e w', RDk wB (tiT V).1 (tiT V).2 0 e w' → P e w') :
    Code.wp Try.prog (tailR 4 (Try.f41.body.getD .skip)) (bodyPost Try.prog Try.f41 P) (Act.mk (List.toArray (u0 :: u1 :: (.pointer (some ⟨g2, 0, none⟩)) :: u3 :: u4 :: (.pointer (some ⟨g5, 0, none⟩)) :: u6 :: u7 :: u8 :: u9 :: u10 :: u11 :: u12 :: u13 :: u14 :: u15 :: u16 :: u17 :: u18 :: u19 :: u20 :: u21 :: u22 :: u23 :: u24 :: u25 :: u26 :: u27 :: u28 :: u29 :: u30 :: u31 :: u32 :: u33 :: u34 :: u35 :: u36 :: u37 :: u38 :: u39 :: u40 :: u41 :: u42 :: u43 :: u44 :: u45 :: u46 :: u47 :: u48 :: u49 :: u50 :: u51 :: u52 :: u53 :: u54 :: u55 :: u56 :: u57 :: u58 :: u59 :: u60 :: u61 :: u62 :: u63 :: u64 :: u65 :: u66 :: u67 :: u68 :: u69 :: u70 :: u71 :: u72 :: u73 :: u74 :: u75 :: u76 :: u77 :: u78 :: u79 :: u80 :: u81 :: u82 :: [])) []) w := by
  conv => enter [2]; whnf
  have HP : Hid _ := hP
  clear hP
  have i14 := Try.info_tk
  have y9 : w.cell? ⟨g5, 9, none⟩ = some (.int .i64 V.st) := h.b5.cell 9 (by show 9 < 14; decide)
  have y4 : w.cell? ⟨g5, 4, none⟩ = some (.bool V.en) := h.b5.cell 4 (by show 4 < 14; decide)
  have HH : Hid _ := h
  have HO : Hid _ := ho
  have HNO : Hid _ := hno
  clear h ho
  refine wp_seq_k fun K1 hK1 => ?_
  have HK1 : Hid _ := hK1
  clear hK1
  by_cases h0 : V.st = 0
  · have he : V.en = false := by
      cases e : V.en with
      | true => exact absurd ⟨h0, e⟩ hno
      | false => rfl
    rw [h0] at y9
    rw [he] at y4
    have H0 : Hid _ := h0
    clear h0 he hno
    go_wp2
    try simp only [Exit.then]
    refine HK1.out _ _ ?_
    clear HK1
    have e9 : tiT V = (V, []) := by unfold tiT; rw [if_neg HNO.out, if_neg (fun e => by have e1 := e.1; have e2 := H0.out; omega)]
    rw [e9] at HP
    exact wo_t15n P wB w g2 g5 V a c q d HH.out (fun e => by have e1 := e.1; have e2 := H0.out; omega) (.inl H0.out) (fun e w' k => HP.out e w' k)
  · have h0b : (V.st == 0) = false := beq_eq_false_iff_ne.2 h0
    have H0 : Hid _ := h0
    obtain ⟨s, hs⟩ : ∃ s, V.st = s := ⟨_, rfl⟩
    rw [hs] at y9 h0b
    clear h0 hno hs
    go_wp2
    try simp only [Exit.then]
    refine HK1.out _ _ ?_
    clear HK1
    by_cases h3 : V.st = 3 ∧ V.tr < V.li
    · exact wo_t15y P wB w g2 g5 V a c q d HH.out h3.1 h3.2 HO.out.ti HO.out.tr (fun e w' k => HP.out e w' k)
    · have e9 : tiT V = (V, []) := by unfold tiT; rw [if_neg HNO.out, if_neg h3]
      rw [e9] at HP
      exact wo_t15n P wB w g2 g5 V a c q d HH.out h3 HO.out.st (fun e w' k => HP.out e w' k)

set_option maxHeartbeats 32000000 in
/-- the document's WaitOf -/
theorem rwait_any (V : Tv) (a q : Option Addr) (c d : Nat) (w : World) (hL : Rd w a V.L.length c V.L) (hG : RdG w q V.G.length d (giF V.G)) (hn : V.L.length ≤ 140737488351232) (hm : V.G.length ≤ 8796093021952) :
    Calls Try.prog 41 #[.agg (tkA V.id V.kn V.nm V.si V.en V.la V.su (.slice q V.G.length d) (.slice a V.L.length c) V.st V.ti V.pa V.tr V.li)] w fun e w' => RDk w (waV (tmB V.id V.kn V.nm V.si V.en V.la V.su (giF V.G) V.G.length V.L V.st V.ti V.pa V.tr V.li) V).1 (waV (tmB V.id V.kn V.nm V.si V.en V.la V.su (giF V.G) V.G.length V.L V.st V.ti V.pa V.tr V.li) V).2.1 (waV (tmB V.id V.kn V.nm V.si V.en V.la V.su (giF V.G) V.G.length V.L V.st V.ti V.pa V.tr V.li) V).2.2 e w' := by
  have i14 := Try.info_tk
  have kM := fun wz (k1 : Rd wz a V.L.length c V.L) (k : RdG wz q V.G.length d (giF V.G)) => takerMayR_any V.id V.kn V.nm V.si V.en V.la V.su q V.G.length d a V.L.length c V.st V.ti V.pa V.tr V.li (giF V.G) V.L wz k1 k hm
  have kA := fun wz (k1 : Rd wz a V.L.length c V.L) (k : RdG wz q V.G.length d (giF V.G)) => takerOf_any V.id V.kn V.nm V.si V.en V.la V.su q V.G.length d a V.L.length c V.st V.ti V.pa V.tr V.li (giF V.G) V.L wz k1 k hn hm
  have hgo := fun h => tmB_go (V := V) h
  have HGO : Hid _ := hgo
  clear hgo
  unfold tkA at kM kA
  generalize (tmB V.id V.kn V.nm V.si V.en V.la V.su (giF V.G) V.G.length V.L V.st V.ti V.pa V.tr V.li) = gB at kM HGO
  have b1 := BxS.new w 48 #[.int .i64 V.id, .bool V.kn, .string V.nm, .int .i64 V.si, .bool V.en, .int .i64 V.la, .int .i64 V.su, .slice q V.G.length d, .slice a V.L.length c, .int .i64 V.st, .int .i64 V.ti, .int .i64 V.pa, .int .i64 V.tr, .int .i64 V.li]
  have y1 := World.grownBy_alloc w (.cells #[.int .i64 V.id, .bool V.kn, .string V.nm, .int .i64 V.si, .bool V.en, .int .i64 V.la, .int .i64 V.su, .slice q V.G.length d, .slice a V.L.length c, .int .i64 V.st, .int .i64 V.ti, .int .i64 V.pa, .int .i64 V.tr, .int .i64 V.li] 48) none
  unfold tkA
  have hz1 : (w.alloc (.cells #[.int .i64 V.id, .bool V.kn, .string V.nm, .int .i64 V.si, .bool V.en, .int .i64 V.la, .int .i64 V.su, .slice q V.G.length d, .slice a V.L.length c, .int .i64 V.st, .int .i64 V.ti, .int .i64 V.pa, .int .i64 V.tr, .int .i64 V.li] 48)).heap.size = w.heap.size + 1 := by simp
  generalize hw1 : w.alloc (.cells #[.int .i64 V.id, .bool V.kn, .string V.nm, .int .i64 V.si, .bool V.en, .int .i64 V.la, .int .i64 V.su, .slice q V.G.length d, .slice a V.L.length c, .int .i64 V.st, .int .i64 V.ti, .int .i64 V.pa, .int .i64 V.tr, .int .i64 V.li] 48) = w1 at b1 y1 hz1
  have b2 := BxS.new w1 48 #[.int .i64 0, .bool false, .string ⟨#[]⟩, .int .i64 0, .bool false, .int .i64 0, .int .i64 0, .slice none 0 0, .slice none 0 0, .int .i64 0, .int .i64 0, .int .i64 0, .int .i64 0, .int .i64 0]
  have y2 := World.grownBy_alloc w1 (.cells #[.int .i64 0, .bool false, .string ⟨#[]⟩, .int .i64 0, .bool false, .int .i64 0, .int .i64 0, .slice none 0 0, .slice none 0 0, .int .i64 0, .int .i64 0, .int .i64 0, .int .i64 0, .int .i64 0] 48) none
  rw [hz1] at b2
  generalize hw2 : w1.alloc (.cells #[.int .i64 0, .bool false, .string ⟨#[]⟩, .int .i64 0, .bool false, .int .i64 0, .int .i64 0, .slice none 0 0, .slice none 0 0, .int .i64 0, .int .i64 0, .int .i64 0, .int .i64 0, .int .i64 0] 48) = w2 at b2 y2
  have b1 := b1.keep y2 (by simp)
  have G2 := grown_trans y1 y2
  go_enter Try.func41, Try.ntmps41
  refine wp_seq_k fun K1 hK1 => ?_
  have HK1 : Hid _ := hK1
  clear hK1
  go_wp2
  refine HK1.out _ _ ?_
  clear HK1
  clear hw1 hw2 y1 y2
  have s0 : True := trivial
  cases gB with
  | false =>
    go_wp2_with (first
      | (have _t := s0; clear s0; refine wpList_ldX _ rfl _ (.tmp 1) rfl w.heap.size _ rfl b1 Try.underlying48 i14 ?_; have s1 : True := trivial)
      | (go_at_call 71; have _t := s1; clear s1; refine (kM w2 (hL.keep G2) (hG.keep G2)).mono ?_; rintro e w3 ⟨rfl, y3⟩; have b23 := b2.keep y3 (by simp); have s2 : True := trivial)
      | (have _t := s2; clear s2; refine wpList_stX _ rfl _ (.tmp 2) (.tmp 10) rfl (w.heap.size + 1) _ _ rfl rfl b23 i14 rfl (by simp [Value.oneCell']) ?_; intro w4 b24 u4))
    refine bodyPost_ret (results_c1t2 rfl _ _ _ ⟨w.heap.size + 1, 0, none⟩ _ _ _ rfl (BxS.load (t := 48) b24 Try.underlying48 Try.info_tk) rfl rfl) rfl ?_
    exact ⟨none, 0, none, 0, none, 0, [], rfl, rfl, (Ans.nil _ 0).rd, (OwGi.nil _ 0).rd, OwN.nil _ _, grown_far (grown_trans G2 y3) u4 (fun z e => by have e := Option.some.inj e; omega)⟩
  | true =>
    have HO : Hid _ := HGO.out rfl
    refine wp_seq_k fun K2 hK2 => ?_
    have HK2 : Hid _ := hK2
    clear hK2
    go_wp2_with (first
      | (have _t := s0; clear s0; refine wpList_ldX _ rfl _ (.tmp 1) rfl w.heap.size _ rfl b1 Try.underlying48 i14 ?_; have s1 : True := trivial)
      | (go_at_call 71; have _t := s1; clear s1; refine (kM w2 (hL.keep G2) (hG.keep G2)).mono ?_; rintro e w3 ⟨rfl, y3⟩; have s2 : True := trivial))
    refine HK2.out _ _ ?_
    clear HK2
    have b13 := b1.keep y3 (by simp)
    have b23 := b2.keep y3 (by simp)
    have G3 := grown_trans G2 y3
    refine wp_seq_k fun K3 hK3 => ?_
    have HK3 : Hid _ := hK3
    clear hK3
    go_wp2_with (first
      | (have _t := s2; clear s2; refine wpList_ldX _ rfl _ (.tmp 1) rfl w.heap.size _ rfl b13 Try.underlying48 i14 ?_; have s3 : True := trivial)
      | (go_at_call 40; have _t := s3; clear s3; refine (kA w3 (hL.keep G3) (hG.keep G3)).mono ?_; rintro e w4 ⟨a', c', q', d', rfl, hA, hO, y4⟩; have z4 := y4.size; have bn := BxS.new w4 48 #[.int .i64 0, .bool false, .string ⟨#[]⟩, .int .i64 0, .bool false, .int .i64 0, .int .i64 0, .slice none 0 0, .slice none 0 0, .int .i64 0, .int .i64 0, .int .i64 0, .int .i64 0, .int .i64 0]; have gn := World.grownBy_alloc w4 (.cells #[.int .i64 0, .bool false, .string ⟨#[]⟩, .int .i64 0, .bool false, .int .i64 0, .int .i64 0, .slice none 0 0, .slice none 0 0, .int .i64 0, .int .i64 0, .int .i64 0, .int .i64 0, .int .i64 0] 48) none; generalize hwn : w4.alloc (.cells #[.int .i64 0, .bool false, .string ⟨#[]⟩, .int .i64 0, .bool false, .int .i64 0, .int .i64 0, .slice none 0 0, .slice none 0 0, .int .i64 0, .int .i64 0, .int .i64 0, .int .i64 0, .int .i64 0] 48) = w5 at bn gn; have s4 : True := trivial)
      | (have _t := s4; clear s4; refine wpList_stX _ rfl _ (.tmp 5) (.tmp 12) rfl w4.heap.size _ _ rfl rfl bn i14 rfl (by simp [tkA, Value.oneCell']) ?_; intro w6 b5 u6))
    refine HK3.out _ _ ?_
    clear HK3
    try unfold tkA at b5
    rw [tab_giF] at hO
    have z3 := G3.size
    have Y6 : w4.grownBy w6 none := grown_far gn u6 (fun z e => by have e := Option.some.inj e; omega)
    obtain ⟨g5, hg5⟩ : ∃ g, w4.heap.size = g := ⟨_, rfl⟩
    rw [hg5] at b5 ⊢
    have l2 := b23.lt
    have hD : DTk w w6 (w.heap.size + 1) g5 V a' c' q' d' := ⟨b5, (b23.keep y4 (by simp)).keep Y6 (by simp), (hA.keep Y6).wide z3, (hO.keep Y6).wide z3, by omega, by omega, by omega, grown_trans (grown_trans G3 y4) Y6⟩
    have HX : Hid (waV true V = ((tiT V).1, (tiT V).2, 0)) := rfl
    rw [HX.out]
    by_cases hse : V.st = 0 ∧ V.en = true
    · exact wo_t4y _ w w6 (w.heap.size + 1) g5 V a' c' q' d' hD hse.1 hse.2 HO.out (fun e w' k => k)
    · exact wo_t4n _ w w6 (w.heap.size + 1) g5 V a' c' q' d' hD hse HO.out (fun e w' k => k)
end
end Go.Proofs.Ytnimehkfnpepfaa
