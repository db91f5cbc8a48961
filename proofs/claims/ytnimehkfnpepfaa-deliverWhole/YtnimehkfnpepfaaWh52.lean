import Derived.Test.YtnimehkfnpepfaaWh51
namespace Go.Proofs.Ytnimehkfnpepfaa
open Go.RowKit
set_option maxRecDepth 100000
set_option linter.unusedVariables false
set_option linter.unusedSimpArgs false

section
theorem coF_in (P Co Lo : Int) (N : Nat) (W : List Nt) : (∀ n, n ∈ (coF P Co Lo N W).1 → n ∈ W) ∧ (∀ n, n ∈ (coF P Co Lo N W).2 → n ∈ W) ∧ (coF P Co Lo N W).1.length ≤ N ∧ (coF P Co Lo N W).2.length ≤ W.length := by
  obtain ⟨h1, h2, h3, h4⟩ := co_in (pk := pkC P) (cp := btC Co) (lo := btC Lo) N 0 W []
  refine ⟨fun n hn => (h1 n hn).resolve_left (fun h => by cases h), h2, ?_, h4⟩
  rw [List.length_nil, Nat.zero_add] at h3
  exact h3
set_option maxHeartbeats 16000000 in
/-- A TICK -/
theorem tick_cr {K : Kc} (hK : K.ok) (wB w : World) (gc : Nat) (c : Cr) (X0 : Cx) (hC0 : CM wB w gc c X0) (Nd Nu : Nat) (P Lo Co : Int) (hd : Nd ≤ 1000) (hu : Nu ≤ 1000) (hO : PO K c) (h5 : (crT c (coF P Co Lo Nd) (coF P Co Lo Nu)).dn.length < 5000) :
    Calls Try.prog 46 #[.pointer (some ⟨gc, 0, none⟩), .agg #[.int .i64 (Nd : Int), .int .i64 (Nu : Int), .int .i64 P, .int .i64 Lo, .int .i64 Co]] w fun e w' => e = .returned (.bool true) ∧ CMx wB w' gc (crT c (coF P Co Lo Nd) (coF P Co Lo Nu)) := by
  obtain ⟨k1, k2, k3, k4⟩ := coF_in P Co Lo Nd (c.dn ++ (tiG c.g).2)
  obtain ⟨l1, l2, l3, l4⟩ := coF_in P Co Lo Nu (taF (tiT c.t).1 (c.up ++ (tiT c.t).2) (coF P Co Lo Nd (c.dn ++ (tiG c.g).2)).1).2
  have hT := tk_nine hK hO.sc hO.g hO.t ⟨k1, k2⟩ ⟨l1, l2⟩
  have HLN : Hid (c.dn.length ≤ 5000 ∧ c.up.length ≤ 5000 ∧ (tiG c.g).2.length ≤ 10 ∧ (tiT c.t).2.length ≤ 1) := ⟨hO.dn, hO.up, hT.lg, hT.lt⟩
  have HTT : Hid _ := hT
  have H5 : Hid _ := h5
  have HK3 : Hid _ := k3
  have HK4 : Hid _ := k4
  have HL3 : Hid _ := l3
  clear k1 k2 k3 k4 l1 l2 l3 l4 hT h5
  have b0 := BxS.new w 77 #[.int .i64 (Nd : Int), .int .i64 (Nu : Int), .int .i64 P, .int .i64 Lo, .int .i64 Co]
  have G0 := World.grownBy_alloc w (.cells #[.int .i64 (Nd : Int), .int .i64 (Nu : Int), .int .i64 P, .int .i64 Lo, .int .i64 Co] 77) none
  have hC1 := hC0.keep G0
  go_enter Try.func46, Try.ntmps46
  refine wp_seq_k fun K0 hK0 => ?_
  have HK0 : Hid _ := hK0
  clear hK0
  go_wp2
  refine HK0.out _ _ ?_
  clear HK0
  generalize w.alloc (.cells #[.int .i64 (Nd : Int), .int .i64 (Nu : Int), .int .i64 P, .int .i64 Lo, .int .i64 Co] 77) = w1 at *
  obtain ⟨g3, hg3⟩ : ∃ g, w.heap.size = g := ⟨_, rfl⟩
  rw [hg3] at b0 ⊢
  clear hg3 hC0 G0
  have HGp : Calls Try.prog 32 #[.agg (gvC c.g X0.a X0.ac X0.q X0.qc).toArray] w1 fun e w' => ∃ V1 T1, Hid (V1 = (tiG c.g).1) ∧ Hid (T1 = (tiG c.g).2) ∧ RT w1 V1 T1 0 e w' := (giveQ_any hK c.g hO.sc.g X0.a X0.q X0.ac X0.qc w1 hC1.gA.rd hC1.gO.rd).mono (fun e w' h => ⟨_, _, rfl, rfl, h⟩)
  have s0 : True := trivial
  refine wp_seq_k fun K1 hK1 => ?_
  have HK1 : Hid _ := hK1
  clear hK1
  go_wp2_with (first
    | (have _t := s0; clear s0; refine wpList_load_mid rfl _ (.tmp 24) rfl gc 0 rfl (gvC c.g X0.a X0.ac X0.q X0.qc) _ (hC1.bx.range 0 (gvC c.g X0.a X0.ac X0.q X0.qc) rfl) Try.underlying44 rfl Try.info_gv ?_; have s1 : True := trivial)
    | (have _t := s1; clear s1; go_at_call 32; refine HGp.mono ?_; rintro e wp3 ⟨V1, T1, HVp, HTp, a1, c1, q1, d1, na1, nc1, xs1, rfl, hx3, hA3, hO3, hN3, _, _, y3⟩; have HXp : Hid _ := hx3; clear hx3; have b4 := BxS.new wp3 44 #[.int .i64 0, .string ⟨#[]⟩, .slice none 0 0, .int .i64 0, .int .i64 0, .int .i64 0, .bool false, .int .i64 0, .slice none 0 0, .int .i64 0, .int .i64 0, .int .i64 0, .int .i64 0]; have G4 := World.grownBy_alloc wp3 (.cells #[.int .i64 0, .string ⟨#[]⟩, .slice none 0 0, .int .i64 0, .int .i64 0, .int .i64 0, .bool false, .int .i64 0, .slice none 0 0, .int .i64 0, .int .i64 0, .int .i64 0, .int .i64 0] 44) none; have s2 : True := trivial)
    | (have _t := s2; clear s2; refine wpList_stX _ rfl _ (.tmp 5) (.tmp 27) rfl wp3.heap.size _ (gvC V1 a1 c1 q1 d1).toArray rfl rfl b4 Try.info_gv rfl (by simp [gvC, Value.oneCell']) ?_; intro wp5 bop u5))
  refine HK1.out _ _ ?_
  clear HK1
  have Gp : w1.grownBy wp5 none := grown_far (grown_trans y3 G4) u5 (fun z e => by cases e; exact y3.size)
  have hCp := hC1.keep Gp
  have hszp := hC1.gr.size
  have hAp : Ans wp5 wB.heap.size a1 V1.L.length c1 V1.L := ((hA3.wide hszp).keep G4).kRR u5 (fun z e => by cases e; exact own_ty ((hA3.wide hszp).keep G4).own b4 (by decide))
  have hOp : OwGi wp5 wB.heap.size q1 V1.G.length d1 V1.G := ((hO3.wide hszp).keep G4).bx b4 (by decide) u5
  have hNp : OwN wp5 w1.heap.size na1 T1.length nc1 xs1 := (hN3.keep G4).bx b4 (by decide) (by decide) (by decide) u5
  obtain ⟨gp, hgp⟩ : ∃ g, wp3.heap.size = g := ⟨_, rfl⟩
  rw [hgp] at bop ⊢
  clear hgp b4 u5 G4 y3 hA3 hO3 hN3 HGp
  have b3p := b0.keep Gp (by simp)
  have HGq : Calls Try.prog 44 #[.agg (tkC c.t X0.ta X0.tc X0.tq X0.td).toArray] wp5 fun e w' => ∃ V1 T1, Hid (V1 = (tiT c.t).1) ∧ Hid (T1 = (tiT c.t).2) ∧ RK wp5 V1 T1 0 e w' := (waitQ_any hK c.t hO.sc.t X0.ta X0.tq X0.tc X0.td wp5 hCp.tA.rd hCp.tO.rd).mono (fun e w' h => ⟨_, _, rfl, rfl, h⟩)
  have s0 : True := trivial
  refine wp_seq_k fun K2 hK2 => ?_
  have HK2 : Hid _ := hK2
  clear hK2
  go_wp2_with (first
    | (have _t := s0; clear s0; refine wpList_load_mid rfl _ (.tmp 33) rfl gc 13 rfl (tkC c.t X0.ta X0.tc X0.tq X0.td) _ (hCp.bx.range 13 (tkC c.t X0.ta X0.tc X0.tq X0.td) rfl) Try.underlying48 rfl Try.info_tk ?_; have s1 : True := trivial)
    | (have _t := s1; clear s1; go_at_call 44; refine HGq.mono ?_; rintro e wq3 ⟨V2, T2, HVq, HTq, a2, c2, q2, d2, na2, nc2, xs2, rfl, hx3, hA3, hO3, hN3, _, _, y3⟩; have HXq : Hid _ := hx3; clear hx3; have b4 := BxS.new wq3 48 #[.int .i64 0, .bool false, .string ⟨#[]⟩, .int .i64 0, .bool false, .int .i64 0, .int .i64 0, .slice none 0 0, .slice none 0 0, .int .i64 0, .int .i64 0, .int .i64 0, .int .i64 0, .int .i64 0]; have G4 := World.grownBy_alloc wq3 (.cells #[.int .i64 0, .bool false, .string ⟨#[]⟩, .int .i64 0, .bool false, .int .i64 0, .int .i64 0, .slice none 0 0, .slice none 0 0, .int .i64 0, .int .i64 0, .int .i64 0, .int .i64 0, .int .i64 0] 48) none; have s2 : True := trivial)
    | (have _t := s2; clear s2; refine wpList_stX _ rfl _ (.tmp 8) (.tmp 36) rfl wq3.heap.size _ (tkC V2 a2 c2 q2 d2).toArray rfl rfl b4 Try.info_tk rfl (by simp [tkC, Value.oneCell']) ?_; intro wq5 boq u5))
  refine HK2.out _ _ ?_
  clear HK2
  have Gq : wp5.grownBy wq5 none := grown_far (grown_trans y3 G4) u5 (fun z e => by cases e; exact y3.size)
  have hCq := hCp.keep Gq
  have hszq := hCp.gr.size
  have hAq : Ans wq5 wB.heap.size a2 V2.L.length c2 V2.L := ((hA3.wide hszq).keep G4).kRR u5 (fun z e => by cases e; exact own_ty ((hA3.wide hszq).keep G4).own b4 (by decide))
  have hOq : OwGi wq5 wB.heap.size q2 V2.G.length d2 V2.G := ((hO3.wide hszq).keep G4).bx b4 (by decide) u5
  have hNq : OwN wq5 wp5.heap.size na2 T2.length nc2 xs2 := (hN3.keep G4).bx b4 (by decide) (by decide) (by decide) u5
  obtain ⟨gq, hgq⟩ : ∃ g, wq3.heap.size = g := ⟨_, rfl⟩
  rw [hgq] at boq ⊢
  clear hgq b4 u5 G4 y3 hA3 hO3 hN3 HGq
  have b3q := b3p.keep Gq (by simp)
  replace bop := bop.keep Gq (by simp)
  refine wp_seq_k fun K3 hK3 => ?_
  have HK3 : Hid _ := hK3
  clear hK3
  go_wp2
  refine HK3.out _ _ ?_
  clear HK3
  refine wp_seq_k fun K5 hK5 => ?_
  have HK5 : Hid _ := hK5
  clear hK5
  have Gd := grown_drew wq5 none
  have hCd := hCq.keep Gd
  have SS : BxS wq5.drew gp 44 (gvC V1 a1 c1 q1 d1).toArray ∧ BxS wq5.drew gq 48 (tkC V2 a2 c2 q2 d2).toArray := ⟨bop.keep Gd (by simp), boq.keep Gd (by simp)⟩
  refine wp_regionM (fun wz => BxS wz gp 44 (gvC V1 a1 c1 q1 d1).toArray ∧ BxS wz gq 48 (tkC V2 a2 c2 q2 d2).toArray) [] #[false, false, false, false, false, false, false, false, false, false] rfl (by kernel_rfl) ?_
  generalize wq5.drew = wd at *
  refine wpAnyY_take [] 0 (.pointer (some ⟨gc, 0, none⟩)) rfl (by kernel_rfl) (fun _ _ _ h => h) SS rfl (by rintro wz ⟨hz, hm⟩; go_simp) ?_
  try simp only [zc1, zc2, zc3, Act.put, zc4, zc5, zc6]
  refine wpAnyY_take [] 1 (.pointer (some ⟨gc, 0, none⟩)) rfl (by kernel_rfl) (fun _ _ _ h => h) SS rfl (by rintro wz ⟨hz, hm⟩; go_simp) ?_
  try simp only [zc1, zc2, zc3, Act.put, zc4, zc5, zc6]
  refine wpAnyY_take [] 2 (.agg #[.int .i64 V1.id, .string V1.nm, .slice a1 V1.L.length c1, .int .i64 V1.mo, .int .i64 V1.bu, .int .i64 V1.st, .bool V1.fi, .int .i64 V1.at', .slice q1 V1.G.length d1, .int .i64 V1.ti, .int .i64 V1.pa, .int .i64 V1.tr, .int .i64 V1.li]) rfl (by kernel_rfl) (fun _ _ _ h => h) SS rfl (by rintro wz ⟨hz, hm⟩; exact ld_execD rfl rfl hz Try.underlying44 Try.info_gv) ?_
  try simp only [zc1, zc2, zc3, Act.put, zc4, zc5, zc6]
  refine wpAnyY_take [] 3 (.agg #[.int .i64 V2.id, .bool V2.kn, .string V2.nm, .int .i64 V2.si, .bool V2.en, .int .i64 V2.la, .int .i64 V2.su, .slice q2 V2.G.length d2, .slice a2 V2.L.length c2, .int .i64 V2.st, .int .i64 V2.ti, .int .i64 V2.pa, .int .i64 V2.tr, .int .i64 V2.li]) rfl (by kernel_rfl) (fun _ _ _ h => h) SS rfl (by rintro wz ⟨hz, hm⟩; exact ld_execD rfl rfl hm Try.underlying48 Try.info_tk) ?_
  try simp only [zc1, zc2, zc3, Act.put, zc4, zc5, zc6]
  refine wpAnyY_oneB 4 rfl (by kernel_rfl) (fun KK hKK => ?_)
  go_simp
  refine hKK _ _ (fun h _ => h) ?_
  try simp only [zc1, zc2, zc3, Act.put, zc4, zc5, zc6]
  refine wpAnyY_oneB 5 rfl (by kernel_rfl) (fun KK hKK => ?_)
  go_simp
  refine hKK _ _ (fun h _ => h) ?_
  try simp only [zc1, zc2, zc3, Act.put, zc4, zc5, zc6]
  refine wpAnyY_oneB 6 rfl (by kernel_rfl) (fun KK hKK => ?_)
  refine step_of_listQ rfl ?_
  refine wpList_stP rfl _ _ _ rfl gc 0 75 _ (crA V1 a1 c1 q1 d1 c.t X0.ta X0.tc X0.tq X0.td (.slice X0.da X0.dn X0.dc) (.slice X0.ua X0.un X0.uc)) (gvC V1 a1 c1 q1 d1).toArray rfl rfl hCd.bx Try.info_gv (by show 0 + 13 ≤ 29; decide) (by simp [gvC, Value.oneCell']) (setA_g _ _ _ _ _ _ _ _ _ _ _ _ _ _ _ _ _) ?_
  intro wa ba ua
  have SA : BxS wa gp 44 (gvC V1 a1 c1 q1 d1).toArray ∧ BxS wa gq 48 (tkC V2 a2 c2 q2 d2).toArray := ⟨SS.1.keep ua (fun e => BxS.apart SS.1 hCd.bx (by decide) (Option.some.inj e)), SS.2.keep ua (fun e => BxS.apart SS.2 hCd.bx (by decide) (Option.some.inj e))⟩
  show KK _ wa
  refine hKK _ _ (fun _ _ => SA) ?_
  try simp only [zc1, zc2, zc3, Act.put, zc4, zc5, zc6]
  refine wpAnyY_oneB 7 rfl (by kernel_rfl) (fun KK hKK => ?_)
  go_simp
  refine hKK _ _ (fun h _ => h) ?_
  try simp only [zc1, zc2, zc3, Act.put, zc4, zc5, zc6]
  refine wpAnyY_oneB 8 rfl (by kernel_rfl) (fun KK hKK => ?_)
  go_simp
  refine hKK _ _ (fun h _ => h) ?_
  try simp only [zc1, zc2, zc3, Act.put, zc4, zc5, zc6]
  refine wpAnyY_oneB 9 rfl (by kernel_rfl) (fun KK hKK => ?_)
  refine step_of_listQ rfl ?_
  refine wpList_stP rfl _ _ _ rfl gc 13 75 _ (crA V1 a1 c1 q1 d1 V2 a2 c2 q2 d2 (.slice X0.da X0.dn X0.dc) (.slice X0.ua X0.un X0.uc)) (tkC V2 a2 c2 q2 d2).toArray rfl rfl ba Try.info_tk (by show 13 + 14 ≤ 29; decide) (by simp [tkC, Value.oneCell']) (setA_t _ _ _ _ _ _ _ _ _ _ _ _ _ _ _ _ _) ?_
  intro wb bb ub
  have SB : BxS wb gp 44 (gvC V1 a1 c1 q1 d1).toArray ∧ BxS wb gq 48 (tkC V2 a2 c2 q2 d2).toArray := ⟨SA.1.keep ub (fun e => BxS.apart SA.1 ba (by decide) (Option.some.inj e)), SA.2.keep ub (fun e => BxS.apart SA.2 ba (by decide) (Option.some.inj e))⟩
  show KK _ wb
  refine hKK _ _ (fun _ _ => SB) ?_
  try simp only [zc1, zc2, zc3, Act.put, zc4, zc5, zc6]
  refine wpAnyY_doneB (by kernel_rfl) ?_ _
  have kA : ∀ {lo2 : Nat} {x : Option Addr} {m d : Nat} {Y : List Nat}, Ans wd lo2 x m d Y → Ans wa lo2 x m d Y := fun k => k.kRR ua (fun z e => by cases e; exact own_ty k.own hCd.bx (by decide))
  have hCa := hCd.putG (World.grownBy.refl wd none) ((hAp.keep Gq).keep Gd) ((hOp.keep Gq).keep Gd) ba ua
  obtain ⟨X, hC⟩ : ∃ X, CM wB wb gc ⟨V1, V2, c.dn, c.up⟩ X := ⟨_, hCa.putT (World.grownBy.refl wa none) (kA (hAq.keep Gd)) ((hOq.keep Gd).bx hCd.bx (by decide) ua) bb ub⟩
  have hN1 := ((((hNp.keep Gq).keep Gd).bx hCd.bx (by decide) (by decide) (by decide) ua).bx ba (by decide) (by decide) (by decide) ub)
  have hN2 := (((hNq.keep Gd).bx hCd.bx (by decide) (by decide) (by decide) ua).bx ba (by decide) (by decide) (by decide) ub)
  have b3d := (b3q.keep Gd (by simp)).keep ua (fun e => BxS.apart (b3q.keep Gd (by simp)) hCd.bx (by decide) (Option.some.inj e))
  have b3b := b3d.keep ub (fun e => BxS.apart b3d ba (by decide) (Option.some.inj e))
  clear SS SA SB ba ua bb ub hCa kA hCd b3d
  refine HK5.out _ _ ?_
  clear HK5
  refine wp_seq_k fun K6 hK6 => ?_
  have HK6 : Hid _ := hK6
  clear hK6
  go_wp2
  refine HK6.out _ _ ?_
  clear HK6
  have HQ1 : Hid (∀ n, n ∈ T1 → DnK K n) := fun n hn => HTT.out.og n (by rw [← HTp.out]; exact hn)
  have HQ2 : Hid (∀ n, n ∈ T2 → UpK K n) := fun n hn => HTT.out.ot n (by rw [← HTq.out]; exact hn)
  have HLN2 : Hid (c.dn.length ≤ 5000 ∧ c.up.length ≤ 5000 ∧ T1.length ≤ 10 ∧ T2.length ≤ 1) := by
    rw [HTp.out, HTq.out]; exact HLN.out
  clear HLN
  have HLN := HLN2
  clear HLN2
  have hlr : X.dn = c.dn.length := hC.dl
  have c27 : wb.cell? ⟨gc, 27, none⟩ = some (.slice X.da X.dn X.dc) := hC.bx.cell 27 (by show 27 < 29; decide)
  have HSr := sends_any wB.heap.size w1.heap.size X.da X.dn X.dc X.dr na1 T1.length nc1 xs1 wb hC.dW hN1 hC.gr.size (fun y hy => dn_q hK (HQ1.out y.dt (by rw [← HXp.out]; exact List.mem_map_of_mem hy))) (by have := HLN.out; omega)
  clear hlr
  refine wp_seq_k fun K7 hK7 => ?_
  have HK7 : Hid _ := hK7
  clear hK7
  go_wp2_with (first
    | (go_at_call 81; refine HSr.mono ?_; rintro e wr5 ⟨a5, c5, qs5, rfl, hW5, hm5, u5, z5⟩; have b5 := hC.dW.box u5 hC.bx (by decide); have s1 : True := trivial)
    | (have _t := s1; clear s1; refine wpList_stC _ rfl _ (.tmp 64) (.tmp 61) rfl gc 27 75 _ (crA V1 X.a X.ac X.q X.qc V2 X.ta X.tc X.tq X.td (.slice a5 (X.dn + T1.length) c5) (.slice X.ua X.un X.uc)) (.slice a5 (X.dn + T1.length) c5) rfl rfl b5 (stc_slY _ _ _ _ _) (by show 27 < 29; decide) rfl ?_; intro wr6 b6 u6))
  refine HK7.out _ _ ?_
  clear HK7
  have hD6 : (X.dr ++ qs5).map Rw.D = (c.dn ++ T1).map enT := by
    rw [List.map_append, List.map_append, hC.dD.out, hm5, ← HXp.out, List.map_map]
    rfl
  obtain ⟨Xr, hCr⟩ : ∃ X9, CM wB wr6 gc ⟨V1, V2, c.dn ++ T1, c.up⟩ X9 := ⟨_, hC.putD u5 hW5 hD6 z5 b6 u6⟩
  have hN2r := (hC.dW.own' u5 hN2).bx b5 (by decide) (by decide) (by decide) u6
  have b35 := hC.dW.box u5 b3b (by decide)
  have b3r := b35.keep u6 (fun e => BxS.apart b35 b5 (by decide) (Option.some.inj e))
  clear b5 u5 u6 b6 hW5 z5 hm5 hD6 b35 HSr c27
  have hls : Xr.un = c.up.length := hCr.ul
  have c27 : wr6.cell? ⟨gc, 28, none⟩ = some (.slice Xr.ua Xr.un Xr.uc) := hCr.bx.cell 28 (by show 28 < 29; decide)
  have HSs := sends_any wB.heap.size wp5.heap.size Xr.ua Xr.un Xr.uc Xr.ur na2 T2.length nc2 xs2 wr6 hCr.uW hN2r hCr.gr.size (fun y hy => up_q hK (HQ2.out y.dt (by rw [← HXq.out]; exact List.mem_map_of_mem hy))) (by have := HLN.out; omega)
  clear hls
  refine wp_seq_k fun K8 hK8 => ?_
  have HK8 : Hid _ := hK8
  clear hK8
  go_wp2_with (first
    | (go_at_call 81; refine HSs.mono ?_; rintro e ws5 ⟨a5, c5, qs5, rfl, hW5, hm5, u5, z5⟩; have b5 := hCr.uW.box u5 hCr.bx (by decide); have s1 : True := trivial)
    | (have _t := s1; clear s1; refine wpList_stC _ rfl _ (.tmp 76) (.tmp 73) rfl gc 28 75 _ (crA V1 Xr.a Xr.ac Xr.q Xr.qc V2 Xr.ta Xr.tc Xr.tq Xr.td (.slice Xr.da Xr.dn Xr.dc) (.slice a5 (Xr.un + T2.length) c5)) (.slice a5 (Xr.un + T2.length) c5) rfl rfl b5 (stc_slY _ _ _ _ _) (by show 28 < 29; decide) rfl ?_; intro ws6 b6 u6))
  refine HK8.out _ _ ?_
  clear HK8
  have hD6 : (Xr.ur ++ qs5).map Rw.D = (c.up ++ T2).map enT := by
    rw [List.map_append, List.map_append, hCr.uD.out, hm5, ← HXq.out, List.map_map]
    rfl
  obtain ⟨Xs, hCs⟩ : ∃ X9, CM wB ws6 gc ⟨V1, V2, c.dn ++ T1, c.up ++ T2⟩ X9 := ⟨_, hCr.putU u5 hW5 hD6 z5 b6 u6⟩
  have b35 := hCr.uW.box u5 b3r (by decide)
  have b3s := b35.keep u6 (fun e => BxS.apart b35 b5 (by decide) (Option.some.inj e))
  clear b5 u5 u6 b6 hW5 z5 hm5 hD6 b35 HSs c27
  refine wp_seq_k fun K9 hK9 => ?_
  have HK9 : Hid _ := hK9
  clear hK9
  go_wp2
  refine HK9.out _ _ ?_
  clear HK9
  have HQN : Hid (∀ n, n ∈ c.dn ++ T1 → NtQ n) := fun n hn => dn_q hK (HTT.out.dn n (by rw [← HTp.out]; exact hn))
  have HNN : Hid (Nd ≤ 1000) := hd
  have hl9 : Xs.dn = (c.dn ++ T1).length := hCs.dl
  have HBN : Hid (Xs.dn ≤ 100000) := by rw [hl9, List.length_append]; have := HLN.out; show _ ≤ 100000; omega
  clear hl9
  refine wp_seq_k fun K10 hK10 => ?_
  have HK10 : Hid _ := hK10
  clear hK10
  have Gd := grown_drew ws6 none
  have hCd := hCs.keep Gd
  have SS : BxS ws6.drew gc 75 (crA V1 Xs.a Xs.ac Xs.q Xs.qc V2 Xs.ta Xs.tc Xs.tq Xs.td (.slice Xs.da Xs.dn Xs.dc) (.slice Xs.ua Xs.un Xs.uc)) ∧ BxS ws6.drew g3 77 #[.int .i64 (Nd : Int), .int .i64 (Nu : Int), .int .i64 P, .int .i64 Lo, .int .i64 Co] := ⟨hCd.bx, b3s.keep Gd (by simp)⟩
  refine wp_regionM (fun wz => BxS wz gc 75 (crA V1 Xs.a Xs.ac Xs.q Xs.qc V2 Xs.ta Xs.tc Xs.tq Xs.td (.slice Xs.da Xs.dn Xs.dc) (.slice Xs.ua Xs.un Xs.uc)) ∧ BxS wz g3 77 #[.int .i64 (Nd : Int), .int .i64 (Nu : Int), .int .i64 P, .int .i64 Lo, .int .i64 Co]) [] #[false, false, false, false, false, false, false, false, false, false, false, false, false, false, false] rfl (by kernel_rfl) ?_
  generalize ws6.drew = wd at *
  refine wpAnyY_take [] 0 (.pointer (some ⟨gc, 0, none⟩)) rfl (by kernel_rfl) (fun _ _ _ h => h) SS rfl (by rintro wz ⟨hz, hm⟩; go_simp) ?_
  try simp only [zc1, zc2, zc3, Act.put, zc4, zc5, zc6]
  refine wpAnyY_take [] 1 (.pointer (some ⟨gc, 0, none⟩)) rfl (by kernel_rfl) (fun _ _ _ h => h) SS rfl (by rintro wz ⟨hz, hm⟩; go_simp) ?_
  try simp only [zc1, zc2, zc3, Act.put, zc4, zc5, zc6]
  refine wpAnyY_take [] 2 (.pointer (some ⟨gc, 27, none⟩)) rfl (by kernel_rfl) (fun _ _ _ h => h) SS rfl (by rintro wz ⟨hz, hm⟩; go_simp) ?_
  try simp only [zc1, zc2, zc3, Act.put, zc4, zc5, zc6]
  refine wpAnyY_take [] 3 (.slice Xs.da Xs.dn Xs.dc) rfl (by kernel_rfl) (fun _ _ _ h => h) SS rfl (by rintro wz ⟨hz, hm⟩; have z : wz.cell? ⟨gc, 27, none⟩ = some (.slice Xs.da Xs.dn Xs.dc) := hz.cell 27 (by show 27 < 29; decide); go_simp) ?_
  try simp only [zc1, zc2, zc3, Act.put, zc4, zc5, zc6]
  refine wpAnyY_take [] 4 (.pointer (some ⟨g3, 0, none⟩)) rfl (by kernel_rfl) (fun _ _ _ h => h) SS rfl (by rintro wz ⟨hz, hm⟩; go_simp) ?_
  try simp only [zc1, zc2, zc3, Act.put, zc4, zc5, zc6]
  refine wpAnyY_take [] 5 (.int .i64 (Nd : Int)) rfl (by kernel_rfl) (fun _ _ _ h => h) SS rfl (by rintro wz ⟨hz, hm⟩; have z : wz.cell? ⟨g3, 0, none⟩ = some (.int .i64 (Nd : Int)) := hm.cell 0 (by show 0 < 5; decide); go_simp) ?_
  try simp only [zc1, zc2, zc3, Act.put, zc4, zc5, zc6]
  refine wpAnyY_take [] 6 (.agg #[.int .i64 (Nd : Int), .int .i64 (Nu : Int), .int .i64 P, .int .i64 Lo, .int .i64 Co]) rfl (by kernel_rfl) (fun _ _ _ h => h) SS rfl (by rintro wz ⟨hz, hm⟩; exact ld_execD rfl rfl hm Try.underlying77 Try.info_wy) ?_
  try simp only [zc1, zc2, zc3, Act.put, zc4, zc5, zc6]
  refine wpAnyY_oneB 7 rfl (by kernel_rfl) (fun KK hKK => ?_)
  go_simp
  go_at_call 82
  refine (comes_any wB.heap.size Xs.da Xs.dn Xs.dc Xs.dr (c.dn ++ T1) Nd (Nd : Int) (Nu : Int) P Lo Co wd hCd.dW hCd.dD.out (fun n hn => HQN.out n hn) HNN.out HBN.out hCd.gr.size).mono ?_
  rintro e w3 ⟨na3, nc3, xs3, a3, n3, c3, rs3, rfl, hN3, hx3, hW3, hD3, hz3, y3⟩
  dsimp only
  have hC3 := hCd.keep y3
  have b33 := SS.2.keep y3 (by simp)
  have HX3 : Hid _ := hx3
  have HD3 : Hid _ := hD3
  clear hx3 hD3
  refine hKK _ _ (fun _ _ => ⟨hC3.bx, b33⟩) ?_
  try simp only [zc1, zc2, zc3, Act.put, zc4, zc5, zc6]
  refine wpAnyY_oneB 8 rfl (by kernel_rfl) (fun KK hKK => ?_)
  go_simp
  refine hKK _ _ (fun h _ => h) ?_
  try simp only [zc1, zc2, zc3, Act.put, zc4, zc5, zc6]
  refine wpAnyY_takeF 9 (.slice na3 xs3.length nc3) rfl (by kernel_rfl) (fun _ _ _ h => h) rfl (by intro wz; go_simp; try rfl) ?_
  try simp only [zc1, zc2, zc3, Act.put, zc4, zc5, zc6]
  refine wpAnyY_takeF 10 (.slice a3 n3 c3) rfl (by kernel_rfl) (fun _ _ _ h => h) rfl (by intro wz; go_simp; try rfl) ?_
  try simp only [zc1, zc2, zc3, Act.put, zc4, zc5, zc6]
  refine wpAnyY_takeF 11 (.bool true) rfl (by kernel_rfl) (fun _ _ _ h => h) rfl (by intro wz; go_simp; try rfl) ?_
  try simp only [zc1, zc2, zc3, Act.put, zc4, zc5, zc6]
  refine wpAnyY_oneB 12 rfl (by kernel_rfl) (fun KK hKK => ?_)
  go_simp
  refine hKK _ _ (fun h _ => h) ?_
  try simp only [zc1, zc2, zc3, Act.put, zc4, zc5, zc6]
  refine wpAnyY_oneB 13 rfl (by kernel_rfl) (fun KK hKK => ?_)
  go_simp
  refine hKK _ _ (fun h _ => h) ?_
  try simp only [zc1, zc2, zc3, Act.put, zc4, zc5, zc6]
  refine wpAnyY_oneB 14 rfl (by kernel_rfl) (fun KK hKK => ?_)
  go_simp
  refine hKK _ _ (fun h _ => h) ?_
  try simp only [zc1, zc2, zc3, Act.put, zc4, zc5, zc6]
  refine wpAnyY_doneB (by kernel_rfl) ?_ _
  refine HK10.out _ _ ?_
  clear HK10
  refine wp_seq_k fun K11 hK11 => ?_
  have HK11 : Hid _ := hK11
  clear hK11
  have s1 : True := trivial
  go_wp2_with (have _t := s1; clear s1; refine wpList_stC _ rfl _ (.tmp 98) (.tmp 96) rfl gc 27 75 _ (crA V1 Xs.a Xs.ac Xs.q Xs.qc V2 Xs.ta Xs.tc Xs.tq Xs.td (.slice a3 n3 c3) (.slice Xs.ua Xs.un Xs.uc)) (.slice a3 n3 c3) rfl rfl hC3.bx (stc_slY _ _ _ _ _) (by show 27 < 29; decide) rfl ?_; intro w6 b6 u6)
  refine HK11.out _ _ ?_
  clear HK11
  have hC6 := hCd.putD (grown_weak y3 _) hW3 (W := (coF P Co Lo Nd (c.dn ++ T1)).2) HD3.out hz3 b6 u6
  have hN6 := hN3.bx hC3.bx (by decide) (by decide) (by decide) u6
  have b36 := b33.keep u6 (fun e => BxS.apart b33 hC3.bx (by decide) (Option.some.inj e))
  have e1 := HVp.out
  have e2 := HTp.out
  have e3 := HVq.out
  have e4 := HTq.out
  have hT := HTT.out
  have hk3 := HK3.out
  have hk4 := HK4.out
  have hl3 := HL3.out
  have hln := HLN.out
  have hx3 := HX3.out
  have h5 := H5.out
  clear HVp HTp HVq HTq HTT HK3 HK4 HL3 HLN HX3 HD3 H5 HQ1 HQ2 HQN HXp HXq
  subst e1 e2 e3 e4
  rw [List.length_append] at hk4
  have f1 : ∀ j, TS K (taF (tiT c.t).1 (c.up ++ (tiT c.t).2) ((coF P Co Lo Nd (c.dn ++ (tiG c.g).2)).1.take j)).1 ∧ (∀ n, n ∈ (taF (tiT c.t).1 (c.up ++ (tiT c.t).2) ((coF P Co Lo Nd (c.dn ++ (tiG c.g).2)).1.take j)).2 → UpK K n) ∧ (taF (tiT c.t).1 (c.up ++ (tiT c.t).2) ((coF P Co Lo Nd (c.dn ++ (tiG c.g).2)).1.take j)).2.length ≤ 20000 := fun j => ⟨(hT.ta j).1, (hT.ta j).2.1, by have := (hT.ta j).2.2; omega⟩
  have f2 : ∀ j, GS K (reF (tiG c.g).1 (coF P Co Lo Nd (c.dn ++ (tiG c.g).2)).2 ((coF P Co Lo Nu (taF (tiT c.t).1 (c.up ++ (tiT c.t).2) (coF P Co Lo Nd (c.dn ++ (tiG c.g).2)).1).2).1.take j)).1 ∧ (∀ n, n ∈ (reF (tiG c.g).1 (coF P Co Lo Nd (c.dn ++ (tiG c.g).2)).2 ((coF P Co Lo Nu (taF (tiT c.t).1 (c.up ++ (tiT c.t).2) (coF P Co Lo Nd (c.dn ++ (tiG c.g).2)).1).2).1.take j)).2 → DnK K n) ∧ (reF (tiG c.g).1 (coF P Co Lo Nd (c.dn ++ (tiG c.g).2)).2 ((coF P Co Lo Nu (taF (tiT c.t).1 (c.up ++ (tiT c.t).2) (coF P Co Lo Nd (c.dn ++ (tiG c.g).2)).1).2).1.take j)).2.length ≤ 20000 := fun j => ⟨(hT.re j).1, (hT.re j).2.1, by have := (hT.re j).2.2; omega⟩
  have f3 : (coF P Co Lo Nd (c.dn ++ (tiG c.g).2)).1.length ≤ 1000 := by omega
  have f4 : (coF P Co Lo Nu (taF (tiT c.t).1 (c.up ++ (tiT c.t).2) (coF P Co Lo Nd (c.dn ++ (tiG c.g).2)).1).2).1.length ≤ 1000 := by omega
  exact tk_t13 _ hK wB w6 gc g3 _ _ hC6 (coF P Co Lo Nd (c.dn ++ (tiG c.g).2)).1 na3 nc3 wd.heap.size xs3 hx3 hN6 f3 hT.d1 (Nd : Int) P Lo Co Nu b36 hu f1 (coF P Co Lo Nu (taF (tiT c.t).1 (c.up ++ (tiT c.t).2) (coF P Co Lo Nd (c.dn ++ (tiG c.g).2)).1).2) rfl hT.u1 f4 f2 h5 (fun w' h => ⟨rfl, h⟩)
end
end Go.Proofs.Ytnimehkfnpepfaa
