import Derived.Test.YtnimehkfnpepfaaTk32
import Derived.Test.YtnimehkfnpepfaaTk30
import Derived.Test.YtnimehkfnpepfaaTk33
import Derived.Test.YtnimehkfnpepfaaTk4
import Derived.Test.YtnimehkfnpepfaaTk6
import Derived.Test.YtnimehkfnpepfaaTk7
import Derived.Test.YtnimehkfnpepfaaTk9
namespace Go.Proofs.Ytnimehkfnpepfaa
open Go.RowKit
set_option maxRecDepth 100000
set_option linter.unusedVariables false
set_option linter.unusedSimpArgs false

section
theorem heK_b {V : Tv} (ho : TvQ V) {kd si2 su2 at2 : Int} {o : Int} {x : Nat} {D : List Nat} (hn : NtK kd si2 su2 at2 D.length o x) (nm2 : ByteArray) : (heV V kd o nm2 si2 su2 x D).1.L.length ≤ 65536 ∧ (heV V kd o nm2 si2 su2 x D).1.G.length ≤ 65536 ∧ (heV V kd o nm2 si2 su2 x D).2.length ≤ 3 ∧ ∀ t, t ∈ (heV V kd o nm2 si2 su2 x D).2 → NtO t := by
  have hS : ∀ i, NtO (ntSeen i) := fun i => ⟨by show 0 ≤ 100000; omega, by show 0 ≤ 100000; omega⟩
  have hDn : ∀ i c, NtO (ntDone i c) := fun i c => ⟨by show 0 ≤ 100000; omega, by show 0 ≤ 100000; omega⟩
  have h2 : ∀ i c t, t ∈ [ntSeen i, ntDone i c] → NtO t := fun i c t ht => by
    rcases List.mem_cons.1 ht with e | e
    · rw [e]; exact hS i
    · rw [List.mem_singleton.1 e]; exact hDn i c
  unfold heV
  by_cases h4 : V.st = 4
  · rw [if_pos h4]
    by_cases h3 : kd = 3
    · rw [if_pos h3]; exact ⟨ho.n9, ho.gl, by show 2 ≤ 3; omega, h2 _ _⟩
    · rw [if_neg h3]; exact ⟨ho.n9, ho.gl, Nat.zero_le _, fun t ht => by cases ht⟩
  · rw [if_neg h4]
    by_cases h3 : V.st = 3
    · rw [if_pos h3]
      by_cases h5 : kd = 3
      · rw [if_pos h5]; exact ⟨ho.n9, ho.gl, by show 2 ≤ 3; omega, h2 _ _⟩
      · rw [if_neg h5]
        by_cases h6 : o = 5
        · rw [if_pos h6]; exact ⟨ho.n9, ho.gl, Nat.zero_le _, fun t ht => by cases ht⟩
        · rw [if_neg h6]; exact ⟨ho.n9, ho.gl, Nat.zero_le _, fun t ht => by cases ht⟩
    · rw [if_neg h3]
      have hq1 : TvQ { V with ti := 0, tr := 0 } := ⟨ho.ri, ho.gl, ho.ge, ho.n9, ho.si, ho.la⟩
      have hq := heK_q hq1 hn nm2
      unfold heG
      obtain ⟨_, _, _, e4, e5, e6, _⟩ := ju_same (heK { V with ti := 0, tr := 0 } kd nm2 si2 su2 x D)
      refine ⟨by show (juV _).1.L.length ≤ _; rw [e5]; exact hq.n9, by show (juV _).1.G.length ≤ _; rw [e4]; exact hq.gl, ?_, ?_⟩
      · show (seT _ _ ++ _ ++ gpT _ _).length ≤ 3
        rw [List.length_append, List.length_append]
        have s1 : (seT V.id kd).length ≤ 1 := by unfold seT; by_cases e : kd = 3; (rw [if_pos e]; exact Nat.le_refl _); (rw [if_neg e]; exact Nat.zero_le _)
        have s2 : (gpT (juV (heK { V with ti := 0, tr := 0 } kd nm2 si2 su2 x D)).1 kd).length ≤ 1 := by
          unfold gpT
          by_cases e : (juV (heK { V with ti := 0, tr := 0 } kd nm2 si2 su2 x D)).1.st = 0 ∧ kd = 3
          · rw [if_pos e]
            unfold sgL
            by_cases e2 : (misL (juV (heK { V with ti := 0, tr := 0 } kd nm2 si2 su2 x D)).1.kn (juV (heK { V with ti := 0, tr := 0 } kd nm2 si2 su2 x D)).1.la (juV (heK { V with ti := 0, tr := 0 } kd nm2 si2 su2 x D)).1.G).length = 0
            · rw [if_pos e2]; exact Nat.zero_le _
            · rw [if_neg e2]; exact Nat.le_refl _
          · rw [if_neg e]; exact Nat.zero_le _
        omega
      · intro t ht
        have ht : t ∈ seT V.id kd ++ (juV (heK { V with ti := 0, tr := 0 } kd nm2 si2 su2 x D)).2 ++ gpT (juV (heK { V with ti := 0, tr := 0 } kd nm2 si2 su2 x D)).1 kd := ht
        rcases List.mem_append.1 ht with ht | ht
        · rcases List.mem_append.1 ht with ht | ht
          · unfold seT at ht
            by_cases e : kd = 3
            · rw [if_pos e] at ht; rw [List.mem_singleton.1 ht]; exact hS _
            · rw [if_neg e] at ht; cases ht
          · generalize heK { V with ti := 0, tr := 0 } kd nm2 si2 su2 x D = V2 at ht
            unfold juV at ht
            by_cases e : V2.kn = true ∧ V2.en = true ∧ (V2.si = V2.la → haB (giF V2.G) V2.si V2.G.length = true)
            · rw [if_pos e] at ht
              by_cases e2 : V2.si = V2.la ∧ V2.su = smI (V2.L.take V2.si.toNat)
              · rw [if_pos e2] at ht; rw [List.mem_singleton.1 ht]; exact hDn _ _
              · rw [if_neg e2] at ht; rw [List.mem_singleton.1 ht]; exact hDn _ _
            · rw [if_neg e] at ht; cases ht
        · generalize (juV (heK { V with ti := 0, tr := 0 } kd nm2 si2 su2 x D)).1 = V2 at ht
          unfold gpT at ht
          by_cases e : V2.st = 0 ∧ kd = 3
          · rw [if_pos e] at ht
            unfold sgL at ht
            by_cases e2 : (misL V2.kn V2.la V2.G).length = 0
            · rw [if_pos e2] at ht; cases ht
            · rw [if_neg e2] at ht
              rw [List.mem_singleton.1 ht]
              exact ⟨by show 0 ≤ 100000; omega, by show (misL V2.kn V2.la V2.G).length ≤ 100000; have := misL_len V2.kn V2.la V2.G; omega⟩
          · rw [if_neg e] at ht; cases ht
theorem ta_bounds (V : Tv) (kd nid : Int) (nm2 : ByteArray) (si2 su2 at2 : Int) (pn gm : Nat) (o co : Int) (F2 : Nat → Int × Int) (D : List Nat) (hDl : D.length = pn) (hn : V.L.length ≤ 140737488351232) (hm : V.G.length ≤ 8796093021952) : (taV (tmB V.id V.kn V.nm V.si V.en V.la V.su (giF V.G) V.G.length V.L V.st V.ti V.pa V.tr V.li) (wnE (ntB kd nid nm2.size si2 su2 at2 pn gm o co (alG F2 65536 gm)) nid V.id (hasK [1, 2, 3, 6] kd 4)) V (heV V kd o nm2 si2 su2 at2.toNat D)).1.L.length ≤ 140737488351232 ∧ (taV (tmB V.id V.kn V.nm V.si V.en V.la V.su (giF V.G) V.G.length V.L V.st V.ti V.pa V.tr V.li) (wnE (ntB kd nid nm2.size si2 su2 at2 pn gm o co (alG F2 65536 gm)) nid V.id (hasK [1, 2, 3, 6] kd 4)) V (heV V kd o nm2 si2 su2 at2.toNat D)).1.G.length ≤ 8796093021952 ∧ (taV (tmB V.id V.kn V.nm V.si V.en V.la V.su (giF V.G) V.G.length V.L V.st V.ti V.pa V.tr V.li) (wnE (ntB kd nid nm2.size si2 su2 at2 pn gm o co (alG F2 65536 gm)) nid V.id (hasK [1, 2, 3, 6] kd 4)) V (heV V kd o nm2 si2 su2 at2.toNat D)).2.1.length ≤ 100000 ∧ ∀ t, t ∈ (taV (tmB V.id V.kn V.nm V.si V.en V.la V.su (giF V.G) V.G.length V.L V.st V.ti V.pa V.tr V.li) (wnE (ntB kd nid nm2.size si2 su2 at2 pn gm o co (alG F2 65536 gm)) nid V.id (hasK [1, 2, 3, 6] kd 4)) V (heV V kd o nm2 si2 su2 at2.toNat D)).2.1 → NtO t := by
  by_cases e : (tmB V.id V.kn V.nm V.si V.en V.la V.su (giF V.G) V.G.length V.L V.st V.ti V.pa V.tr V.li) = true
  · rw [e]
    by_cases e2 : (wnE (ntB kd nid nm2.size si2 su2 at2 pn gm o co (alG F2 65536 gm)) nid V.id (hasK [1, 2, 3, 6] kd 4)) = 0
    · have hk := (wn_ok e2).1
      rw [e2]
      rw [← hDl] at hk
      obtain ⟨q1, q2, q3, q4⟩ := heK_b (tmB_go e).q hk nm2
      exact ⟨by show (heV V kd o nm2 si2 su2 at2.toNat D).1.L.length ≤ _; omega, by show (heV V kd o nm2 si2 su2 at2.toNat D).1.G.length ≤ _; omega, by show (heV V kd o nm2 si2 su2 at2.toNat D).2.length ≤ _; omega, q4⟩
    · have e3 : taV true (wnE (ntB kd nid nm2.size si2 su2 at2 pn gm o co (alG F2 65536 gm)) nid V.id (hasK [1, 2, 3, 6] kd 4)) V (heV V kd o nm2 si2 su2 at2.toNat D) = (V, [], (wnE (ntB kd nid nm2.size si2 su2 at2 pn gm o co (alG F2 65536 gm)) nid V.id (hasK [1, 2, 3, 6] kd 4))) := by unfold taV; rw [if_neg (by decide), if_pos e2]
      rw [e3]
      exact ⟨hn, hm, Nat.zero_le _, fun t ht => by cases ht⟩
  · have e := Bool.eq_false_iff.2 e
    rw [e]
    exact ⟨by show 0 ≤ _; omega, by show 0 ≤ _; omega, Nat.zero_le _, fun t ht => by cases ht⟩

set_option maxHeartbeats 16000000 in
/-- the closure of the law -/
theorem take1_any (V W : Tv) (T : List Nt) (E : Nat) (a q : Option Addr) (c d gc : Nat) (kd nid : Int) (nm2 : ByteArray) (si2 su2 at2 : Int) (pa2 : Option Addr) (pn pc : Nat) (ga : Option Addr) (gm gd : Nat) (o co : Int) (w : World) (hb : BxS w gc 27 #[.int .i64 kd, .int .i64 nid, .string nm2, .int .i64 si2, .int .i64 su2, .int .i64 at2, .slice pa2 pn pc, .slice ga gm gd, .int .i64 o, .int .i64 co])
    (hC : ∀ wz, w.grownBy wz none → Calls Try.prog 38 #[.agg (tkA V.id V.kn V.nm V.si V.en V.la V.su (.slice q V.G.length d) (.slice a V.L.length c) V.st V.ti V.pa V.tr V.li), .agg (ntA kd nid nm2 si2 su2 at2 (.slice pa2 pn pc) (.slice ga gm gd) o co)] wz fun e w' => RK wz W T E e w') :
    Calls Try.prog 37 #[.agg (tkA V.id V.kn V.nm V.si V.en V.la V.su (.slice q V.G.length d) (.slice a V.L.length c) V.st V.ti V.pa V.tr V.li), .pointer (some ⟨gc, 0, none⟩)] w fun e w' => RK w W T E e w' := by
  have i14 := Try.info_tk
  have i10 := Try.info_nt
  unfold tkA ntA at hC
  have b2 := BxS.new w 48 #[.int .i64 V.id, .bool V.kn, .string V.nm, .int .i64 V.si, .bool V.en, .int .i64 V.la, .int .i64 V.su, .slice q V.G.length d, .slice a V.L.length c, .int .i64 V.st, .int .i64 V.ti, .int .i64 V.pa, .int .i64 V.tr, .int .i64 V.li]
  have y2 := World.grownBy_alloc w (.cells #[.int .i64 V.id, .bool V.kn, .string V.nm, .int .i64 V.si, .bool V.en, .int .i64 V.la, .int .i64 V.su, .slice q V.G.length d, .slice a V.L.length c, .int .i64 V.st, .int .i64 V.ti, .int .i64 V.pa, .int .i64 V.tr, .int .i64 V.li] 48) none
  unfold tkA
  have hz2 : (w.alloc (.cells #[.int .i64 V.id, .bool V.kn, .string V.nm, .int .i64 V.si, .bool V.en, .int .i64 V.la, .int .i64 V.su, .slice q V.G.length d, .slice a V.L.length c, .int .i64 V.st, .int .i64 V.ti, .int .i64 V.pa, .int .i64 V.tr, .int .i64 V.li] 48)).heap.size = w.heap.size + 1 := by simp
  generalize hw2 : w.alloc (.cells #[.int .i64 V.id, .bool V.kn, .string V.nm, .int .i64 V.si, .bool V.en, .int .i64 V.la, .int .i64 V.su, .slice q V.G.length d, .slice a V.L.length c, .int .i64 V.st, .int .i64 V.ti, .int .i64 V.pa, .int .i64 V.tr, .int .i64 V.li] 48) = w2 at b2 y2 hz2
  have b3 := BxS.new w2 48 #[.int .i64 0, .bool false, .string ⟨#[]⟩, .int .i64 0, .bool false, .int .i64 0, .int .i64 0, .slice none 0 0, .slice none 0 0, .int .i64 0, .int .i64 0, .int .i64 0, .int .i64 0, .int .i64 0]
  have y3 := World.grownBy_alloc w2 (.cells #[.int .i64 0, .bool false, .string ⟨#[]⟩, .int .i64 0, .bool false, .int .i64 0, .int .i64 0, .slice none 0 0, .slice none 0 0, .int .i64 0, .int .i64 0, .int .i64 0, .int .i64 0, .int .i64 0] 48) none
  rw [hz2] at b3
  generalize hw3 : w2.alloc (.cells #[.int .i64 0, .bool false, .string ⟨#[]⟩, .int .i64 0, .bool false, .int .i64 0, .int .i64 0, .slice none 0 0, .slice none 0 0, .int .i64 0, .int .i64 0, .int .i64 0, .int .i64 0, .int .i64 0] 48) = w3 at b3 y3
  have G3 := grown_trans y2 y3
  have b2 := b2.keep y3 (by simp)
  have hb3 := hb.keep G3 (by simp)
  have s0 : True := trivial
  go_enter Try.func37, Try.ntmps37
  go_wp2_with (first
    | (have _t := s0; clear s0; refine wpList_ldX _ rfl _ (.tmp 2) rfl w.heap.size _ rfl b2 Try.underlying48 i14 ?_; have s1 : True := trivial)
    | (have _t := s1; clear s1; refine wpList_ldX _ rfl _ (.tmp 1) rfl gc _ rfl hb3 Try.underlying27 i10 ?_; have s2 : True := trivial)
    | (go_at_call 38; have _t := s2; clear s2; refine (hC _ G3).mono ?_; rintro e w4 ⟨a1, c1, q1, d1, na1, nc1, xs1, rfl, hx1, hA1, hO1, hN1, sA1, sO1, y4⟩; have z3 := G3.size; have b34 := b3.keep y4 (by simp); have s3 : True := trivial)
    | (have _t := s3; clear s3; refine wpList_stX _ rfl _ (.tmp 3) (.tmp 9) rfl (w.heap.size + 1) _ _ rfl rfl b34 i14 rfl (by simp [tkA, Value.oneCell']) ?_; intro w5 b35 u5))
  refine bodyPost_ret (results_c1t2 rfl _ _ _ ⟨w.heap.size + 1, 0, none⟩ _ _ _ rfl (BxS.load (t := 48) b35 Try.underlying48 Try.info_tk) rfl rfl) rfl ?_
  exact ⟨a1, c1, q1, d1, na1, nc1, xs1, rfl, hx1, (hA1.kRR u5 (fun z e e2 => by have e := Option.some.inj e; subst e; exact own_ty hA1.own b34 (by decide) e2)).wide z3, (hO1.bx b34 (by decide) u5).wide z3, (hN1.bx b34 (by decide) (by decide) (by decide) u5).wide z3, sA1, sO1, grown_far (grown_trans G3 y4) u5 (fun z e => by have e := Option.some.inj e; omega)⟩

set_option maxHeartbeats 16000000 in
theorem dt_t7 {u0 u1 u2 u3 u4 u6 u7 u9 u11 u12 u13 u14 u15 u16 u17 u18 u19 u20 u21 u22 u23 u24 u25 u26 u27 u28 u29 u30 u31 u32 u33 u34 u35 u36 u37 u38 u39 u40 u41 u42 u43 u44 u45 u46 u47 u48 u49 : Value} (P : Ending → World → Prop) (w0 w6 w : World) (W : Tv) (g5 g8 g10 gh : Nat) (kd nid : Int) (nm2 : ByteArray) (si2 su2 at2 : Int) (pn : Nat) (gq : Option Addr) (gm gd' : Nat) (o co : Int) (D2 : List Nat) (aW qW a1 q1 : Option Addr) (cW dW c1 d1 lo1 : Nat) (b5 : BxS w g5 48 #[.int .i64 W.id, .bool W.kn, .string W.nm, .int .i64 W.si, .bool W.en, .int .i64 W.la, .int .i64 W.su, .slice qW W.G.length dW, .slice aW W.L.length cW, .int .i64 W.st, .int .i64 W.ti, .int .i64 W.pa, .int .i64 W.tr, .int .i64 W.li]) (b8 : BxS w g8 27 #[.int .i64 kd, .int .i64 nid, .string nm2, .int .i64 si2, .int .i64 su2, .int .i64 at2, .slice (some ⟨gh, 0, none⟩) pn (pn + 5), .slice gq gm gd', .int .i64 o, .int .i64 co]) (b10 : BxS w g10 48 #[.int .i64 W.id, .bool W.kn, .string W.nm, .int .i64 W.si, .bool W.en, .int .i64 W.la, .int .i64 W.su, .slice q1 W.G.length d1, .slice a1 W.L.length c1, .int .i64 W.st, .int .i64 W.ti, .int .i64 W.pa, .int .i64 W.tr, .int .i64 W.li]) (hAh : Ans w 0 (some ⟨gh, 0, none⟩) pn (pn + 5) D2) (hpn : pn ≤ 140737488351232) (hL6 : Rd w6 aW W.L.length cW W.L) (hG6 : RdG w6 qW W.G.length dW (giF W.G)) (hgh : w6.heap.size ≤ gh) (G6 : w6.grownBy w none) (hA1 : Ans w lo1 a1 W.L.length c1 W.L) (hO1 : OwGi w lo1 q1 W.G.length d1 W.G) (h1h : gh < lo1)
    (hP : ∀ w', w.grownBy w' (some gh) → P (.returned (.bool true)) w') :
    Code.wp Try.prog (tailR 7 (Try.f8.body.getD .skip)) (bodyPost Try.prog Try.f8 P) (Act.mk (List.toArray (u0 :: u1 :: u2 :: u3 :: u4 :: (.pointer (some ⟨g5, 0, none⟩)) :: u6 :: u7 :: (.pointer (some ⟨g8, 0, none⟩)) :: u9 :: (.pointer (some ⟨g10, 0, none⟩)) :: u11 :: u12 :: u13 :: u14 :: u15 :: u16 :: u17 :: u18 :: u19 :: u20 :: u21 :: u22 :: u23 :: u24 :: u25 :: u26 :: u27 :: u28 :: u29 :: u30 :: u31 :: u32 :: u33 :: u34 :: u35 :: u36 :: u37 :: u38 :: u39 :: u40 :: u41 :: u42 :: u43 :: u44 :: u45 :: u46 :: u47 :: u48 :: u49 :: [])) []) w := by
  conv => enter [2]; whnf
  have HP : Hid _ := hP
  clear hP
  have i14 := Try.info_tk
  have kV := fun wz (aA aB qA qB : Option Addr) (cA cB dA dB : Nat) (k1 : Rd wz aA W.L.length cA W.L) (k2 : Rd wz aB W.L.length cB W.L) (k3 : RdG wz qA W.G.length dA (giF W.G)) (k4 : RdG wz qB W.G.length dB (giF W.G)) => sameTaker_any W.id W.kn W.nm W.si W.en W.la W.su W.st W.ti W.pa W.tr W.li aA aB qA qB W.L.length cA cB W.G.length dA dB W.L (giF W.G) (giF W.G) wz k1 k2 k3 k4 (fun _ _ => rfl)
  unfold tkA at kV
  have x6 : w.cell? ⟨g8, 6, none⟩ = some (.slice (some ⟨gh, 0, none⟩) pn (pn + 5)) := b8.cell 6 (by show 6 < 10; decide)
  refine wp_seq_k fun K1 hK1 => ?_
  have HK1 : Hid _ := hK1
  clear hK1
  go_wp2_with (go_at_call 22; refine (spoil_any hAh (by omega)).mono ?_; rintro e w2 ⟨rfl, u2⟩)
  refine HK1.out _ _ ?_
  clear HK1
  have u2 : w.grownBy w2 (some gh) := u2
  obtain ⟨csh, hbh⟩ := own_bxS hAh.own (g := gh) rfl
  have b52 := b5.keep u2 (fun e => own_ty hAh.own b5 (by decide) e.symm)
  have b12 := b10.keep u2 (fun e => own_ty hAh.own b10 (by decide) e.symm)
  have hLW := Rd.far hL6 (hL6.keep G6) u2 (fun z e => by have e := Option.some.inj e; omega)
  have hGW := RdG.far hG6 (hG6.keep G6) u2 (fun z e => by have e := Option.some.inj e; omega)
  have hA2 := hA1.kRR u2 (fun z e e2 => by have e := Option.some.inj e; have := hA1.new z e2; omega)
  have hO2 := hO1.kR u2 (fun z e => by have e := Option.some.inj e; subst e; exact hO1.neB hbh (by decide))
  clear x6
  have s0 : True := trivial
  go_wp2_with (first
    | (have _t := s0; clear s0; refine wpList_ldX _ rfl _ (.tmp 10) rfl g10 _ rfl b12 Try.underlying48 i14 ?_; have s1 : True := trivial)
    | (have _t := s1; clear s1; refine wpList_ldX _ rfl _ (.tmp 5) rfl g5 _ rfl b52 Try.underlying48 i14 ?_; have s2 : True := trivial)
    | (go_at_call 29; have _t := s2; clear s2; refine (kV _ _ _ _ _ _ _ _ _ hA2.rd hLW hO2.rd hGW).mono ?_; rintro e w3 ⟨rfl, y3⟩))
  try go_ret
  exact HP.out w3 (grown_trans u2 (grown_weak y3 _))
end
end Go.Proofs.Ytnimehkfnpepfaa
