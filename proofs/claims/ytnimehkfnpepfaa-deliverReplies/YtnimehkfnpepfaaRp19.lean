import Derived.Test.YtnimehkfnpepfaaRp18
import Derived.Test.YtnimehkfnpepfaaRp5
import Derived.Test.YtnimehkfnpepfaaRp3
import Derived.Test.YtnimehkfnpepfaaRp9
namespace Go.Proofs.Ytnimehkfnpepfaa
open Go.RowKit
set_option maxRecDepth 100000
set_option linter.unusedVariables false
set_option linter.unusedSimpArgs false

section
theorem agP_len (n : Nat) (G : List (Int × Int)) (p : Int × Int) (B : Nat) (hB : 1000 ≤ B) (h : G.length ≤ B) : (agP n G p).length ≤ B := by
  unfold agP
  by_cases e : G.length < 1000 ∧ ((p.1 = 0 ∧ p.2 = 0) ∨ p.1 < (if p.2 ≤ (n : Int) then p.2 else (n : Int)))
  · rw [if_pos e, List.length_append]
    have := e.1
    show G.length + 1 ≤ B
    omega
  · rw [if_neg e]; exact h
theorem agN_len (n : Nat) (G : List (Int × Int)) (F : Nat → Int × Int) (B : Nat) (hB : 1000 ≤ B) (h : G.length ≤ B) : ∀ k, (agN n G F k).length ≤ B := by
  intro k
  induction k with
  | zero => exact h
  | succ k ih => exact agP_len n _ _ B hB ih
theorem rp_bounds (gB may : Bool) (V : Gv) (kd nid o co : Int) (F2 : Nat → Int × Int) (gm : Nat) (h1 : V.L.length ≤ 140737488351232) (h2 : V.G.length ≤ 8796093021952) :
    (rpV gB may V kd nid o co F2 gm).1.L.length ≤ 140737488351232 ∧ (rpV gB may V kd nid o co F2 gm).1.G.length ≤ 8796093021952 ∧ ((rpV gB may V kd nid o co F2 gm).2.1 = [] ∨ (rpV gB may V kd nid o co F2 gm).2.1 = [xSeen V.id]) := by
  unfold rpV
  by_cases e1 : gB = false
  · rw [if_pos e1]; exact ⟨by show 0 ≤ _; omega, by show 0 ≤ _; omega, .inl rfl⟩
  · rw [if_neg e1]
    by_cases e2 : may = false
    · rw [if_pos e2]; exact ⟨h1, h2, .inl rfl⟩
    · rw [if_neg e2]
      by_cases e3 : nid ≠ V.id
      · rw [if_pos e3]; exact ⟨h1, h2, .inl rfl⟩
      · rw [if_neg e3]
        unfold rpX
        by_cases e4 : kd ≠ 4 ∧ kd ≠ 5 ∧ kd ≠ 6
        · rw [if_pos e4]; exact ⟨h1, h2, .inl rfl⟩
        · rw [if_neg e4]
          by_cases e5 : V.st = 4
          · rw [if_pos e5]; exact ⟨h1, h2, .inl rfl⟩
          · rw [if_neg e5]
            by_cases e6 : kd = 5
            · rw [if_pos e6]
              by_cases e7 : V.st = 3
              · rw [if_pos e7]; exact ⟨h1, h2, .inr rfl⟩
              · rw [if_neg e7]; exact ⟨h1, by show 0 ≤ _; omega, .inr rfl⟩
            · rw [if_neg e6]
              by_cases e7 : V.st = 3
              · rw [if_pos e7]; exact ⟨h1, h2, .inl rfl⟩
              · rw [if_neg e7]; exact ⟨h1, agN_len _ _ _ _ (by omega) h2 gm, .inl rfl⟩
theorem RdG.tab {w : World} {q : Option Addr} {m d : Nat} {F : Nat → Int × Int} (h : RdG w q m d F) : RdG w q m d (giF (tabG F m)) :=
  ⟨h.le, h.max, h.nil, fun h0 => by
    obtain ⟨b, off, e, hb, hc⟩ := h.at' h0
    exact ⟨b, off, e, hb, fun i hi => by rw [giF_tab F m i hi]; exact hc i hi⟩⟩
/-- Reply, and what the document answers, in data form -/
theorem replyT_any (V : Gv) (a q : Option Addr) (c d : Nat) (kd nid : Int) (nm2 : ByteArray) (si su at2 : Int) (pa2 : Option Addr) (pn pc : Nat) (ga : Option Addr) (gm gd : Nat) (o co : Int) (F2 : Nat → Int × Int) (w : World) (hL : Rd w a V.L.length c V.L) (hG : RdG w q V.G.length d (giF V.G)) (hF2 : RdG w ga gm gd F2) (hn : V.L.length ≤ 140737488351232) (hm : V.G.length ≤ 8796093021952) (hpa : -9223372036854775808 ≤ V.pa ∧ V.pa ≤ 9223372036854775807) :
    Calls Try.prog 35 #[.agg (gvA V.id V.nm (.slice a V.L.length c) V.mo V.bu V.st V.fi V.at' (.slice q V.G.length d) V.ti V.pa V.tr V.li), .agg (ntA kd nid nm2 si su at2 (.slice pa2 pn pc) (.slice ga gm gd) o co)] w fun e w' => RT w (rpV (gvB V.id V.nm.size V.L.length V.mo V.bu V.st V.fi V.at' V.G.length (alG (giF V.G) V.L.length V.G.length) V.ti V.pa V.tr V.li) (ntB kd nid nm2.size si su at2 pn gm o co (alG F2 65536 gm)) V kd nid o co F2 gm).1 ((rpV (gvB V.id V.nm.size V.L.length V.mo V.bu V.st V.fi V.at' V.G.length (alG (giF V.G) V.L.length V.G.length) V.ti V.pa V.tr V.li) (ntB kd nid nm2.size si su at2 pn gm o co (alG F2 65536 gm)) V kd nid o co F2 gm).2.1.map Nx.dt) (rpV (gvB V.id V.nm.size V.L.length V.mo V.bu V.st V.fi V.at' V.G.length (alG (giF V.G) V.L.length V.G.length) V.ti V.pa V.tr V.li) (ntB kd nid nm2.size si su at2 pn gm o co (alG F2 65536 gm)) V kd nid o co F2 gm).2.2 e w' := by
  have h := reply_any V.id V.nm a V.L.length c V.mo V.bu V.st V.fi V.at' q V.G.length d V.ti V.pa V.tr V.li V.L (giF V.G) kd nid nm2 si su at2 pa2 pn pc ga gm gd o co F2 w hL hG hF2 hn hm hpa
  rw [tab_giF] at h
  exact h.mono (fun e w' h9 => RV.rt h9)
theorem rreplyT_any (V : Gv) (a q : Option Addr) (c d : Nat) (kd nid : Int) (nm2 : ByteArray) (si su at2 : Int) (pa2 : Option Addr) (pn pc : Nat) (ga : Option Addr) (gm gd : Nat) (o co : Int) (F2 : Nat → Int × Int) (w : World) (hL : Rd w a V.L.length c V.L) (hG : RdG w q V.G.length d (giF V.G)) (hF2 : RdG w ga gm gd F2) (hn : V.L.length ≤ 140737488351232) (hm : V.G.length ≤ 8796093021952) (hpa : -9223372036854775808 ≤ V.pa ∧ V.pa ≤ 9223372036854775807) (hpn : pn ≤ 140737488351232) :
    Calls Try.prog 33 #[.agg (gvA V.id V.nm (.slice a V.L.length c) V.mo V.bu V.st V.fi V.at' (.slice q V.G.length d) V.ti V.pa V.tr V.li), .agg (ntA kd nid nm2 si su at2 (.slice pa2 pn pc) (.slice ga gm gd) o co)] w fun e w' => RT w (rpV (gvB V.id V.nm.size V.L.length V.mo V.bu V.st V.fi V.at' V.G.length (alG (giF V.G) V.L.length V.G.length) V.ti V.pa V.tr V.li) (ntB kd nid nm2.size si su at2 pn gm o co (alG F2 65536 gm)) V kd nid o co F2 gm).1 ((rpV (gvB V.id V.nm.size V.L.length V.mo V.bu V.st V.fi V.at' V.G.length (alG (giF V.G) V.L.length V.G.length) V.ti V.pa V.tr V.li) (ntB kd nid nm2.size si su at2 pn gm o co (alG F2 65536 gm)) V kd nid o co F2 gm).2.1.map Nx.dt) (rpV (gvB V.id V.nm.size V.L.length V.mo V.bu V.st V.fi V.at' V.G.length (alG (giF V.G) V.L.length V.G.length) V.ti V.pa V.tr V.li) (ntB kd nid nm2.size si su at2 pn gm o co (alG F2 65536 gm)) V kd nid o co F2 gm).2.2 e w' := by
  have h := rreply_any V.id V.nm a V.L.length c V.mo V.bu V.st V.fi V.at' q V.G.length d V.ti V.pa V.tr V.li V.L (giF V.G) kd nid nm2 si su at2 pa2 pn pc ga gm gd o co F2 w hL hG hF2 hn hm hpa (by omega)
  rw [tab_giF] at h
  exact h.mono (fun e w' h9 => RV.rt h9)

set_option maxHeartbeats 16000000 in
/-- the closure of the law -/
theorem reply1_any (V W : Gv) (T : List Nt) (E : Nat) (a q : Option Addr) (c d gc : Nat) (kd nid : Int) (nm2 : ByteArray) (si su at2 : Int) (pa2 : Option Addr) (pn pc : Nat) (ga : Option Addr) (gm gd : Nat) (o co : Int) (w : World) (hb : BxS w gc 27 #[.int .i64 kd, .int .i64 nid, .string nm2, .int .i64 si, .int .i64 su, .int .i64 at2, .slice pa2 pn pc, .slice ga gm gd, .int .i64 o, .int .i64 co])
    (hC : ∀ wz, w.grownBy wz none → Calls Try.prog 35 #[.agg (gvA V.id V.nm (.slice a V.L.length c) V.mo V.bu V.st V.fi V.at' (.slice q V.G.length d) V.ti V.pa V.tr V.li), .agg (ntA kd nid nm2 si su at2 (.slice pa2 pn pc) (.slice ga gm gd) o co)] wz fun e w' => RT wz W T E e w') :
    Calls Try.prog 34 #[.agg (gvA V.id V.nm (.slice a V.L.length c) V.mo V.bu V.st V.fi V.at' (.slice q V.G.length d) V.ti V.pa V.tr V.li), .pointer (some ⟨gc, 0, none⟩)] w fun e w' => RT w W T E e w' := by
  have i13 := Try.info_gv
  have i10 := Try.info_nt
  unfold gvA ntA at hC
  have b2 := BxS.new w 44 #[.int .i64 V.id, .string V.nm, .slice a V.L.length c, .int .i64 V.mo, .int .i64 V.bu, .int .i64 V.st, .bool V.fi, .int .i64 V.at', .slice q V.G.length d, .int .i64 V.ti, .int .i64 V.pa, .int .i64 V.tr, .int .i64 V.li]
  have y2 := World.grownBy_alloc w (.cells #[.int .i64 V.id, .string V.nm, .slice a V.L.length c, .int .i64 V.mo, .int .i64 V.bu, .int .i64 V.st, .bool V.fi, .int .i64 V.at', .slice q V.G.length d, .int .i64 V.ti, .int .i64 V.pa, .int .i64 V.tr, .int .i64 V.li] 44) none
  unfold gvA
  have hz2 : (w.alloc (.cells #[.int .i64 V.id, .string V.nm, .slice a V.L.length c, .int .i64 V.mo, .int .i64 V.bu, .int .i64 V.st, .bool V.fi, .int .i64 V.at', .slice q V.G.length d, .int .i64 V.ti, .int .i64 V.pa, .int .i64 V.tr, .int .i64 V.li] 44)).heap.size = w.heap.size + 1 := by simp
  generalize hw2 : w.alloc (.cells #[.int .i64 V.id, .string V.nm, .slice a V.L.length c, .int .i64 V.mo, .int .i64 V.bu, .int .i64 V.st, .bool V.fi, .int .i64 V.at', .slice q V.G.length d, .int .i64 V.ti, .int .i64 V.pa, .int .i64 V.tr, .int .i64 V.li] 44) = w2 at b2 y2 hz2
  have b3 := BxS.new w2 44 #[.int .i64 0, .string ⟨#[]⟩, .slice none 0 0, .int .i64 0, .int .i64 0, .int .i64 0, .bool false, .int .i64 0, .slice none 0 0, .int .i64 0, .int .i64 0, .int .i64 0, .int .i64 0]
  have y3 := World.grownBy_alloc w2 (.cells #[.int .i64 0, .string ⟨#[]⟩, .slice none 0 0, .int .i64 0, .int .i64 0, .int .i64 0, .bool false, .int .i64 0, .slice none 0 0, .int .i64 0, .int .i64 0, .int .i64 0, .int .i64 0] 44) none
  rw [hz2] at b3
  generalize hw3 : w2.alloc (.cells #[.int .i64 0, .string ⟨#[]⟩, .slice none 0 0, .int .i64 0, .int .i64 0, .int .i64 0, .bool false, .int .i64 0, .slice none 0 0, .int .i64 0, .int .i64 0, .int .i64 0, .int .i64 0] 44) = w3 at b3 y3
  have G3 := grown_trans y2 y3
  have b2 := b2.keep y3 (by simp)
  have hb3 := hb.keep G3 (by simp)
  have s0 : True := trivial
  go_enter Try.func34, Try.ntmps34
  go_wp2_with (first
    | (have _t := s0; clear s0; refine wpList_ldX _ rfl _ (.tmp 2) rfl w.heap.size _ rfl b2 Try.underlying44 i13 ?_; have s1 : True := trivial)
    | (have _t := s1; clear s1; refine wpList_ldX _ rfl _ (.tmp 1) rfl gc _ rfl hb3 Try.underlying27 i10 ?_; have s2 : True := trivial)
    | (go_at_call 35; have _t := s2; clear s2; refine (hC _ G3).mono ?_; rintro e w4 ⟨a1, c1, q1, d1, na1, nc1, xs1, rfl, hx1, hA1, hO1, hN1, sA1, sO1, y4⟩; have z3 := G3.size; have b34 := b3.keep y4 (by simp); have s3 : True := trivial)
    | (have _t := s3; clear s3; refine wpList_stX _ rfl _ (.tmp 3) (.tmp 9) rfl (w.heap.size + 1) _ _ rfl rfl b34 i13 rfl (by simp [gvA, Value.oneCell']) ?_; intro w5 b35 u5))
  refine bodyPost_ret (results_c1t2 rfl _ _ _ ⟨w.heap.size + 1, 0, none⟩ _ _ _ rfl (BxS.load (t := 44) b35 Try.underlying44 Try.info_gv) rfl rfl) rfl ?_
  exact ⟨a1, c1, q1, d1, na1, nc1, xs1, rfl, hx1, (hA1.kRR u5 (fun z e e2 => by have e := Option.some.inj e; subst e; exact own_ty hA1.own b34 (by decide) e2)).wide z3, (hO1.bx b34 (by decide) u5).wide z3, (hN1.bx b34 (by decide) (by decide) (by decide) u5).wide z3, sA1, sO1, grown_far (grown_trans G3 y4) u5 (fun z e => by have e := Option.some.inj e; omega)⟩

set_option maxHeartbeats 64000000 in
theorem replies_walk (V : Gv) (a q : Option Addr) (c d : Nat) (kd nid : Int) (nm2 : ByteArray) (si su at2 : Int) (pa2 : Option Addr) (pn pc : Nat) (ga : Option Addr) (gm gd : Nat) (o co : Int) (D2 : List Nat) (F2 : Nat → Int × Int) (w : World) (hL : Rd w a V.L.length c V.L) (hG : RdG w q V.G.length d (giF V.G)) (hD : Rd w pa2 pn pc D2) (hF2 : RdG w ga gm gd F2) (hn : V.L.length ≤ 140737488351232) (hm : V.G.length ≤ 8796093021952) (hpa : -9223372036854775808 ≤ V.pa ∧ V.pa ≤ 9223372036854775807) (hpn : pn ≤ 140737488351232) (hgm : gm ≤ 8796093021952) :
    Calls Try.prog 7 #[.agg (gvA V.id V.nm (.slice a V.L.length c) V.mo V.bu V.st V.fi V.at' (.slice q V.G.length d) V.ti V.pa V.tr V.li), .agg (ntA kd nid nm2 si su at2 (.slice pa2 pn pc) (.slice ga gm gd) o co)] w fun e w' => e = .returned (.bool true) ∧ Below w.heap.size w w' := by
  have i13 := Try.info_gv
  have i10 := Try.info_nt
  have hbd := rp_bounds (gvB V.id V.nm.size V.L.length V.mo V.bu V.st V.fi V.at' V.G.length (alG (giF V.G) V.L.length V.G.length) V.ti V.pa V.tr V.li) (ntB kd nid nm2.size si su at2 pn gm o co (alG F2 65536 gm)) V kd nid o co F2 gm hn hm
  have kR := fun wz (aa qq : Option Addr) (cc dd : Nat) (pp : Option Addr) (pq : Nat) (gg : Option Addr) (gdd : Nat) (k1 : Rd wz aa V.L.length cc V.L) (k2 : RdG wz qq V.G.length dd (giF V.G)) (k3 : RdG wz gg gm gdd F2) => replyT_any V aa qq cc dd kd nid nm2 si su at2 pp pn pq gg gm gdd o co F2 wz k1 k2 k3 hn hm hpa
  have kD := fun wz (aa qq : Option Addr) (cc dd : Nat) (k1 : Rd wz aa V.L.length cc V.L) (k2 : RdG wz qq V.G.length dd (giF V.G)) (k3 : RdG wz ga gm gd F2) => rreplyT_any V aa qq cc dd kd nid nm2 si su at2 pa2 pn pc ga gm gd o co F2 wz k1 k2 k3 hn hm hpa hpn
  generalize (rpV (gvB V.id V.nm.size V.L.length V.mo V.bu V.st V.fi V.at' V.G.length (alG (giF V.G) V.L.length V.G.length) V.ti V.pa V.tr V.li) (ntB kd nid nm2.size si su at2 pn gm o co (alG F2 65536 gm)) V kd nid o co F2 gm) = R at hbd kR kD
  obtain ⟨W, xs0, E⟩ := R
  dsimp only at hbd kR kD
  obtain ⟨bW1, bW2, hxs⟩ := hbd
  have hT1 : (xs0.map Nx.dt).length ≤ 100000 := by
    rcases hxs with e | e
    · rw [e]; exact Nat.zero_le _
    · rw [e]; show 1 ≤ 100000; omega
  have hT2 : ∀ t, t ∈ xs0.map Nx.dt → t.da.length ≤ 100000 ∧ t.ga.length ≤ 100000 := by
    intro t ht
    rcases hxs with e | e
    · rw [e] at ht; cases ht
    · rw [e] at ht; rw [List.mem_singleton.1 ht]; exact ⟨by show 0 ≤ 100000; omega, by show 0 ≤ 100000; omega⟩
  clear hxs
  generalize xs0.map Nx.dt = T at kR kD hT1 hT2
  have KR : Hid _ := kR
  have HT2 : Hid _ := hT2
  clear kR hT2
  unfold gvA ntA at kD
  have b2 := BxS.new w 44 #[.int .i64 V.id, .string V.nm, .slice a V.L.length c, .int .i64 V.mo, .int .i64 V.bu, .int .i64 V.st, .bool V.fi, .int .i64 V.at', .slice q V.G.length d, .int .i64 V.ti, .int .i64 V.pa, .int .i64 V.tr, .int .i64 V.li]
  have y2 := World.grownBy_alloc w (.cells #[.int .i64 V.id, .string V.nm, .slice a V.L.length c, .int .i64 V.mo, .int .i64 V.bu, .int .i64 V.st, .bool V.fi, .int .i64 V.at', .slice q V.G.length d, .int .i64 V.ti, .int .i64 V.pa, .int .i64 V.tr, .int .i64 V.li] 44) none
  unfold gvA ntA
  have hz2 : (w.alloc (.cells #[.int .i64 V.id, .string V.nm, .slice a V.L.length c, .int .i64 V.mo, .int .i64 V.bu, .int .i64 V.st, .bool V.fi, .int .i64 V.at', .slice q V.G.length d, .int .i64 V.ti, .int .i64 V.pa, .int .i64 V.tr, .int .i64 V.li] 44)).heap.size = w.heap.size + 1 := by simp
  generalize hw2 : w.alloc (.cells #[.int .i64 V.id, .string V.nm, .slice a V.L.length c, .int .i64 V.mo, .int .i64 V.bu, .int .i64 V.st, .bool V.fi, .int .i64 V.at', .slice q V.G.length d, .int .i64 V.ti, .int .i64 V.pa, .int .i64 V.tr, .int .i64 V.li] 44) = w2 at b2 y2 hz2
  have b3 := BxS.new w2 27 #[.int .i64 kd, .int .i64 nid, .string nm2, .int .i64 si, .int .i64 su, .int .i64 at2, .slice pa2 pn pc, .slice ga gm gd, .int .i64 o, .int .i64 co]
  have y3 := World.grownBy_alloc w2 (.cells #[.int .i64 kd, .int .i64 nid, .string nm2, .int .i64 si, .int .i64 su, .int .i64 at2, .slice pa2 pn pc, .slice ga gm gd, .int .i64 o, .int .i64 co] 27) none
  rw [hz2] at b3
  generalize hw3 : w2.alloc (.cells #[.int .i64 kd, .int .i64 nid, .string nm2, .int .i64 si, .int .i64 su, .int .i64 at2, .slice pa2 pn pc, .slice ga gm gd, .int .i64 o, .int .i64 co] 27) = w3 at b3 y3
  have G3 := grown_trans y2 y3
  have b2 := b2.keep y3 (by simp)
  go_enter Try.func7, Try.ntmps7
  refine wp_seq_k fun K1 hK1 => ?_
  have HK1 : Hid _ := hK1
  clear hK1
  go_wp2
  refine HK1.out _ _ ?_
  clear HK1
  clear hw2 hw3 hz2 y2 y3
  refine wp_seq_k fun K2 hK2 => ?_
  have HK2 : Hid _ := hK2
  clear hK2
  have s0 : True := trivial
  go_wp2_with (first
    | (have _t := s0; clear s0; refine wpList_ldX _ rfl _ (.tmp 2) rfl w.heap.size _ rfl b2 Try.underlying44 i13 ?_; have s1 : True := trivial)
    | (have _t := s1; clear s1; refine wpList_ldX _ rfl _ (.tmp 3) rfl (w.heap.size + 1) _ rfl b3 Try.underlying27 i10 ?_; have s2 : True := trivial)
    | (go_at_call 33; have _t := s2; clear s2; refine (kD _ _ _ _ _ (hL.keep G3) (hG.keep G3) (hF2.keep G3)).mono ?_; rintro e w4 ⟨aW, cW, qW, dW, na, nc, xsN, rfl, hxN, hAW, hOW, hNW, _, _, y4⟩; have z4 := y4.size; have z3 := G3.size; have bn := BxS.new w4 44 #[.int .i64 0, .string ⟨#[]⟩, .slice none 0 0, .int .i64 0, .int .i64 0, .int .i64 0, .bool false, .int .i64 0, .slice none 0 0, .int .i64 0, .int .i64 0, .int .i64 0, .int .i64 0]; have gn := World.grownBy_alloc w4 (.cells #[.int .i64 0, .string ⟨#[]⟩, .slice none 0 0, .int .i64 0, .int .i64 0, .int .i64 0, .bool false, .int .i64 0, .slice none 0 0, .int .i64 0, .int .i64 0, .int .i64 0, .int .i64 0] 44) none; generalize hwn : w4.alloc (.cells #[.int .i64 0, .string ⟨#[]⟩, .slice none 0 0, .int .i64 0, .int .i64 0, .int .i64 0, .bool false, .int .i64 0, .slice none 0 0, .int .i64 0, .int .i64 0, .int .i64 0, .int .i64 0] 44) = w5 at bn gn; have s3 : True := trivial)
    | (have _t := s3; clear s3; refine wpList_stX _ rfl _ (.tmp 5) (.tmp 14) rfl w4.heap.size _ _ rfl rfl bn i13 rfl (by simp [gvA, Value.oneCell']) ?_; intro w6 b5 u6))
  refine HK2.out _ _ ?_
  clear HK2
  unfold gvA at b5
  have Y6 : w3.grownBy w6 none := grown_far (grown_trans y4 gn) u6 (fun z e => by have e := Option.some.inj e; omega)
  have hAW : Ans w6 w3.heap.size aW W.L.length cW W.L := (hAW.keep gn).kRR u6 (fun z e e2 => by have e := Option.some.inj e; subst e; exact own_ty (hAW.keep gn).own bn (by decide) e2)
  have hOW : OwGi w6 w3.heap.size qW W.G.length dW W.G := (hOW.keep gn).bx bn (by decide) u6
  have hNW : OwN w6 w3.heap.size na T.length nc xsN := (hNW.keep gn).bx bn (by decide) (by decide) (by decide) u6
  obtain ⟨g5, hg5⟩ : ∃ g, w4.heap.size = g := ⟨_, rfl⟩
  rw [hg5] at b5 ⊢
  clear hg5 u6 bn gn hwn y4 z4 z3 kD
  have G6 := grown_trans G3 Y6
  have b2 := b2.keep Y6 (by simp)
  have b3 := b3.keep Y6 (by simp)
  refine wp_seq_k fun K3 hK3 => ?_
  have HK3 : Hid _ := hK3
  clear hK3
  have s0 : True := trivial
  have kN := fun wz (k1 : Rd wz pa2 pn pc D2) (k2 : RdG wz ga gm gd F2) => noteOwn_any kd nid nm2 si su at2 o co pa2 ga pn pc gm gd D2 F2 wz k1 k2 hpn (by omega)
  unfold ntA at kN
  go_wp2_with (first
    | (have _t := s0; clear s0; refine wpList_ldX _ rfl _ (.tmp 3) rfl (w.heap.size + 1) _ rfl b3 Try.underlying27 i10 ?_; have s1 : True := trivial)
    | (go_at_call 11; have _t := s1; clear s1; refine (kN _ (hD.keep G6) (hF2.keep G6)).mono ?_; rintro e w7 ⟨gh, gq, gd', DD, rfl, lgh, hRo, hFh, lgq, y7⟩; have z7 := y7.size; have bn := BxS.new w7 27 #[.int .i64 0, .int .i64 0, .string ⟨#[]⟩, .int .i64 0, .int .i64 0, .int .i64 0, .slice none 0 0, .slice none 0 0, .int .i64 0, .int .i64 0]; have gn := World.grownBy_alloc w7 (.cells #[.int .i64 0, .int .i64 0, .string ⟨#[]⟩, .int .i64 0, .int .i64 0, .int .i64 0, .slice none 0 0, .slice none 0 0, .int .i64 0, .int .i64 0] 27) none; generalize hwn : w7.alloc (.cells #[.int .i64 0, .int .i64 0, .string ⟨#[]⟩, .int .i64 0, .int .i64 0, .int .i64 0, .slice none 0 0, .slice none 0 0, .int .i64 0, .int .i64 0] 27) = w8 at bn gn; have s2 : True := trivial)
    | (have _t := s2; clear s2; refine wpList_stX _ rfl _ (.tmp 8) (.tmp 18) rfl w7.heap.size _ _ rfl rfl bn i10 rfl (by simp [ntA, Value.oneCell']) ?_; intro w9 b8 u9))
  refine HK3.out _ _ ?_
  clear HK3
  clear kN
  have Y9 : w6.grownBy w9 none := grown_far (grown_trans y7 gn) u9 (fun z e => by have e := Option.some.inj e; omega)
  have Y79 : w7.grownBy w9 none := grown_far gn u9 (fun z e => by have e := Option.some.inj e; omega)
  have hDh : Rd w9 (some ⟨gh, 0, none⟩) pn (pn + 5) D2 := (hRo.rd hD.byte hD.len hpn).keep Y79
  have hFh9 : RdG w9 gq gm gd' F2 := hFh.keep Y79
  obtain ⟨g8, hg8⟩ : ∃ g, w7.heap.size = g := ⟨_, rfl⟩
  rw [hg8] at b8 ⊢
  clear hg8 u9 bn gn hwn y7 z7 hRo hFh lgq lgh Y79
  have G9 := grown_trans G6 Y9
  have b2 := b2.keep Y9 (by simp)
  have b3 := b3.keep Y9 (by simp)
  have b5 := b5.keep Y9 (by simp)
  have hAW := hAW.keep Y9
  have hOW := hOW.keep Y9
  have hNW := hNW.keep Y9
  refine wp_seq_k fun K4 hK4 => ?_
  have HK4 : Hid _ := hK4
  clear hK4
  go_wp2
  refine HK4.out _ _ ?_
  clear HK4
  refine wp_seq_k fun K5 hK5 => ?_
  have HK5 : Hid _ := hK5
  clear hK5
  have kA := giverAs_reply V W T E a q aW qW na c d cW dW nc _ xsN w9 g8 (fun wz => w9.grownBy wz none) (fun x y h1 h2 => grown_trans h1 h2) (World.grownBy.refl _ _) (fun wz aa cc qq dd hI k1 k2 => reply1_any V W T E aa qq cc dd g8 kd nid nm2 si su at2 (some ⟨gh, 0, none⟩) pn (pn + 5) gq gm gd' o co wz (by have := b8.keep hI (by simp); exact this) (fun wy hy => KR.out wy aa qq cc dd _ _ _ _ (k1.keep hy) (k2.keep hy) ((hFh9.keep hI).keep hy))) (hL.keep G9) (hG.keep G9) hAW.rd hOW.rd hNW hxN hn hm bW1 bW2 hT1 HT2.out
  unfold gvA at kA
  have KA : Hid _ := kA
  clear kA
  have s0 : True := trivial
  go_wp2_with (first
    | (have _t := s0; clear s0; refine wpList_ldX _ rfl _ (.tmp 2) rfl w.heap.size _ rfl b2 Try.underlying44 i13 ?_; have s1 : True := trivial)
    | (have _t := s1; clear s1; refine wpList_ldX _ rfl _ (.tmp 5) rfl g5 _ rfl b5 Try.underlying44 i13 ?_; have s2 : True := trivial)
    | (go_at_call 31; have _t := s2; clear s2; refine Calls.mono KA.out ?_; rintro e wA ⟨rfl, yA⟩; obtain ⟨c0, c1, c2, c3, c4, c5, c6, c7, c8, c9⟩ := (b8.keep yA (by simp)).cell10; obtain ⟨d0, d1, d2, d3, d4, d5, d6, d7, d8, d9⟩ := (b3.keep yA (by simp)).cell10; have GA := grown_trans G9 yA; have s3 : True := trivial)
    | (go_at_call 15; have _t := s3; clear s3; refine (sameNote_any kd nid nm2 si su at2 o co _ _ _ _ pn _ _ gm _ _ D2 F2 F2 wA (hDh.keep yA) (hD.keep GA) (hFh9.keep yA) (hF2.keep GA) (fun _ _ => rfl)).mono ?_; rintro e wB ⟨rfl, yB⟩))
  refine HK5.out _ _ ?_
  clear HK5
  go_wp2
  go_ret
  exact ⟨rfl, (Below.refl _ _).grown (grown_trans GA yB) (Nat.le_refl _) (fun k hk => by cases hk)⟩

open Go.ChangeShapes Go.WideShapes
set_option maxHeartbeats 8000000 in
theorem shown_giver {w : World} {full : Bool} {k : Nat} {v : Value} (h : (Sh.fcons 1 (.int .i64) (.fcons 1 .str (.fcons 1 (.slice 1 1 (.int .u8)) (.fcons 1 (.int .i64) (.fcons 1 (.int .i64) (.fcons 1 (.int .i64) (.fcons 1 .bool (.fcons 1 (.int .i64) (.fcons 1 (.slice 2 16 (Sh.rep 1 (.int .i64) 2)) (.fcons 1 (.int .i64) (.fcons 1 (.int .i64) (.fcons 1 (.int .i64) (.fcons 1 (.int .i64) .fend))))))))))))).shown w full v k) :
    ∃ (V : Gv) (a q : Option Addr) (c d : Nat), v = .agg (gvA V.id V.nm (.slice a V.L.length c) V.mo V.bu V.st V.fi V.at' (.slice q V.G.length d) V.ti V.pa V.tr V.li) ∧ Rd w a V.L.length c V.L ∧ RdG w q V.G.length d (giF V.G) ∧ (full = true → V.L.length ≤ 140737488351232) ∧ (full = true → V.G.length ≤ 8796093021952) ∧ (-9223372036854775808 ≤ V.pa ∧ V.pa ≤ 9223372036854775807) ∧ (-9223372036854775808 ≤ V.ti ∧ V.ti ≤ 9223372036854775807) ∧ (-9223372036854775808 ≤ V.at' ∧ V.at' ≤ 9223372036854775807) ∧ (-9223372036854775808 ≤ V.mo ∧ V.mo ≤ 9223372036854775807) := by
  obtain ⟨cs, rfl, hm⟩ := h
  obtain ⟨_, _, rfl, ⟨_, id, e0, _⟩, _, _, rfl, ⟨nm, e1, _⟩, _, _, rfl, h2, _, _, rfl, ⟨_, mo, e3, r3⟩, _, _, rfl, ⟨_, bu, e4, _⟩, _, _, rfl, ⟨_, st, e5, _⟩, _, _, rfl, ⟨_, fi, e6⟩, _, _, rfl, ⟨_, at', e7, r7⟩, _, _, rfl, h8, _, _, rfl, ⟨_, ti, e9, r9⟩, _, _, rfl, ⟨_, pa, e10, r10⟩, _, _, rfl, ⟨_, tr, e11, _⟩, _, _, rfl, ⟨_, li, e12, _⟩, e13, _⟩ := hm
  obtain ⟨a, n, c, L, e2, hR, hf, _⟩ := met_bytes h2
  obtain ⟨q, m, d, F, e8, hG, hg, _⟩ := met_pairs h8
  have hl := hR.len
  subst hl
  have hG2 := hG.tab
  obtain ⟨G, hGG⟩ : ∃ G, tabG F m = G := ⟨_, rfl⟩
  have hlG : G.length = m := by rw [← hGG, tabG_len]
  rw [hGG] at hG2
  subst hlG
  refine ⟨⟨id, nm, mo, bu, st, fi, at', ti, pa, tr, li, L, G⟩, a, q, c, d, ?_, hR, hG2, (fun h9 => Nat.le_trans hR.le (hf h9)), (fun h9 => ?_), bounds_i64 r10, bounds_i64 r9, bounds_i64 r7, bounds_i64 r3⟩
  · unfold gvA
    congr 1
    apply Array.toList_inj.1
    generalize cs.toList = l at *
    match l with
    | [] => simp at e0
    | [_] => simp at e1
    | [_, _] => simp at e2
    | [_, _, _] => simp at e3
    | [_, _, _, _] => simp at e4
    | [_, _, _, _, _] => simp at e5
    | [_, _, _, _, _, _] => simp at e6
    | [_, _, _, _, _, _, _] => simp at e7
    | [_, _, _, _, _, _, _, _] => simp at e8
    | [_, _, _, _, _, _, _, _, _] => simp at e9
    | [_, _, _, _, _, _, _, _, _, _] => simp at e10
    | [_, _, _, _, _, _, _, _, _, _, _] => simp at e11
    | [_, _, _, _, _, _, _, _, _, _, _, _] => simp at e12
    | [x0, x1, x2, x3, x4, x5, x6, x7, x8, x9, x10, x11, x12] => simp_all
    | x0 :: x1 :: x2 :: x3 :: x4 :: x5 :: x6 :: x7 :: x8 :: x9 :: x10 :: x11 :: x12 :: x13 :: r => simp at e13
  · have h1 := hg h9
    have h2 := hG.le
    unfold reachBytes at h1
    show G.length ≤ _
    omega
end
end Go.Proofs.Ytnimehkfnpepfaa
