import Derived.Test.YtnimehkfnpepfaaTk24
import Derived.Test.YtnimehkfnpepfaaTk4
import Derived.Test.YtnimehkfnpepfaaTk7
import Derived.Test.YtnimehkfnpepfaaTk9
import Derived.Test.YtnimehkfnpepfaaTk6
namespace Go.Proofs.Ytnimehkfnpepfaa
open Go.RowKit
set_option maxRecDepth 100000
set_option linter.unusedVariables false
set_option linter.unusedSimpArgs false

section
set_option maxHeartbeats 32000000 in
/-- a note comes to one who takes -/
theorem hearGoing_any (wB w : World) (gw : Nat) (V : Tv) (h : KA wB w gw V []) (ho : TvQ V) (hs : V.st = 0) (kd nid : Int) (nm2 : ByteArray) (si2 su2 at2 : Int) (pa2 : Option Addr) (pn pc : Nat) (ga : Option Addr) (gm gd : Nat) (o co : Int) (x : Nat) (D : List Nat) (hD : Rd wB pa2 pn pc D) (hn : NtK kd si2 su2 at2 pn o x) : Calls Try.prog 107 #[.pointer (some ⟨gw, 0, none⟩), .agg (ntA kd nid nm2 si2 su2 at2 (.slice pa2 pn pc) (.slice ga gm gd) o co)] w fun e w' => e = .returned (.tuple #[]) ∧ KA wB w' gw (heG V kd nm2 si2 su2 x D).1 (heG V kd nm2 si2 su2 x D).2 ∧ KpK w w' := by
  have hDl : D.length = pn := hD.len
  have hn2 : NtK kd si2 su2 at2 D.length o x := by rw [hDl]; exact hn
  have hq1 : TvQ { V with ti := 0, tr := 0 } := ⟨ho.ri, ho.gl, ho.ge, ho.n9, ho.si, ho.la⟩
  have hq := heK_q hq1 hn2 nm2
  have hri := ho.ri
  have hgl := ho.gl
  have hn9 := ho.n9
  have hax := hn.ax
  have hkk := hn.kk
  have hpc := hn.pc
  obtain ⟨a, c, q, d, na, nc, xs, hT, h⟩ := h
  have hxs : xs = [] := List.map_eq_nil_iff.1 hT
  subst hxs
  obtain ⟨id, kn, nm, si, en, la, su, st, ti, pa, tr, li, L, G⟩ := V
  dsimp only at h hs hri hgl hn9 hq
  subst hs hax
  have HRI : Hid _ := hri
  have HGL : Hid _ := hgl
  have HN9 : Hid _ := hn9
  have HPC : Hid _ := hpc
  have HDL : Hid _ := hDl
  clear hT hn hn2 hq1 ho hri hgl hn9 hpc hDl
  have b3 := BxS.new w 27 #[.int .i64 kd, .int .i64 nid, .string nm2, .int .i64 si2, .int .i64 su2, .int .i64 (x : Int), .slice pa2 pn pc, .slice ga gm gd, .int .i64 o, .int .i64 co]
  have g3' := World.grownBy_alloc w (.cells #[.int .i64 kd, .int .i64 nid, .string nm2, .int .i64 si2, .int .i64 su2, .int .i64 (x : Int), .slice pa2 pn pc, .slice ga gm gd, .int .i64 o, .int .i64 co] 27) none
  unfold ntA
  generalize hw1 : w.alloc (.cells #[.int .i64 kd, .int .i64 nid, .string nm2, .int .i64 si2, .int .i64 su2, .int .i64 (x : Int), .slice pa2 pn pc, .slice ga gm gd, .int .i64 o, .int .i64 co] 27) = w1 at b3 g3'
  have hr3 : (Value.slice na 0 nc).ownBlock ≠ some w.heap.size := fun e => by have h1 : w.heap.size < w.heap.size := own_ltN h.N.own e; omega
  go_enter Try.func107, Try.ntmps107
  refine wp_seq_k fun K1 hK1 => ?_
  have HK1 : Hid _ := hK1
  clear hK1
  go_wp2
  refine HK1.out _ _ ?_
  clear HK1
  clear hw1
  obtain ⟨g3, hg3⟩ : ∃ g3, w.heap.size = g3 := ⟨_, rfl⟩
  rw [hg3] at b3 hr3 ⊢
  clear hg3
  have h1 := h.keepN g3'
  refine wp_seq_k fun K1 hK1 => ?_
  have HK1 : Hid _ := hK1
  clear hK1
  have s0 : True := trivial
  go_wp2_with (first
    | (have _t := s0; clear s0; refine wpList_stC _ rfl _ _ _ rfl gw 10 112 _ #[.int .i64 id, .bool kn, .string nm, .int .i64 si, .bool en, .int .i64 la, .int .i64 su, .slice q G.length d, .slice a L.length c, .int .i64 0, .int .i64 0, .int .i64 pa, .int .i64 tr, .int .i64 li, .slice na 0 nc] (.int .i64 0) rfl rfl h1.bx (stc_int _ _ _) (by show 10 < 15; decide) rfl ?_; intro w2 b2 u2; have h2 := h1.set u2 b2; have s1 : True := trivial)
    | (have _t := s1; clear s1; refine wpList_stC _ rfl _ _ _ rfl gw 12 112 _ #[.int .i64 id, .bool kn, .string nm, .int .i64 si, .bool en, .int .i64 la, .int .i64 su, .slice q G.length d, .slice a L.length c, .int .i64 0, .int .i64 0, .int .i64 pa, .int .i64 0, .int .i64 li, .slice na 0 nc] (.int .i64 0) rfl rfl h2.bx (stc_int _ _ _) (by show 12 < 15; decide) rfl ?_; intro w3 b3w u3))
  refine HK1.out _ _ ?_
  clear HK1
  have h3 := h2.set u3 b3w
  have k3 : KpK w w3 := ((KpK.none g3').trans (KpK.bx h1.bx (by decide) u2)).trans (KpK.bx h2.bx (by decide) u3)
  have b33 := (b3.keep u2 (fun e => BxS.apart b3 h1.bx (by decide) (Option.some.inj e))).keep u3 (fun e => BxS.apart (b3.keep u2 (fun e => BxS.apart b3 h1.bx (by decide) (Option.some.inj e))) h2.bx (by decide) (Option.some.inj e))
  clear u2 b2 u3 b3w h1 h2 b3 g3' h
  rcases hkk with rfl | rfl | rfl | rfl
  · have y0 : w3.cell? ⟨g3, 0, none⟩ = some (.int .i64 1) := b33.cell 0 (by show 0 < 10; decide)
    refine wp_seq_k fun K1 hK1 => ?_
    have HK1 : Hid _ := hK1
    clear hK1
    refine wp_seq_k fun K2 hK2 => ?_
    have HK2 : Hid _ := hK2
    clear hK2
    go_wp2
    refine HK2.out _ _ ?_
    clear HK2
    refine wp_block ?_
    have x1 : w3.cell? ⟨gw, 1, none⟩ = some (.bool kn) := h3.bx.cell 1 (by show 1 < 15; decide)
    cases kn with
    | true =>
      go_wp2
      try simp only [Exit.then, Exit.inBlock]
      refine HK1.out _ _ ?_
      clear HK1
      have eK : heK (⟨id, true, nm, si, en, la, su, 0, 0, pa, 0, li, L, G⟩ : Tv) 1 nm2 si2 su2 x D = (⟨id, true, nm, si, en, la, su, 0, 0, pa, 0, li, L, G⟩ : Tv) := by unfold heK; rw [if_pos rfl, if_pos rfl]
      rw [eK] at hq
      refine hg_t12 _ wB w3 gw (⟨id, true, nm, si, en, la, su, 0, 0, pa, 0, li, L, G⟩ : Tv) [] (KA.of rfl h3) hq (by show _ ≤ 900; simp) g3 1 nid nm2 si2 su2 (x : Int) pa2 pn pc ga gm gd o co b33 ?_
      intro w' h9 k9
      refine ⟨rfl, ?_, (k3).trans k9⟩
      show KA wB w' gw (juV (heK (⟨id, true, nm, si, en, la, su, 0, 0, pa, 0, li, L, G⟩ : Tv) 1 nm2 si2 su2 x D)).1 (seT id 1 ++ (juV (heK (⟨id, true, nm, si, en, la, su, 0, 0, pa, 0, li, L, G⟩ : Tv) 1 nm2 si2 su2 x D)).2 ++ gpT (juV (heK (⟨id, true, nm, si, en, la, su, 0, 0, pa, 0, li, L, G⟩ : Tv) 1 nm2 si2 su2 x D)).1 1)
      rw [eK]
      exact h9
    | false =>
      refine wp_seq_k fun K2 hK2 => ?_
      have HK2 : Hid _ := hK2
      clear hK2
      go_wp2
      refine HK2.out _ _ ?_
      clear HK2
      refine wp_cond_true rfl ?_
      refine wp_seq_k fun K2 hK2 => ?_
      have HK2 : Hid _ := hK2
      clear hK2
      go_wp2
      refine HK2.out _ _ ?_
      clear HK2
      refine wp_cond_true rfl ?_
      clear x1 y0
      have Gd := grown_drew w3 none
      have hd := h3.keepN Gd
      have S0 : BxS w3.drew g3 27 #[.int .i64 1, .int .i64 nid, .string nm2, .int .i64 si2, .int .i64 su2, .int .i64 (x : Int), .slice pa2 pn pc, .slice ga gm gd, .int .i64 o, .int .i64 co] := b33.keep Gd (by simp)
      refine wp_regionL (fun wz => BxS wz g3 27 #[.int .i64 1, .int .i64 nid, .string nm2, .int .i64 si2, .int .i64 su2, .int .i64 (x : Int), .slice pa2 pn pc, .slice ga gm gd, .int .i64 o, .int .i64 co]) [] #[false, false, false, false, false, false, false, false, false, false, false, false, false, false, false, false, false, false, false] rfl (by kernel_rfl) ?_
      generalize w3.drew = wd at *
      refine wpAnyZ_take [] 0 (.pointer (some ⟨gw, 0, none⟩)) rfl (by kernel_rfl) (fun _ _ _ h => h) S0 rfl (by intro wz hz; go_simp) ?_
      try simp only [List.getElem_toArray, List.getElem_cons_succ, List.getElem_cons_zero, Act.put, List.setIfInBounds_toArray, List.set_cons_zero, List.set_cons_succ]
      refine wpAnyZ_take [] 1 (.pointer (some ⟨gw, 0, none⟩)) rfl (by kernel_rfl) (fun _ _ _ h => h) S0 rfl (by intro wz hz; go_simp) ?_
      try simp only [List.getElem_toArray, List.getElem_cons_succ, List.getElem_cons_zero, Act.put, List.setIfInBounds_toArray, List.set_cons_zero, List.set_cons_succ]
      refine wpAnyZ_take [] 2 (.pointer (some ⟨gw, 0, none⟩)) rfl (by kernel_rfl) (fun _ _ _ h => h) S0 rfl (by intro wz hz; go_simp) ?_
      try simp only [List.getElem_toArray, List.getElem_cons_succ, List.getElem_cons_zero, Act.put, List.setIfInBounds_toArray, List.set_cons_zero, List.set_cons_succ]
      refine wpAnyZ_take [] 3 (.pointer (some ⟨g3, 2, none⟩)) rfl (by kernel_rfl) (fun _ _ _ h => h) S0 rfl (by intro wz hz; go_simp) ?_
      try simp only [List.getElem_toArray, List.getElem_cons_succ, List.getElem_cons_zero, Act.put, List.setIfInBounds_toArray, List.set_cons_zero, List.set_cons_succ]
      refine wpAnyZ_take [] 4 (.string nm2) rfl (by kernel_rfl) (fun _ _ _ h => h) S0 rfl (by intro wz hz; have z : wz.cell? ⟨g3, 2, none⟩ = some (.string nm2) := hz.cell 2 (by show 2 < 10; decide); go_simp) ?_
      try simp only [List.getElem_toArray, List.getElem_cons_succ, List.getElem_cons_zero, Act.put, List.setIfInBounds_toArray, List.set_cons_zero, List.set_cons_succ]
      refine wpAnyZ_take [] 5 (.pointer (some ⟨g3, 3, none⟩)) rfl (by kernel_rfl) (fun _ _ _ h => h) S0 rfl (by intro wz hz; go_simp) ?_
      try simp only [List.getElem_toArray, List.getElem_cons_succ, List.getElem_cons_zero, Act.put, List.setIfInBounds_toArray, List.set_cons_zero, List.set_cons_succ]
      refine wpAnyZ_take [] 6 (.int .i64 si2) rfl (by kernel_rfl) (fun _ _ _ h => h) S0 rfl (by intro wz hz; have z : wz.cell? ⟨g3, 3, none⟩ = some (.int .i64 si2) := hz.cell 3 (by show 3 < 10; decide); go_simp) ?_
      try simp only [List.getElem_toArray, List.getElem_cons_succ, List.getElem_cons_zero, Act.put, List.setIfInBounds_toArray, List.set_cons_zero, List.set_cons_succ]
      refine wpAnyZ_take [] 7 (.pointer (some ⟨gw, 0, none⟩)) rfl (by kernel_rfl) (fun _ _ _ h => h) S0 rfl (by intro wz hz; go_simp) ?_
      try simp only [List.getElem_toArray, List.getElem_cons_succ, List.getElem_cons_zero, Act.put, List.setIfInBounds_toArray, List.set_cons_zero, List.set_cons_succ]
      refine wpAnyZ_take [] 8 (.pointer (some ⟨gw, 0, none⟩)) rfl (by kernel_rfl) (fun _ _ _ h => h) S0 rfl (by intro wz hz; go_simp) ?_
      try simp only [List.getElem_toArray, List.getElem_cons_succ, List.getElem_cons_zero, Act.put, List.setIfInBounds_toArray, List.set_cons_zero, List.set_cons_succ]
      refine wpAnyZ_take [] 9 (.pointer (some ⟨gw, 1, none⟩)) rfl (by kernel_rfl) (fun _ _ _ h => h) S0 rfl (by intro wz hz; go_simp) ?_
      try simp only [List.getElem_toArray, List.getElem_cons_succ, List.getElem_cons_zero, Act.put, List.setIfInBounds_toArray, List.set_cons_zero, List.set_cons_succ]
      refine wpAnyZ_oneB 10 rfl (by kernel_rfl) (fun KK hKK => ?_)
      refine step_stCd _ rfl _ _ _ rfl gw 1 112 _ #[.int .i64 id, .bool true, .string nm, .int .i64 si, .bool en, .int .i64 la, .int .i64 su, .slice q G.length d, .slice a L.length c, .int .i64 0, .int .i64 0, .int .i64 pa, .int .i64 0, .int .i64 li, .slice na 0 nc] (.bool true) rfl rfl hd.bx ((fun w' h1 h2 => stc_boK _ _ _ _ h1 h2)) (by show 1 < 15; decide) rfl ?_
      intro wx0 bx0 ux0
      have S1 := S0.keep ux0 (fun e => BxS.apart S0 hd.bx (by decide) (Option.some.inj e))
      have kx0 := KpK.bx hd.bx (by decide) ux0
      have hx0 := hd.set ux0 bx0
      refine hKK _ _ (fun _ => S1) ?_
      try simp only [List.getElem_toArray, List.getElem_cons_succ, List.getElem_cons_zero, Act.put, List.setIfInBounds_toArray, List.set_cons_zero, List.set_cons_succ]
      refine wpAnyZ_take [] 11 (.pointer (some ⟨gw, 0, none⟩)) rfl (by kernel_rfl) (fun _ _ _ h => h) S1 rfl (by intro wz hz; go_simp) ?_
      try simp only [List.getElem_toArray, List.getElem_cons_succ, List.getElem_cons_zero, Act.put, List.setIfInBounds_toArray, List.set_cons_zero, List.set_cons_succ]
      refine wpAnyZ_take [] 12 (.pointer (some ⟨gw, 0, none⟩)) rfl (by kernel_rfl) (fun _ _ _ h => h) S1 rfl (by intro wz hz; go_simp) ?_
      try simp only [List.getElem_toArray, List.getElem_cons_succ, List.getElem_cons_zero, Act.put, List.setIfInBounds_toArray, List.set_cons_zero, List.set_cons_succ]
      refine wpAnyZ_take [] 13 (.pointer (some ⟨gw, 2, none⟩)) rfl (by kernel_rfl) (fun _ _ _ h => h) S1 rfl (by intro wz hz; go_simp) ?_
      try simp only [List.getElem_toArray, List.getElem_cons_succ, List.getElem_cons_zero, Act.put, List.setIfInBounds_toArray, List.set_cons_zero, List.set_cons_succ]
      refine wpAnyZ_oneB 14 rfl (by kernel_rfl) (fun KK hKK => ?_)
      refine step_stCd _ rfl _ _ _ rfl gw 2 112 _ #[.int .i64 id, .bool true, .string nm2, .int .i64 si, .bool en, .int .i64 la, .int .i64 su, .slice q G.length d, .slice a L.length c, .int .i64 0, .int .i64 0, .int .i64 pa, .int .i64 0, .int .i64 li, .slice na 0 nc] (.string nm2) rfl rfl hx0.bx ((fun w' h1 h2 => stc_stK _ _ _ _ h1 h2)) (by show 2 < 15; decide) rfl ?_
      intro wx1 bx1 ux1
      have S2 := S1.keep ux1 (fun e => BxS.apart S1 hx0.bx (by decide) (Option.some.inj e))
      have kx1 := KpK.bx hx0.bx (by decide) ux1
      have hx1 := hx0.set ux1 bx1
      refine hKK _ _ (fun _ => S2) ?_
      try simp only [List.getElem_toArray, List.getElem_cons_succ, List.getElem_cons_zero, Act.put, List.setIfInBounds_toArray, List.set_cons_zero, List.set_cons_succ]
      refine wpAnyZ_take [] 15 (.pointer (some ⟨gw, 0, none⟩)) rfl (by kernel_rfl) (fun _ _ _ h => h) S2 rfl (by intro wz hz; go_simp) ?_
      try simp only [List.getElem_toArray, List.getElem_cons_succ, List.getElem_cons_zero, Act.put, List.setIfInBounds_toArray, List.set_cons_zero, List.set_cons_succ]
      refine wpAnyZ_take [] 16 (.pointer (some ⟨gw, 0, none⟩)) rfl (by kernel_rfl) (fun _ _ _ h => h) S2 rfl (by intro wz hz; go_simp) ?_
      try simp only [List.getElem_toArray, List.getElem_cons_succ, List.getElem_cons_zero, Act.put, List.setIfInBounds_toArray, List.set_cons_zero, List.set_cons_succ]
      refine wpAnyZ_take [] 17 (.pointer (some ⟨gw, 3, none⟩)) rfl (by kernel_rfl) (fun _ _ _ h => h) S2 rfl (by intro wz hz; go_simp) ?_
      try simp only [List.getElem_toArray, List.getElem_cons_succ, List.getElem_cons_zero, Act.put, List.setIfInBounds_toArray, List.set_cons_zero, List.set_cons_succ]
      refine wpAnyZ_oneB 18 rfl (by kernel_rfl) (fun KK hKK => ?_)
      refine step_stCd _ rfl _ _ _ rfl gw 3 112 _ #[.int .i64 id, .bool true, .string nm2, .int .i64 si2, .bool en, .int .i64 la, .int .i64 su, .slice q G.length d, .slice a L.length c, .int .i64 0, .int .i64 0, .int .i64 pa, .int .i64 0, .int .i64 li, .slice na 0 nc] (.int .i64 si2) rfl rfl hx1.bx ((fun w' h1 h2 => stc_int _ _ _ _ h1 h2)) (by show 3 < 15; decide) rfl ?_
      intro wx2 bx2 ux2
      have S3 := S2.keep ux2 (fun e => BxS.apart S2 hx1.bx (by decide) (Option.some.inj e))
      have kx2 := KpK.bx hx1.bx (by decide) ux2
      have hx2 := hx1.set ux2 bx2
      refine hKK _ _ (fun _ => S3) ?_
      try simp only [List.getElem_toArray, List.getElem_cons_succ, List.getElem_cons_zero, Act.put, List.setIfInBounds_toArray, List.set_cons_zero, List.set_cons_succ]
      refine wpAnyZ_doneB (by kernel_rfl) ?_ _
      try simp only [Exit.then, Exit.inBlock]
      refine HK1.out _ _ ?_
      clear HK1
      have eK : heK (⟨id, false, nm, si, en, la, su, 0, 0, pa, 0, li, L, G⟩ : Tv) 1 nm2 si2 su2 x D = (⟨id, true, nm2, si2, en, la, su, 0, 0, pa, 0, li, L, G⟩ : Tv) := by unfold heK; rw [if_pos rfl, if_neg (fun e => absurd (show false = true from e) (by decide))]
      rw [eK] at hq
      refine hg_t12 _ wB wx2 gw (⟨id, true, nm2, si2, en, la, su, 0, 0, pa, 0, li, L, G⟩ : Tv) [] (KA.of rfl hx2) hq (by show _ ≤ 900; simp) g3 1 nid nm2 si2 su2 (x : Int) pa2 pn pc ga gm gd o co S3 ?_
      intro w' h9 k9
      refine ⟨rfl, ?_, ((((k3.trans (KpK.none Gd)).trans kx0).trans kx1).trans kx2).trans k9⟩
      show KA wB w' gw (juV (heK (⟨id, false, nm, si, en, la, su, 0, 0, pa, 0, li, L, G⟩ : Tv) 1 nm2 si2 su2 x D)).1 (seT id 1 ++ (juV (heK (⟨id, false, nm, si, en, la, su, 0, 0, pa, 0, li, L, G⟩ : Tv) 1 nm2 si2 su2 x D)).2 ++ gpT (juV (heK (⟨id, false, nm, si, en, la, su, 0, 0, pa, 0, li, L, G⟩ : Tv) 1 nm2 si2 su2 x D)).1 1)
      rw [eK]
      exact h9
  · have y0 : w3.cell? ⟨g3, 0, none⟩ = some (.int .i64 2) := b33.cell 0 (by show 0 < 10; decide)
    refine wp_seq_k fun K1 hK1 => ?_
    have HK1 : Hid _ := hK1
    clear hK1
    refine wp_seq_k fun K2 hK2 => ?_
    have HK2 : Hid _ := hK2
    clear hK2
    go_wp2
    refine HK2.out _ _ ?_
    clear HK2
    refine wp_block ?_
    have x5 : w3.cell? ⟨g3, 5, none⟩ = some (.int .i64 (x : Int)) := b33.cell 5 (by show 5 < 10; decide)
    have x6 : w3.cell? ⟨g3, 6, none⟩ = some (.slice pa2 pn pc) := b33.cell 6 (by show 6 < 10; decide)
    have hpp := HPC.out (by first | rfl | trivial)
    go_wp2_with (go_at_call 122; refine (lay_any _ _ _ _ _ _ _ _ _ _ _ _ _ _ _ _ _ _ _ _ _ _ _ _ _ _ _ h3 x pa2 pn pc D hD hpp.1 hpp.2 HN9.out HGL.out HRI.out).mono ?_; rintro e w4 ⟨rfl, ⟨a4, c4, q4, d4, h4⟩, k4⟩)
    try simp only [Exit.then, Exit.inBlock]
    have h4 : TKW wB w4 gw id kn nm si en la su 0 0 pa 0 li a4 (laL L D (giF G) G.length x).length c4 (laL L D (giF G) G.length x) q4 (wiL (giF G) (x : Int) ((x + D.length : Nat) : Int) G.length).length d4 (wiL (giF G) (x : Int) ((x + D.length : Nat) : Int) G.length) na 0 nc [] := by rw [HDL.out]; exact h4
    refine HK1.out _ _ ?_
    clear HK1
    have eK : heK (⟨id, kn, nm, si, en, la, su, 0, 0, pa, 0, li, L, G⟩ : Tv) 2 nm2 si2 su2 x D = (⟨id, kn, nm, si, en, la, su, 0, 0, pa, 0, li, laL L D (giF G) G.length x, wiL (giF G) (x : Int) ((x + D.length : Nat) : Int) G.length⟩ : Tv) := by unfold heK; rw [if_neg (by decide), if_pos rfl]
    rw [eK] at hq
    refine hg_t12 _ wB w4 gw (⟨id, kn, nm, si, en, la, su, 0, 0, pa, 0, li, laL L D (giF G) G.length x, wiL (giF G) (x : Int) ((x + D.length : Nat) : Int) G.length⟩ : Tv) [] (KA.of (T := []) rfl h4) hq (by show _ ≤ 900; simp) g3 2 nid nm2 si2 su2 (x : Int) pa2 pn pc ga gm gd o co (k4.1 _ _ b33) ?_
    intro w' h9 k9
    refine ⟨rfl, ?_, (k3.trans k4.2).trans k9⟩
    show KA wB w' gw (juV (heK (⟨id, kn, nm, si, en, la, su, 0, 0, pa, 0, li, L, G⟩ : Tv) 2 nm2 si2 su2 x D)).1 (seT id 2 ++ (juV (heK (⟨id, kn, nm, si, en, la, su, 0, 0, pa, 0, li, L, G⟩ : Tv) 2 nm2 si2 su2 x D)).2 ++ gpT (juV (heK (⟨id, kn, nm, si, en, la, su, 0, 0, pa, 0, li, L, G⟩ : Tv) 2 nm2 si2 su2 x D)).1 2)
    rw [eK]
    exact h9
  · have y0 : w3.cell? ⟨g3, 0, none⟩ = some (.int .i64 3) := b33.cell 0 (by show 0 < 10; decide)
    refine wp_seq_k fun K1 hK1 => ?_
    have HK1 : Hid _ := hK1
    clear hK1
    refine wp_seq_k fun K2 hK2 => ?_
    have HK2 : Hid _ := hK2
    clear hK2
    go_wp2
    refine HK2.out _ _ ?_
    clear HK2
    refine wp_block ?_
    have hf3 := h3
    refine wp_seq_k fun K2 hK2 => ?_
    have HK2 : Hid _ := hK2
    clear hK2
    go_wp2
    refine HK2.out _ _ ?_
    clear HK2
    refine wp_cond_false rfl ?_
    refine wp_seq_k fun K2 hK2 => ?_
    have HK2 : Hid _ := hK2
    clear hK2
    go_wp2
    refine HK2.out _ _ ?_
    clear HK2
    refine wp_cond_false rfl ?_
    refine wp_seq_k fun K2 hK2 => ?_
    have HK2 : Hid _ := hK2
    clear hK2
    go_wp2
    refine HK2.out _ _ ?_
    clear HK2
    refine wp_cond_true rfl ?_
    clear y0
    refine wp_seq_k fun K2 hK2 => ?_
    have HK2 : Hid _ := hK2
    clear hK2
    go_wp2_with (go_at_call 104; refine (sendSeen_any _ _ _ _ _ _ _ _ _ _ _ _ _ _ _ _ _ _ _ _ _ _ _ _ _ _ _ h3 (Nat.zero_le _)).mono ?_; rintro e w4 ⟨rfl, ⟨na4, nc4, h4⟩, f4⟩)
    refine HK2.out _ _ ?_
    clear HK2
    have b34 := f4 _ _ _ b33 (fun e => by subst e; exact BxS.apart b33 h3.bx (by decide) rfl) hr3
    have k4 := k3.trans (f4.kp h3)
    have hK4 : ([xSeE id].map Nx.dt) = [ntSeen id] := rfl
    have x4 : w4.cell? ⟨gw, 4, none⟩ = some (.bool en) := h4.bx.cell 4 (by show 4 < 15; decide)
    cases en with
    | true =>
      go_wp2
      try simp only [Exit.then, Exit.inBlock]
      refine HK1.out _ _ ?_
      clear HK1
      have eK : heK (⟨id, kn, nm, si, true, la, su, 0, 0, pa, 0, li, L, G⟩ : Tv) 3 nm2 si2 su2 x D = (⟨id, kn, nm, si, true, la, su, 0, 0, pa, 0, li, L, G⟩ : Tv) := by unfold heK; rw [if_neg (by decide), if_neg (by decide), if_pos rfl, if_pos rfl]
      rw [eK] at hq
      refine hg_t12 _ wB w4 gw (⟨id, kn, nm, si, true, la, su, 0, 0, pa, 0, li, L, G⟩ : Tv) [ntSeen id] (KA.of hK4 h4) hq (by show _ ≤ 900; simp) g3 3 nid nm2 si2 su2 (x : Int) pa2 pn pc ga gm gd o co b34 ?_
      intro w' h9 k9
      refine ⟨rfl, ?_, (k4).trans k9⟩
      show KA wB w' gw (juV (heK (⟨id, kn, nm, si, true, la, su, 0, 0, pa, 0, li, L, G⟩ : Tv) 3 nm2 si2 su2 x D)).1 (seT id 3 ++ (juV (heK (⟨id, kn, nm, si, true, la, su, 0, 0, pa, 0, li, L, G⟩ : Tv) 3 nm2 si2 su2 x D)).2 ++ gpT (juV (heK (⟨id, kn, nm, si, true, la, su, 0, 0, pa, 0, li, L, G⟩ : Tv) 3 nm2 si2 su2 x D)).1 3)
      rw [eK]
      exact h9
    | false =>
      refine wp_seq_k fun K2 hK2 => ?_
      have HK2 : Hid _ := hK2
      clear hK2
      go_wp2
      refine HK2.out _ _ ?_
      clear HK2
      refine wp_cond_true rfl ?_
      clear x4
      have Gd := grown_drew w4 none
      have hd := h4.keepN Gd
      have S0 : BxS w4.drew g3 27 #[.int .i64 3, .int .i64 nid, .string nm2, .int .i64 si2, .int .i64 su2, .int .i64 (x : Int), .slice pa2 pn pc, .slice ga gm gd, .int .i64 o, .int .i64 co] := b34.keep Gd (by simp)
      refine wp_regionL (fun wz => BxS wz g3 27 #[.int .i64 3, .int .i64 nid, .string nm2, .int .i64 si2, .int .i64 su2, .int .i64 (x : Int), .slice pa2 pn pc, .slice ga gm gd, .int .i64 o, .int .i64 co]) [] #[false, false, false, false, false, false, false, false, false, false, false, false, false, false, false, false, false, false, false] rfl (by kernel_rfl) ?_
      generalize w4.drew = wd at *
      refine wpAnyZ_take [] 0 (.pointer (some ⟨gw, 0, none⟩)) rfl (by kernel_rfl) (fun _ _ _ h => h) S0 rfl (by intro wz hz; go_simp) ?_
      try simp only [List.getElem_toArray, List.getElem_cons_succ, List.getElem_cons_zero, Act.put, List.setIfInBounds_toArray, List.set_cons_zero, List.set_cons_succ]
      refine wpAnyZ_take [] 1 (.pointer (some ⟨gw, 0, none⟩)) rfl (by kernel_rfl) (fun _ _ _ h => h) S0 rfl (by intro wz hz; go_simp) ?_
      try simp only [List.getElem_toArray, List.getElem_cons_succ, List.getElem_cons_zero, Act.put, List.setIfInBounds_toArray, List.set_cons_zero, List.set_cons_succ]
      refine wpAnyZ_take [] 2 (.pointer (some ⟨gw, 0, none⟩)) rfl (by kernel_rfl) (fun _ _ _ h => h) S0 rfl (by intro wz hz; go_simp) ?_
      try simp only [List.getElem_toArray, List.getElem_cons_succ, List.getElem_cons_zero, Act.put, List.setIfInBounds_toArray, List.set_cons_zero, List.set_cons_succ]
      refine wpAnyZ_take [] 3 (.pointer (some ⟨g3, 3, none⟩)) rfl (by kernel_rfl) (fun _ _ _ h => h) S0 rfl (by intro wz hz; go_simp) ?_
      try simp only [List.getElem_toArray, List.getElem_cons_succ, List.getElem_cons_zero, Act.put, List.setIfInBounds_toArray, List.set_cons_zero, List.set_cons_succ]
      refine wpAnyZ_take [] 4 (.int .i64 si2) rfl (by kernel_rfl) (fun _ _ _ h => h) S0 rfl (by intro wz hz; have z : wz.cell? ⟨g3, 3, none⟩ = some (.int .i64 si2) := hz.cell 3 (by show 3 < 10; decide); go_simp) ?_
      try simp only [List.getElem_toArray, List.getElem_cons_succ, List.getElem_cons_zero, Act.put, List.setIfInBounds_toArray, List.set_cons_zero, List.set_cons_succ]
      refine wpAnyZ_take [] 5 (.pointer (some ⟨g3, 4, none⟩)) rfl (by kernel_rfl) (fun _ _ _ h => h) S0 rfl (by intro wz hz; go_simp) ?_
      try simp only [List.getElem_toArray, List.getElem_cons_succ, List.getElem_cons_zero, Act.put, List.setIfInBounds_toArray, List.set_cons_zero, List.set_cons_succ]
      refine wpAnyZ_take [] 6 (.int .i64 su2) rfl (by kernel_rfl) (fun _ _ _ h => h) S0 rfl (by intro wz hz; have z : wz.cell? ⟨g3, 4, none⟩ = some (.int .i64 su2) := hz.cell 4 (by show 4 < 10; decide); go_simp) ?_
      try simp only [List.getElem_toArray, List.getElem_cons_succ, List.getElem_cons_zero, Act.put, List.setIfInBounds_toArray, List.set_cons_zero, List.set_cons_succ]
      refine wpAnyZ_take [] 7 (.pointer (some ⟨gw, 0, none⟩)) rfl (by kernel_rfl) (fun _ _ _ h => h) S0 rfl (by intro wz hz; go_simp) ?_
      try simp only [List.getElem_toArray, List.getElem_cons_succ, List.getElem_cons_zero, Act.put, List.setIfInBounds_toArray, List.set_cons_zero, List.set_cons_succ]
      refine wpAnyZ_take [] 8 (.pointer (some ⟨gw, 0, none⟩)) rfl (by kernel_rfl) (fun _ _ _ h => h) S0 rfl (by intro wz hz; go_simp) ?_
      try simp only [List.getElem_toArray, List.getElem_cons_succ, List.getElem_cons_zero, Act.put, List.setIfInBounds_toArray, List.set_cons_zero, List.set_cons_succ]
      refine wpAnyZ_take [] 9 (.pointer (some ⟨gw, 4, none⟩)) rfl (by kernel_rfl) (fun _ _ _ h => h) S0 rfl (by intro wz hz; go_simp) ?_
      try simp only [List.getElem_toArray, List.getElem_cons_succ, List.getElem_cons_zero, Act.put, List.setIfInBounds_toArray, List.set_cons_zero, List.set_cons_succ]
      refine wpAnyZ_oneB 10 rfl (by kernel_rfl) (fun KK hKK => ?_)
      refine step_stCd _ rfl _ _ _ rfl gw 4 112 _ #[.int .i64 id, .bool kn, .string nm, .int .i64 si, .bool true, .int .i64 la, .int .i64 su, .slice q G.length d, .slice a L.length c, .int .i64 0, .int .i64 0, .int .i64 pa, .int .i64 0, .int .i64 li, .slice na4 (0 + 1) nc4] (.bool true) rfl rfl hd.bx ((fun w' h1 h2 => stc_boK _ _ _ _ h1 h2)) (by show 4 < 15; decide) rfl ?_
      intro wx0 bx0 ux0
      have S1 := S0.keep ux0 (fun e => BxS.apart S0 hd.bx (by decide) (Option.some.inj e))
      have kx0 := KpK.bx hd.bx (by decide) ux0
      have hx0 := hd.set ux0 bx0
      refine hKK _ _ (fun _ => S1) ?_
      try simp only [List.getElem_toArray, List.getElem_cons_succ, List.getElem_cons_zero, Act.put, List.setIfInBounds_toArray, List.set_cons_zero, List.set_cons_succ]
      refine wpAnyZ_take [] 11 (.pointer (some ⟨gw, 0, none⟩)) rfl (by kernel_rfl) (fun _ _ _ h => h) S1 rfl (by intro wz hz; go_simp) ?_
      try simp only [List.getElem_toArray, List.getElem_cons_succ, List.getElem_cons_zero, Act.put, List.setIfInBounds_toArray, List.set_cons_zero, List.set_cons_succ]
      refine wpAnyZ_take [] 12 (.pointer (some ⟨gw, 0, none⟩)) rfl (by kernel_rfl) (fun _ _ _ h => h) S1 rfl (by intro wz hz; go_simp) ?_
      try simp only [List.getElem_toArray, List.getElem_cons_succ, List.getElem_cons_zero, Act.put, List.setIfInBounds_toArray, List.set_cons_zero, List.set_cons_succ]
      refine wpAnyZ_take [] 13 (.pointer (some ⟨gw, 5, none⟩)) rfl (by kernel_rfl) (fun _ _ _ h => h) S1 rfl (by intro wz hz; go_simp) ?_
      try simp only [List.getElem_toArray, List.getElem_cons_succ, List.getElem_cons_zero, Act.put, List.setIfInBounds_toArray, List.set_cons_zero, List.set_cons_succ]
      refine wpAnyZ_oneB 14 rfl (by kernel_rfl) (fun KK hKK => ?_)
      refine step_stCd _ rfl _ _ _ rfl gw 5 112 _ #[.int .i64 id, .bool kn, .string nm, .int .i64 si, .bool true, .int .i64 si2, .int .i64 su, .slice q G.length d, .slice a L.length c, .int .i64 0, .int .i64 0, .int .i64 pa, .int .i64 0, .int .i64 li, .slice na4 (0 + 1) nc4] (.int .i64 si2) rfl rfl hx0.bx ((fun w' h1 h2 => stc_int _ _ _ _ h1 h2)) (by show 5 < 15; decide) rfl ?_
      intro wx1 bx1 ux1
      have S2 := S1.keep ux1 (fun e => BxS.apart S1 hx0.bx (by decide) (Option.some.inj e))
      have kx1 := KpK.bx hx0.bx (by decide) ux1
      have hx1 := hx0.set ux1 bx1
      refine hKK _ _ (fun _ => S2) ?_
      try simp only [List.getElem_toArray, List.getElem_cons_succ, List.getElem_cons_zero, Act.put, List.setIfInBounds_toArray, List.set_cons_zero, List.set_cons_succ]
      refine wpAnyZ_take [] 15 (.pointer (some ⟨gw, 0, none⟩)) rfl (by kernel_rfl) (fun _ _ _ h => h) S2 rfl (by intro wz hz; go_simp) ?_
      try simp only [List.getElem_toArray, List.getElem_cons_succ, List.getElem_cons_zero, Act.put, List.setIfInBounds_toArray, List.set_cons_zero, List.set_cons_succ]
      refine wpAnyZ_take [] 16 (.pointer (some ⟨gw, 0, none⟩)) rfl (by kernel_rfl) (fun _ _ _ h => h) S2 rfl (by intro wz hz; go_simp) ?_
      try simp only [List.getElem_toArray, List.getElem_cons_succ, List.getElem_cons_zero, Act.put, List.setIfInBounds_toArray, List.set_cons_zero, List.set_cons_succ]
      refine wpAnyZ_take [] 17 (.pointer (some ⟨gw, 6, none⟩)) rfl (by kernel_rfl) (fun _ _ _ h => h) S2 rfl (by intro wz hz; go_simp) ?_
      try simp only [List.getElem_toArray, List.getElem_cons_succ, List.getElem_cons_zero, Act.put, List.setIfInBounds_toArray, List.set_cons_zero, List.set_cons_succ]
      refine wpAnyZ_oneB 18 rfl (by kernel_rfl) (fun KK hKK => ?_)
      refine step_stCd _ rfl _ _ _ rfl gw 6 112 _ #[.int .i64 id, .bool kn, .string nm, .int .i64 si, .bool true, .int .i64 si2, .int .i64 su2, .slice q G.length d, .slice a L.length c, .int .i64 0, .int .i64 0, .int .i64 pa, .int .i64 0, .int .i64 li, .slice na4 (0 + 1) nc4] (.int .i64 su2) rfl rfl hx1.bx ((fun w' h1 h2 => stc_int _ _ _ _ h1 h2)) (by show 6 < 15; decide) rfl ?_
      intro wx2 bx2 ux2
      have S3 := S2.keep ux2 (fun e => BxS.apart S2 hx1.bx (by decide) (Option.some.inj e))
      have kx2 := KpK.bx hx1.bx (by decide) ux2
      have hx2 := hx1.set ux2 bx2
      refine hKK _ _ (fun _ => S3) ?_
      try simp only [List.getElem_toArray, List.getElem_cons_succ, List.getElem_cons_zero, Act.put, List.setIfInBounds_toArray, List.set_cons_zero, List.set_cons_succ]
      refine wpAnyZ_doneB (by kernel_rfl) ?_ _
      try simp only [Exit.then, Exit.inBlock]
      refine HK1.out _ _ ?_
      clear HK1
      have eK : heK (⟨id, kn, nm, si, false, la, su, 0, 0, pa, 0, li, L, G⟩ : Tv) 3 nm2 si2 su2 x D = (⟨id, kn, nm, si, true, si2, su2, 0, 0, pa, 0, li, L, G⟩ : Tv) := by unfold heK; rw [if_neg (by decide), if_neg (by decide), if_pos rfl, if_neg (fun e => absurd (show false = true from e) (by decide))]
      rw [eK] at hq
      refine hg_t12 _ wB wx2 gw (⟨id, kn, nm, si, true, si2, su2, 0, 0, pa, 0, li, L, G⟩ : Tv) [ntSeen id] (KA.of hK4 hx2) hq (by show _ ≤ 900; simp) g3 3 nid nm2 si2 su2 (x : Int) pa2 pn pc ga gm gd o co S3 ?_
      intro w' h9 k9
      refine ⟨rfl, ?_, ((((k4.trans (KpK.none Gd)).trans kx0).trans kx1).trans kx2).trans k9⟩
      show KA wB w' gw (juV (heK (⟨id, kn, nm, si, false, la, su, 0, 0, pa, 0, li, L, G⟩ : Tv) 3 nm2 si2 su2 x D)).1 (seT id 3 ++ (juV (heK (⟨id, kn, nm, si, false, la, su, 0, 0, pa, 0, li, L, G⟩ : Tv) 3 nm2 si2 su2 x D)).2 ++ gpT (juV (heK (⟨id, kn, nm, si, false, la, su, 0, 0, pa, 0, li, L, G⟩ : Tv) 3 nm2 si2 su2 x D)).1 3)
      rw [eK]
      exact h9
  · have y0 : w3.cell? ⟨g3, 0, none⟩ = some (.int .i64 6) := b33.cell 0 (by show 0 < 10; decide)
    refine wp_seq_k fun K1 hK1 => ?_
    have HK1 : Hid _ := hK1
    clear hK1
    refine wp_seq_k fun K2 hK2 => ?_
    have HK2 : Hid _ := hK2
    clear hK2
    go_wp2
    refine HK2.out _ _ ?_
    clear HK2
    refine wp_block ?_
    go_wp2
    try simp only [Exit.then, Exit.inBlock]
    refine HK1.out _ _ ?_
    clear HK1
    have eK : heK (⟨id, kn, nm, si, en, la, su, 0, 0, pa, 0, li, L, G⟩ : Tv) 6 nm2 si2 su2 x D = (⟨id, kn, nm, si, en, la, su, 0, 0, pa, 0, li, L, G⟩ : Tv) := by unfold heK; rw [if_neg (by decide), if_neg (by decide), if_neg (by decide)]
    rw [eK] at hq
    refine hg_t12 _ wB w3 gw (⟨id, kn, nm, si, en, la, su, 0, 0, pa, 0, li, L, G⟩ : Tv) [] (KA.of rfl h3) hq (by show _ ≤ 900; simp) g3 6 nid nm2 si2 su2 (x : Int) pa2 pn pc ga gm gd o co b33 ?_
    intro w' h9 k9
    refine ⟨rfl, ?_, (k3).trans k9⟩
    show KA wB w' gw (juV (heK (⟨id, kn, nm, si, en, la, su, 0, 0, pa, 0, li, L, G⟩ : Tv) 6 nm2 si2 su2 x D)).1 (seT id 6 ++ (juV (heK (⟨id, kn, nm, si, en, la, su, 0, 0, pa, 0, li, L, G⟩ : Tv) 6 nm2 si2 su2 x D)).2 ++ gpT (juV (heK (⟨id, kn, nm, si, en, la, su, 0, 0, pa, 0, li, L, G⟩ : Tv) 6 nm2 si2 su2 x D)).1 6)
    rw [eK]
    exact h9
end
end Go.Proofs.Ytnimehkfnpepfaa
