import Derived.Test.YtnimehkfnpepfaaTk25
import Derived.Test.YtnimehkfnpepfaaTk26
import Derived.Test.YtnimehkfnpepfaaTk10
import Derived.Test.YtnimehkfnpepfaaTk9
import Derived.Test.YtnimehkfnpepfaaTk4
import Derived.Test.YtnimehkfnpepfaaTk7
import Derived.Test.YtnimehkfnpepfaaTk6
namespace Go.Proofs.Ytnimehkfnpepfaa
open Go.RowKit
set_option maxRecDepth 100000
set_option linter.unusedVariables false
set_option linter.unusedSimpArgs false

section
theorem mis_ne {V : Tv} (h : V.kn = false ∨ (V.si = V.la ∧ haB (giF V.G) V.si V.G.length = false)) : (misL V.kn V.la V.G).length ≠ 0 := by
  unfold misL
  rw [List.length_take, List.length_append]
  rcases h with h | ⟨h1, h2⟩
  · rw [h, if_neg (by decide)]
    show min 20 (1 + _) ≠ 0
    omega
  · rw [← h1]
    unfold haB at h2
    have h2 := of_decide_eq_false h2
    omega
theorem ju_no {V : Tv} (h : ¬ (V.kn = true ∧ V.en = true ∧ (V.si = V.la → haB (giF V.G) V.si V.G.length = true))) : juV V = (V, []) := if_neg h
theorem ju_ne {V : Tv} (h1 : V.kn = true) (h2 : V.en = true) (h3 : V.si ≠ V.la) : juV V = ({ V with st := 4 }, [ntDone V.id 9]) := by
  unfold juV
  rw [if_pos ⟨h1, h2, fun e => absurd e h3⟩, if_neg (fun e => h3 e.1)]
theorem ju_yes {V : Tv} (h1 : V.kn = true) (h2 : V.en = true) (h3 : V.si = V.la) (h4 : haB (giF V.G) V.si V.G.length = true) : juV V = if V.su = smI (V.L.take V.si.toNat) then ({ V with st := 3 }, [ntDone V.id 0]) else ({ V with st := 4 }, [ntDone V.id 9]) := by
  unfold juV
  rw [if_pos ⟨h1, h2, fun _ => h4⟩]
  by_cases e : V.su = smI (V.L.take V.si.toNat)
  · rw [if_pos ⟨h3, e⟩, if_pos e]
  · rw [if_neg (fun e2 => e e2.2), if_neg e]
theorem gp_no {V : Tv} {kd : Int} (h : V.st ≠ 0) : gpT V kd = [] := if_neg (fun e => h e.1)
theorem gp_go {V : Tv} {kd : Int} (h : V.st = 0) : gpT V kd = if kd = 3 then sgL V.id (misL V.kn V.la V.G) else [] := by
  unfold gpT
  by_cases e : kd = 3
  · rw [if_pos ⟨h, e⟩, if_pos e]
  · rw [if_neg (fun e2 => e e2.2), if_neg e]

set_option maxHeartbeats 32000000 in
theorem to_t38 {u0 u1 u2 u5 u6 u8 u10 u11 u12 u13 u14 u15 u16 u17 u18 u19 u20 u21 u22 u23 u24 u25 u26 u27 u28 u29 u30 u31 u32 u33 u34 u35 u36 u37 u38 u39 u40 u41 u42 u43 u44 u45 u46 u47 u48 u49 u50 u51 u52 u53 u54 u55 u56 u57 u58 u59 u60 u61 u62 u63 u64 u65 u66 u67 u68 u69 u70 u71 u72 u73 u74 u75 u76 u77 u78 u79 u80 u81 u82 u83 u84 u85 u86 u87 u88 u89 u90 u91 u92 u93 u94 u95 u96 u97 u98 u99 u100 u101 u102 u103 u104 u105 u106 u107 u108 u109 u110 u111 u112 u113 u114 u115 u116 u117 u118 u119 u120 u121 u122 u123 u124 u125 u126 u127 u128 u129 u130 u131 u132 u133 u134 u135 u136 u137 u138 u139 u140 u141 u142 u143 u144 u145 u146 u147 u148 u149 u150 u151 u152 u153 u154 u155 u156 u157 u158 u159 u160 u161 u162 u163 u164 u165 u166 u167 u168 u169 u170 u171 u172 u173 u174 u175 u176 u177 u178 u179 u180 u181 u182 : Value} (P : Ending → World → Prop) (wB w : World) (g4 g7 : Nat) (V : Tv) (a : Option Addr) (c : Nat) (q : Option Addr) (d : Nat) (na : Option Addr) (nc : Nat) (xs : List Nx) (T : List Nt) (h : DTk wB w g4 g7 V a c q d) (hT : xs.map Nx.dt = T) (hN : OwN w wB.heap.size na T.length nc xs) (hl : T.length ≤ 90) (g3 : Nat) (kd nid : Int) (nm2 : ByteArray) (si2 su2 at2 : Int) (pa2 : Option Addr) (pn pc : Nat) (ga : Option Addr) (gm gd : Nat) (o co : Int) (b3 : BxS w g3 27 #[.int .i64 kd, .int .i64 nid, .string nm2, .int .i64 si2, .int .i64 su2, .int .i64 at2, .slice pa2 pn pc, .slice ga gm gd, .int .i64 o, .int .i64 co]) (ho : TvQ V) (hs0 : V.st = 0) (hen : kd = 3 → V.en = true) (hne : ¬ (V.kn = true ∧ V.en = true ∧ V.si ≠ V.la))
    (hP : ∀ e w', RDk wB (juV V).1 (T ++ (juV V).2 ++ gpT (juV V).1 kd) 0 e w' → P e w') :
    Code.wp Try.prog (tailR 38 (Try.f36.body.getD .skip)) (bodyPost Try.prog Try.f36 P) (Act.mk (List.toArray (u0 :: u1 :: u2 :: (.pointer (some ⟨g3, 0, none⟩)) :: (.pointer (some ⟨g4, 0, none⟩)) :: u5 :: u6 :: (.pointer (some ⟨g7, 0, none⟩)) :: u8 :: (.slice na T.length nc) :: u10 :: u11 :: u12 :: u13 :: u14 :: u15 :: u16 :: u17 :: u18 :: u19 :: u20 :: u21 :: u22 :: u23 :: u24 :: u25 :: u26 :: u27 :: u28 :: u29 :: u30 :: u31 :: u32 :: u33 :: u34 :: u35 :: u36 :: u37 :: u38 :: u39 :: u40 :: u41 :: u42 :: u43 :: u44 :: u45 :: u46 :: u47 :: u48 :: u49 :: u50 :: u51 :: u52 :: u53 :: u54 :: u55 :: u56 :: u57 :: u58 :: u59 :: u60 :: u61 :: u62 :: u63 :: u64 :: u65 :: u66 :: u67 :: u68 :: u69 :: u70 :: u71 :: u72 :: u73 :: u74 :: u75 :: u76 :: u77 :: u78 :: u79 :: u80 :: u81 :: u82 :: u83 :: u84 :: u85 :: u86 :: u87 :: u88 :: u89 :: u90 :: u91 :: u92 :: u93 :: u94 :: u95 :: u96 :: u97 :: u98 :: u99 :: u100 :: u101 :: u102 :: u103 :: u104 :: u105 :: u106 :: u107 :: u108 :: u109 :: u110 :: u111 :: u112 :: u113 :: u114 :: u115 :: u116 :: u117 :: u118 :: u119 :: u120 :: u121 :: u122 :: u123 :: u124 :: u125 :: u126 :: u127 :: u128 :: u129 :: u130 :: u131 :: u132 :: u133 :: u134 :: u135 :: u136 :: u137 :: u138 :: u139 :: u140 :: u141 :: u142 :: u143 :: u144 :: u145 :: u146 :: u147 :: u148 :: u149 :: u150 :: u151 :: u152 :: u153 :: u154 :: u155 :: u156 :: u157 :: u158 :: u159 :: u160 :: u161 :: u162 :: u163 :: u164 :: u165 :: u166 :: u167 :: u168 :: u169 :: u170 :: u171 :: u172 :: u173 :: u174 :: u175 :: u176 :: u177 :: u178 :: u179 :: u180 :: u181 :: u182 :: [])) []) w := by
  conv => enter [2]; whnf
  have HP : Hid _ := hP
  clear hP
  have i14 := Try.info_tk
  have i10 := Try.info_nt
  have HO : Hid _ := ho
  have HS0 : Hid _ := hs0
  have HEN : Hid _ := hen
  have HNE : Hid _ := hne
  have hT9 := hT
  clear ho hs0 hen hne
  have y1 : w.cell? ⟨g7, 1, none⟩ = some (.bool V.kn) := h.b5.cell 1 (by show 1 < 14; decide)
  have y4 : w.cell? ⟨g7, 4, none⟩ = some (.bool V.en) := h.b5.cell 4 (by show 4 < 14; decide)
  refine wp_seq_k fun K1 hK1 => ?_
  have HK1 : Hid _ := hK1
  clear hK1
  by_cases hke : V.kn = true ∧ V.en = true
  · obtain ⟨hk, he⟩ := hke
    rw [hk] at y1
    rw [he] at y4
    have hel : V.si = V.la := by
      by_cases e : V.si = V.la
      · exact e
      · exact absurd ⟨hk, he, e⟩ HNE.out
    have hJ := fun h4 => ju_yes hk he hel h4
    have hJn : haB (giF V.G) V.si V.G.length = false → juV V = (V, []) := fun h4 => ju_no (fun e => by have := e.2.2 hel; rw [h4] at this; cases this)
    have hMn : haB (giF V.G) V.si V.G.length = false → (misL V.kn V.la V.G).length ≠ 0 := fun h4 => mis_ne (.inr ⟨hel, h4⟩)
    have hle := fun h4 => ha_leQ HO.out h4
    have hsi := HO.out.si
    have hn9 := HO.out.n9
    have hgl := HO.out.gl
    have HJ : Hid _ := hJ
    have HJn : Hid _ := hJn
    have HMn : Hid _ := hMn
    have HLE : Hid _ := hle
    have HKT : Hid _ := hk
    clear hJ hJn hMn hle hel he hk
    obtain ⟨k, hk⟩ : ∃ k : Nat, V.si = (k : Int) := ⟨V.si.toNat, by omega⟩
    have hk2 : V.si.toNat = k := by omega
    have hk9 : k ≤ 65536 := by omega
    have hrw := rows_un V.G.length HO.out.ri k
    have hha : haB (giF V.G) V.si V.G.length = decide ((uqF (giF V.G) 0 (k : Int) V.G.length).length = 0) := by unfold haB; rw [hk]
    rw [← hrw] at hha
    have y7 : w.cell? ⟨g7, 7, none⟩ = some (.slice q V.G.length d) := h.b5.cell 7 (by show 7 < 14; decide)
    have y3 : w.cell? ⟨g7, 3, none⟩ = some (.int .i64 V.si) := h.b5.cell 3 (by show 3 < 14; decide)
    rw [hk] at y3
    have HK : Hid _ := hk
    have HK2 : Hid _ := hk2
    have HHA : Hid _ := hha
    clear hk hk2 hrw hha hsi
    have kR := fun gb wz (k9 : BoR wz gb k (fun i => cvB (giF V.G) i V.G.length)) => rowsIn_any gb k (fun i => cvB (giF V.G) i V.G.length) false wz k9 (by omega)
    generalize rwN (fun i => cvB (giF V.G) i V.G.length) false k = X at kR HHA
    have s0 : True := trivial
    refine wp_seq_k fun K2 hK2 => ?_
    have HK2 : Hid _ := hK2
    clear hK2
    by_cases hX : X.length = 0
    · have hX2 : (X.length : Int) = 0 := by omega
      have hh : haB (giF V.G) V.si V.G.length = true := by rw [HHA.out, decide_eq_true hX]
      have HH : Hid _ := hh
      have hXX : X = [] := List.eq_nil_of_length_eq_zero hX
      subst hXX
      clear hh hX
      go_wp2_with (first
        | (go_at_call 75; have _t := s0; clear s0; refine (has_any q V.G.length d k (giF V.G) w h.O.rd HO.out.ri (by omega) (by omega)).mono ?_; rintro e w2 ⟨gb, rfl, hgb, hB, y2⟩; have s1 : True := trivial)
        | (go_at_call 74; have _t := s1; clear s1; refine (kR gb w2 hB).mono ?_; rintro e w3 ⟨q3, d3, rfl, hO3, y3'⟩))
      refine HK2.out _ _ ?_
      clear HK2
      refine wp_cond_true rfl ?_
      have G3 := grown_trans y2 y3'
      have h3 := h.keepN G3
      have hN3 := hN.keep G3
      clear y1 y4 y7 y3 kR hX2
      have hle := HLE.out HH.out
      have hkl : k ≤ V.L.length := by have := HK.out; omega
      have hkl2 : (V.L.take k).length = k := by rw [List.length_take]; omega
      have hJ := HJ.out HH.out
      rw [HK2.out] at hJ
      have hskE : smI (V.L.take k) = ((smT (V.L.take k) k % 4294967296 : Nat) : Int) := by unfold smI; rw [hkl2]
      rw [hskE] at hJ
      have HJJ : Hid _ := hJ
      clear hJ hskE hkl2 hle
      have hlc := h3.A.rd.le
      have hcn : a = none → k = 0 ∧ c = 0 := fun e => by have := h3.A.rd.nil e; omega
      have Gd := grown_drew w3 none
      have hd := h3.keepN Gd
      have hNd := hN3.keep Gd
      have SS : BxS w3.drew g7 48 #[.int .i64 V.id, .bool V.kn, .string V.nm, .int .i64 (k : Int), .bool V.en, .int .i64 V.la, .int .i64 V.su, .slice q V.G.length d, .slice a V.L.length c, .int .i64 V.st, .int .i64 V.ti, .int .i64 V.pa, .int .i64 V.tr, .int .i64 V.li] := by have := hd.b5; rw [HK.out] at this; exact this
      refine wp_seq_k fun K2 hK2 => ?_
      have HK2 : Hid _ := hK2
      clear hK2
      refine wp_seq_k fun K3 hK3 => ?_
      have HK3 : Hid _ := hK3
      clear hK3
      refine wp_regionL (fun wz => BxS wz g7 48 #[.int .i64 V.id, .bool V.kn, .string V.nm, .int .i64 (k : Int), .bool V.en, .int .i64 V.la, .int .i64 V.su, .slice q V.G.length d, .slice a V.L.length c, .int .i64 V.st, .int .i64 V.ti, .int .i64 V.pa, .int .i64 V.tr, .int .i64 V.li]) [] #[false, false, false, false, false, false, false, false, false] rfl (by kernel_rfl) ?_
      generalize w3.drew = w4 at *
      refine wpAnyZ_take [] 0 (.pointer (some ⟨g7, 8, none⟩)) rfl (by kernel_rfl) (fun _ _ _ h => h) SS rfl (by intro wz hz; go_simp) ?_
      try simp only [List.getElem_toArray, List.getElem_cons_succ, List.getElem_cons_zero, Act.put, List.setIfInBounds_toArray, List.set_cons_zero, List.set_cons_succ]
      refine wpAnyZ_take [] 1 (.slice a V.L.length c) rfl (by kernel_rfl) (fun _ _ _ h => h) SS rfl (by intro wz hz; have z : wz.cell? ⟨g7, 8, none⟩ = some (.slice a V.L.length c) := hz.cell 8 (by show 8 < 14; decide); go_simp) ?_
      try simp only [List.getElem_toArray, List.getElem_cons_succ, List.getElem_cons_zero, Act.put, List.setIfInBounds_toArray, List.set_cons_zero, List.set_cons_succ]
      refine wpAnyZ_take [] 2 (.pointer (some ⟨g7, 3, none⟩)) rfl (by kernel_rfl) (fun _ _ _ h => h) SS rfl (by intro wz hz; go_simp) ?_
      try simp only [List.getElem_toArray, List.getElem_cons_succ, List.getElem_cons_zero, Act.put, List.setIfInBounds_toArray, List.set_cons_zero, List.set_cons_succ]
      refine wpAnyZ_take [] 3 (.int .i64 (k : Int)) rfl (by kernel_rfl) (fun _ _ _ h => h) SS rfl (by intro wz hz; have z : wz.cell? ⟨g7, 3, none⟩ = some (.int .i64 (k : Int)) := hz.cell 3 (by show 3 < 14; decide); go_simp) ?_
      try simp only [List.getElem_toArray, List.getElem_cons_succ, List.getElem_cons_zero, Act.put, List.setIfInBounds_toArray, List.set_cons_zero, List.set_cons_succ]
      have k3 : (k : Int) ≤ (c : Int) := by omega
      have k4 : k ≤ c := by omega
      have k5 : (0 : Int) ≤ (k : Int) := by omega
      refine wpAnyZ_take [] 4 (.slice a k c) rfl (by kernel_rfl) (fun _ _ _ h => h) SS rfl (by intro wz hz; cases a with | none => obtain ⟨rfl, rfl⟩ := hcn rfl; go_simp | some ad => obtain ⟨ab, ao, ar⟩ := ad; go_simp) ?_
      try simp only [List.getElem_toArray, List.getElem_cons_succ, List.getElem_cons_zero, Act.put, List.setIfInBounds_toArray, List.set_cons_zero, List.set_cons_succ]
      clear k3 k4 k5
      refine wpAnyZ_take [] 6 (.pointer (some ⟨g7, 6, none⟩)) rfl (by kernel_rfl) (fun _ _ _ h => h) SS rfl (by intro wz hz; go_simp) ?_
      try simp only [List.getElem_toArray, List.getElem_cons_succ, List.getElem_cons_zero, Act.put, List.setIfInBounds_toArray, List.set_cons_zero, List.set_cons_succ]
      refine wpAnyZ_take [] 7 (.int .i64 V.su) rfl (by kernel_rfl) (fun _ _ _ h => h) SS rfl (by intro wz hz; have z : wz.cell? ⟨g7, 6, none⟩ = some (.int .i64 V.su) := hz.cell 6 (by show 6 < 14; decide); go_simp) ?_
      try simp only [List.getElem_toArray, List.getElem_cons_succ, List.getElem_cons_zero, Act.put, List.setIfInBounds_toArray, List.set_cons_zero, List.set_cons_succ]
      refine wpAnyZ_oneB 5 rfl (by kernel_rfl) (fun KK hKK => ?_)
      go_simp
      go_at_call 20
      refine (fsum_any a k c (V.L.take k) w4 (hd.A.rd.cut hkl)).mono ?_
      rintro e w5 ⟨rfl, hw5⟩
      subst hw5
      dsimp only
      refine hKK _ _ (fun _ => SS) ?_
      try simp only [List.getElem_toArray, List.getElem_cons_succ, List.getElem_cons_zero, Act.put, List.setIfInBounds_toArray, List.set_cons_zero, List.set_cons_succ]
      obtain ⟨sm, hsm⟩ : ∃ sm : Int, ((smT (V.L.take k) k % 4294967296 : Nat) : Int) = sm := ⟨_, rfl⟩
      rw [hsm] at HJJ ⊢
      clear hsm hkl hlc hcn
      by_cases hs : V.su = sm
      · have hs2 : (sm == V.su) = true := by rw [hs]; exact beq_self_eq_true _
        have hJ := HJJ.out
        rw [if_pos hs] at hJ
        rw [hJ] at HP
        clear hs hJ
        refine wpAnyZ_take [] 8 (.bool true) rfl (by kernel_rfl) (fun _ _ _ h => h) SS rfl (by intro wz hz; go_simp) ?_
        try simp only [List.getElem_toArray, List.getElem_cons_succ, List.getElem_cons_zero, Act.put, List.setIfInBounds_toArray, List.set_cons_zero, List.set_cons_succ]
        refine wpAnyZ_doneB (by kernel_rfl) ?_ _
        refine HK3.out _ _ ?_
        clear HK3
        refine wp_cond_true rfl ?_
        refine wp_seq_k fun K4 hK4 => ?_
        have HK4 : Hid _ := hK4
        clear hK4
        have s0 : True := trivial
        go_wp2_with (have _t := s0; clear s0; refine wpList_stC _ rfl _ _ _ rfl g7 9 48 _ #[.int .i64 V.id, .bool V.kn, .string V.nm, .int .i64 V.si, .bool V.en, .int .i64 V.la, .int .i64 V.su, .slice q V.G.length d, .slice a V.L.length c, .int .i64 3, .int .i64 V.ti, .int .i64 V.pa, .int .i64 V.tr, .int .i64 V.li] (.int .i64 3) rfl rfl hd.b5 (stc_stg _ _ _) (by show 9 < 14; decide) rfl ?_; intro w6 bw6 uw6)
        refine HK4.out _ _ ?_
        clear HK4
        have h6 := hd.set uw6 bw6
        have hN6 := hNd.bx hd.b5 (by decide) (by decide) (by decide) uw6
        have e9 : gpT ({ V with st := 3, ti := V.ti, tr := V.tr } : Tv) kd = [] := gp_no (by show (3 : Int) ≠ 0; decide)
        refine to_t41 P wB w6 g4 g7 { V with st := 3, ti := V.ti, tr := V.tr } a c q d na nc xs T h6 hT hN6 (by omega) _ (fun c a a' wz hd9 hx => by obtain ⟨ta, da⟩ := a; obtain ⟨tb, db⟩ := a'; cases hd9; exact hx) (fun a wz hx => hx) (fun e w' kk => HP.out e w' ?_)
        show RDk wB { V with st := 3, ti := V.ti, tr := V.tr } (T ++ [ntDone V.id 0] ++ gpT ({ V with st := 3, ti := V.ti, tr := V.tr } : Tv) kd) 0 e w'
        rw [e9, List.append_nil]
        exact kk
      · have hs2 : (sm == V.su) = false := beq_eq_false_iff_ne.2 (fun e => hs e.symm)
        have hJ := HJJ.out
        rw [if_neg hs] at hJ
        rw [hJ] at HP
        clear hs hJ
        refine wpAnyZ_take [] 8 (.bool false) rfl (by kernel_rfl) (fun _ _ _ h => h) SS rfl (by intro wz hz; go_simp) ?_
        try simp only [List.getElem_toArray, List.getElem_cons_succ, List.getElem_cons_zero, Act.put, List.setIfInBounds_toArray, List.set_cons_zero, List.set_cons_succ]
        refine wpAnyZ_doneB (by kernel_rfl) ?_ _
        refine HK3.out _ _ ?_
        clear HK3
        refine wp_cond_false rfl ?_
        refine wp_skip ?_
        try simp only [Exit.then]
        refine HK2.out _ _ ?_
        clear HK2
        refine wp_seq_k fun K4 hK4 => ?_
        have HK4 : Hid _ := hK4
        clear hK4
        have s0 : True := trivial
        go_wp2_with (have _t := s0; clear s0; refine wpList_stC _ rfl _ _ _ rfl g7 9 48 _ #[.int .i64 V.id, .bool V.kn, .string V.nm, .int .i64 V.si, .bool V.en, .int .i64 V.la, .int .i64 V.su, .slice q V.G.length d, .slice a V.L.length c, .int .i64 4, .int .i64 V.ti, .int .i64 V.pa, .int .i64 V.tr, .int .i64 V.li] (.int .i64 4) rfl rfl hd.b5 (stc_stg _ _ _) (by show 9 < 14; decide) rfl ?_; intro w6 bw6 uw6)
        refine HK4.out _ _ ?_
        clear HK4
        have h6 := hd.set uw6 bw6
        have hN6 := hNd.bx hd.b5 (by decide) (by decide) (by decide) uw6
        have e9 : gpT ({ V with st := 4, ti := V.ti, tr := V.tr } : Tv) kd = [] := gp_no (by show (4 : Int) ≠ 0; decide)
        refine to_t43 P wB w6 g4 g7 { V with st := 4, ti := V.ti, tr := V.tr } a c q d na nc xs T h6 hT hN6 (by omega) _ (fun c a a' wz hd9 hx => by obtain ⟨ta, da⟩ := a; obtain ⟨tb, db⟩ := a'; cases hd9; exact hx) (fun a wz hx => hx) (fun e w' kk => HP.out e w' ?_)
        show RDk wB { V with st := 4, ti := V.ti, tr := V.tr } (T ++ [ntDone V.id 9] ++ gpT ({ V with st := 4, ti := V.ti, tr := V.tr } : Tv) kd) 0 e w'
        rw [e9, List.append_nil]
        exact kk
    · have hX2 : ¬ (X.length : Int) = 0 := by omega
      have hh : haB (giF V.G) V.si V.G.length = false := by rw [HHA.out, decide_eq_false hX]
      have hJ := HJn.out hh
      rw [hJ] at HP
      have hM := HMn.out hh
      have HMM : Hid _ := hM
      clear hJ hh hM hX
      have kd0 : decide ((X.length : Int) = 0) = false := decide_eq_false hX2
      have kb0 : ((X.length : Int) == 0) = false := beq_eq_false_iff_ne.2 hX2
      go_wp2_with (first
        | (go_at_call 75; have _t := s0; clear s0; refine (has_any q V.G.length d k (giF V.G) w h.O.rd HO.out.ri (by omega) (by omega)).mono ?_; rintro e w2 ⟨gb, rfl, hgb, hB, y2⟩; have s1 : True := trivial)
        | (go_at_call 74; have _t := s1; clear s1; refine (kR gb w2 hB).mono ?_; rintro e w3 ⟨q3, d3, rfl, hO3, y3'⟩))
      refine HK2.out _ _ ?_
      clear HK2
      refine wp_cond_false rfl ?_
      refine wp_skip ?_
      try simp only [Exit.then]
      refine HK1.out _ _ ?_
      clear HK1
      have G3 := grown_trans y2 y3'
      have b39 := b3.keep G3 (by simp)
      rw [gp_go HS0.out, List.append_nil] at HP
      exact to_t44 P wB w3 g4 g7 V a c q d na nc xs T (h.keepN G3) hT (hN.keep G3) (by omega) g3 kd nid nm2 si2 su2 at2 pa2 pn pc ga gm gd o co b39 HO.out (fun _ => HMM.out) (fun e w' kk => HP.out e w' kk)
  · have hJ : juV V = (V, []) := ju_no (fun e => hke ⟨e.1, e.2.1⟩)
    rw [hJ, gp_go HS0.out, List.append_nil] at HP
    clear hJ
    have b39 := b3
    cases hk : V.kn with
    | false =>
      rw [hk] at y1
      have hM : (misL V.kn V.la V.G).length ≠ 0 := mis_ne (.inl hk)
      have HMM : Hid _ := hM
      clear hM hke hk
      go_wp2
      try simp only [Exit.then]
      refine HK1.out _ _ ?_
      clear HK1
      exact to_t44 P wB w g4 g7 V a c q d na nc xs T h hT hN (by omega) g3 kd nid nm2 si2 su2 at2 pa2 pn pc ga gm gd o co b39 HO.out (fun _ => HMM.out) (fun e w' kk => HP.out e w' kk)
    | true =>
      cases he : V.en with
      | true => exact absurd ⟨hk, he⟩ hke
      | false =>
        rw [hk] at y1
        rw [he] at y4
        have h33 : ¬ kd = 3 := fun e => by have := HEN.out e; rw [he] at this; cases this
        have H33 : Hid _ := h33
        clear hke hk he h33
        go_wp2
        try simp only [Exit.then]
        refine HK1.out _ _ ?_
        clear HK1
        exact to_t44 P wB w g4 g7 V a c q d na nc xs T h hT hN (by omega) g3 kd nid nm2 si2 su2 at2 pa2 pn pc ga gm gd o co b39 HO.out (fun e => absurd e H33.out) (fun e w' kk => HP.out e w' kk)

set_option maxHeartbeats 32000000 in
theorem to_t35 {u0 u1 u2 u5 u6 u8 u10 u11 u12 u13 u14 u15 u16 u17 u18 u19 u20 u21 u22 u23 u24 u25 u26 u27 u28 u29 u30 u31 u32 u33 u34 u35 u36 u37 u38 u39 u40 u41 u42 u43 u44 u45 u46 u47 u48 u49 u50 u51 u52 u53 u54 u55 u56 u57 u58 u59 u60 u61 u62 u63 u64 u65 u66 u67 u68 u69 u70 u71 u72 u73 u74 u75 u76 u77 u78 u79 u80 u81 u82 u83 u84 u85 u86 u87 u88 u89 u90 u91 u92 u93 u94 u95 u96 u97 u98 u99 u100 u101 u102 u103 u104 u105 u106 u107 u108 u109 u110 u111 u112 u113 u114 u115 u116 u117 u118 u119 u120 u121 u122 u123 u124 u125 u126 u127 u128 u129 u130 u131 u132 u133 u134 u135 u136 u137 u138 u139 u140 u141 u142 u143 u144 u145 u146 u147 u148 u149 u150 u151 u152 u153 u154 u155 u156 u157 u158 u159 u160 u161 u162 u163 u164 u165 u166 u167 u168 u169 u170 u171 u172 u173 u174 u175 u176 u177 u178 u179 u180 u181 u182 : Value} (P : Ending → World → Prop) (wB w : World) (g4 g7 : Nat) (V : Tv) (a : Option Addr) (c : Nat) (q : Option Addr) (d : Nat) (na : Option Addr) (nc : Nat) (xs : List Nx) (T : List Nt) (h : DTk wB w g4 g7 V a c q d) (hT : xs.map Nx.dt = T) (hN : OwN w wB.heap.size na T.length nc xs) (hl : T.length ≤ 90) (g3 : Nat) (kd nid : Int) (nm2 : ByteArray) (si2 su2 at2 : Int) (pa2 : Option Addr) (pn pc : Nat) (ga : Option Addr) (gm gd : Nat) (o co : Int) (b3 : BxS w g3 27 #[.int .i64 kd, .int .i64 nid, .string nm2, .int .i64 si2, .int .i64 su2, .int .i64 at2, .slice pa2 pn pc, .slice ga gm gd, .int .i64 o, .int .i64 co]) (ho : TvQ V) (hs0 : V.st = 0) (hen : kd = 3 → V.en = true)
    (hP : ∀ e w', RDk wB (juV V).1 (T ++ (juV V).2 ++ gpT (juV V).1 kd) 0 e w' → P e w') :
    Code.wp Try.prog (tailR 35 (Try.f36.body.getD .skip)) (bodyPost Try.prog Try.f36 P) (Act.mk (List.toArray (u0 :: u1 :: u2 :: (.pointer (some ⟨g3, 0, none⟩)) :: (.pointer (some ⟨g4, 0, none⟩)) :: u5 :: u6 :: (.pointer (some ⟨g7, 0, none⟩)) :: u8 :: (.slice na T.length nc) :: u10 :: u11 :: u12 :: u13 :: u14 :: u15 :: u16 :: u17 :: u18 :: u19 :: u20 :: u21 :: u22 :: u23 :: u24 :: u25 :: u26 :: u27 :: u28 :: u29 :: u30 :: u31 :: u32 :: u33 :: u34 :: u35 :: u36 :: u37 :: u38 :: u39 :: u40 :: u41 :: u42 :: u43 :: u44 :: u45 :: u46 :: u47 :: u48 :: u49 :: u50 :: u51 :: u52 :: u53 :: u54 :: u55 :: u56 :: u57 :: u58 :: u59 :: u60 :: u61 :: u62 :: u63 :: u64 :: u65 :: u66 :: u67 :: u68 :: u69 :: u70 :: u71 :: u72 :: u73 :: u74 :: u75 :: u76 :: u77 :: u78 :: u79 :: u80 :: u81 :: u82 :: u83 :: u84 :: u85 :: u86 :: u87 :: u88 :: u89 :: u90 :: u91 :: u92 :: u93 :: u94 :: u95 :: u96 :: u97 :: u98 :: u99 :: u100 :: u101 :: u102 :: u103 :: u104 :: u105 :: u106 :: u107 :: u108 :: u109 :: u110 :: u111 :: u112 :: u113 :: u114 :: u115 :: u116 :: u117 :: u118 :: u119 :: u120 :: u121 :: u122 :: u123 :: u124 :: u125 :: u126 :: u127 :: u128 :: u129 :: u130 :: u131 :: u132 :: u133 :: u134 :: u135 :: u136 :: u137 :: u138 :: u139 :: u140 :: u141 :: u142 :: u143 :: u144 :: u145 :: u146 :: u147 :: u148 :: u149 :: u150 :: u151 :: u152 :: u153 :: u154 :: u155 :: u156 :: u157 :: u158 :: u159 :: u160 :: u161 :: u162 :: u163 :: u164 :: u165 :: u166 :: u167 :: u168 :: u169 :: u170 :: u171 :: u172 :: u173 :: u174 :: u175 :: u176 :: u177 :: u178 :: u179 :: u180 :: u181 :: u182 :: [])) []) w := by
  conv => enter [2]; whnf
  have HP : Hid _ := hP
  clear hP
  have i14 := Try.info_tk
  have i10 := Try.info_nt
  have y1 : w.cell? ⟨g7, 1, none⟩ = some (.bool V.kn) := h.b5.cell 1 (by show 1 < 14; decide)
  have y4 : w.cell? ⟨g7, 4, none⟩ = some (.bool V.en) := h.b5.cell 4 (by show 4 < 14; decide)
  have y3 : w.cell? ⟨g7, 3, none⟩ = some (.int .i64 V.si) := h.b5.cell 3 (by show 3 < 14; decide)
  have y5 : w.cell? ⟨g7, 5, none⟩ = some (.int .i64 V.la) := h.b5.cell 5 (by show 5 < 14; decide)
  have HO : Hid _ := ho
  have HS0 : Hid _ := hs0
  have HEN : Hid _ := hen
  clear ho hs0 hen
  refine wp_seq_k fun K1 hK1 => ?_
  have HK1 : Hid _ := hK1
  clear hK1
  by_cases hne : V.kn = true ∧ V.en = true ∧ V.si ≠ V.la
  · have hJ := ju_ne hne.1 hne.2.1 hne.2.2
    have hb : (V.si == V.la) = false := beq_eq_false_iff_ne.2 hne.2.2
    have hb2 : ¬ V.si = V.la := hne.2.2
    have hb3 : (V.si != V.la) = true := by unfold bne; rw [hb]; rfl
    rw [hne.1] at y1
    rw [hne.2.1] at y4
    rw [hJ] at HP
    clear hJ hne
    obtain ⟨s1, hs1⟩ : ∃ s1, V.si = s1 := ⟨_, rfl⟩
    obtain ⟨s2, hs2⟩ : ∃ s2, V.la = s2 := ⟨_, rfl⟩
    rw [hs1] at y3 hb hb2 hb3
    rw [hs2] at y5 hb hb2 hb3
    clear hs1 hs2
    refine wp_seq_k fun K2 hK2 => ?_
    have HK2 : Hid _ := hK2
    clear hK2
    go_wp2
    refine HK2.out _ _ ?_
    clear HK2
    refine wp_cond_true rfl ?_
    clear y1 y4 y3 y5 HK1
    refine wp_seq_k fun K4 hK4 => ?_
    have HK4 : Hid _ := hK4
    clear hK4
    have s0 : True := trivial
    go_wp2_with (have _t := s0; clear s0; refine wpList_stC _ rfl _ _ _ rfl g7 9 48 _ #[.int .i64 V.id, .bool V.kn, .string V.nm, .int .i64 V.si, .bool V.en, .int .i64 V.la, .int .i64 V.su, .slice q V.G.length d, .slice a V.L.length c, .int .i64 4, .int .i64 V.ti, .int .i64 V.pa, .int .i64 V.tr, .int .i64 V.li] (.int .i64 4) rfl rfl h.b5 (stc_stg _ _ _) (by show 9 < 14; decide) rfl ?_; intro w6 bw6 uw6)
    refine HK4.out _ _ ?_
    clear HK4
    have h6 := h.set uw6 bw6
    have hN6 := hN.bx h.b5 (by decide) (by decide) (by decide) uw6
    have e9 : gpT ({ V with st := 4, ti := V.ti, tr := V.tr } : Tv) kd = [] := gp_no (by show (4 : Int) ≠ 0; decide)
    refine to_t37 P wB w6 g4 g7 { V with st := 4, ti := V.ti, tr := V.tr } a c q d na nc xs T h6 hT hN6 (by omega) _ (fun c a a' wz hd9 hx => by obtain ⟨ta, da⟩ := a; obtain ⟨tb, db⟩ := a'; cases hd9; exact hx) (fun a wz hx => hx) (fun e w' kk => HP.out e w' ?_)
    show RDk wB { V with st := 4, ti := V.ti, tr := V.tr } (T ++ [ntDone V.id 9] ++ gpT ({ V with st := 4, ti := V.ti, tr := V.tr } : Tv) kd) 0 e w'
    rw [e9, List.append_nil]
    exact kk
  · have HNE : Hid _ := hne
    cases hk : V.kn with
    | false =>
      rw [hk] at y1
      clear hne hk
      go_wp2
      try simp only [Exit.then]
      refine HK1.out _ _ ?_
      clear HK1
      exact to_t38 P wB w g4 g7 V a c q d na nc xs T h hT hN hl g3 kd nid nm2 si2 su2 at2 pa2 pn pc ga gm gd o co b3 HO.out HS0.out HEN.out HNE.out (fun e w' kk => HP.out e w' kk)
    | true =>
      rw [hk] at y1
      cases he : V.en with
      | false =>
        rw [he] at y4
        clear hne hk he
        go_wp2
        try simp only [Exit.then]
        refine HK1.out _ _ ?_
        clear HK1
        exact to_t38 P wB w g4 g7 V a c q d na nc xs T h hT hN hl g3 kd nid nm2 si2 su2 at2 pa2 pn pc ga gm gd o co b3 HO.out HS0.out HEN.out HNE.out (fun e w' kk => HP.out e w' kk)
      | true =>
        rw [he] at y4
        have hel : V.si = V.la := by
          by_cases e : V.si = V.la
          · exact e
          · exact absurd ⟨hk, he, e⟩ hne
        rw [hel] at y3
        clear hne hk he hel
        go_wp2
        try simp only [Exit.then]
        refine HK1.out _ _ ?_
        clear HK1
        exact to_t38 P wB w g4 g7 V a c q d na nc xs T h hT hN hl g3 kd nid nm2 si2 su2 at2 pa2 pn pc ga gm gd o co b3 HO.out HS0.out HEN.out HNE.out (fun e w' kk => HP.out e w' kk)
end
end Go.Proofs.Ytnimehkfnpepfaa
