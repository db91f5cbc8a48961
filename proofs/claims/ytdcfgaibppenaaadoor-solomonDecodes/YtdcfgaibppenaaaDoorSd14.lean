import Derived.Test.YtdcfgaibppenaaaDoorSd13
import Derived.OpenShut
import Derived.Test.YtdcfgaibppenaaaDoorSd1
import Derived.ArgAppend
import Derived.Deep.DeepAppendWide
import Derived.Laws.AppendOwnNone
import Derived.Test.YtdcfgaibppenaaaDoorSd2
import Derived.Test.YtdcfgaibppenaaaDoorSd9
namespace Go.Proofs.YtdcfgaibppenaaaDoor
open Go.RowKit
set_option maxRecDepth 100000
set_option linter.unusedVariables false
set_option linter.unusedSimpArgs false

section
open GF
theorem results_2v {fn : Func} {p u : Tmp} (h : fn.results = #[.tmp p, .tmp u]) (tmps : Array Value) (P : Program) (w : World) : (results fn tmps).run P w = .ok (.tuple #[tmps.getD p undef, tmps.getD u undef]) w := by
  simp only [results, h]
  simp [Sem.run_bind, Result.andThen]
theorem inv_ne [Add GF] [Mul GF] [OfNat GF 0] [OfNat GF 1] [L : Nonempty GL] {p : GF} (hp : p ≠ 0) : inv p ≠ 0 := fun e => by
  have h := mul_inv hp
  rw [e, mul_zero] at h
  exact absurd h.symm one_ne
/-- what a step leaves as it was -/
structure SI [Add GF] [Mul GF] [OfNat GF 0] [OfNat GF 1] [L : Nonempty GL] (n : Nat) (M0 : Nat → Nat → GF) (b0 : Nat → GF) (i : Nat) (M : Nat → Nat → GF) (b : Nat → GF) : Prop where
  un : Unit' n M i
  so : ∀ x, Sol n M b x ↔ Sol n M0 b0 x
  zo : ∀ x, Sol n M (fun _ => 0) x ↔ Sol n M0 (fun _ => 0) x
theorem SI.step [Add GF] [Mul GF] [OfNat GF 0] [OfNat GF 1] [L : Nonempty GL] {n : Nat} {M0 : Nat → Nat → GF} {b0 : Nat → GF} {i : Nat} {M : Nat → Nat → GF} {b : Nat → GF} (h : SI n M0 b0 i M b) {k : Nat} (hi : i < n) (hik : i ≤ k) (hk : k < n) (hp : M k i ≠ 0) :
    SI n M0 b0 (i + 1) (clr (scl (swp M i k) (inv (M k i)) i) i) (clrb (scl (swp M i k) (inv (M k i)) i) (sclb (swp b i k) (inv (M k i)) i) i) := by
  refine ⟨unit_step h.un hi hik hk hp, fun x => ?_, fun x => ?_⟩
  · rw [sol_clr hi, sol_scl (inv_ne hp) hi, sol_swp hi hk]
    exact h.so x
  · have z1 : ∀ S : Nat → Nat → GF, clrb S (fun _ => 0) i = fun _ => 0 := fun S => by
      funext r
      unfold clrb
      by_cases e : r = i
      · rw [if_pos e]
      · rw [if_neg e, mul_zero, add_zero]
    have z2 : sclb (fun _ => (0 : GF)) (inv (M k i)) i = fun _ => 0 := by
      funext r
      unfold sclb
      by_cases e : r = i
      · rw [if_pos e, zero_mul]
      · rw [if_neg e]
    have z3 : swp (fun _ => (0 : GF)) i k = fun _ => 0 := by
      funext r
      unfold swp
      by_cases e : r = i
      · rw [if_pos e]
      · rw [if_neg e]
        by_cases e : r = k
        · rw [if_pos e]
        · rw [if_neg e]
    have h1 := sol_clr (M := scl (swp M i k) (inv (M k i)) i) (b := fun _ => 0) (x := x) hi
    rw [z1] at h1
    have h2 := sol_scl (M := swp M i k) (b := fun _ => 0) (x := x) (inv_ne hp) hi
    rw [z2] at h2
    have h3 := sol_swp (M := M) (b := fun _ => (0 : GF)) (x := x) hi hk
    rw [z3] at h3
    exact h1.trans (h2.trans (h3.trans (h.zo x)))
theorem SI.inj [Add GF] [Mul GF] [OfNat GF 0] [OfNat GF 1] [L : Nonempty GL] {n : Nat} {M0 : Nat → Nat → GF} {b0 : Nat → GF} {i : Nat} {M : Nat → Nat → GF} {b : Nat → GF} (h : SI n M0 b0 i M b) (hI : InjM n M0) : InjM n M := fun y hy => hI y ((h.zo y).1 hy)
theorem solved_nil (w : World) : Calls Tryd.prog 27 #[.slice none 0 0, .slice none 0 0] w fun e w' => e = .returned (.tuple #[.slice none 0 0, .bool true]) ∧ w.grownBy w' none := by
  go_enter Tryd.func27, Tryd.ntmps27
  refine wp_seq_k fun K0 hK0 => ?_
  have HK0 : Hid _ := hK0
  clear hK0
  go_wp2
  refine HK0.out _ _ ?_
  clear HK0
  refine wp_seq_k fun K1 hK1 => ?_
  have HK1 : Hid _ := hK1
  clear hK1
  go_wp2
  refine HK1.out _ _ ?_
  clear HK1
  refine wp_seq_k fun K2 hK2 => ?_
  have HK2 : Hid _ := hK2
  clear hK2
  go_wp2
  go_loopw [7] (fun v7 wr => v7 = .int .i64 0 ∧ w.grownBy wr none) (fun v7 _ => 0)
  case atStart => exact ⟨rfl, World.grownBy.refl _ _⟩
  case round =>
    obtain ⟨rfl, GR⟩ := hrel
    go_wp2
    (try simp only [Exit.inBlock, Exit.then])
    refine HK2.out _ _ ?_
    clear HK2
    go_wp2
    refine bodyPost_ret (results_2v rfl _ _ _) rfl ?_
    exact ⟨rfl, GR⟩
set_option maxHeartbeats 32000000 in
theorem solved_any [Add GF] [Mul GF] [OfNat GF 0] [OfNat GF 1] [L : Nonempty GL] (wB w : World) (GB : wB.grownBy w none) (lo gm gb n cm cb : Nat) (hlo : wB.heap.size ≤ lo) (hn : n ≤ 1000) (ρ cr : Nat → Nat) (M : Nat → Nat → GF) (b : Nat → GF) (hM : MT w lo gm gb n ρ cr M b) :
    Calls Tryd.prog 27 #[.slice (some ⟨gm, 0, none⟩) n cm, .slice (some ⟨gb, 0, none⟩) n cb] w fun e w' => wB.grownBy w' none ∧ ((e = .returned (.tuple #[.slice none 0 0, .bool false]) ∧ ¬ InjM n M) ∨
      ∃ x : Nat → GF, e = .returned (.tuple #[.slice (some ⟨gb, 0, none⟩) n cb, .bool true]) ∧ Sol n M b x ∧ ∀ j, j < n → w'.cell? ⟨gb, j, none⟩ = some (.int .u8 ((x j).v : Int))) := by
  have HM0 : Hid _ := hM
  clear hM
  go_enter Tryd.func27, Tryd.ntmps27
  refine wp_seq_k fun K0 hK0 => ?_
  have HK0 : Hid _ := hK0
  clear hK0
  go_wp2
  refine HK0.out _ _ ?_
  clear HK0
  refine wp_seq_k fun K1 hK1 => ?_
  have HK1 : Hid _ := hK1
  clear hK1
  go_wp2
  refine HK1.out _ _ ?_
  clear HK1
  refine wp_seq_k fun K2 hK2 => ?_
  have HK2 : Hid _ := hK2
  clear hK2
  go_wp2
  go_loopw [7] (fun v7 wr => ∃ (i : Nat) (ρ' cr' : Nat → Nat) (M' : Nat → Nat → GF) (b' : Nat → GF), i ≤ n ∧ v7 = .int .i64 i ∧ MT wr lo gm gb n ρ' cr' M' b' ∧ Hid (SI n M b i M' b') ∧ wB.grownBy wr none) (fun v7 _ => n - (intOf v7).toNat)
  case atStart => exact ⟨0, ρ, cr, M, b, Nat.zero_le _, rfl, HM0.out, ⟨fun r _ j hj => by omega, fun _ => Iff.rfl, fun _ => Iff.rfl⟩, GB⟩
  case round =>
    obtain ⟨i, ρ', cr', M', b', hi', rfl, hM', HS, GR⟩ := hrel
    have HM : Hid _ := hM'
    clear hM'
    by_cases hi : i < n
    · have lii : (i : Int) < (n : Int) := by omega
      refine wp_seq_k fun K3 hK3 => ?_
      have HK3 : Hid _ := hK3
      clear hK3
      go_wp2
      refine HK3.out _ _ ?_
      clear HK3
      refine wp_seq_k fun K4 hK4 => ?_
      have HK4 : Hid _ := hK4
      clear hK4
      refine wp_block ?_
      refine wp_seq_k fun K5 hK5 => ?_
      have HK5 : Hid _ := hK5
      clear hK5
      go_wp2
      refine HK5.out _ _ ?_
      clear HK5
      refine wp_seq_k fun K6 hK6 => ?_
      have HK6 : Hid _ := hK6
      clear hK6
      refine wp_block ?_
      go_loopw [8] (fun v8 ws => ∃ k : Nat, i ≤ k ∧ k ≤ n ∧ v8 = .int .i64 k ∧ Hid (∀ q, i ≤ q → q < k → M' q i = 0) ∧ wr.grownBy ws none) (fun v8 _ => n - (intOf v8).toNat)
      case atStart => exact ⟨i, Nat.le_refl _, by omega, rfl, (fun q h1 h2 => by omega), World.grownBy.refl _ _⟩
      case round =>
        obtain ⟨k, hik, hk', rfl, HZ, GS⟩ := hrel
        have GBS := grown_trans GR GS
        have HMS : Hid _ := HM.out.keep GS
        by_cases hk : k < n
        · have lkk : (k : Int) < (n : Int) := by omega
          have e1 := HMS.out.cm hk
          have e2 := HMS.out.cx hk hi
          by_cases hp : M' k i = 0
          · have HZ2 : Hid (∀ q, i ≤ q → q < k + 1 → M' q i = 0) := fun q h1 h2 => by
              by_cases e : q = k
              · rw [e]; exact hp
              · exact HZ.out q h1 (by omega)
            rw [hp, zero_v] at e2
            have e2' : World.cell? _ ⟨ρ' k, i, none⟩ = some (.int .u8 0) := e2
            clear e2 hp HZ
            go_wp2
            go_roundw
            case rel => exact ⟨k + 1, by omega, by omega, by go_num, HZ2.out, GS⟩
            case measure => simp [intOf] <;> omega
          · have hpv : (((M' k i).v : Int) == 0) = false := beq_false_of_ne (fun e => ne_v hp (by omega))
            have hpn : ¬ (M' k i).v = 0 := ne_v hp
            have HPP : Hid (M' k i ≠ 0) := hp
            clear hp
            have lnk : ¬ (k : Int) = (n : Int) := by omega
            have lnb : ((k : Int) == (n : Int)) = false := beq_false_of_ne lnk
            have HFE : Hid (∃ p, M' k i = p) := ⟨_, rfl⟩
            obtain ⟨p, hpe⟩ := HFE.out
            rw [hpe] at e2 hpv hpn
            clear hpe HFE
            go_wp2
            (try simp only [Exit.inBlock, Exit.then])
            refine HK6.out _ _ ?_
            clear HK6
            refine wp_seq_k fun K7 hK7 => ?_
            have HK7 : Hid _ := hK7
            clear hK7
            go_wp2
            refine HK7.out _ _ ?_
            clear HK7
            refine sv_t10 _ (by intro c a1 a2 w9 hd h; exact ⟨by rw [← hd]; exact h.1, h.2⟩) wB _ GBS lo gm gb n cm cb hlo hn ρ' cr' M' b' HMS.out i k hi hk HPP.out ?_
            intro v9 v10 v11 v12 v13 v14 v41 v42 v43 v44 v45 v46 v47 v48 v49 v50 v51 v52 v53 v54 v55 v56 v57 v58 v59 v60 v61 v62 v63 v64 v65 v66 v67 v68 v69 v70 v71 v72 v73 v74 v75 v76 v77 v78 v79 v80 v81 v82 v83 v84 v85 v86 v87 v88 v89 v90 v91 v92 v93 v94 v95 v96 v97 v98 v99 v100 v101 v102 v103 v104 v105 v106 v107 v108 v109 v110 v111 v112 v113 v114 v115 v116 v117 v118 v119 v120 v121 v122 v123 v124 v125 v126 v127 v128 v129 v130 v131 v132 v133 v134 v135 v136 v137 v138 v139 v140 v141 v142 v143 v144 v145 v146 v147 v148 v149 v150 v151 v152 v153 v154 v155 v156 v157 v158 v159 v160 v161 v162 w5 hM5 G5
            have HM5 : Hid _ := hM5
            have HS5 : Hid _ := HS.out.step hi hik hk HPP.out
            clear hM5 HMS HM HS
            (try simp only [Exit.inBlock, Exit.then])
            refine HK4.out _ _ ?_
            clear HK4
            go_wp2
            go_roundw
            case rel => exact ⟨i + 1, _, _, _, _, by omega, by go_num, HM5.out, HS5.out, G5⟩
            case measure => simp [intOf] <;> omega
        · have lkk : ¬ (k : Int) < (n : Int) := by omega
          have lkn : (k : Int) = (n : Int) := by omega
          have hkn : k = n := by omega
          have HST : Hid (¬ InjM n M) := fun hI => unit_stuck HS.out.un hi (fun q h1 h2 => HZ.out q h1 (by omega)) (HS.out.inj hI)
          have HGS : Hid _ := GBS
          clear HZ HM HMS HS GBS
          subst hkn
          clear lkn
          go_wp2
          (try simp only [Exit.inBlock, Exit.then])
          refine HK6.out _ _ ?_
          clear HK6
          refine wp_seq_k fun K7 hK7 => ?_
          have HK7 : Hid _ := hK7
          clear hK7
          go_wp2
          (try simp only [Exit.inBlock, Exit.then])
          refine bodyPost_ret (results_2v rfl _ _ _) rfl ?_
          exact ⟨HGS.out, .inl ⟨rfl, HST.out⟩⟩
    · have lii : ¬ (i : Int) < (n : Int) := by omega
      have HIN : Hid (i = n) := by show i = n; omega
      clear hi hi'
      go_wp2
      (try simp only [Exit.inBlock, Exit.then])
      refine HK2.out _ _ ?_
      clear HK2
      go_wp2
      refine bodyPost_ret (results_2v rfl _ _ _) rfl ?_
      refine ⟨GR, .inr ⟨b', rfl, (HS.out.so b').1 ((unit_end (by have h := HS.out.un; rw [HIN.out] at h; exact h)).2 (fun _ _ => rfl)), fun j hj => HM.out.cb hj⟩⟩
end

section
/-- From a slice of bytes that came in to how it is read. -/
theorem rd_of_row {w : World} {a : Option Addr} {len cap : Nat} {zs : List Int}
    (h : (a = none ∧ len = 0 ∧ cap = 0 ∧ zs = []) ∨ ∃ x, a = some x ∧ len ≤ cap ∧ cap ≤ maxLen ∧ zs.length = cap ∧ (∀ i, i < zs.length → w.cell? (x.add i) = some (.int .u8 (zs.getD i 0))) ∧ ∀ n ∈ zs, (Lit.int .u8 n).wf = true) :
    ∃ L, Rd w a len cap L ∧ len ≤ cap := by
  rcases h with ⟨rfl, rfl, rfl, rfl⟩ | ⟨x, rfl, hl, hm, hz, hcell, hwf⟩
  · exact ⟨[], ⟨rfl, Nat.le_refl _, Nat.zero_le _, fun _ => rfl, (fun x hx => by cases hx), fun h => by omega⟩, Nat.le_refl _⟩
  · have hget : ∀ i, i < len → zs.getD i 0 = ((nth ((zs.take len).map Int.toNat) i : Nat) : Int) ∧ 0 ≤ zs.getD i 0 := by
      intro i hi
      have hi' : i < zs.length := by omega
      have hb := bounds_u8 (hwf zs[i] (List.getElem_mem hi'))
      unfold nth
      rw [List.getD_eq_getElem?_getD, List.getD_eq_getElem?_getD, List.getElem?_map, List.getElem?_take, if_pos hi, List.getElem?_eq_getElem hi']
      simp only [Option.map_some, Option.getD_some]
      omega
    refine ⟨(zs.take len).map Int.toNat, ⟨by simp; omega, hl, hm, (fun h => by cases h), ?_, fun h0 => ?_⟩, hl⟩
    · intro y hy
      obtain ⟨n, hn, rfl⟩ := List.mem_map.1 hy
      have hb := bounds_u8 (hwf n (List.mem_of_mem_take hn))
      omega
    · have hc0 := hcell 0 (by omega)
      obtain ⟨b, off, spot⟩ := x
      have hspot : spot = none := by simpa [Addr.add] using World.cell?_spot hc0
      subst hspot
      refine ⟨b, off, rfl, ?_, fun i hi => ?_⟩
      · exact World.block_lt_of_cell? w _ hc0
      · rw [← (hget i hi).1]
        have := hcell i (by omega)
        have e : (⟨b, off, none⟩ : Addr).add i = ⟨b, off + i, none⟩ := by unfold Addr.add; split <;> simp_all
        rw [e] at this
        exact this
end

section
/-- t: slices of e, whose values take one cell -/
structure ElT (t e : TypeId) (z : Value) (by' : Nat) : Prop where
  und : Tryd.prog.underlying t = some (.slice e)
  inf : (Tryd.prog.info? e).map (fun i => (i.zero, i.size, i.bytes)) = some (some z, 1, by')
  one : z.cells.size = 1
  pos : by' ≤ 16
/-- a slice as it is read -/
structure RdX (w : World) (a : Option Addr) (n cap : Nat) (X : List Value) : Prop where
  len : X.length = n
  le : n ≤ cap
  max : cap ≤ maxLen
  nil : a = none → cap = 0
  one : ∀ u, u ∈ X → u.oneCell' = true
  at' : 0 < n → ∃ b off, a = some ⟨b, off, none⟩ ∧ b < w.heap.size ∧ ∀ i u, X[i]? = some u → w.cell? ⟨b, off + i, none⟩ = some u
theorem RdX.grown {w w' : World} {a : Option Addr} {n cap : Nat} {X : List Value} {r : Option Nat} (h : RdX w a n cap X) (hg : w.grownBy w' r) (hne : ∀ b off, a = some ⟨b, off, none⟩ → some b ≠ r) : RdX w' a n cap X := by
  refine ⟨h.len, h.le, h.max, h.nil, h.one, fun h0 => ?_⟩
  obtain ⟨b, off, rfl, hb, hc⟩ := h.at' h0
  refine ⟨b, off, rfl, Nat.lt_of_lt_of_le hb hg.size, fun i u hu => ?_⟩
  exact (World.cell?_of_block (w := w) (hg.block b hb (hne b off rfl))).trans (hc i u hu)
theorem RdX.keep {w w' : World} {a : Option Addr} {n cap : Nat} {X : List Value} (h : RdX w a n cap X) (hg : w.grownBy w' none) : RdX w' a n cap X := h.grown hg (fun _ _ _ => by simp)
theorem RdX.nil0 (w : World) : RdX w none 0 0 [] := ⟨rfl, Nat.le_refl _, Nat.zero_le _, fun _ => rfl, (fun u h => by cases h), fun h => absurd h (by decide)⟩
/-- a row of the call's own, in memory from block lo on -/
structure AnsX (e : TypeId) (w : World) (lo : Nat) (a : Option Addr) (n cap : Nat) (X : List Value) : Prop where
  own : w.ownsRow 0 e 1 (.slice a n cap) n X
  one : ∀ u, u ∈ X → u.oneCell' = true
  new : ∀ g, (Value.slice a n cap).ownBlock = some g → lo ≤ g
theorem AnsX.len {e : TypeId} {w : World} {lo : Nat} {a : Option Addr} {n cap : Nat} {X : List Value} (h : AnsX e w lo a n cap X) : X.length = n := by
  have := h.own.1; omega
theorem AnsX.cases {e : TypeId} {w : World} {lo : Nat} {a : Option Addr} {n cap : Nat} {X : List Value} (h : AnsX e w lo a n cap X) :
    (a = none ∧ n = 0 ∧ cap = 0) ∨ ∃ g, a = some ⟨g, 0, none⟩ ∧ lo ≤ g ∧ g < w.heap.size := by
  rcases h.own.2 with ⟨h1, h2⟩ | ⟨g, cap', cur, h1, _, h3, _⟩
  · simp only [Value.slice.injEq] at h1; exact .inl h1
  · simp only [Value.slice.injEq] at h1
    obtain ⟨rfl, _, _⟩ := h1
    exact .inr ⟨g, rfl, h.new g rfl, (Array.getElem?_eq_some_iff.1 h3).1⟩
theorem AnsX.ty {e : TypeId} {w : World} {lo : Nat} {g n cap : Nat} {X : List Value} (h : AnsX e w lo (some ⟨g, 0, none⟩) n cap X) : ∃ cs fr, w.heap[g]? = some (.cells cs e fr) := by
  rcases h.own.2 with ⟨h1, h2⟩ | ⟨g', cap', cur, h1, _, h3, _⟩
  · simp at h1
  · simp only [Value.slice.injEq, Option.some.injEq, Addr.mk.injEq] at h1
    obtain ⟨⟨rfl, _⟩, _⟩ := h1
    exact ⟨_, _, h3⟩
theorem AnsX.max {e : TypeId} {w : World} {lo : Nat} {a : Option Addr} {n cap : Nat} {X : List Value} (h : AnsX e w lo a n cap X) : n ≤ cap ∧ cap ≤ maxLen := by
  rcases h.own.2 with ⟨h1, h2⟩ | ⟨g, cap', cur, h1, _, h3, h4, h5, _⟩
  · simp only [Value.slice.injEq] at h1; obtain ⟨_, h6, h7⟩ := h1; subst h6; subst h7; exact ⟨Nat.le_refl _, Nat.zero_le _⟩
  · simp only [Value.slice.injEq] at h1; obtain ⟨_, _, h7⟩ := h1; subst h7; exact ⟨h4, h5⟩
theorem AnsX.rd {e : TypeId} {w : World} {lo : Nat} {a : Option Addr} {n cap : Nat} {X : List Value} (h : AnsX e w lo a n cap X) : RdX w a n cap X := by
  refine ⟨h.len, h.max.1, h.max.2, fun h0 => ?_, h.one, fun h0 => ?_⟩
  · rcases h.cases with ⟨_, _, h3⟩ | ⟨g, h1, _⟩
    · exact h3
    · rw [h0] at h1; cases h1
  · rcases h.cases with ⟨_, h2, _⟩ | ⟨g, rfl, _, hl⟩
    · omega
    · refine ⟨g, 0, rfl, hl, fun i u hu => ?_⟩
      have := h.own.cells (g := g) rfl i u hu
      rw [addr_add] at this
      exact this
theorem AnsX.kept {e : TypeId} {w w' : World} {lo : Nat} {a : Option Addr} {n cap : Nat} {X : List Value} {r : Option Nat} (h : AnsX e w lo a n cap X) (hg : w.grownBy w' r) (hne : (Value.slice a n cap).ownBlock = none ∨ (Value.slice a n cap).ownBlock ≠ r) : AnsX e w' lo a n cap X :=
  ⟨h.own.kept hg hne, h.one, h.new⟩
theorem AnsX.keep {e : TypeId} {w w' : World} {lo : Nat} {a : Option Addr} {n cap : Nat} {X : List Value} (h : AnsX e w lo a n cap X) (hg : w.grownBy w' none) : AnsX e w' lo a n cap X :=
  h.kept hg (by cases (Value.slice a n cap).ownBlock <;> simp)
theorem AnsX.low {e : TypeId} {w : World} {lo lo' : Nat} {a : Option Addr} {n cap : Nat} {X : List Value} (h : AnsX e w lo a n cap X) (hl : lo' ≤ lo) : AnsX e w lo' a n cap X :=
  ⟨h.own, h.one, fun g hg => Nat.le_trans hl (h.new g hg)⟩
theorem AnsX.lt {e : TypeId} {w : World} {lo : Nat} {a : Option Addr} {n cap : Nat} {X : List Value} (h : AnsX e w lo a n cap X) : ∀ g, (Value.slice a n cap).ownBlock = some g → g < w.heap.size := by
  intro g hg
  rcases h.cases with ⟨rfl, _, _⟩ | ⟨g', rfl, _, hl⟩
  · simp [Value.ownBlock] at hg
  · have : g' = g := by simpa [Value.ownBlock] using hg
    omega
theorem AnsX.nil0 (e : TypeId) (w : World) (lo : Nat) : AnsX e w lo none 0 0 [] := ⟨World.ownsRow_nil _ _ _ _, (fun u h => by cases h), fun g h => by simp [Value.ownBlock] at h⟩
theorem AnsX.up {e : TypeId} {w : World} {lo : Nat} {a : Option Addr} {n cap : Nat} {X : List Value} (h : AnsX e w lo a n cap X) : w.ownsRow lo e 1 (.slice a n cap) n X := by
  refine ⟨h.own.1, ?_⟩
  rcases h.own.2 with h1 | ⟨g, c1, cur, h1, h2, h3⟩
  · exact .inl h1
  · refine .inr ⟨g, c1, cur, h1, ?_, h3⟩
    simp only [Value.slice.injEq] at h1
    obtain ⟨rfl, _, _⟩ := h1
    exact h.new g rfl
theorem AnsX.cell {e : TypeId} {w : World} {lo g n cap : Nat} {X : List Value} (h : AnsX e w lo (some ⟨g, 0, none⟩) n cap X) (i : Nat) (u : Value) (hu : X[i]? = some u) : w.cell? ⟨g, i, none⟩ = some u := by
  have := h.own.cells (g := g) rfl i u hu
  rw [addr_add, Nat.zero_add] at this
  exact this
theorem AnsX.free {e : TypeId} {w : World} {lo g n cap : Nat} {X : List Value} (h : AnsX e w lo (some ⟨g, 0, none⟩) n cap X) (i : Nat) : w.frozen? ⟨g, i, none⟩ = false := h.own.frozenAt i
theorem AnsX.set {e : TypeId} {w : World} {lo g n cap : Nat} {X : List Value} (h : AnsX e w lo (some ⟨g, 0, none⟩) n cap X) (i : Nat) (u : Value) (h1 : u.oneCell' = true) : AnsX e (w.setCell ⟨g, i, none⟩ u) lo (some ⟨g, 0, none⟩) n cap (X.set i u) := by
  refine ⟨(h.own.stored i u).1, fun v hv => ?_, h.new⟩
  rcases List.mem_or_eq_of_mem_set hv with h2 | h2
  · exact h.one v h2
  · rw [h2]; exact h1
theorem own_baseX {w : World} {base : Nat} {e : TypeId} {v : Value} {n : Nat} {xs : List Value} (h : w.ownsRow base e 1 v n xs) : w.ownsRow 0 e 1 v n xs := by
  refine ⟨h.1, ?_⟩
  rcases h.2 with h2 | ⟨g, cap, cur, h3, h4, h5⟩
  · exact .inl h2
  · exact .inr ⟨g, cap, cur, h3, Nat.zero_le _, h5⟩
theorem own_ansX {w : World} {lo : Nat} {e : TypeId} {v : Value} {n : Nat} {xs : List Value} (h : w.ownsRow lo e 1 v n xs) (h1 : ∀ u, u ∈ xs → u.oneCell' = true) : ∃ a c, v = .slice a n c ∧ AnsX e w lo a n c xs := by
  have h' := own_baseX h
  rcases h.2 with ⟨rfl, h0⟩ | ⟨g, cap, cur, rfl, hb, hr⟩
  · subst h0
    exact ⟨none, 0, rfl, h', h1, fun g h => by simp [Value.ownBlock] at h⟩
  · exact ⟨some ⟨g, 0, none⟩, cap, rfl, h', h1, fun g' h => by have e : g = g' := Option.some.inj h; omega⟩
/-- 'append(v, x...)', v of the call's own, x whatever -/
theorem wpList_apX {t e : TypeId} {z : Value} {by' : Nat} (E : ElT t e z by') {w : World} {ops : Array Oper} {rest : List Oper} {o : Oper} {a : Act} {Q : Exit → Act → World → Prop} (hg : o.guard = none) (s x : Operand)
    (hop : o.op = Op.call { callee := .builtin .append, args := #[s, x], argTypes := #[t, t] }) (ao : Option Addr) (m co lo : Nat) (D : List Value) (hs : a.eval s = .slice ao m co)
    (hA : AnsX e w lo ao m co D) (hlo : lo ≤ w.heap.size) (ax : Option Addr) (nx cx : Nat) (X : List Value) (hx : a.eval x = .slice ax nx cx) (hR : RdX w ax nx cx X) (hb : (m + nx) * by' ≤ 140737488351232)
    (hb2 : m + nx ≤ 140737488351232)
    (hK : ∀ a' c' w', AnsX e w' lo a' (m + nx) c' (D ++ X) → w.grownBy w' (Value.slice ao m co).ownBlock → wpList Tryd.prog ops Q rest (a.put o.dst (.slice a' (m + nx) c')) w') :
    wpList Tryd.prog ops Q (o :: rest) a w := by
  obtain ⟨i0, hi, hz0, hz1, hz2⟩ := info_parts E.inf
  cases ax with
  | none =>
    have hc0 : cx = 0 := hR.nil rfl
    have hn0 : nx = 0 := by have := hR.le; omega
    subst hc0 hn0
    have e0 : X = [] := List.eq_nil_of_length_eq_zero hR.len
    subst e0
    refine wpList_append_own_none hg s x t hop 0 e i0 1 E.und hi (.slice ao m co) m D hs hA.own hx ?_
    exact hK ao co w (by rw [List.append_nil]; exact hA) (World.grownBy.refl _ _)
  | some ad =>
    have hl := hR.len
    have hq : ∀ u, u ∈ D ++ X → u.oneCell' = true := fun u hu => by
      rcases List.mem_append.1 hu with h | h
      · exact hA.one u h
      · exact hR.one u h
    have hpos := E.pos
    have hfq : ((m + nx) / 4) * by' * 4 ≤ (m + nx) * by' := by
      rw [Nat.mul_right_comm]
      exact Nat.mul_le_mul_right _ (Nat.div_mul_le_self _ _)
    have hfe : (m + nx + (m + nx) / 4 + 192) * by' = (m + nx) * by' + ((m + nx) / 4) * by' + 192 * by' := by rw [Nat.add_mul, Nat.add_mul]
    refine wpList_append_own_wide w hg s x t hop lo e i0 z 1 by' E.und hi hz0 hz1 hz2 E.one (by decide) (.slice ao m co) m D hs hA.up ad nx cx X hx (by omega) ?_ hR.one (by unfold maxLen; omega) (by rw [hfe]; omega) hlo ?_
    · intro j u hu
      have hj : j < X.length := (List.getElem?_eq_some_iff.1 hu).1
      obtain ⟨b, off, e', _, hc⟩ := hR.at' (by omega)
      cases e'
      rw [addr_add]
      exact hc j u hu
    · intro v' w' hown hgr _
      obtain ⟨a', c', rfl, hA'⟩ := own_ansX hown hq
      exact hK a' c' w' hA' hgr
end
end Go.Proofs.YtdcfgaibppenaaaDoor
