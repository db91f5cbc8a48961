import Derived.Test.YtdcfgaibppenaaaDoorSd12
import Derived.OpenShut
import Derived.Test.YtdcfgaibppenaaaDoorSd1
import Derived.ArgAppend
import Derived.Deep.DeepAppendWide
import Derived.Laws.AppendOwnNone
import Derived.Test.YtdcfgaibppenaaaDoorSd2
import Derived.Test.YtdcfgaibppenaaaDoorSd9
import Derived.Test.YtdcfgaibppenaaaDoorSd8
namespace Go.Proofs.YtdcfgaibppenaaaDoor
open Go.RowKit
set_option maxRecDepth 100000
set_option linter.unusedVariables false
set_option linter.unusedSimpArgs false

section
open GF
theorem results_2v {fn : Func} {p u : Tmp} (h : fn.results = #[.tmp p, .tmp u]) (tmps : Array Value) (P : Program) (w : World) : (results fn tmps).run P w = .ok (.tuple #[tmps.getD p undef, tmps.getD u undef]) w := by
  simp only [results, h]
  simp [Sem.run_bind, Result.andThen]
theorem inv_ne {p : GF} (hp : p ≠ 0) : inv p ≠ 0 := fun e => by
  have h := mul_inv hp
  rw [e, mul_zero] at h
  exact absurd (congrArg GF.v h) (by decide)
/-- what a step leaves as it was -/
structure SI (n : Nat) (M0 : Nat → Nat → GF) (b0 : Nat → GF) (i : Nat) (M : Nat → Nat → GF) (b : Nat → GF) : Prop where
  un : Unit' n M i
  so : ∀ x, Sol n M b x ↔ Sol n M0 b0 x
  zo : ∀ x, Sol n M (fun _ => 0) x ↔ Sol n M0 (fun _ => 0) x
theorem SI.step {n : Nat} {M0 : Nat → Nat → GF} {b0 : Nat → GF} {i : Nat} {M : Nat → Nat → GF} {b : Nat → GF} (h : SI n M0 b0 i M b) {k : Nat} (hi : i < n) (hik : i ≤ k) (hk : k < n) (hp : M k i ≠ 0) :
    SI n M0 b0 (i + 1) (clr (scl (swp M i k) (inv (M k i)) i) i) (clrb (scl (swp M i k) (inv (M k i)) i) (sclb (swp b i k) (inv (M k i)) i) i) := by
  refine ⟨unit_step h.un hi hik hk hp, fun x => ?_, fun x => ?_⟩
  · rw [sol_clr hi, sol_scl (inv_ne hp) hi, sol_swp hi hk]
    exact h.so x
  · have z1 : ∀ S : Nat → Nat → GF, clrb S (fun _ => 0) i = fun _ => 0 := fun S => by
      funext r
      unfold clrb
      by_cases e : r = i
      · rw [if_pos e]
      · rw [if_neg e, mul_zero, add_zero]
    have z2 : sclb (fun _ => (0 : GF)) (inv (M k i)) i = fun _ => 0 := by
      funext r
      unfold sclb
      by_cases e : r = i
      · rw [if_pos e, zero_mul]
      · rw [if_neg e]
    have z3 : swp (fun _ => (0 : GF)) i k = fun _ => 0 := by
      funext r
      unfold swp
      by_cases e : r = i
      · rw [if_pos e]
      · rw [if_neg e]
        by_cases e : r = k
        · rw [if_pos e]
        · rw [if_neg e]
    have h1 := sol_clr (M := scl (swp M i k) (inv (M k i)) i) (b := fun _ => 0) (x := x) hi
    rw [z1] at h1
    have h2 := sol_scl (M := swp M i k) (b := fun _ => 0) (x := x) (inv_ne hp) hi
    rw [z2] at h2
    have h3 := sol_swp (M := M) (b := fun _ => (0 : GF)) (x := x) hi hk
    rw [z3] at h3
    exact h1.trans (h2.trans (h3.trans (h.zo x)))
theorem SI.inj {n : Nat} {M0 : Nat → Nat → GF} {b0 : Nat → GF} {i : Nat} {M : Nat → Nat → GF} {b : Nat → GF} (h : SI n M0 b0 i M b) (hI : InjM n M0) : InjM n M := fun y hy => hI y ((h.zo y).1 hy)
theorem solved_nil (w : World) : Calls Tryd.prog 27 #[.slice none 0 0, .slice none 0 0] w fun e w' => e = .returned (.tuple #[.slice none 0 0, .bool true]) ∧ w.grownBy w' none := by
  go_enter Tryd.func27, Tryd.ntmps27
  refine wp_seq_k fun K0 hK0 => ?_
  have HK0 : Hid _ := hK0
  clear hK0
  go_wp2
  refine HK0.out _ _ ?_
  clear HK0
  refine wp_seq_k fun K1 hK1 => ?_
  have HK1 : Hid _ := hK1
  clear hK1
  go_wp2
  refine HK1.out _ _ ?_
  clear HK1
  refine wp_seq_k fun K2 hK2 => ?_
  have HK2 : Hid _ := hK2
  clear hK2
  go_wp2
  go_loopw [7] (fun v7 wr => v7 = .int .i64 0 ∧ w.grownBy wr none) (fun v7 _ => 0)
  case atStart => exact ⟨rfl, World.grownBy.refl _ _⟩
  case round =>
    obtain ⟨rfl, GR⟩ := hrel
    go_wp2
    (try simp only [Exit.inBlock, Exit.then])
    refine HK2.out _ _ ?_
    clear HK2
    go_wp2
    refine bodyPost_ret (results_2v rfl _ _ _) rfl ?_
    exact ⟨rfl, GR⟩
set_option maxHeartbeats 32000000 in
theorem solved_any (wB w : World) (GB : wB.grownBy w none) (lo gm gb n cm cb : Nat) (hlo : wB.heap.size ≤ lo) (hn : n ≤ 1000) (ρ cr : Nat → Nat) (M : Nat → Nat → GF) (b : Nat → GF) (hM : MT w lo gm gb n ρ cr M b) :
    Calls Tryd.prog 27 #[.slice (some ⟨gm, 0, none⟩) n cm, .slice (some ⟨gb, 0, none⟩) n cb] w fun e w' => wB.grownBy w' none ∧ ((e = .returned (.tuple #[.slice none 0 0, .bool false]) ∧ ¬ InjM n M) ∨
      ∃ x : Nat → GF, e = .returned (.tuple #[.slice (some ⟨gb, 0, none⟩) n cb, .bool true]) ∧ Sol n M b x ∧ ∀ j, j < n → w'.cell? ⟨gb, j, none⟩ = some (.int .u8 ((x j).v : Int))) := by
  have HM0 : Hid _ := hM
  clear hM
  go_enter Tryd.func27, Tryd.ntmps27
  refine wp_seq_k fun K0 hK0 => ?_
  have HK0 : Hid _ := hK0
  clear hK0
  go_wp2
  refine HK0.out _ _ ?_
  clear HK0
  refine wp_seq_k fun K1 hK1 => ?_
  have HK1 : Hid _ := hK1
  clear hK1
  go_wp2
  refine HK1.out _ _ ?_
  clear HK1
  refine wp_seq_k fun K2 hK2 => ?_
  have HK2 : Hid _ := hK2
  clear hK2
  go_wp2
  go_loopw [7] (fun v7 wr => ∃ (i : Nat) (ρ' cr' : Nat → Nat) (M' : Nat → Nat → GF) (b' : Nat → GF), i ≤ n ∧ v7 = .int .i64 i ∧ MT wr lo gm gb n ρ' cr' M' b' ∧ Hid (SI n M b i M' b') ∧ wB.grownBy wr none) (fun v7 _ => n - (intOf v7).toNat)
  case atStart => exact ⟨0, ρ, cr, M, b, Nat.zero_le _, rfl, HM0.out, ⟨fun r _ j hj => by omega, fun _ => Iff.rfl, fun _ => Iff.rfl⟩, GB⟩
  case round =>
    obtain ⟨i, ρ', cr', M', b', hi', rfl, hM', HS, GR⟩ := hrel
    have HM : Hid _ := hM'
    clear hM'
    by_cases hi : i < n
    · have lii : (i : Int) < (n : Int) := by omega
      refine wp_seq_k fun K3 hK3 => ?_
      have HK3 : Hid _ := hK3
      clear hK3
      go_wp2
      refine HK3.out _ _ ?_
      clear HK3
      refine wp_seq_k fun K4 hK4 => ?_
      have HK4 : Hid _ := hK4
      clear hK4
      refine wp_block ?_
      refine wp_seq_k fun K5 hK5 => ?_
      have HK5 : Hid _ := hK5
      clear hK5
      go_wp2
      refine HK5.out _ _ ?_
      clear HK5
      refine wp_seq_k fun K6 hK6 => ?_
      have HK6 : Hid _ := hK6
      clear hK6
      refine wp_block ?_
      go_loopw [8] (fun v8 ws => ∃ k : Nat, i ≤ k ∧ k ≤ n ∧ v8 = .int .i64 k ∧ Hid (∀ q, i ≤ q → q < k → M' q i = 0) ∧ wr.grownBy ws none) (fun v8 _ => n - (intOf v8).toNat)
      case atStart => exact ⟨i, Nat.le_refl _, by omega, rfl, (fun q h1 h2 => by omega), World.grownBy.refl _ _⟩
      case round =>
        obtain ⟨k, hik, hk', rfl, HZ, GS⟩ := hrel
        have GBS := grown_trans GR GS
        have HMS : Hid _ := HM.out.keep GS
        by_cases hk : k < n
        · have lkk : (k : Int) < (n : Int) := by omega
          have e1 := HMS.out.cm hk
          have e2 := HMS.out.cx hk hi
          by_cases hp : M' k i = 0
          · have HZ2 : Hid (∀ q, i ≤ q → q < k + 1 → M' q i = 0) := fun q h1 h2 => by
              by_cases e : q = k
              · rw [e]; exact hp
              · exact HZ.out q h1 (by omega)
            rw [hp] at e2
            have e2' : World.cell? _ ⟨ρ' k, i, none⟩ = some (.int .u8 0) := e2
            clear e2 hp HZ
            go_wp2
            go_roundw
            case rel => exact ⟨k + 1, by omega, by omega, by go_num, HZ2.out, GS⟩
            case measure => simp [intOf] <;> omega
          · have hpv : (((M' k i).v : Int) == 0) = false := beq_false_of_ne (fun e => ne_v hp (by omega))
            have hpn : ¬ (M' k i).v = 0 := ne_v hp
            have HPP : Hid (M' k i ≠ 0) := hp
            clear hp
            have lnk : ¬ (k : Int) = (n : Int) := by omega
            have lnb : ((k : Int) == (n : Int)) = false := beq_false_of_ne lnk
            have HFE : Hid (∃ p, M' k i = p) := ⟨_, rfl⟩
            obtain ⟨p, hpe⟩ := HFE.out
            rw [hpe] at e2 hpv hpn
            clear hpe HFE
            go_wp2
            (try simp only [Exit.inBlock, Exit.then])
            refine HK6.out _ _ ?_
            clear HK6
            refine wp_seq_k fun K7 hK7 => ?_
            have HK7 : Hid _ := hK7
            clear hK7
            go_wp2
            refine HK7.out _ _ ?_
            clear HK7
            refine sv_t10 _ (by intro c a1 a2 w9 hd h; exact ⟨by rw [← hd]; exact h.1, h.2⟩) wB _ GBS lo gm gb n cm cb hlo hn ρ' cr' M' b' HMS.out i k hi hk HPP.out ?_
            intro v9 v10 v11 v12 v13 v14 v41 v42 v43 v44 v45 v46 v47 v48 v49 v50 v51 v52 v53 v54 v55 v56 v57 v58 v59 v60 v61 v62 v63 v64 v65 v66 v67 v68 v69 v70 v71 v72 v73 v74 v75 v76 v77 v78 v79 v80 v81 v82 v83 v84 v85 v86 v87 v88 v89 v90 v91 v92 v93 v94 v95 v96 v97 v98 v99 v100 v101 v102 v103 v104 v105 v106 v107 v108 v109 v110 v111 v112 v113 v114 v115 v116 v117 v118 v119 v120 v121 v122 v123 v124 v125 v126 v127 v128 v129 v130 v131 v132 v133 v134 v135 v136 v137 v138 v139 v140 v141 v142 v143 v144 v145 v146 v147 v148 v149 v150 v151 v152 v153 v154 v155 v156 v157 v158 v159 v160 v161 v162 w5 hM5 G5
            have HM5 : Hid _ := hM5
            have HS5 : Hid _ := HS.out.step hi hik hk HPP.out
            clear hM5 HMS HM HS
            (try simp only [Exit.inBlock, Exit.then])
            refine HK4.out _ _ ?_
            clear HK4
            go_wp2
            go_roundw
            case rel => exact ⟨i + 1, _, _, _, _, by omega, by go_num, HM5.out, HS5.out, G5⟩
            case measure => simp [intOf] <;> omega
        · have lkk : ¬ (k : Int) < (n : Int) := by omega
          have lkn : (k : Int) = (n : Int) := by omega
          have hkn : k = n := by omega
          have HST : Hid (¬ InjM n M) := fun hI => unit_stuck HS.out.un hi (fun q h1 h2 => HZ.out q h1 (by omega)) (HS.out.inj hI)
          have HGS : Hid _ := GBS
          clear HZ HM HMS HS GBS
          subst hkn
          clear lkn
          go_wp2
          (try simp only [Exit.inBlock, Exit.then])
          refine HK6.out _ _ ?_
          clear HK6
          refine wp_seq_k fun K7 hK7 => ?_
          have HK7 : Hid _ := hK7
          clear hK7
          go_wp2
          (try simp only [Exit.inBlock, Exit.then])
          refine bodyPost_ret (results_2v rfl _ _ _) rfl ?_
          exact ⟨HGS.out, .inl ⟨rfl, HST.out⟩⟩
    · have lii : ¬ (i : Int) < (n : Int) := by omega
      have HIN : Hid (i = n) := by show i = n; omega
      clear hi hi'
      go_wp2
      (try simp only [Exit.inBlock, Exit.then])
      refine HK2.out _ _ ?_
      clear HK2
      go_wp2
      refine bodyPost_ret (results_2v rfl _ _ _) rfl ?_
      refine ⟨GR, .inr ⟨b', rfl, (HS.out.so b').1 ((unit_end (by have h := HS.out.un; rw [HIN.out] at h; exact h)).2 (fun _ _ => rfl)), fun j hj => HM.out.cb hj⟩⟩
end

section
/-- From a slice of bytes that came in to how it is read. -/
theorem rd_of_row {w : World} {a : Option Addr} {len cap : Nat} {zs : List Int}
    (h : (a = none ∧ len = 0 ∧ cap = 0 ∧ zs = []) ∨ ∃ x, a = some x ∧ len ≤ cap ∧ cap ≤ maxLen ∧ zs.length = cap ∧ (∀ i, i < zs.length → w.cell? (x.add i) = some (.int .u8 (zs.getD i 0))) ∧ ∀ n ∈ zs, (Lit.int .u8 n).wf = true) :
    ∃ L, Rd w a len cap L ∧ len ≤ cap := by
  rcases h with ⟨rfl, rfl, rfl, rfl⟩ | ⟨x, rfl, hl, hm, hz, hcell, hwf⟩
  · exact ⟨[], ⟨rfl, Nat.le_refl _, Nat.zero_le _, fun _ => rfl, (fun x hx => by cases hx), fun h => by omega⟩, Nat.le_refl _⟩
  · have hget : ∀ i, i < len → zs.getD i 0 = ((nth ((zs.take len).map Int.toNat) i : Nat) : Int) ∧ 0 ≤ zs.getD i 0 := by
      intro i hi
      have hi' : i < zs.length := by omega
      have hb := bounds_u8 (hwf zs[i] (List.getElem_mem hi'))
      unfold nth
      rw [List.getD_eq_getElem?_getD, List.getD_eq_getElem?_getD, List.getElem?_map, List.getElem?_take, if_pos hi, List.getElem?_eq_getElem hi']
      simp only [Option.map_some, Option.getD_some]
      omega
    refine ⟨(zs.take len).map Int.toNat, ⟨by simp; omega, hl, hm, (fun h => by cases h), ?_, fun h0 => ?_⟩, hl⟩
    · intro y hy
      obtain ⟨n, hn, rfl⟩ := List.mem_map.1 hy
      have hb := bounds_u8 (hwf n (List.mem_of_mem_take hn))
      omega
    · have hc0 := hcell 0 (by omega)
      obtain ⟨b, off, spot⟩ := x
      have hspot : spot = none := by simpa [Addr.add] using World.cell?_spot hc0
      subst hspot
      refine ⟨b, off, rfl, ?_, fun i hi => ?_⟩
      · exact World.block_lt_of_cell? w _ hc0
      · rw [← (hget i hi).1]
        have := hcell i (by omega)
        have e : (⟨b, off, none⟩ : Addr).add i = ⟨b, off + i, none⟩ := by unfold Addr.add; split <;> simp_all
        rw [e] at this
        exact this
end

section
/-- t: slices of e, whose values take one cell -/
structure ElT (t e : TypeId) (z : Value) (by' : Nat) : Prop where
  und : Tryd.prog.underlying t = some (.slice e)
  inf : (Tryd.prog.info? e).map (fun i => (i.zero, i.size, i.bytes)) = some (some z, 1, by')
  one : z.cells.size = 1
  pos : by' ≤ 16
/-- a slice as it is read -/
structure RdX (w : World) (a : Option Addr) (n cap : Nat) (X : List Value) : Prop where
  len : X.length = n
  le : n ≤ cap
  max : cap ≤ maxLen
  nil : a = none → cap = 0
  one : ∀ u, u ∈ X → u.oneCell' = true
  at' : 0 < n → ∃ b off, a = some ⟨b, off, none⟩ ∧ b < w.heap.size ∧ ∀ i u, X[i]? = some u → w.cell? ⟨b, off + i, none⟩ = some u
theorem RdX.grown {w w' : World} {a : Option Addr} {n cap : Nat} {X : List Value} {r : Option Nat} (h : RdX w a n cap X) (hg : w.grownBy w' r) (hne : ∀ b off, a = some ⟨b, off, none⟩ → some b ≠ r) : RdX w' a n cap X := by
  refine ⟨h.len, h.le, h.max, h.nil, h.one, fun h0 => ?_⟩
  obtain ⟨b, off, rfl, hb, hc⟩ := h.at' h0
  refine ⟨b, off, rfl, Nat.lt_of_lt_of_le hb hg.size, fun i u hu => ?_⟩
  exact (World.cell?_of_block (w := w) (hg.block b hb (hne b off rfl))).trans (hc i u hu)
theorem RdX.keep {w w' : World} {a : Option Addr} {n cap : Nat} {X : List Value} (h : RdX w a n cap X) (hg : w.grownBy w' none) : RdX w' a n cap X := h.grown hg (fun _ _ _ => by simp)
theorem RdX.nil0 (w : World) : RdX w none 0 0 [] := ⟨rfl, Nat.le_refl _, Nat.zero_le _, fun _ => rfl, (fun u h => by cases h), fun h => absurd h (by decide)⟩
/-- a row of the call's own, in memory from block lo on -/
structure AnsX (e : TypeId) (w : World) (lo : Nat) (a : Option Addr) (n cap : Nat) (X : List Value) : Prop where
  own : w.ownsRow 0 e 1 (.slice a n cap) n X
  one : ∀ u, u ∈ X → u.oneCell' = true
  new : ∀ g, (Value.slice a n cap).ownBlock = some g → lo ≤ g
theorem AnsX.len {e : TypeId} {w : World} {lo : Nat} {a : Option Addr} {n cap : Nat} {X : List Value} (h : AnsX e w lo a n cap X) : X.length = n := by
  have := h.own.1; omega
theorem AnsX.cases {e : TypeId} {w : World} {lo : Nat} {a : Option Addr} {n cap : Nat} {X : List Value} (h : AnsX e w lo a n cap X) :
    (a = none ∧ n = 0 ∧ cap = 0) ∨ ∃ g, a = some ⟨g, 0, none⟩ ∧ lo ≤ g ∧ g < w.heap.size := by
  rcases h.own.2 with ⟨h1, h2⟩ | ⟨g, cap', cur, h1, _, h3, _⟩
  · simp only [Value.slice.injEq] at h1; exact .inl h1
  · simp only [Value.slice.injEq] at h1
    obtain ⟨rfl, _, _⟩ := h1
    exact .inr ⟨g, rfl, h.new g rfl, (Array.getElem?_eq_some_iff.1 h3).1⟩
theorem AnsX.ty {e : TypeId} {w : World} {lo : Nat} {g n cap : Nat} {X : List Value} (h : AnsX e w lo (some ⟨g, 0, none⟩) n cap X) : ∃ cs fr, w.heap[g]? = some (.cells cs e fr) := by
  rcases h.own.2 with ⟨h1, h2⟩ | ⟨g', cap', cur, h1, _, h3, _⟩
  · simp at h1
  · simp only [Value.slice.injEq, Option.some.injEq, Addr.mk.injEq] at h1
    obtain ⟨⟨rfl, _⟩, _⟩ := h1
    exact ⟨_, _, h3⟩
theorem AnsX.max {e : TypeId} {w : World} {lo : Nat} {a : Option Addr} {n cap : Nat} {X : List Value} (h : AnsX e w lo a n cap X) : n ≤ cap ∧ cap ≤ maxLen := by
  rcases h.own.2 with ⟨h1, h2⟩ | ⟨g, cap', cur, h1, _, h3, h4, h5, _⟩
  · simp only [Value.slice.injEq] at h1; obtain ⟨_, h6, h7⟩ := h1; subst h6; subst h7; exact ⟨Nat.le_refl _, Nat.zero_le _⟩
  · simp only [Value.slice.injEq] at h1; obtain ⟨_, _, h7⟩ := h1; subst h7; exact ⟨h4, h5⟩
theorem AnsX.rd {e : TypeId} {w : World} {lo : Nat} {a : Option Addr} {n cap : Nat} {X : List Value} (h : AnsX e w lo a n cap X) : RdX w a n cap X := by
  refine ⟨h.len, h.max.1, h.max.2, fun h0 => ?_, h.one, fun h0 => ?_⟩
  · rcases h.cases with ⟨_, _, h3⟩ | ⟨g, h1, _⟩
    · exact h3
    · rw [h0] at h1; cases h1
  · rcases h.cases with ⟨_, h2, _⟩ | ⟨g, rfl, _, hl⟩
    · omega
    · refine ⟨g, 0, rfl, hl, fun i u hu => ?_⟩
      have := h.own.cells (g := g) rfl i u hu
      rw [addr_add] at this
      exact this
theorem AnsX.kept {e : TypeId} {w w' : World} {lo : Nat} {a : Option Addr} {n cap : Nat} {X : List Value} {r : Option Nat} (h : AnsX e w lo a n cap X) (hg : w.grownBy w' r) (hne : (Value.slice a n cap).ownBlock = none ∨ (Value.slice a n cap).ownBlock ≠ r) : AnsX e w' lo a n cap X :=
  ⟨h.own.kept hg hne, h.one, h.new⟩
theorem AnsX.keep {e : TypeId} {w w' : World} {lo : Nat} {a : Option Addr} {n cap : Nat} {X : List Value} (h : AnsX e w lo a n cap X) (hg : w.grownBy w' none) : AnsX e w' lo a n cap X :=
  h.kept hg (by cases (Value.slice a n cap).ownBlock <;> simp)
theorem AnsX.low {e : TypeId} {w : World} {lo lo' : Nat} {a : Option Addr} {n cap : Nat} {X : List Value} (h : AnsX e w lo a n cap X) (hl : lo' ≤ lo) : AnsX e w lo' a n cap X :=
  ⟨h.own, h.one, fun g hg => Nat.le_trans hl (h.new g hg)⟩
theorem AnsX.lt {e : TypeId} {w : World} {lo : Nat} {a : Option Addr} {n cap : Nat} {X : List Value} (h : AnsX e w lo a n cap X) : ∀ g, (Value.slice a n cap).ownBlock = some g → g < w.heap.size := by
  intro g hg
  rcases h.cases with ⟨rfl, _, _⟩ | ⟨g', rfl, _, hl⟩
  · simp [Value.ownBlock] at hg
  · have : g' = g := by simpa [Value.ownBlock] using hg
    omega
theorem AnsX.nil0 (e : TypeId) (w : World) (lo : Nat) : AnsX e w lo none 0 0 [] := ⟨World.ownsRow_nil _ _ _ _, (fun u h => by cases h), fun g h => by simp [Value.ownBlock] at h⟩
theorem AnsX.up {e : TypeId} {w : World} {lo : Nat} {a : Option Addr} {n cap : Nat} {X : List Value} (h : AnsX e w lo a n cap X) : w.ownsRow lo e 1 (.slice a n cap) n X := by
  refine ⟨h.own.1, ?_⟩
  rcases h.own.2 with h1 | ⟨g, c1, cur, h1, h2, h3⟩
  · exact .inl h1
  · refine .inr ⟨g, c1, cur, h1, ?_, h3⟩
    simp only [Value.slice.injEq] at h1
    obtain ⟨rfl, _, _⟩ := h1
    exact h.new g rfl
theorem AnsX.cell {e : TypeId} {w : World} {lo g n cap : Nat} {X : List Value} (h : AnsX e w lo (some ⟨g, 0, none⟩) n cap X) (i : Nat) (u : Value) (hu : X[i]? = some u) : w.cell? ⟨g, i, none⟩ = some u := by
  have := h.own.cells (g := g) rfl i u hu
  rw [addr_add, Nat.zero_add] at this
  exact this
theorem AnsX.free {e : TypeId} {w : World} {lo g n cap : Nat} {X : List Value} (h : AnsX e w lo (some ⟨g, 0, none⟩) n cap X) (i : Nat) : w.frozen? ⟨g, i, none⟩ = false := h.own.frozenAt i
theorem AnsX.set {e : TypeId} {w : World} {lo g n cap : Nat} {X : List Value} (h : AnsX e w lo (some ⟨g, 0, none⟩) n cap X) (i : Nat) (u : Value) (h1 : u.oneCell' = true) : AnsX e (w.setCell ⟨g, i, none⟩ u) lo (some ⟨g, 0, none⟩) n cap (X.set i u) := by
  refine ⟨(h.own.stored i u).1, fun v hv => ?_, h.new⟩
  rcases List.mem_or_eq_of_mem_set hv with h2 | h2
  · exact h.one v h2
  · rw [h2]; exact h1
theorem own_baseX {w : World} {base : Nat} {e : TypeId} {v : Value} {n : Nat} {xs : List Value} (h : w.ownsRow base e 1 v n xs) : w.ownsRow 0 e 1 v n xs := by
  refine ⟨h.1, ?_⟩
  rcases h.2 with h2 | ⟨g, cap, cur, h3, h4, h5⟩
  · exact .inl h2
  · exact .inr ⟨g, cap, cur, h3, Nat.zero_le _, h5⟩
theorem own_ansX {w : World} {lo : Nat} {e : TypeId} {v : Value} {n : Nat} {xs : List Value} (h : w.ownsRow lo e 1 v n xs) (h1 : ∀ u, u ∈ xs → u.oneCell' = true) : ∃ a c, v = .slice a n c ∧ AnsX e w lo a n c xs := by
  have h' := own_baseX h
  rcases h.2 with ⟨rfl, h0⟩ | ⟨g, cap, cur, rfl, hb, hr⟩
  · subst h0
    exact ⟨none, 0, rfl, h', h1, fun g h => by simp [Value.ownBlock] at h⟩
  · exact ⟨some ⟨g, 0, none⟩, cap, rfl, h', h1, fun g' h => by have e : g = g' := Option.some.inj h; omega⟩
/-- 'append(v, x...)', v of the call's own, x whatever -/
theorem wpList_apX {t e : TypeId} {z : Value} {by' : Nat} (E : ElT t e z by') {w : World} {ops : Array Oper} {rest : List Oper} {o : Oper} {a : Act} {Q : Exit → Act → World → Prop} (hg : o.guard = none) (s x : Operand)
    (hop : o.op = Op.call { callee := .builtin .append, args := #[s, x], argTypes := #[t, t] }) (ao : Option Addr) (m co lo : Nat) (D : List Value) (hs : a.eval s = .slice ao m co)
    (hA : AnsX e w lo ao m co D) (hlo : lo ≤ w.heap.size) (ax : Option Addr) (nx cx : Nat) (X : List Value) (hx : a.eval x = .slice ax nx cx) (hR : RdX w ax nx cx X) (hb : (m + nx) * by' ≤ 140737488351232)
    (hb2 : m + nx ≤ 140737488351232)
    (hK : ∀ a' c' w', AnsX e w' lo a' (m + nx) c' (D ++ X) → w.grownBy w' (Value.slice ao m co).ownBlock → wpList Tryd.prog ops Q rest (a.put o.dst (.slice a' (m + nx) c')) w') :
    wpList Tryd.prog ops Q (o :: rest) a w := by
  obtain ⟨i0, hi, hz0, hz1, hz2⟩ := info_parts E.inf
  cases ax with
  | none =>
    have hc0 : cx = 0 := hR.nil rfl
    have hn0 : nx = 0 := by have := hR.le; omega
    subst hc0 hn0
    have e0 : X = [] := List.eq_nil_of_length_eq_zero hR.len
    subst e0
    refine wpList_append_own_none hg s x t hop 0 e i0 1 E.und hi (.slice ao m co) m D hs hA.own hx ?_
    exact hK ao co w (by rw [List.append_nil]; exact hA) (World.grownBy.refl _ _)
  | some ad =>
    have hl := hR.len
    have hq : ∀ u, u ∈ D ++ X → u.oneCell' = true := fun u hu => by
      rcases List.mem_append.1 hu with h | h
      · exact hA.one u h
      · exact hR.one u h
    have hpos := E.pos
    have hfq : ((m + nx) / 4) * by' * 4 ≤ (m + nx) * by' := by
      rw [Nat.mul_right_comm]
      exact Nat.mul_le_mul_right _ (Nat.div_mul_le_self _ _)
    have hfe : (m + nx + (m + nx) / 4 + 192) * by' = (m + nx) * by' + ((m + nx) / 4) * by' + 192 * by' := by rw [Nat.add_mul, Nat.add_mul]
    refine wpList_append_own_wide w hg s x t hop lo e i0 z 1 by' E.und hi hz0 hz1 hz2 E.one (by decide) (.slice ao m co) m D hs hA.up ad nx cx X hx (by omega) ?_ hR.one (by unfold maxLen; omega) (by rw [hfe]; omega) hlo ?_
    · intro j u hu
      have hj : j < X.length := (List.getElem?_eq_some_iff.1 hu).1
      obtain ⟨b, off, e', _, hc⟩ := hR.at' (by omega)
      cases e'
      rw [addr_add]
      exact hc j u hu
    · intro v' w' hown hgr _
      obtain ⟨a', c', rfl, hA'⟩ := own_ansX hown hq
      exact hK a' c' w' hA' hgr
end

section
open GF
theorem own_baseG {w : World} {base : Nat} {e : TypeId} {sz : Nat} {v : Value} {n : Nat} {xs : List Value} (h : w.ownsRow base e sz v n xs) : w.ownsRow 0 e sz v n xs := by
  refine ⟨h.1, ?_⟩
  rcases h.2 with h2 | ⟨g, cap, cur, h3, h4, h5⟩
  · exact .inl h2
  · exact .inr ⟨g, cap, cur, h3, Nat.zero_le _, h5⟩
theorem wpList_apS (w : World) {ops : Array Oper} {rest : List Oper} {o : Oper} {a : Act} {Q : Exit → Act → World → Prop} (hg : o.guard = none) (s x : Operand) (t e : TypeId) (i0 : TypeInfo) (z : Value) (sz by' : Nat) (hu : Tryd.prog.underlying t = some (.slice e)) (hi : Tryd.prog.info? e = some i0) (hz0 : i0.zero = some z) (hz1 : i0.size = sz) (hz2 : i0.bytes = by') (hzs : z.cells.size = sz) (hsz : 0 < sz)
    (hop : o.op = Op.call { callee := .builtin .append, args := #[s, x], argTypes := #[t, t] }) (v : Value) (n : Nat) (xs : List Value) (hs : a.eval s = v)
    (hown : w.ownsRow 0 e sz v n xs) (ad : Addr) (m c : Nat) (news : List Value) (hx : a.eval x = .slice (some ad) m c) (hn : news.length = m * sz)
    (hc : ∀ j u, news[j]? = some u → w.cell? (ad.add j) = some u) (h1 : ∀ u, u ∈ news → u.oneCell' = true) (hm : 0 < m) (hb1 : n + m ≤ maxLen) (hb2 : (n + m) * by' ≤ 140737488355328)
    (hK : ∀ g cap w', (v.ownBlock = some g ∨ w.heap.size ≤ g) → w.grownBy w' v.ownBlock → w'.ownsRow 0 e sz (.slice (some ⟨g, 0, none⟩) (n + m) cap) (n + m) (xs ++ news) →
      wpList Tryd.prog ops Q rest (a.put o.dst (.slice (some ⟨g, 0, none⟩) (n + m) cap)) w') :
    wpList Tryd.prog ops Q (o :: rest) a w := by
  have grow : ∀ (ao : Option Addr) (cap : Nat), v = .slice ao n cap → (ao = none → n = 0 ∧ cap = 0) → (∀ b, ao = some b → ∀ j u, xs[j]? = some u → w.cell? (b.add j) = some u) → cap < n + m → wpList Tryd.prog ops Q (o :: rest) a w := by
    intro ao cap hv hnone hcells hfull
    refine wpList_append_grows w hg s x t hop e i0 z sz by' hu hi hz0 hz1 hz2 hzs hsz ao n cap xs (by rw [hs, hv]) hnone (by rw [hown.1]) hcells ad m c news hx hn hc h1 hfull hb1 hb2 ?_
    intro v' w' hown' hgr
    rcases hown'.2 with ⟨_, h0⟩ | ⟨g, cap', cur, rfl, hge, hrest⟩
    · omega
    · exact hK g cap' w' (.inr hge) (grown_weak hgr _) (own_baseG hown')
  rcases hown.2 with ⟨rfl, h0⟩ | ⟨g, cap, cur, rfl, hbase, hh, hle, hmax, hsz', htake⟩
  · subst h0
    exact grow none 0 rfl (fun _ => ⟨rfl, rfl⟩) (fun b hb => by cases hb) (by omega)
  · by_cases hroom : n + m ≤ cap
    · refine wpList_append_fits w hg s x t hop 0 e i0 sz hu hi hz1 g n cap xs hs hown ad m c news hx hn hc h1 hroom ?_
      intro w' hown' hgr
      exact hK g cap w' (.inl rfl) hgr hown'
    · refine grow (some ⟨g, 0, none⟩) cap rfl (fun h => by cases h) ?_ (by omega)
      intro b hb j u hu
      cases hb
      exact hown.cells (g := g) rfl j u hu


theorem rdX_one (w : World) (e : TypeId) (v : Value) (h1 : v.oneCell' = true) : RdX (w.alloc (.cells #[v] e)) (some ⟨w.heap.size, 0, none⟩) 1 1 [v] := by
  refine ⟨rfl, Nat.le_refl _, by decide, (fun h => by cases h), ?_, fun _ => ⟨w.heap.size, 0, rfl, by simp, fun i u hu => ?_⟩⟩
  · intro u hu
    have e : u = v := by simpa using hu
    rw [e]; exact h1
  · rw [cell_of_row _ _ _ _ _ _ (heap_alloc_new w _), Nat.zero_add]
    simpa using hu
/-- 'append(v, u)', v of the call's own -/
theorem wpList_psX {t e : TypeId} {z : Value} {by' : Nat} (E : ElT t e z by') (w : World) (u : Value) (h1 : u.oneCell' = true) {ops : Array Oper} {rest : List Oper} {o : Oper} {a : Act} {Q : Exit → Act → World → Prop} (hg : o.guard = none) (s x : Operand)
    (hop : o.op = Op.call { callee := .builtin .append, args := #[s, x], argTypes := #[t, t] }) (ao : Option Addr) (m co lo : Nat) (D : List Value) (hs : a.eval s = .slice ao m co)
    (hA : AnsX e w lo ao m co D) (hlo : lo ≤ w.heap.size) (hx : a.eval x = .slice (some ⟨w.heap.size, 0, none⟩) 1 1) (hb : m + 1 ≤ 8000000000000)
    (hK : ∀ gx cx w', AnsX e w' lo (some ⟨gx, 0, none⟩) (m + 1) cx (D ++ [u]) → w.grownBy w' (Value.slice ao m co).ownBlock → ((Value.slice ao m co).ownBlock = some gx ∨ w.heap.size ≤ gx) → wpList Tryd.prog ops Q rest (a.put o.dst (.slice (some ⟨gx, 0, none⟩) (m + 1) cx)) w') :
    wpList Tryd.prog ops Q (o :: rest) a (w.alloc (.cells #[u] e)) := by
  obtain ⟨i0, hi, hz0, hz1, hz2⟩ := info_parts E.inf
  have gA := World.grownBy_alloc w (.cells #[u] e) none
  have hR := rdX_one w e u h1
  have hpos := E.pos
  have hle : (m + 1) * by' ≤ (m + 1) * 16 := Nat.mul_le_mul_left _ hpos
  refine wpList_apS _ hg s x t e i0 z 1 by' E.und hi hz0 hz1 hz2 E.one (by decide) hop (.slice ao m co) m D hs (hA.own.alloc _) ⟨w.heap.size, 0, none⟩ 1 1 [u] hx rfl ?_ hR.one (by decide) (by unfold maxLen; omega) (by omega) ?_
  · intro j v hv
    obtain ⟨b, off, e', _, hc⟩ := hR.at' (by decide)
    cases e'
    rw [addr_add]
    exact hc j v hv
  · intro g c w' hgx hgr hown
    have hsz := gA.size
    refine hK g c w' ⟨hown, ?_, fun y hy => ?_⟩ (grown_trans (grown_weak gA _) hgr) ?_
    · intro v hv
      rcases List.mem_append.1 hv with h | h
      · exact hA.one v h
      · exact hR.one v h
    · have e' : g = y := Option.some.inj hy
      subst e'
      rcases hgx with h | h
      · exact hA.new g h
      · omega
    · rcases hgx with h | h
      · exact .inl h
      · exact .inr (by omega)
theorem AnsX.bxR {e : TypeId} {w : World} {lo n c g : Nat} {a : Option Addr} {X : List Value} {t : TypeId} {cs : Array Value} (h : AnsX e w lo a n c X) (b : BxS w g t cs) (ht : e ≠ t) : (Value.slice a n c).ownBlock ≠ some g := by
  intro e2
  rcases h.own.2 with ⟨h1, _⟩ | ⟨g', cap', cur, h1, _, h3, _⟩
  · rw [h1] at e2; cases e2
  · rw [h1] at e2
    have e2 : g' = g := Option.some.inj e2
    subst e2
    unfold BxS at b
    rw [h3] at b
    have := Option.some.inj b
    cases this
    exact ht rfl
theorem AnsX.tyR {e : TypeId} {w : World} {lo n c : Nat} {a : Option Addr} {X : List Value} (h : AnsX e w lo a n c X) : ∀ z, (Value.slice a n c).ownBlock = some z → ∃ t cs, BxS w z t cs ∧ t = e := by
  intro z e2
  rcases h.own.2 with ⟨h1, _⟩ | ⟨g', cap', cur, h1, _, h3, _⟩
  · rw [h1] at e2; cases e2
  · rw [h1] at e2
    have e2 : g' = z := Option.some.inj e2
    subst e2
    exact ⟨e, cur, h3, rfl⟩
theorem Tryd.elU : ElT 22 5 (.int .u8 0) 1 := ⟨Tryd.underlying22, by kernel_rfl, rfl, by decide⟩
theorem Tryd.elJ : ElT 23 3 (.int .i64 0) 8 := ⟨Tryd.underlying23, by kernel_rfl, rfl, by decide⟩
theorem Tryd.info_sl : (Tryd.prog.info? 22).map (fun i => (i.zero, i.size, i.bytes)) = some (some (.slice none 0 0), 1, 24) := by kernel_rfl
/-- 'append(v, u)', u a slice of bytes -/
theorem wpList_psL (w : World) (p : Option Addr) (l c : Nat) {ops : Array Oper} {rest : List Oper} {o : Oper} {a : Act} {Q : Exit → Act → World → Prop} (hg : o.guard = none) (s x : Operand)
    (hop : o.op = Op.call { callee := .builtin .append, args := #[s, x], argTypes := #[52, 52] }) (ao : Option Addr) (m co lo : Nat) (D : List Value) (hs : a.eval s = .slice ao m co)
    (hA : AnsX 22 w lo ao m co D) (hlo : lo ≤ w.heap.size) (hx : a.eval x = .slice (some ⟨w.heap.size, 0, none⟩) 1 1) (hb : m + 1 ≤ 100000)
    (hK : ∀ gx cx w', AnsX 22 w' lo (some ⟨gx, 0, none⟩) (m + 1) cx (D ++ [.slice p l c]) → w.grownBy w' (Value.slice ao m co).ownBlock → ((Value.slice ao m co).ownBlock = some gx ∨ w.heap.size ≤ gx) → wpList Tryd.prog ops Q rest (a.put o.dst (.slice (some ⟨gx, 0, none⟩) (m + 1) cx)) w') :
    wpList Tryd.prog ops Q (o :: rest) a (w.alloc (.cells #[.slice p l c] 22)) := by
  obtain ⟨i0, hi, hz0, hz1, hz2⟩ := info_parts Tryd.info_sl
  have gA := World.grownBy_alloc w (.cells #[.slice p l c] 22) none
  have hR := rdX_one w 22 (.slice p l c) rfl
  refine wpList_apS _ hg s x 52 22 i0 _ 1 24 Tryd.underlying52 hi hz0 hz1 hz2 rfl (by decide) hop (.slice ao m co) m D hs (hA.own.alloc _) ⟨w.heap.size, 0, none⟩ 1 1 [.slice p l c] hx rfl ?_ hR.one (by decide) (by unfold maxLen; omega) (by omega) ?_
  · intro j v hv
    obtain ⟨b, off, e', _, hc⟩ := hR.at' (by decide)
    cases e'
    rw [addr_add]
    exact hc j v hv
  · intro g c' w' hgx hgr hown
    have hsz := gA.size
    refine hK g c' w' ⟨hown, ?_, fun y hy => ?_⟩ (grown_trans (grown_weak gA _) hgr) ?_
    · intro v hv
      rcases List.mem_append.1 hv with h | h
      · exact hA.one v h
      · exact hR.one v h
    · have e' : g = y := Option.some.inj hy
      subst e'
      rcases hgx with h | h
      · exact hA.new g h
      · omega
    · rcases hgx with h | h
      · exact .inl h
      · exact .inr (by omega)
/-- bytes of the field as cells -/
def gl (F : Nat → GF) (k : Nat) : List Value := (List.range k).map fun j => .int .u8 ((F j).v : Int)
theorem gl_succ (F : Nat → GF) (k : Nat) : gl F k ++ [.int .u8 ((F k).v : Int)] = gl F (k + 1) := by
  unfold gl
  rw [List.range_succ, List.map_append]
  rfl
theorem gl_len (F : Nat → GF) (k : Nat) : (gl F k).length = k := by unfold gl; rw [List.length_map, List.length_range]
theorem gl_at (F : Nat → GF) {k j : Nat} (h : j < k) : (gl F k)[j]? = some (.int .u8 ((F j).v : Int)) := by
  unfold gl
  rw [List.getElem?_map, List.getElem?_range h]
  rfl
def rwL (ρ cr : Nat → Nat) (n q : Nat) : List Value := (List.range q).map fun i => .slice (some ⟨ρ i, 0, none⟩) n (cr i)
theorem rwL_at (ρ cr : Nat → Nat) (n : Nat) {q i : Nat} (h : i < q) : (rwL ρ cr n q)[i]? = some (.slice (some ⟨ρ i, 0, none⟩) n (cr i)) := by
  unfold rwL
  rw [List.getElem?_map, List.getElem?_range h]
  rfl
theorem AnsX.bx {e : TypeId} {w : World} {lo g n c : Nat} {X : List Value} (h : AnsX e w lo (some ⟨g, 0, none⟩) n c X) : ∃ cs : Array Value, BxS w g e cs ∧ ∀ (i : Nat) (v : Value), X[i]? = some v → cs[i]? = some v := by
  rcases h.own.2 with ⟨h1, _⟩ | ⟨g', cap', cur, h1, _, h3, h4, h5, h6, h7⟩
  · cases h1
  · injection h1 with e1 e2 e3
    injection e1 with e1
    injection e1 with e1
    subst e1
    refine ⟨cur, h3, fun i v hv => ?_⟩
    rw [← h7, List.getElem?_take] at hv
    by_cases hh : i < n * 1
    · rw [if_pos hh] at hv
      rw [← hv]
      simp
    · rw [if_neg hh] at hv; cases hv
theorem AnsX.kR {e : TypeId} {w w' : World} {lo n c : Nat} {a : Option Addr} {X : List Value} {r : Option Nat} (h : AnsX e w lo a n c X) (hg : w.grownBy w' r) (hne : ∀ y, (Value.slice a n c).ownBlock = some y → r ≠ some y) : AnsX e w' lo a n c X :=
  h.kept hg (by
    cases e1 : (Value.slice a n c).ownBlock with
    | none => exact .inl rfl
    | some y => exact .inr (fun e2 => hne y e1 e2.symm))
/-- rows that are built, and the right side -/
structure Bld (w : World) (lo n q : Nat) (ρ cr : Nat → Nat) (M : Nat → Nat → GF) (bv : Nat → GF) (am : Option Addr) (cm : Nat) (ab : Option Addr) (cb : Nat) : Prop where
  m : AnsX 22 w lo am q cm (rwL ρ cr n q)
  r : ∀ i, i < q → AnsX 5 w lo (some ⟨ρ i, 0, none⟩) n (cr i) (gl (M i) n)
  b : AnsX 5 w lo ab q cb (gl bv q)
  inj : ∀ i j, i < q → j < q → ρ i = ρ j → i = j
  nb : ∀ i, i < q → (Value.slice ab q cb).ownBlock ≠ some (ρ i)
  z : q = 0 → am = none ∧ cm = 0 ∧ ab = none ∧ cb = 0
section
variable {w w' : World} {lo n q : Nat} {ρ cr : Nat → Nat} {M : Nat → Nat → GF} {bv : Nat → GF} {am ab : Option Addr} {cm cb : Nat}
theorem Bld.nil (w : World) (lo n : Nat) (M : Nat → Nat → GF) (bv : Nat → GF) : Bld w lo n 0 (fun _ => 0) (fun _ => 0) M bv none 0 none 0 :=
  ⟨AnsX.nil0 _ _ _, (fun i h => by omega), AnsX.nil0 _ _ _, (fun i j h => by omega), (fun i h => by omega), fun _ => ⟨rfl, rfl, rfl, rfl⟩⟩
theorem Bld.keep (h : Bld w lo n q ρ cr M bv am cm ab cb) (hg : w.grownBy w' none) : Bld w' lo n q ρ cr M bv am cm ab cb :=
  ⟨h.m.keep hg, fun i hi => (h.r i hi).keep hg, h.b.keep hg, h.inj, h.nb, h.z⟩
/-- one row more -/
theorem Bld.push (h : Bld w lo n q ρ cr M bv am cm ab cb) {w1 w2 w3 : World} {g c gx cx gb c' : Nat} (hlo : lo ≤ w.heap.size) (G1 : w.grownBy w1 none) (hrow : AnsX 5 w1 w.heap.size (some ⟨g, 0, none⟩) n c (gl (M q) n))
    (hm : AnsX 22 w2 lo (some ⟨gx, 0, none⟩) (q + 1) cx (rwL ρ cr n q ++ [.slice (some ⟨g, 0, none⟩) n c])) (g2 : w1.grownBy w2 (Value.slice am q cm).ownBlock)
    (hb : AnsX 5 w3 lo (some ⟨gb, 0, none⟩) (q + 1) c' (gl bv q ++ [.int .u8 ((bv q).v : Int)])) (g3 : w2.grownBy w3 (Value.slice ab q cb).ownBlock) (hx3 : (Value.slice ab q cb).ownBlock = some gb ∨ w2.heap.size ≤ gb) :
    Bld w3 lo n (q + 1) (fun i => if i = q then g else ρ i) (fun i => if i = q then c else cr i) M bv (some ⟨gx, 0, none⟩) cx (some ⟨gb, 0, none⟩) c' := by
  have hgl : w.heap.size ≤ g := hrow.new g rfl
  have hg1 : g < w1.heap.size := hrow.lt g rfl
  have hs1 := G1.size
  have hs2 := g2.size
  have hold : ∀ i, i < q → ρ i < w.heap.size := fun i hi => (h.r i hi).lt _ rfl
  have hab : ∀ y, (Value.slice ab q cb).ownBlock = some y → y < w.heap.size := h.b.lt
  have hm1 := h.m.keep G1
  -- what is of bytes is not touched by the first append
  have kA : ∀ {lo' : Nat} {a' : Option Addr} {n' c'' : Nat} {X : List Value}, AnsX 5 w1 lo' a' n' c'' X → AnsX 5 w2 lo' a' n' c'' X := fun k => k.kR g2 (fun y e1 e2 => by
    obtain ⟨t, cs, b1, e3⟩ := hm1.tyR y e2
    exact k.bxR b1 (by rw [e3]; decide) e1)
  have hrow2 := kA hrow
  have hr2 : ∀ i, i < q → AnsX 5 w2 lo (some ⟨ρ i, 0, none⟩) n (cr i) (gl (M i) n) := fun i hi => kA ((h.r i hi).keep G1)
  have hb2 := kA (h.b.keep G1)
  have hm3 : AnsX 22 w3 lo (some ⟨gx, 0, none⟩) (q + 1) cx (rwL ρ cr n q ++ [.slice (some ⟨g, 0, none⟩) n c]) := hm.kR g3 (fun y e1 e2 => by
    obtain ⟨t, cs, b1, e3⟩ := hb2.tyR y e2
    exact hm.bxR b1 (by rw [e3]; decide) e1)
  have hrow3 : AnsX 5 w3 lo (some ⟨g, 0, none⟩) n c (gl (M q) n) := (hrow2.kR g3 (fun y e1 e2 => by
    have e1 : g = y := Option.some.inj e1
    have := hab y e2
    omega)).low hlo
  refine ⟨?_, fun i hi => ?_, ?_, fun i j hi hj e => ?_, fun i hi => ?_, fun e => by omega⟩
  · have e : rwL (fun i => if i = q then g else ρ i) (fun i => if i = q then c else cr i) n (q + 1) = rwL ρ cr n q ++ [.slice (some ⟨g, 0, none⟩) n c] := by
      unfold rwL
      rw [List.range_succ, List.map_append]
      congr 1
      · refine List.map_congr_left fun i hi => ?_
        have : i ≠ q := by have := List.mem_range.1 hi; omega
        simp only [if_neg this]
      · simp
    rw [e]; exact hm3
  · by_cases e : i = q
    · subst e
      simp only [if_true]
      exact hrow3
    · simp only [if_neg e]
      exact (hr2 i (by omega)).kR g3 (fun y e1 e2 => by
        have e1 : ρ i = y := Option.some.inj e1
        exact h.nb i (by omega) (by rw [e1]; exact e2))
  · rw [← gl_succ]; exact hb
  · by_cases e1 : i = q
    · by_cases e2 : j = q
      · omega
      · simp only [if_pos e1, if_neg e2] at e
        have := hold j (by omega)
        omega
    · by_cases e2 : j = q
      · simp only [if_neg e1, if_pos e2] at e
        have := hold i (by omega)
        omega
      · simp only [if_neg e1, if_neg e2] at e
        exact h.inj i j (by omega) (by omega) e
  · intro e
    have e : gb = (if i = q then g else ρ i) := Option.some.inj e
    rcases hx3 with h3 | h3
    · have h4 := hab gb h3
      by_cases e1 : i = q
      · rw [if_pos e1] at e; omega
      · rw [if_neg e1] at e
        exact h.nb i (by omega) (by rw [← e]; exact h3)
    · by_cases e1 : i = q
      · rw [if_pos e1] at e; omega
      · rw [if_neg e1] at e
        have := hold i (by omega)
        omega
/-- all rows are there: the system in memory -/
theorem Bld.mt (h : Bld w lo n n ρ cr M bv am cm ab cb) (h0 : 0 < n) : ∃ gm gb, am = some ⟨gm, 0, none⟩ ∧ ab = some ⟨gb, 0, none⟩ ∧ MT w lo gm gb n ρ cr M bv := by
  have hm := h.m
  have hb := h.b
  have hnb := h.nb
  rcases hm.cases with ⟨_, e, _⟩ | ⟨gm, e1, l1, _⟩
  · omega
  · rcases hb.cases with ⟨_, e, _⟩ | ⟨gb, e2, l2, _⟩
    · omega
    · subst e1
      subst e2
      obtain ⟨A, bA, hA⟩ := hm.bx
      obtain ⟨B, bB, hB⟩ := hb.bx
      refine ⟨gm, gb, rfl, rfl, l1, l2, fun r hr => (h.r r hr).new _ rfl, ⟨A, bA, fun i hi => hA i _ (rwL_at ρ cr n hi)⟩, fun r hr => ?_, ⟨B, bB, fun j hj => hB j _ (gl_at bv hj)⟩, h.inj, fun r hr e => hnb r hr (by rw [e]; rfl)⟩
      obtain ⟨X, bX, hX⟩ := (h.r r hr).bx
      exact ⟨X, bX, fun j hj => hX j _ (gl_at _ hj)⟩
end
end
end Go.Proofs.YtdcfgaibppenaaaDoor
