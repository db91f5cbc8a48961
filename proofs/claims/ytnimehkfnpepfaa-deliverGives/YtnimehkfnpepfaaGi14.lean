import Derived.Test.YtnimehkfnpepfaaGi8
import Derived.Test.YtnimehkfnpepfaaGi13
import Derived.Test.YtnimehkfnpepfaaGi5
import Derived.Test.YtnimehkfnpepfaaGi6
import Derived.Test.YtnimehkfnpepfaaGi3
import Derived.Test.YtnimehkfnpepfaaGi7
import Derived.Test.YtnimehkfnpepfaaGi4
namespace Go.Proofs.Ytnimehkfnpepfaa
open Go.RowKit
set_option maxRecDepth 100000
set_option linter.unusedVariables false
set_option linter.unusedSimpArgs false

section
def ntMeta (V : Gv) : Nt := ⟨1, V.id, V.nm, (V.L.length : Int), 0, 0, [], [], 0, 0⟩
def ntEnd (V : Gv) : Nt := ⟨3, V.id, ⟨#[]⟩, (V.L.length : Int), ((smT V.L V.L.length % 4294967296 : Nat) : Int), 0, [], [], 0, 0⟩
def ntPie (V : Gv) (x e : Nat) : Nt := ⟨2, V.id, ⟨#[]⟩, 0, 0, (x : Int), (V.L.drop x).take (e - x), [], 0, 0⟩
def enN (V : Gv) (x y : Nat) : Nat := if x + V.mo.toNat ≤ y then x + V.mo.toNat else y
/-- what has to go once more, behind one note -/
def agD (V : Gv) (p : Int × Int) (G : List (Int × Int)) : Gv × List Nt :=
  if p.1 = 0 ∧ p.2 = 0 then ({ V with G := G }, [ntMeta V])
  else ({ V with G := if enN V p.1.toNat p.2.toNat = p.2.toNat then G else ((enN V p.1.toNat p.2.toNat : Nat), p.2) :: G }, [ntPie V p.1.toNat (enN V p.1.toNat p.2.toNat)])
/-- the next note -/
def snV (V : Gv) : Gv × List Nt × Bool :=
  if V.fi = true then ({ V with fi := false }, [ntMeta V], true)
  else match V.G with
    | p :: G => ((agD V p G).1, (agD V p G).2, true)
    | [] => if V.st ≠ 0 then (V, [], false)
      else if V.at' < (V.L.length : Int) then ({ V with at' := (enN V V.at'.toNat V.L.length : Nat) }, [ntPie V V.at'.toNat (enN V V.at'.toNat V.L.length)], true)
      else ({ V with st := 1, ti := 0, tr := 0 }, [ntEnd V], false)
def gvL : Nat → Gv → List Nt → Gv × List Nt
  | 0, V, T => (V, T)
  | k + 1, V, T => if (snV V).2.2 = true then gvL k (snV V).1 (T ++ (snV V).2.1) else ((snV V).1, T ++ (snV V).2.1)
def wtV (V : Gv) : Gv × List Nt :=
  if V.ti + 1 < V.pa then ({ V with ti := V.ti + 1 }, []) else if V.tr = V.li then ({ V with ti := 0, st := 4 }, []) else ({ V with ti := 0, tr := V.tr + 1 }, [ntEnd V])
/-- a tick -/
def tiG (V : Gv) : Gv × List Nt :=
  if V.st = 3 ∨ V.st = 4 then (V, [])
  else if V.st ≠ 0 then ((wtV (gvL V.bu.toNat V []).1).1, (gvL V.bu.toNat V []).2 ++ (wtV (gvL V.bu.toNat V []).1).2) else gvL V.bu.toNat V []
/-- what holds of a giver that may be, tick by tick -/
structure GvO (V : Gv) : Prop where
  mo : 1 ≤ V.mo ∧ V.mo ≤ 1024
  n9 : V.L.length ≤ 65536
  at0 : 0 ≤ V.at' ∧ V.at' ≤ (V.L.length : Int)
  gp : ∀ p, p ∈ V.G → (p.1 = 0 ∧ p.2 = 0) ∨ (0 ≤ p.1 ∧ p.1 < p.2 ∧ p.2 ≤ (V.L.length : Int))
  gl : V.G.length ≤ 1000
  ti : 0 ≤ V.ti ∧ V.ti < V.pa ∧ V.pa ≤ 1000
  tr : 0 ≤ V.tr ∧ V.tr ≤ V.li ∧ V.li ≤ 1000000
theorem enN_le (V : Gv) (x y : Nat) (h : x < y) (hm : 1 ≤ V.mo) : x < enN V x y ∧ enN V x y ≤ y := by
  unfold enN
  by_cases e : x + V.mo.toNat ≤ y
  · rw [if_pos e]; omega
  · rw [if_neg e]; omega
theorem agD_ok {V : Gv} (h : GvO V) {p : Int × Int} {G : List (Int × Int)} (e : V.G = p :: G) : GvO (agD V p G).1 := by
  have hp := h.gp p (by rw [e]; exact List.mem_cons_self ..)
  have hG : ∀ r, r ∈ G → (r.1 = 0 ∧ r.2 = 0) ∨ (0 ≤ r.1 ∧ r.1 < r.2 ∧ r.2 ≤ (V.L.length : Int)) := fun r hr => h.gp r (by rw [e]; exact List.mem_cons_of_mem _ hr)
  have hl := h.gl
  rw [e, List.length_cons] at hl
  unfold agD
  by_cases e1 : p.1 = 0 ∧ p.2 = 0
  · rw [if_pos e1]; exact ⟨h.mo, h.n9, h.at0, hG, by show G.length ≤ _; omega, h.ti, h.tr⟩
  · rw [if_neg e1]
    have h3 : 0 ≤ p.1 ∧ p.1 < p.2 ∧ p.2 ≤ (V.L.length : Int) := hp.resolve_left e1
    have he := enN_le V p.1.toNat p.2.toNat (by omega) h.mo.1
    refine ⟨h.mo, h.n9, h.at0, ?_, ?_, h.ti, h.tr⟩
    · show ∀ r, r ∈ (if enN V p.1.toNat p.2.toNat = p.2.toNat then G else _) → _
      by_cases e2 : enN V p.1.toNat p.2.toNat = p.2.toNat
      · rw [if_pos e2]; exact hG
      · rw [if_neg e2]
        intro r hr
        rcases List.mem_cons.1 hr with e3 | e3
        · rw [e3]; exact .inr ⟨by show (0 : Int) ≤ ((enN V p.1.toNat p.2.toNat : Nat) : Int); omega, by show ((enN V p.1.toNat p.2.toNat : Nat) : Int) < p.2; omega, h3.2.2⟩
        · exact hG r e3
    · show (if enN V p.1.toNat p.2.toNat = p.2.toNat then G else _).length ≤ _
      by_cases e2 : enN V p.1.toNat p.2.toNat = p.2.toNat
      · rw [if_pos e2]; omega
      · rw [if_neg e2, List.length_cons]; omega
theorem snV_ok {V : Gv} (h : GvO V) : GvO (snV V).1 ∧ ((snV V).2.2 = true → (snV V).2.1.length = 1) ∧ (snV V).2.1.length ≤ 1 := by
  unfold snV
  by_cases e : V.fi = true
  · rw [if_pos e]; exact ⟨⟨h.mo, h.n9, h.at0, h.gp, h.gl, h.ti, h.tr⟩, fun _ => rfl, Nat.le_refl _⟩
  · rw [if_neg e]
    cases hG : V.G with
    | cons p G =>
      have := agD_ok h hG
      refine ⟨this, fun _ => ?_, ?_⟩
      · show (agD V p G).2.length = 1
        unfold agD; by_cases e1 : p.1 = 0 ∧ p.2 = 0
        · rw [if_pos e1]; rfl
        · rw [if_neg e1]; rfl
      · show (agD V p G).2.length ≤ 1
        unfold agD; by_cases e1 : p.1 = 0 ∧ p.2 = 0
        · rw [if_pos e1]; exact Nat.le_refl _
        · rw [if_neg e1]; exact Nat.le_refl _
    | nil =>
      show GvO (if V.st ≠ 0 then _ else _ : Gv × List Nt × Bool).1 ∧ _
      dsimp only
      by_cases e1 : V.st ≠ 0
      · rw [if_pos e1]; exact ⟨h, (fun e => by cases e), Nat.zero_le _⟩
      · rw [if_neg e1]
        by_cases e2 : V.at' < (V.L.length : Int)
        · rw [if_pos e2]
          have he := enN_le V V.at'.toNat V.L.length (by have := h.at0; omega) h.mo.1
          have ha := h.at0
          exact ⟨⟨h.mo, h.n9, ⟨(by show (0 : Int) ≤ ((enN V V.at'.toNat V.L.length : Nat) : Int); omega), (by show ((enN V V.at'.toNat V.L.length : Nat) : Int) ≤ (V.L.length : Int); omega)⟩, (fun r hr => by cases hr), Nat.zero_le _, h.ti, h.tr⟩, (fun _ => rfl), Nat.le_refl _⟩
        · rw [if_neg e2]
          have ht := h.ti
          have hr := h.tr
          exact ⟨⟨h.mo, h.n9, h.at0, (fun r hr => by cases hr), Nat.zero_le _, ⟨(by show (0 : Int) ≤ 0; omega), (by show (0 : Int) < V.pa; omega), ht.2.2⟩, ⟨(by show (0 : Int) ≤ 0; omega), (by show (0 : Int) ≤ V.li; omega), hr.2.2⟩⟩, (fun e => by cases e), Nat.le_refl _⟩
theorem gvL_ok : ∀ (k : Nat) (V : Gv) (T : List Nt), GvO V → GvO (gvL k V T).1 := by
  intro k
  induction k with
  | zero => intro V T h; exact h
  | succ k ih =>
    intro V T h
    show GvO (if (snV V).2.2 = true then gvL k (snV V).1 (T ++ (snV V).2.1) else _).1
    by_cases e : (snV V).2.2 = true
    · rw [if_pos e]; exact ih _ _ (snV_ok h).1
    · rw [if_neg e]; exact (snV_ok h).1
theorem gvL_len : ∀ (k : Nat) (V : Gv) (T : List Nt), GvO V → (gvL k V T).2.length ≤ T.length + k := by
  intro k
  induction k with
  | zero => intro V T h; exact Nat.le_refl _
  | succ k ih =>
    intro V T h
    show (if (snV V).2.2 = true then gvL k (snV V).1 (T ++ (snV V).2.1) else _).2.length ≤ _
    have h1 := (snV_ok h).2.2
    by_cases e : (snV V).2.2 = true
    · rw [if_pos e]
      have := ih (snV V).1 (T ++ (snV V).2.1) (snV_ok h).1
      rw [List.length_append] at this
      omega
    · rw [if_neg e]
      show (T ++ (snV V).2.1).length ≤ _
      rw [List.length_append]; omega
/-- a giver at work, as data -/
def GA (wB w : World) (gw : Nat) (V : Gv) (T : List Nt) : Prop :=
  ∃ a c q d na nc xs, xs.map Nx.dt = T ∧ GW wB w gw V.id V.nm V.mo V.bu V.st V.fi V.at' V.ti V.pa V.tr V.li a V.L.length c V.L q V.G.length d V.G na xs.length nc xs
theorem GA.of {wB w : World} {gw : Nat} {V : Gv} {a : Option Addr} {n c : Nat} {q : Option Addr} {m d : Nat} {na : Option Addr} {nn nc : Nat} {xs : List Nx} {T : List Nt} (hT : xs.map Nx.dt = T) (h : GW wB w gw V.id V.nm V.mo V.bu V.st V.fi V.at' V.ti V.pa V.tr V.li a n c V.L q m d V.G na nn nc xs) : GA wB w gw V T := by
  have e1 := h.A.len
  have e2 := h.O.len
  have e3 := h.N.len
  subst e1 e2 e3
  exact ⟨a, c, q, d, na, nc, xs, hT, h⟩
theorem map_one {xs : List Nx} {T : List Nt} (hT : xs.map Nx.dt = T) (x : Nx) (t : Nt) (h : x.dt = t) : (xs ++ [x]).map Nx.dt = T ++ [t] := by
  rw [List.map_append, hT]; show T ++ [x.dt] = _; rw [h]

set_option maxHeartbeats 16000000 in
/-- a tick more -/
theorem wait_any (wB w : World) (gw : Nat) (V : Gv) (T : List Nt) (h : GA wB w gw V T) (ho : GvO V) (hT1 : T.length ≤ 1000) : Calls Try.prog 95 #[.pointer (some ⟨gw, 0, none⟩)] w fun e w' => e = .returned (.tuple #[]) ∧ GA wB w' gw (wtV V).1 (T ++ (wtV V).2) ∧ KpT w w' := by
  obtain ⟨a, c, q, d, na, nc, xs, hT, h⟩ := h
  obtain ⟨id, nm, mo, bu, st, fi, at', ti, pa, tr, li, L, G⟩ := V
  have hti := ho.ti
  have htr := ho.tr
  dsimp only at h hti htr
  have hxl : xs.length ≤ 1000 := by rw [← hT, List.length_map] at hT1; exact hT1
  have HXL : Hid _ := hxl
  clear hT1 ho hxl
  have HT : Hid _ := hT
  clear hT
  obtain ⟨t1, ht1⟩ : ∃ t1, ti + 1 = t1 := ⟨_, rfl⟩
  have hw1 : IntKind.i64.wrap (ti + 1) = t1 := by rw [ht1]; exact wrap_i64_in _ (by omega) (by omega)
  have x9 : w.cell? ⟨gw, 9, none⟩ = some (.int .i64 ti) := h.bx.cell 9 (by show 9 < 14; decide)
  unfold wtV
  show Calls _ _ _ _ fun e w' => _ ∧ GA wB w' gw (if ti + 1 < pa then _ else if tr = li then _ else _ : Gv × List Nt).1 (T ++ (if ti + 1 < pa then _ else if tr = li then _ else _ : Gv × List Nt).2) ∧ _
  rw [ht1]
  have HT1 : Hid _ := ht1
  clear ht1
  go_enter Try.func95, Try.ntmps95
  refine wp_seq_k fun K1 hK1 => ?_
  have HK1 : Hid _ := hK1
  clear hK1
  refine wp_seq_k fun K2 hK2 => ?_
  have HK2 : Hid _ := hK2
  clear hK2
  have s0 : True := trivial
  go_wp2_with (have _t := s0; clear s0; refine wpList_stC _ rfl _ _ _ rfl gw 9 100 _ #[.int .i64 id, .string nm, .slice a L.length c, .int .i64 mo, .int .i64 bu, .int .i64 st, .bool fi, .int .i64 at', .slice q G.length d, .int .i64 t1, .int .i64 pa, .int .i64 tr, .int .i64 li, .slice na xs.length nc] (.int .i64 t1) rfl rfl h.bx (stc_int _ _ _) (by show 9 < 14; decide) rfl ?_; intro w1 bw1 uw1)
  refine HK2.out _ _ ?_
  clear HK2
  have h1 := h.set uw1 bw1
  have k1 : KpT w w1 := KpT.bx h.bx (by decide) uw1
  clear x9 uw1 bw1 h
  refine wp_seq_k fun K3 hK3 => ?_
  have HK3 : Hid _ := hK3
  clear hK3
  by_cases hlt : t1 < pa
  · have HL : Hid _ := hlt
    have Gd := grown_drew w1 none
    have hd := h1.keepN Gd
    have SS : BxS w1.drew gw 100 #[.int .i64 id, .string nm, .slice a L.length c, .int .i64 mo, .int .i64 bu, .int .i64 st, .bool fi, .int .i64 at', .slice q G.length d, .int .i64 t1, .int .i64 pa, .int .i64 tr, .int .i64 li, .slice na xs.length nc] := hd.bx
    refine wp_regionL (fun wz => BxS wz gw 100 #[.int .i64 id, .string nm, .slice a L.length c, .int .i64 mo, .int .i64 bu, .int .i64 st, .bool fi, .int .i64 at', .slice q G.length d, .int .i64 t1, .int .i64 pa, .int .i64 tr, .int .i64 li, .slice na xs.length nc]) [] #[false, false, false, false, false, false, false, false, false, false, false] rfl (by kernel_rfl) ?_
    refine wpAnyZ_take [] 0 (.pointer (some ⟨gw, 0, none⟩)) rfl (by kernel_rfl) (fun _ _ _ h => h) SS rfl (by intro wz hz; go_simp) ?_
    try simp only [List.getElem_toArray, List.getElem_cons_succ, List.getElem_cons_zero, Act.put, List.setIfInBounds_toArray, List.set_cons_zero, List.set_cons_succ]
    refine wpAnyZ_take [] 1 (.pointer (some ⟨gw, 0, none⟩)) rfl (by kernel_rfl) (fun _ _ _ h => h) SS rfl (by intro wz hz; go_simp) ?_
    try simp only [List.getElem_toArray, List.getElem_cons_succ, List.getElem_cons_zero, Act.put, List.setIfInBounds_toArray, List.set_cons_zero, List.set_cons_succ]
    refine wpAnyZ_take [] 2 (.pointer (some ⟨gw, 0, none⟩)) rfl (by kernel_rfl) (fun _ _ _ h => h) SS rfl (by intro wz hz; go_simp) ?_
    try simp only [List.getElem_toArray, List.getElem_cons_succ, List.getElem_cons_zero, Act.put, List.setIfInBounds_toArray, List.set_cons_zero, List.set_cons_succ]
    refine wpAnyZ_take [] 3 (.pointer (some ⟨gw, 9, none⟩)) rfl (by kernel_rfl) (fun _ _ _ h => h) SS rfl (by intro wz hz; go_simp) ?_
    try simp only [List.getElem_toArray, List.getElem_cons_succ, List.getElem_cons_zero, Act.put, List.setIfInBounds_toArray, List.set_cons_zero, List.set_cons_succ]
    refine wpAnyZ_take [] 4 (.int .i64 t1) rfl (by kernel_rfl) (fun _ _ _ h => h) SS rfl (by intro wz hz; have z : wz.cell? ⟨gw, 9, none⟩ = some (.int .i64 t1) := hz.cell 9 (by show 9 < 14; decide); go_simp) ?_
    try simp only [List.getElem_toArray, List.getElem_cons_succ, List.getElem_cons_zero, Act.put, List.setIfInBounds_toArray, List.set_cons_zero, List.set_cons_succ]
    refine wpAnyZ_take [] 5 (.pointer (some ⟨gw, 0, none⟩)) rfl (by kernel_rfl) (fun _ _ _ h => h) SS rfl (by intro wz hz; go_simp) ?_
    try simp only [List.getElem_toArray, List.getElem_cons_succ, List.getElem_cons_zero, Act.put, List.setIfInBounds_toArray, List.set_cons_zero, List.set_cons_succ]
    refine wpAnyZ_take [] 6 (.pointer (some ⟨gw, 0, none⟩)) rfl (by kernel_rfl) (fun _ _ _ h => h) SS rfl (by intro wz hz; go_simp) ?_
    try simp only [List.getElem_toArray, List.getElem_cons_succ, List.getElem_cons_zero, Act.put, List.setIfInBounds_toArray, List.set_cons_zero, List.set_cons_succ]
    refine wpAnyZ_take [] 7 (.pointer (some ⟨gw, 0, none⟩)) rfl (by kernel_rfl) (fun _ _ _ h => h) SS rfl (by intro wz hz; go_simp) ?_
    try simp only [List.getElem_toArray, List.getElem_cons_succ, List.getElem_cons_zero, Act.put, List.setIfInBounds_toArray, List.set_cons_zero, List.set_cons_succ]
    refine wpAnyZ_take [] 8 (.pointer (some ⟨gw, 10, none⟩)) rfl (by kernel_rfl) (fun _ _ _ h => h) SS rfl (by intro wz hz; go_simp) ?_
    try simp only [List.getElem_toArray, List.getElem_cons_succ, List.getElem_cons_zero, Act.put, List.setIfInBounds_toArray, List.set_cons_zero, List.set_cons_succ]
    refine wpAnyZ_take [] 9 (.int .i64 pa) rfl (by kernel_rfl) (fun _ _ _ h => h) SS rfl (by intro wz hz; have z : wz.cell? ⟨gw, 10, none⟩ = some (.int .i64 pa) := hz.cell 10 (by show 10 < 14; decide); go_simp) ?_
    try simp only [List.getElem_toArray, List.getElem_cons_succ, List.getElem_cons_zero, Act.put, List.setIfInBounds_toArray, List.set_cons_zero, List.set_cons_succ]
    refine wpAnyZ_take [] 10 (.bool true) rfl (by kernel_rfl) (fun _ _ _ h => h) SS rfl (by intro wz hz; go_simp) ?_
    try simp only [List.getElem_toArray, List.getElem_cons_succ, List.getElem_cons_zero, Act.put, List.setIfInBounds_toArray, List.set_cons_zero, List.set_cons_succ]
    refine wpAnyZ_doneB (by kernel_rfl) ?_ _
    refine HK3.out _ _ ?_
    clear HK3
    refine wp_cond_true rfl ?_
    refine wp_ret ?_
    try simp only [Exit.then]
    refine bodyPost_ret (results_none rfl _ _ _) rfl ?_
    refine ⟨rfl, ?_, k1.trans (KpT.none Gd)⟩
    try rw [if_pos HL.out]
    show GA wB _ gw (⟨id, nm, mo, bu, st, fi, at', t1, pa, tr, li, L, G⟩ : Gv) (T ++ [])
    rw [List.append_nil]
    exact GA.of HT.out (V := ⟨id, nm, mo, bu, st, fi, at', t1, pa, tr, li, L, G⟩) hd
  · have HL : Hid _ := hlt
    have Gd := grown_drew w1 none
    have hd := h1.keepN Gd
    have SS : BxS w1.drew gw 100 #[.int .i64 id, .string nm, .slice a L.length c, .int .i64 mo, .int .i64 bu, .int .i64 st, .bool fi, .int .i64 at', .slice q G.length d, .int .i64 t1, .int .i64 pa, .int .i64 tr, .int .i64 li, .slice na xs.length nc] := hd.bx
    refine wp_regionL (fun wz => BxS wz gw 100 #[.int .i64 id, .string nm, .slice a L.length c, .int .i64 mo, .int .i64 bu, .int .i64 st, .bool fi, .int .i64 at', .slice q G.length d, .int .i64 t1, .int .i64 pa, .int .i64 tr, .int .i64 li, .slice na xs.length nc]) [] #[false, false, false, false, false, false, false, false, false, false, false] rfl (by kernel_rfl) ?_
    refine wpAnyZ_take [] 0 (.pointer (some ⟨gw, 0, none⟩)) rfl (by kernel_rfl) (fun _ _ _ h => h) SS rfl (by intro wz hz; go_simp) ?_
    try simp only [List.getElem_toArray, List.getElem_cons_succ, List.getElem_cons_zero, Act.put, List.setIfInBounds_toArray, List.set_cons_zero, List.set_cons_succ]
    refine wpAnyZ_take [] 1 (.pointer (some ⟨gw, 0, none⟩)) rfl (by kernel_rfl) (fun _ _ _ h => h) SS rfl (by intro wz hz; go_simp) ?_
    try simp only [List.getElem_toArray, List.getElem_cons_succ, List.getElem_cons_zero, Act.put, List.setIfInBounds_toArray, List.set_cons_zero, List.set_cons_succ]
    refine wpAnyZ_take [] 2 (.pointer (some ⟨gw, 0, none⟩)) rfl (by kernel_rfl) (fun _ _ _ h => h) SS rfl (by intro wz hz; go_simp) ?_
    try simp only [List.getElem_toArray, List.getElem_cons_succ, List.getElem_cons_zero, Act.put, List.setIfInBounds_toArray, List.set_cons_zero, List.set_cons_succ]
    refine wpAnyZ_take [] 3 (.pointer (some ⟨gw, 9, none⟩)) rfl (by kernel_rfl) (fun _ _ _ h => h) SS rfl (by intro wz hz; go_simp) ?_
    try simp only [List.getElem_toArray, List.getElem_cons_succ, List.getElem_cons_zero, Act.put, List.setIfInBounds_toArray, List.set_cons_zero, List.set_cons_succ]
    refine wpAnyZ_take [] 4 (.int .i64 t1) rfl (by kernel_rfl) (fun _ _ _ h => h) SS rfl (by intro wz hz; have z : wz.cell? ⟨gw, 9, none⟩ = some (.int .i64 t1) := hz.cell 9 (by show 9 < 14; decide); go_simp) ?_
    try simp only [List.getElem_toArray, List.getElem_cons_succ, List.getElem_cons_zero, Act.put, List.setIfInBounds_toArray, List.set_cons_zero, List.set_cons_succ]
    refine wpAnyZ_take [] 5 (.pointer (some ⟨gw, 0, none⟩)) rfl (by kernel_rfl) (fun _ _ _ h => h) SS rfl (by intro wz hz; go_simp) ?_
    try simp only [List.getElem_toArray, List.getElem_cons_succ, List.getElem_cons_zero, Act.put, List.setIfInBounds_toArray, List.set_cons_zero, List.set_cons_succ]
    refine wpAnyZ_take [] 6 (.pointer (some ⟨gw, 0, none⟩)) rfl (by kernel_rfl) (fun _ _ _ h => h) SS rfl (by intro wz hz; go_simp) ?_
    try simp only [List.getElem_toArray, List.getElem_cons_succ, List.getElem_cons_zero, Act.put, List.setIfInBounds_toArray, List.set_cons_zero, List.set_cons_succ]
    refine wpAnyZ_take [] 7 (.pointer (some ⟨gw, 0, none⟩)) rfl (by kernel_rfl) (fun _ _ _ h => h) SS rfl (by intro wz hz; go_simp) ?_
    try simp only [List.getElem_toArray, List.getElem_cons_succ, List.getElem_cons_zero, Act.put, List.setIfInBounds_toArray, List.set_cons_zero, List.set_cons_succ]
    refine wpAnyZ_take [] 8 (.pointer (some ⟨gw, 10, none⟩)) rfl (by kernel_rfl) (fun _ _ _ h => h) SS rfl (by intro wz hz; go_simp) ?_
    try simp only [List.getElem_toArray, List.getElem_cons_succ, List.getElem_cons_zero, Act.put, List.setIfInBounds_toArray, List.set_cons_zero, List.set_cons_succ]
    refine wpAnyZ_take [] 9 (.int .i64 pa) rfl (by kernel_rfl) (fun _ _ _ h => h) SS rfl (by intro wz hz; have z : wz.cell? ⟨gw, 10, none⟩ = some (.int .i64 pa) := hz.cell 10 (by show 10 < 14; decide); go_simp) ?_
    try simp only [List.getElem_toArray, List.getElem_cons_succ, List.getElem_cons_zero, Act.put, List.setIfInBounds_toArray, List.set_cons_zero, List.set_cons_succ]
    refine wpAnyZ_take [] 10 (.bool false) rfl (by kernel_rfl) (fun _ _ _ h => h) SS rfl (by intro wz hz; go_simp) ?_
    try simp only [List.getElem_toArray, List.getElem_cons_succ, List.getElem_cons_zero, Act.put, List.setIfInBounds_toArray, List.set_cons_zero, List.set_cons_succ]
    refine wpAnyZ_doneB (by kernel_rfl) ?_ _
    refine HK3.out _ _ ?_
    clear HK3
    refine wp_cond_false rfl ?_
    refine wp_skip ?_
    try simp only [Exit.then]
    refine HK1.out _ _ ?_
    clear HK1
    have k2 := k1.trans (KpT.none Gd)
    clear Gd SS h1 k1
    generalize w1.drew = w2 at *
    refine wp_seq_k fun K4 hK4 => ?_
    have HK4 : Hid _ := hK4
    clear hK4
    have s0 : True := trivial
    go_wp2_with (have _t := s0; clear s0; refine wpList_stC _ rfl _ _ _ rfl gw 9 100 _ #[.int .i64 id, .string nm, .slice a L.length c, .int .i64 mo, .int .i64 bu, .int .i64 st, .bool fi, .int .i64 at', .slice q G.length d, .int .i64 0, .int .i64 pa, .int .i64 tr, .int .i64 li, .slice na xs.length nc] (.int .i64 0) rfl rfl hd.bx (stc_int _ _ _) (by show 9 < 14; decide) rfl ?_; intro w3 bw3 uw3)
    refine HK4.out _ _ ?_
    clear HK4
    have h3 := hd.set uw3 bw3
    have k3 := k2.trans (KpT.bx hd.bx (by decide) uw3)
    clear uw3 bw3 hd k2
    refine wp_seq_k fun K5 hK5 => ?_
    have HK5 : Hid _ := hK5
    clear hK5
    refine wp_seq_k fun K6 hK6 => ?_
    have HK6 : Hid _ := hK6
    clear hK6
    by_cases hel : tr = li
    · have hel2 : (tr == li) = true := by rw [hel]; exact beq_self_eq_true _
      have HEL : Hid _ := hel
      clear hel
      have Gd := grown_drew w3 none
      have hd := h3.keepN Gd
      have SS : BxS w3.drew gw 100 #[.int .i64 id, .string nm, .slice a L.length c, .int .i64 mo, .int .i64 bu, .int .i64 st, .bool fi, .int .i64 at', .slice q G.length d, .int .i64 0, .int .i64 pa, .int .i64 tr, .int .i64 li, .slice na xs.length nc] := hd.bx
      refine wp_regionL (fun wz => BxS wz gw 100 #[.int .i64 id, .string nm, .slice a L.length c, .int .i64 mo, .int .i64 bu, .int .i64 st, .bool fi, .int .i64 at', .slice q G.length d, .int .i64 0, .int .i64 pa, .int .i64 tr, .int .i64 li, .slice na xs.length nc]) [] #[false, false, false, false, false, false, false, false, false, false, false] rfl (by kernel_rfl) ?_
      refine wpAnyZ_take [] 0 (.pointer (some ⟨gw, 0, none⟩)) rfl (by kernel_rfl) (fun _ _ _ h => h) SS rfl (by intro wz hz; go_simp) ?_
      try simp only [List.getElem_toArray, List.getElem_cons_succ, List.getElem_cons_zero, Act.put, List.setIfInBounds_toArray, List.set_cons_zero, List.set_cons_succ]
      refine wpAnyZ_take [] 1 (.pointer (some ⟨gw, 0, none⟩)) rfl (by kernel_rfl) (fun _ _ _ h => h) SS rfl (by intro wz hz; go_simp) ?_
      try simp only [List.getElem_toArray, List.getElem_cons_succ, List.getElem_cons_zero, Act.put, List.setIfInBounds_toArray, List.set_cons_zero, List.set_cons_succ]
      refine wpAnyZ_take [] 2 (.pointer (some ⟨gw, 0, none⟩)) rfl (by kernel_rfl) (fun _ _ _ h => h) SS rfl (by intro wz hz; go_simp) ?_
      try simp only [List.getElem_toArray, List.getElem_cons_succ, List.getElem_cons_zero, Act.put, List.setIfInBounds_toArray, List.set_cons_zero, List.set_cons_succ]
      refine wpAnyZ_take [] 3 (.pointer (some ⟨gw, 11, none⟩)) rfl (by kernel_rfl) (fun _ _ _ h => h) SS rfl (by intro wz hz; go_simp) ?_
      try simp only [List.getElem_toArray, List.getElem_cons_succ, List.getElem_cons_zero, Act.put, List.setIfInBounds_toArray, List.set_cons_zero, List.set_cons_succ]
      refine wpAnyZ_take [] 4 (.int .i64 tr) rfl (by kernel_rfl) (fun _ _ _ h => h) SS rfl (by intro wz hz; have z : wz.cell? ⟨gw, 11, none⟩ = some (.int .i64 tr) := hz.cell 11 (by show 11 < 14; decide); go_simp) ?_
      try simp only [List.getElem_toArray, List.getElem_cons_succ, List.getElem_cons_zero, Act.put, List.setIfInBounds_toArray, List.set_cons_zero, List.set_cons_succ]
      refine wpAnyZ_take [] 5 (.pointer (some ⟨gw, 0, none⟩)) rfl (by kernel_rfl) (fun _ _ _ h => h) SS rfl (by intro wz hz; go_simp) ?_
      try simp only [List.getElem_toArray, List.getElem_cons_succ, List.getElem_cons_zero, Act.put, List.setIfInBounds_toArray, List.set_cons_zero, List.set_cons_succ]
      refine wpAnyZ_take [] 6 (.pointer (some ⟨gw, 0, none⟩)) rfl (by kernel_rfl) (fun _ _ _ h => h) SS rfl (by intro wz hz; go_simp) ?_
      try simp only [List.getElem_toArray, List.getElem_cons_succ, List.getElem_cons_zero, Act.put, List.setIfInBounds_toArray, List.set_cons_zero, List.set_cons_succ]
      refine wpAnyZ_take [] 7 (.pointer (some ⟨gw, 0, none⟩)) rfl (by kernel_rfl) (fun _ _ _ h => h) SS rfl (by intro wz hz; go_simp) ?_
      try simp only [List.getElem_toArray, List.getElem_cons_succ, List.getElem_cons_zero, Act.put, List.setIfInBounds_toArray, List.set_cons_zero, List.set_cons_succ]
      refine wpAnyZ_take [] 8 (.pointer (some ⟨gw, 12, none⟩)) rfl (by kernel_rfl) (fun _ _ _ h => h) SS rfl (by intro wz hz; go_simp) ?_
      try simp only [List.getElem_toArray, List.getElem_cons_succ, List.getElem_cons_zero, Act.put, List.setIfInBounds_toArray, List.set_cons_zero, List.set_cons_succ]
      refine wpAnyZ_take [] 9 (.int .i64 li) rfl (by kernel_rfl) (fun _ _ _ h => h) SS rfl (by intro wz hz; have z : wz.cell? ⟨gw, 12, none⟩ = some (.int .i64 li) := hz.cell 12 (by show 12 < 14; decide); go_simp) ?_
      try simp only [List.getElem_toArray, List.getElem_cons_succ, List.getElem_cons_zero, Act.put, List.setIfInBounds_toArray, List.set_cons_zero, List.set_cons_succ]
      refine wpAnyZ_take [] 10 (.bool true) rfl (by kernel_rfl) (fun _ _ _ h => h) SS rfl (by intro wz hz; go_simp) ?_
      try simp only [List.getElem_toArray, List.getElem_cons_succ, List.getElem_cons_zero, Act.put, List.setIfInBounds_toArray, List.set_cons_zero, List.set_cons_succ]
      refine wpAnyZ_doneB (by kernel_rfl) ?_ _
      refine HK6.out _ _ ?_
      clear HK6
      refine wp_cond_true rfl ?_
      clear HK5
      refine wp_seq_k fun K7 hK7 => ?_
      have HK7 : Hid _ := hK7
      clear hK7
      have s0 : True := trivial
      go_wp2_with (have _t := s0; clear s0; refine wpList_stC _ rfl _ _ _ rfl gw 5 100 _ #[.int .i64 id, .string nm, .slice a L.length c, .int .i64 mo, .int .i64 bu, .int .i64 4, .bool fi, .int .i64 at', .slice q G.length d, .int .i64 0, .int .i64 pa, .int .i64 tr, .int .i64 li, .slice na xs.length nc] (.int .i64 4) rfl rfl hd.bx (stc_stg _ _ _) (by show 5 < 14; decide) rfl ?_; intro w4 bw4 uw4)
      refine HK7.out _ _ ?_
      clear HK7
      refine wp_ret ?_
      try simp only [Exit.then]
      refine bodyPost_ret (results_none rfl _ _ _) rfl ?_
      refine ⟨rfl, ?_, (k3.trans (KpT.none Gd)).trans (KpT.bx hd.bx (by decide) uw4)⟩
      try rw [if_neg HL.out, if_pos HEL.out]
      show GA wB _ gw (⟨id, nm, mo, bu, 4, fi, at', 0, pa, tr, li, L, G⟩ : Gv) (T ++ [])
      rw [List.append_nil]
      exact GA.of HT.out (V := ⟨id, nm, mo, bu, 4, fi, at', 0, pa, tr, li, L, G⟩) (hd.set uw4 bw4)
    · have hel2 : (tr == li) = false := beq_eq_false_iff_ne.2 hel
      have Gd := grown_drew w3 none
      have hd := h3.keepN Gd
      have SS : BxS w3.drew gw 100 #[.int .i64 id, .string nm, .slice a L.length c, .int .i64 mo, .int .i64 bu, .int .i64 st, .bool fi, .int .i64 at', .slice q G.length d, .int .i64 0, .int .i64 pa, .int .i64 tr, .int .i64 li, .slice na xs.length nc] := hd.bx
      refine wp_regionL (fun wz => BxS wz gw 100 #[.int .i64 id, .string nm, .slice a L.length c, .int .i64 mo, .int .i64 bu, .int .i64 st, .bool fi, .int .i64 at', .slice q G.length d, .int .i64 0, .int .i64 pa, .int .i64 tr, .int .i64 li, .slice na xs.length nc]) [] #[false, false, false, false, false, false, false, false, false, false, false] rfl (by kernel_rfl) ?_
      refine wpAnyZ_take [] 0 (.pointer (some ⟨gw, 0, none⟩)) rfl (by kernel_rfl) (fun _ _ _ h => h) SS rfl (by intro wz hz; go_simp) ?_
      try simp only [List.getElem_toArray, List.getElem_cons_succ, List.getElem_cons_zero, Act.put, List.setIfInBounds_toArray, List.set_cons_zero, List.set_cons_succ]
      refine wpAnyZ_take [] 1 (.pointer (some ⟨gw, 0, none⟩)) rfl (by kernel_rfl) (fun _ _ _ h => h) SS rfl (by intro wz hz; go_simp) ?_
      try simp only [List.getElem_toArray, List.getElem_cons_succ, List.getElem_cons_zero, Act.put, List.setIfInBounds_toArray, List.set_cons_zero, List.set_cons_succ]
      refine wpAnyZ_take [] 2 (.pointer (some ⟨gw, 0, none⟩)) rfl (by kernel_rfl) (fun _ _ _ h => h) SS rfl (by intro wz hz; go_simp) ?_
      try simp only [List.getElem_toArray, List.getElem_cons_succ, List.getElem_cons_zero, Act.put, List.setIfInBounds_toArray, List.set_cons_zero, List.set_cons_succ]
      refine wpAnyZ_take [] 3 (.pointer (some ⟨gw, 11, none⟩)) rfl (by kernel_rfl) (fun _ _ _ h => h) SS rfl (by intro wz hz; go_simp) ?_
      try simp only [List.getElem_toArray, List.getElem_cons_succ, List.getElem_cons_zero, Act.put, List.setIfInBounds_toArray, List.set_cons_zero, List.set_cons_succ]
      refine wpAnyZ_take [] 4 (.int .i64 tr) rfl (by kernel_rfl) (fun _ _ _ h => h) SS rfl (by intro wz hz; have z : wz.cell? ⟨gw, 11, none⟩ = some (.int .i64 tr) := hz.cell 11 (by show 11 < 14; decide); go_simp) ?_
      try simp only [List.getElem_toArray, List.getElem_cons_succ, List.getElem_cons_zero, Act.put, List.setIfInBounds_toArray, List.set_cons_zero, List.set_cons_succ]
      refine wpAnyZ_take [] 5 (.pointer (some ⟨gw, 0, none⟩)) rfl (by kernel_rfl) (fun _ _ _ h => h) SS rfl (by intro wz hz; go_simp) ?_
      try simp only [List.getElem_toArray, List.getElem_cons_succ, List.getElem_cons_zero, Act.put, List.setIfInBounds_toArray, List.set_cons_zero, List.set_cons_succ]
      refine wpAnyZ_take [] 6 (.pointer (some ⟨gw, 0, none⟩)) rfl (by kernel_rfl) (fun _ _ _ h => h) SS rfl (by intro wz hz; go_simp) ?_
      try simp only [List.getElem_toArray, List.getElem_cons_succ, List.getElem_cons_zero, Act.put, List.setIfInBounds_toArray, List.set_cons_zero, List.set_cons_succ]
      refine wpAnyZ_take [] 7 (.pointer (some ⟨gw, 0, none⟩)) rfl (by kernel_rfl) (fun _ _ _ h => h) SS rfl (by intro wz hz; go_simp) ?_
      try simp only [List.getElem_toArray, List.getElem_cons_succ, List.getElem_cons_zero, Act.put, List.setIfInBounds_toArray, List.set_cons_zero, List.set_cons_succ]
      refine wpAnyZ_take [] 8 (.pointer (some ⟨gw, 12, none⟩)) rfl (by kernel_rfl) (fun _ _ _ h => h) SS rfl (by intro wz hz; go_simp) ?_
      try simp only [List.getElem_toArray, List.getElem_cons_succ, List.getElem_cons_zero, Act.put, List.setIfInBounds_toArray, List.set_cons_zero, List.set_cons_succ]
      refine wpAnyZ_take [] 9 (.int .i64 li) rfl (by kernel_rfl) (fun _ _ _ h => h) SS rfl (by intro wz hz; have z : wz.cell? ⟨gw, 12, none⟩ = some (.int .i64 li) := hz.cell 12 (by show 12 < 14; decide); go_simp) ?_
      try simp only [List.getElem_toArray, List.getElem_cons_succ, List.getElem_cons_zero, Act.put, List.setIfInBounds_toArray, List.set_cons_zero, List.set_cons_succ]
      refine wpAnyZ_take [] 10 (.bool false) rfl (by kernel_rfl) (fun _ _ _ h => h) SS rfl (by intro wz hz; go_simp) ?_
      try simp only [List.getElem_toArray, List.getElem_cons_succ, List.getElem_cons_zero, Act.put, List.setIfInBounds_toArray, List.set_cons_zero, List.set_cons_succ]
      refine wpAnyZ_doneB (by kernel_rfl) ?_ _
      refine HK6.out _ _ ?_
      clear HK6
      refine wp_cond_false rfl ?_
      refine wp_skip ?_
      try simp only [Exit.then]
      refine HK5.out _ _ ?_
      clear HK5
      have k4 := k3.trans (KpT.none Gd)
      clear Gd SS h3 k3
      generalize w3.drew = w4 at *
      obtain ⟨r1, hr1⟩ : ∃ r1, tr + 1 = r1 := ⟨_, rfl⟩
      have hw2 : IntKind.i64.wrap (tr + 1) = r1 := by rw [hr1]; exact wrap_i64_in _ (by omega) (by omega)
      have HR1 : Hid _ := hr1
      clear hr1
      have x11 : w4.cell? ⟨gw, 11, none⟩ = some (.int .i64 tr) := hd.bx.cell 11 (by show 11 < 14; decide)
      refine wp_seq_k fun K7 hK7 => ?_
      have HK7 : Hid _ := hK7
      clear hK7
      have s0 : True := trivial
      go_wp2_with (have _t := s0; clear s0; refine wpList_stC _ rfl _ _ _ rfl gw 11 100 _ #[.int .i64 id, .string nm, .slice a L.length c, .int .i64 mo, .int .i64 bu, .int .i64 st, .bool fi, .int .i64 at', .slice q G.length d, .int .i64 0, .int .i64 pa, .int .i64 r1, .int .i64 li, .slice na xs.length nc] (.int .i64 r1) rfl rfl hd.bx (stc_int _ _ _) (by show 11 < 14; decide) rfl ?_; intro w5 bw5 uw5)
      refine HK7.out _ _ ?_
      clear HK7
      have h5 := hd.set uw5 bw5
      have k5 := k4.trans (KpT.bx hd.bx (by decide) uw5)
      go_wp2_with (go_at_call 116; refine (sendEnd_any _ _ _ _ _ _ _ _ _ _ _ _ _ _ _ _ _ _ _ _ _ _ _ _ _ _ h5 (by have := HXL.out; omega)).mono ?_; rintro e w6 ⟨rfl, ⟨na6, nc6, h6⟩, f6⟩)
      first | go_end0 | refine bodyPost_ret (results_none rfl _ _ _) rfl ?_
      refine ⟨rfl, ?_, k5.trans (f6.kp h5)⟩
      try rw [if_neg HL.out, if_neg hel]
      show GA wB _ gw (⟨id, nm, mo, bu, st, fi, at', 0, pa, tr + 1, li, L, G⟩ : Gv) (T ++ [_])
      rw [HR1.out]
      exact GA.of (map_one HT.out _ _ rfl) (V := ⟨id, nm, mo, bu, st, fi, at', 0, pa, r1, li, L, G⟩) h6
end
end Go.Proofs.Ytnimehkfnpepfaa
