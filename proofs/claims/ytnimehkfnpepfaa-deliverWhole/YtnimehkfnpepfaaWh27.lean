import Derived.Test.YtnimehkfnpepfaaWh24
import Derived.Test.YtnimehkfnpepfaaWh22
import Derived.Test.YtnimehkfnpepfaaWh25
import Derived.Test.YtnimehkfnpepfaaWh23
namespace Go.Proofs.Ytnimehkfnpepfaa
open Go.RowKit
set_option maxRecDepth 100000
set_option linter.unusedVariables false
set_option linter.unusedSimpArgs false

section
def ntMeta (V : Gv) : Nt := ⟨1, V.id, V.nm, (V.L.length : Int), 0, 0, [], [], 0, 0⟩
def ntEnd (V : Gv) : Nt := ⟨3, V.id, ⟨#[]⟩, (V.L.length : Int), ((smT V.L V.L.length % 4294967296 : Nat) : Int), 0, [], [], 0, 0⟩
def ntPie (V : Gv) (x e : Nat) : Nt := ⟨2, V.id, ⟨#[]⟩, 0, 0, (x : Int), (V.L.drop x).take (e - x), [], 0, 0⟩
def enN (V : Gv) (x y : Nat) : Nat := if x + V.mo.toNat ≤ y then x + V.mo.toNat else y
/-- what has to go once more, behind one note -/
def agD (V : Gv) (p : Int × Int) (G : List (Int × Int)) : Gv × List Nt :=
  if p.1 = 0 ∧ p.2 = 0 then ({ V with G := G }, [ntMeta V])
  else ({ V with G := if enN V p.1.toNat p.2.toNat = p.2.toNat then G else ((enN V p.1.toNat p.2.toNat : Nat), p.2) :: G }, [ntPie V p.1.toNat (enN V p.1.toNat p.2.toNat)])
/-- the next note -/
def snV (V : Gv) : Gv × List Nt × Bool :=
  if V.fi = true then ({ V with fi := false }, [ntMeta V], true)
  else match V.G with
    | p :: G => ((agD V p G).1, (agD V p G).2, true)
    | [] => if V.st ≠ 0 then (V, [], false)
      else if V.at' < (V.L.length : Int) then ({ V with at' := (enN V V.at'.toNat V.L.length : Nat) }, [ntPie V V.at'.toNat (enN V V.at'.toNat V.L.length)], true)
      else ({ V with st := 1, ti := 0, tr := 0 }, [ntEnd V], false)
def gvL : Nat → Gv → List Nt → Gv × List Nt
  | 0, V, T => (V, T)
  | k + 1, V, T => if (snV V).2.2 = true then gvL k (snV V).1 (T ++ (snV V).2.1) else ((snV V).1, T ++ (snV V).2.1)
def wtV (V : Gv) : Gv × List Nt :=
  if V.ti + 1 < V.pa then ({ V with ti := V.ti + 1 }, []) else if V.tr = V.li then ({ V with ti := 0, st := 4 }, []) else ({ V with ti := 0, tr := V.tr + 1 }, [ntEnd V])
/-- a tick -/
def tiG (V : Gv) : Gv × List Nt :=
  if V.st = 3 ∨ V.st = 4 then (V, [])
  else if V.st ≠ 0 then ((wtV (gvL V.bu.toNat V []).1).1, (gvL V.bu.toNat V []).2 ++ (wtV (gvL V.bu.toNat V []).1).2) else gvL V.bu.toNat V []
/-- what holds of a giver that may be, tick by tick -/
structure GvO (V : Gv) : Prop where
  mo : 1 ≤ V.mo ∧ V.mo ≤ 1024
  n9 : V.L.length ≤ 65536
  at0 : 0 ≤ V.at' ∧ V.at' ≤ (V.L.length : Int)
  gp : ∀ p, p ∈ V.G → (p.1 = 0 ∧ p.2 = 0) ∨ (0 ≤ p.1 ∧ p.1 < p.2 ∧ p.2 ≤ (V.L.length : Int))
  gl : V.G.length ≤ 1000
  ti : 0 ≤ V.ti ∧ V.ti < V.pa ∧ V.pa ≤ 1000
  tr : 0 ≤ V.tr ∧ V.tr ≤ V.li ∧ V.li ≤ 1000000
theorem enN_le (V : Gv) (x y : Nat) (h : x < y) (hm : 1 ≤ V.mo) : x < enN V x y ∧ enN V x y ≤ y := by
  unfold enN
  by_cases e : x + V.mo.toNat ≤ y
  · rw [if_pos e]; omega
  · rw [if_neg e]; omega
theorem agD_ok {V : Gv} (h : GvO V) {p : Int × Int} {G : List (Int × Int)} (e : V.G = p :: G) : GvO (agD V p G).1 := by
  have hp := h.gp p (by rw [e]; exact List.mem_cons_self ..)
  have hG : ∀ r, r ∈ G → (r.1 = 0 ∧ r.2 = 0) ∨ (0 ≤ r.1 ∧ r.1 < r.2 ∧ r.2 ≤ (V.L.length : Int)) := fun r hr => h.gp r (by rw [e]; exact List.mem_cons_of_mem _ hr)
  have hl := h.gl
  rw [e, List.length_cons] at hl
  unfold agD
  by_cases e1 : p.1 = 0 ∧ p.2 = 0
  · rw [if_pos e1]; exact ⟨h.mo, h.n9, h.at0, hG, by show G.length ≤ _; omega, h.ti, h.tr⟩
  · rw [if_neg e1]
    have h3 : 0 ≤ p.1 ∧ p.1 < p.2 ∧ p.2 ≤ (V.L.length : Int) := hp.resolve_left e1
    have he := enN_le V p.1.toNat p.2.toNat (by omega) h.mo.1
    refine ⟨h.mo, h.n9, h.at0, ?_, ?_, h.ti, h.tr⟩
    · show ∀ r, r ∈ (if enN V p.1.toNat p.2.toNat = p.2.toNat then G else _) → _
      by_cases e2 : enN V p.1.toNat p.2.toNat = p.2.toNat
      · rw [if_pos e2]; exact hG
      · rw [if_neg e2]
        intro r hr
        rcases List.mem_cons.1 hr with e3 | e3
        · rw [e3]; exact .inr ⟨by show (0 : Int) ≤ ((enN V p.1.toNat p.2.toNat : Nat) : Int); omega, by show ((enN V p.1.toNat p.2.toNat : Nat) : Int) < p.2; omega, h3.2.2⟩
        · exact hG r e3
    · show (if enN V p.1.toNat p.2.toNat = p.2.toNat then G else _).length ≤ _
      by_cases e2 : enN V p.1.toNat p.2.toNat = p.2.toNat
      · rw [if_pos e2]; omega
      · rw [if_neg e2, List.length_cons]; omega
theorem snV_ok {V : Gv} (h : GvO V) : GvO (snV V).1 ∧ ((snV V).2.2 = true → (snV V).2.1.length = 1) ∧ (snV V).2.1.length ≤ 1 := by
  unfold snV
  by_cases e : V.fi = true
  · rw [if_pos e]; exact ⟨⟨h.mo, h.n9, h.at0, h.gp, h.gl, h.ti, h.tr⟩, fun _ => rfl, Nat.le_refl _⟩
  · rw [if_neg e]
    cases hG : V.G with
    | cons p G =>
      have := agD_ok h hG
      refine ⟨this, fun _ => ?_, ?_⟩
      · show (agD V p G).2.length = 1
        unfold agD; by_cases e1 : p.1 = 0 ∧ p.2 = 0
        · rw [if_pos e1]; rfl
        · rw [if_neg e1]; rfl
      · show (agD V p G).2.length ≤ 1
        unfold agD; by_cases e1 : p.1 = 0 ∧ p.2 = 0
        · rw [if_pos e1]; exact Nat.le_refl _
        · rw [if_neg e1]; exact Nat.le_refl _
    | nil =>
      show GvO (if V.st ≠ 0 then _ else _ : Gv × List Nt × Bool).1 ∧ _
      dsimp only
      by_cases e1 : V.st ≠ 0
      · rw [if_pos e1]; exact ⟨h, (fun e => by cases e), Nat.zero_le _⟩
      · rw [if_neg e1]
        by_cases e2 : V.at' < (V.L.length : Int)
        · rw [if_pos e2]
          have he := enN_le V V.at'.toNat V.L.length (by have := h.at0; omega) h.mo.1
          have ha := h.at0
          exact ⟨⟨h.mo, h.n9, ⟨(by show (0 : Int) ≤ ((enN V V.at'.toNat V.L.length : Nat) : Int); omega), (by show ((enN V V.at'.toNat V.L.length : Nat) : Int) ≤ (V.L.length : Int); omega)⟩, (fun r hr => by cases hr), Nat.zero_le _, h.ti, h.tr⟩, (fun _ => rfl), Nat.le_refl _⟩
        · rw [if_neg e2]
          have ht := h.ti
          have hr := h.tr
          exact ⟨⟨h.mo, h.n9, h.at0, (fun r hr => by cases hr), Nat.zero_le _, ⟨(by show (0 : Int) ≤ 0; omega), (by show (0 : Int) < V.pa; omega), ht.2.2⟩, ⟨(by show (0 : Int) ≤ 0; omega), (by show (0 : Int) ≤ V.li; omega), hr.2.2⟩⟩, (fun e => by cases e), Nat.le_refl _⟩
theorem gvL_len : ∀ (k : Nat) (V : Gv) (T : List Nt), GvO V → (gvL k V T).2.length ≤ T.length + k := by
  intro k
  induction k with
  | zero => intro V T h; exact Nat.le_refl _
  | succ k ih =>
    intro V T h
    show (if (snV V).2.2 = true then gvL k (snV V).1 (T ++ (snV V).2.1) else _).2.length ≤ _
    have h1 := (snV_ok h).2.2
    by_cases e : (snV V).2.2 = true
    · rw [if_pos e]
      have := ih (snV V).1 (T ++ (snV V).2.1) (snV_ok h).1
      rw [List.length_append] at this
      omega
    · rw [if_neg e]
      show (T ++ (snV V).2.1).length ≤ _
      rw [List.length_append]; omega
/-- a giver at work, as data -/
def GA (wB w : World) (gw : Nat) (V : Gv) (T : List Nt) : Prop :=
  ∃ a c q d na nc xs, xs.map Nx.dt = T ∧ GW wB w gw V.id V.nm V.mo V.bu V.st V.fi V.at' V.ti V.pa V.tr V.li a V.L.length c V.L q V.G.length d V.G na xs.length nc xs
theorem GA.of {wB w : World} {gw : Nat} {V : Gv} {a : Option Addr} {n c : Nat} {q : Option Addr} {m d : Nat} {na : Option Addr} {nn nc : Nat} {xs : List Nx} {T : List Nt} (hT : xs.map Nx.dt = T) (h : GW wB w gw V.id V.nm V.mo V.bu V.st V.fi V.at' V.ti V.pa V.tr V.li a n c V.L q m d V.G na nn nc xs) : GA wB w gw V T := by
  have e1 := h.A.len
  have e2 := h.O.len
  have e3 := h.N.len
  subst e1 e2 e3
  exact ⟨a, c, q, d, na, nc, xs, hT, h⟩
theorem map_one {xs : List Nx} {T : List Nt} (hT : xs.map Nx.dt = T) (x : Nx) (t : Nt) (h : x.dt = t) : (xs ++ [x]).map Nx.dt = T ++ [t] := by
  rw [List.map_append, hT]; show T ++ [x.dt] = _; rw [h]

set_option maxHeartbeats 16000000 in
/-- a tick more -/
theorem wait_any (wB w : World) (gw : Nat) (V : Gv) (T : List Nt) (h : GA wB w gw V T) (ho : GvO V) (hT1 : T.length ≤ 1000) : Calls Try.prog 95 #[.pointer (some ⟨gw, 0, none⟩)] w fun e w' => e = .returned (.tuple #[]) ∧ GA wB w' gw (wtV V).1 (T ++ (wtV V).2) ∧ KpT w w' := by
  obtain ⟨a, c, q, d, na, nc, xs, hT, h⟩ := h
  obtain ⟨id, nm, mo, bu, st, fi, at', ti, pa, tr, li, L, G⟩ := V
  have hti := ho.ti
  have htr := ho.tr
  dsimp only at h hti htr
  have hxl : xs.length ≤ 1000 := by rw [← hT, List.length_map] at hT1; exact hT1
  have HXL : Hid _ := hxl
  clear hT1 ho hxl
  have HT : Hid _ := hT
  clear hT
  obtain ⟨t1, ht1⟩ : ∃ t1, ti + 1 = t1 := ⟨_, rfl⟩
  have hw1 : IntKind.i64.wrap (ti + 1) = t1 := by rw [ht1]; exact wrap_i64_in _ (by omega) (by omega)
  have x9 : w.cell? ⟨gw, 9, none⟩ = some (.int .i64 ti) := h.bx.cell 9 (by show 9 < 14; decide)
  unfold wtV
  show Calls _ _ _ _ fun e w' => _ ∧ GA wB w' gw (if ti + 1 < pa then _ else if tr = li then _ else _ : Gv × List Nt).1 (T ++ (if ti + 1 < pa then _ else if tr = li then _ else _ : Gv × List Nt).2) ∧ _
  rw [ht1]
  have HT1 : Hid _ := ht1
  clear ht1
  go_enter Try.func95, Try.ntmps95
  refine wp_seq_k fun K1 hK1 => ?_
  have HK1 : Hid _ := hK1
  clear hK1
  refine wp_seq_k fun K2 hK2 => ?_
  have HK2 : Hid _ := hK2
  clear hK2
  have s0 : True := trivial
  go_wp2_with (have _t := s0; clear s0; refine wpList_stC _ rfl _ _ _ rfl gw 9 100 _ #[.int .i64 id, .string nm, .slice a L.length c, .int .i64 mo, .int .i64 bu, .int .i64 st, .bool fi, .int .i64 at', .slice q G.length d, .int .i64 t1, .int .i64 pa, .int .i64 tr, .int .i64 li, .slice na xs.length nc] (.int .i64 t1) rfl rfl h.bx (stc_int _ _ _) (by show 9 < 14; decide) rfl ?_; intro w1 bw1 uw1)
  refine HK2.out _ _ ?_
  clear HK2
  have h1 := h.set uw1 bw1
  have k1 : KpT w w1 := KpT.bx h.bx (by decide) uw1
  clear x9 uw1 bw1 h
  refine wp_seq_k fun K3 hK3 => ?_
  have HK3 : Hid _ := hK3
  clear hK3
  by_cases hlt : t1 < pa
  · have HL : Hid _ := hlt
    have Gd := grown_drew w1 none
    have hd := h1.keepN Gd
    have SS : BxS w1.drew gw 100 #[.int .i64 id, .string nm, .slice a L.length c, .int .i64 mo, .int .i64 bu, .int .i64 st, .bool fi, .int .i64 at', .slice q G.length d, .int .i64 t1, .int .i64 pa, .int .i64 tr, .int .i64 li, .slice na xs.length nc] := hd.bx
    refine wp_regionL (fun wz => BxS wz gw 100 #[.int .i64 id, .string nm, .slice a L.length c, .int .i64 mo, .int .i64 bu, .int .i64 st, .bool fi, .int .i64 at', .slice q G.length d, .int .i64 t1, .int .i64 pa, .int .i64 tr, .int .i64 li, .slice na xs.length nc]) [] #[false, false, false, false, false, false, false, false, false, false, false] rfl (by kernel_rfl) ?_
    refine wpAnyZ_take [] 0 (.pointer (some ⟨gw, 0, none⟩)) rfl (by kernel_rfl) (fun _ _ _ h => h) SS rfl (by intro wz hz; go_simp) ?_
    try simp only [zc1, zc2, zc3, Act.put, zc4, zc5, zc6]
    refine wpAnyZ_take [] 1 (.pointer (some ⟨gw, 0, none⟩)) rfl (by kernel_rfl) (fun _ _ _ h => h) SS rfl (by intro wz hz; go_simp) ?_
    try simp only [zc1, zc2, zc3, Act.put, zc4, zc5, zc6]
    refine wpAnyZ_take [] 2 (.pointer (some ⟨gw, 0, none⟩)) rfl (by kernel_rfl) (fun _ _ _ h => h) SS rfl (by intro wz hz; go_simp) ?_
    try simp only [zc1, zc2, zc3, Act.put, zc4, zc5, zc6]
    refine wpAnyZ_take [] 3 (.pointer (some ⟨gw, 9, none⟩)) rfl (by kernel_rfl) (fun _ _ _ h => h) SS rfl (by intro wz hz; go_simp) ?_
    try simp only [zc1, zc2, zc3, Act.put, zc4, zc5, zc6]
    refine wpAnyZ_take [] 4 (.int .i64 t1) rfl (by kernel_rfl) (fun _ _ _ h => h) SS rfl (by intro wz hz; have z : wz.cell? ⟨gw, 9, none⟩ = some (.int .i64 t1) := hz.cell 9 (by show 9 < 14; decide); go_simp) ?_
    try simp only [zc1, zc2, zc3, Act.put, zc4, zc5, zc6]
    refine wpAnyZ_take [] 5 (.pointer (some ⟨gw, 0, none⟩)) rfl (by kernel_rfl) (fun _ _ _ h => h) SS rfl (by intro wz hz; go_simp) ?_
    try simp only [zc1, zc2, zc3, Act.put, zc4, zc5, zc6]
    refine wpAnyZ_take [] 6 (.pointer (some ⟨gw, 0, none⟩)) rfl (by kernel_rfl) (fun _ _ _ h => h) SS rfl (by intro wz hz; go_simp) ?_
    try simp only [zc1, zc2, zc3, Act.put, zc4, zc5, zc6]
    refine wpAnyZ_take [] 7 (.pointer (some ⟨gw, 0, none⟩)) rfl (by kernel_rfl) (fun _ _ _ h => h) SS rfl (by intro wz hz; go_simp) ?_
    try simp only [zc1, zc2, zc3, Act.put, zc4, zc5, zc6]
    refine wpAnyZ_take [] 8 (.pointer (some ⟨gw, 10, none⟩)) rfl (by kernel_rfl) (fun _ _ _ h => h) SS rfl (by intro wz hz; go_simp) ?_
    try simp only [zc1, zc2, zc3, Act.put, zc4, zc5, zc6]
    refine wpAnyZ_take [] 9 (.int .i64 pa) rfl (by kernel_rfl) (fun _ _ _ h => h) SS rfl (by intro wz hz; have z : wz.cell? ⟨gw, 10, none⟩ = some (.int .i64 pa) := hz.cell 10 (by show 10 < 14; decide); go_simp) ?_
    try simp only [zc1, zc2, zc3, Act.put, zc4, zc5, zc6]
    refine wpAnyZ_take [] 10 (.bool true) rfl (by kernel_rfl) (fun _ _ _ h => h) SS rfl (by intro wz hz; go_simp) ?_
    try simp only [zc1, zc2, zc3, Act.put, zc4, zc5, zc6]
    refine wpAnyZ_doneB (by kernel_rfl) ?_ _
    refine HK3.out _ _ ?_
    clear HK3
    refine wp_cond_true rfl ?_
    refine wp_ret ?_
    try simp only [Exit.then]
    refine bodyPost_ret (results_none rfl _ _ _) rfl ?_
    refine ⟨rfl, ?_, k1.trans (KpT.none Gd)⟩
    try rw [if_pos HL.out]
    show GA wB _ gw (⟨id, nm, mo, bu, st, fi, at', t1, pa, tr, li, L, G⟩ : Gv) (T ++ [])
    rw [List.append_nil]
    exact GA.of HT.out (V := ⟨id, nm, mo, bu, st, fi, at', t1, pa, tr, li, L, G⟩) hd
  · have HL : Hid _ := hlt
    have Gd := grown_drew w1 none
    have hd := h1.keepN Gd
    have SS : BxS w1.drew gw 100 #[.int .i64 id, .string nm, .slice a L.length c, .int .i64 mo, .int .i64 bu, .int .i64 st, .bool fi, .int .i64 at', .slice q G.length d, .int .i64 t1, .int .i64 pa, .int .i64 tr, .int .i64 li, .slice na xs.length nc] := hd.bx
    refine wp_regionL (fun wz => BxS wz gw 100 #[.int .i64 id, .string nm, .slice a L.length c, .int .i64 mo, .int .i64 bu, .int .i64 st, .bool fi, .int .i64 at', .slice q G.length d, .int .i64 t1, .int .i64 pa, .int .i64 tr, .int .i64 li, .slice na xs.length nc]) [] #[false, false, false, false, false, false, false, false, false, false, false] rfl (by kernel_rfl) ?_
    refine wpAnyZ_take [] 0 (.pointer (some ⟨gw, 0, none⟩)) rfl (by kernel_rfl) (fun _ _ _ h => h) SS rfl (by intro wz hz; go_simp) ?_
    try simp only [zc1, zc2, zc3, Act.put, zc4, zc5, zc6]
    refine wpAnyZ_take [] 1 (.pointer (some ⟨gw, 0, none⟩)) rfl (by kernel_rfl) (fun _ _ _ h => h) SS rfl (by intro wz hz; go_simp) ?_
    try simp only [zc1, zc2, zc3, Act.put, zc4, zc5, zc6]
    refine wpAnyZ_take [] 2 (.pointer (some ⟨gw, 0, none⟩)) rfl (by kernel_rfl) (fun _ _ _ h => h) SS rfl (by intro wz hz; go_simp) ?_
    try simp only [zc1, zc2, zc3, Act.put, zc4, zc5, zc6]
    refine wpAnyZ_take [] 3 (.pointer (some ⟨gw, 9, none⟩)) rfl (by kernel_rfl) (fun _ _ _ h => h) SS rfl (by intro wz hz; go_simp) ?_
    try simp only [zc1, zc2, zc3, Act.put, zc4, zc5, zc6]
    refine wpAnyZ_take [] 4 (.int .i64 t1) rfl (by kernel_rfl) (fun _ _ _ h => h) SS rfl (by intro wz hz; have z : wz.cell? ⟨gw, 9, none⟩ = some (.int .i64 t1) := hz.cell 9 (by show 9 < 14; decide); go_simp) ?_
    try simp only [zc1, zc2, zc3, Act.put, zc4, zc5, zc6]
    refine wpAnyZ_take [] 5 (.pointer (some ⟨gw, 0, none⟩)) rfl (by kernel_rfl) (fun _ _ _ h => h) SS rfl (by intro wz hz; go_simp) ?_
    try simp only [zc1, zc2, zc3, Act.put, zc4, zc5, zc6]
    refine wpAnyZ_take [] 6 (.pointer (some ⟨gw, 0, none⟩)) rfl (by kernel_rfl) (fun _ _ _ h => h) SS rfl (by intro wz hz; go_simp) ?_
    try simp only [zc1, zc2, zc3, Act.put, zc4, zc5, zc6]
    refine wpAnyZ_take [] 7 (.pointer (some ⟨gw, 0, none⟩)) rfl (by kernel_rfl) (fun _ _ _ h => h) SS rfl (by intro wz hz; go_simp) ?_
    try simp only [zc1, zc2, zc3, Act.put, zc4, zc5, zc6]
    refine wpAnyZ_take [] 8 (.pointer (some ⟨gw, 10, none⟩)) rfl (by kernel_rfl) (fun _ _ _ h => h) SS rfl (by intro wz hz; go_simp) ?_
    try simp only [zc1, zc2, zc3, Act.put, zc4, zc5, zc6]
    refine wpAnyZ_take [] 9 (.int .i64 pa) rfl (by kernel_rfl) (fun _ _ _ h => h) SS rfl (by intro wz hz; have z : wz.cell? ⟨gw, 10, none⟩ = some (.int .i64 pa) := hz.cell 10 (by show 10 < 14; decide); go_simp) ?_
    try simp only [zc1, zc2, zc3, Act.put, zc4, zc5, zc6]
    refine wpAnyZ_take [] 10 (.bool false) rfl (by kernel_rfl) (fun _ _ _ h => h) SS rfl (by intro wz hz; go_simp) ?_
    try simp only [zc1, zc2, zc3, Act.put, zc4, zc5, zc6]
    refine wpAnyZ_doneB (by kernel_rfl) ?_ _
    refine HK3.out _ _ ?_
    clear HK3
    refine wp_cond_false rfl ?_
    refine wp_skip ?_
    try simp only [Exit.then]
    refine HK1.out _ _ ?_
    clear HK1
    have k2 := k1.trans (KpT.none Gd)
    clear Gd SS h1 k1
    generalize w1.drew = w2 at *
    refine wp_seq_k fun K4 hK4 => ?_
    have HK4 : Hid _ := hK4
    clear hK4
    have s0 : True := trivial
    go_wp2_with (have _t := s0; clear s0; refine wpList_stC _ rfl _ _ _ rfl gw 9 100 _ #[.int .i64 id, .string nm, .slice a L.length c, .int .i64 mo, .int .i64 bu, .int .i64 st, .bool fi, .int .i64 at', .slice q G.length d, .int .i64 0, .int .i64 pa, .int .i64 tr, .int .i64 li, .slice na xs.length nc] (.int .i64 0) rfl rfl hd.bx (stc_int _ _ _) (by show 9 < 14; decide) rfl ?_; intro w3 bw3 uw3)
    refine HK4.out _ _ ?_
    clear HK4
    have h3 := hd.set uw3 bw3
    have k3 := k2.trans (KpT.bx hd.bx (by decide) uw3)
    clear uw3 bw3 hd k2
    refine wp_seq_k fun K5 hK5 => ?_
    have HK5 : Hid _ := hK5
    clear hK5
    refine wp_seq_k fun K6 hK6 => ?_
    have HK6 : Hid _ := hK6
    clear hK6
    by_cases hel : tr = li
    · have hel2 : (tr == li) = true := by rw [hel]; exact beq_self_eq_true _
      have HEL : Hid _ := hel
      clear hel
      have Gd := grown_drew w3 none
      have hd := h3.keepN Gd
      have SS : BxS w3.drew gw 100 #[.int .i64 id, .string nm, .slice a L.length c, .int .i64 mo, .int .i64 bu, .int .i64 st, .bool fi, .int .i64 at', .slice q G.length d, .int .i64 0, .int .i64 pa, .int .i64 tr, .int .i64 li, .slice na xs.length nc] := hd.bx
      refine wp_regionL (fun wz => BxS wz gw 100 #[.int .i64 id, .string nm, .slice a L.length c, .int .i64 mo, .int .i64 bu, .int .i64 st, .bool fi, .int .i64 at', .slice q G.length d, .int .i64 0, .int .i64 pa, .int .i64 tr, .int .i64 li, .slice na xs.length nc]) [] #[false, false, false, false, false, false, false, false, false, false, false] rfl (by kernel_rfl) ?_
      refine wpAnyZ_take [] 0 (.pointer (some ⟨gw, 0, none⟩)) rfl (by kernel_rfl) (fun _ _ _ h => h) SS rfl (by intro wz hz; go_simp) ?_
      try simp only [zc1, zc2, zc3, Act.put, zc4, zc5, zc6]
      refine wpAnyZ_take [] 1 (.pointer (some ⟨gw, 0, none⟩)) rfl (by kernel_rfl) (fun _ _ _ h => h) SS rfl (by intro wz hz; go_simp) ?_
      try simp only [zc1, zc2, zc3, Act.put, zc4, zc5, zc6]
      refine wpAnyZ_take [] 2 (.pointer (some ⟨gw, 0, none⟩)) rfl (by kernel_rfl) (fun _ _ _ h => h) SS rfl (by intro wz hz; go_simp) ?_
      try simp only [zc1, zc2, zc3, Act.put, zc4, zc5, zc6]
      refine wpAnyZ_take [] 3 (.pointer (some ⟨gw, 11, none⟩)) rfl (by kernel_rfl) (fun _ _ _ h => h) SS rfl (by intro wz hz; go_simp) ?_
      try simp only [zc1, zc2, zc3, Act.put, zc4, zc5, zc6]
      refine wpAnyZ_take [] 4 (.int .i64 tr) rfl (by kernel_rfl) (fun _ _ _ h => h) SS rfl (by intro wz hz; have z : wz.cell? ⟨gw, 11, none⟩ = some (.int .i64 tr) := hz.cell 11 (by show 11 < 14; decide); go_simp) ?_
      try simp only [zc1, zc2, zc3, Act.put, zc4, zc5, zc6]
      refine wpAnyZ_take [] 5 (.pointer (some ⟨gw, 0, none⟩)) rfl (by kernel_rfl) (fun _ _ _ h => h) SS rfl (by intro wz hz; go_simp) ?_
      try simp only [zc1, zc2, zc3, Act.put, zc4, zc5, zc6]
      refine wpAnyZ_take [] 6 (.pointer (some ⟨gw, 0, none⟩)) rfl (by kernel_rfl) (fun _ _ _ h => h) SS rfl (by intro wz hz; go_simp) ?_
      try simp only [zc1, zc2, zc3, Act.put, zc4, zc5, zc6]
      refine wpAnyZ_take [] 7 (.pointer (some ⟨gw, 0, none⟩)) rfl (by kernel_rfl) (fun _ _ _ h => h) SS rfl (by intro wz hz; go_simp) ?_
      try simp only [zc1, zc2, zc3, Act.put, zc4, zc5, zc6]
      refine wpAnyZ_take [] 8 (.pointer (some ⟨gw, 12, none⟩)) rfl (by kernel_rfl) (fun _ _ _ h => h) SS rfl (by intro wz hz; go_simp) ?_
      try simp only [zc1, zc2, zc3, Act.put, zc4, zc5, zc6]
      refine wpAnyZ_take [] 9 (.int .i64 li) rfl (by kernel_rfl) (fun _ _ _ h => h) SS rfl (by intro wz hz; have z : wz.cell? ⟨gw, 12, none⟩ = some (.int .i64 li) := hz.cell 12 (by show 12 < 14; decide); go_simp) ?_
      try simp only [zc1, zc2, zc3, Act.put, zc4, zc5, zc6]
      refine wpAnyZ_take [] 10 (.bool true) rfl (by kernel_rfl) (fun _ _ _ h => h) SS rfl (by intro wz hz; go_simp) ?_
      try simp only [zc1, zc2, zc3, Act.put, zc4, zc5, zc6]
      refine wpAnyZ_doneB (by kernel_rfl) ?_ _
      refine HK6.out _ _ ?_
      clear HK6
      refine wp_cond_true rfl ?_
      clear HK5
      refine wp_seq_k fun K7 hK7 => ?_
      have HK7 : Hid _ := hK7
      clear hK7
      have s0 : True := trivial
      go_wp2_with (have _t := s0; clear s0; refine wpList_stC _ rfl _ _ _ rfl gw 5 100 _ #[.int .i64 id, .string nm, .slice a L.length c, .int .i64 mo, .int .i64 bu, .int .i64 4, .bool fi, .int .i64 at', .slice q G.length d, .int .i64 0, .int .i64 pa, .int .i64 tr, .int .i64 li, .slice na xs.length nc] (.int .i64 4) rfl rfl hd.bx (stc_stg _ _ _) (by show 5 < 14; decide) rfl ?_; intro w4 bw4 uw4)
      refine HK7.out _ _ ?_
      clear HK7
      refine wp_ret ?_
      try simp only [Exit.then]
      refine bodyPost_ret (results_none rfl _ _ _) rfl ?_
      refine ⟨rfl, ?_, (k3.trans (KpT.none Gd)).trans (KpT.bx hd.bx (by decide) uw4)⟩
      try rw [if_neg HL.out, if_pos HEL.out]
      show GA wB _ gw (⟨id, nm, mo, bu, 4, fi, at', 0, pa, tr, li, L, G⟩ : Gv) (T ++ [])
      rw [List.append_nil]
      exact GA.of HT.out (V := ⟨id, nm, mo, bu, 4, fi, at', 0, pa, tr, li, L, G⟩) (hd.set uw4 bw4)
    · have hel2 : (tr == li) = false := beq_eq_false_iff_ne.2 hel
      have Gd := grown_drew w3 none
      have hd := h3.keepN Gd
      have SS : BxS w3.drew gw 100 #[.int .i64 id, .string nm, .slice a L.length c, .int .i64 mo, .int .i64 bu, .int .i64 st, .bool fi, .int .i64 at', .slice q G.length d, .int .i64 0, .int .i64 pa, .int .i64 tr, .int .i64 li, .slice na xs.length nc] := hd.bx
      refine wp_regionL (fun wz => BxS wz gw 100 #[.int .i64 id, .string nm, .slice a L.length c, .int .i64 mo, .int .i64 bu, .int .i64 st, .bool fi, .int .i64 at', .slice q G.length d, .int .i64 0, .int .i64 pa, .int .i64 tr, .int .i64 li, .slice na xs.length nc]) [] #[false, false, false, false, false, false, false, false, false, false, false] rfl (by kernel_rfl) ?_
      refine wpAnyZ_take [] 0 (.pointer (some ⟨gw, 0, none⟩)) rfl (by kernel_rfl) (fun _ _ _ h => h) SS rfl (by intro wz hz; go_simp) ?_
      try simp only [zc1, zc2, zc3, Act.put, zc4, zc5, zc6]
      refine wpAnyZ_take [] 1 (.pointer (some ⟨gw, 0, none⟩)) rfl (by kernel_rfl) (fun _ _ _ h => h) SS rfl (by intro wz hz; go_simp) ?_
      try simp only [zc1, zc2, zc3, Act.put, zc4, zc5, zc6]
      refine wpAnyZ_take [] 2 (.pointer (some ⟨gw, 0, none⟩)) rfl (by kernel_rfl) (fun _ _ _ h => h) SS rfl (by intro wz hz; go_simp) ?_
      try simp only [zc1, zc2, zc3, Act.put, zc4, zc5, zc6]
      refine wpAnyZ_take [] 3 (.pointer (some ⟨gw, 11, none⟩)) rfl (by kernel_rfl) (fun _ _ _ h => h) SS rfl (by intro wz hz; go_simp) ?_
      try simp only [zc1, zc2, zc3, Act.put, zc4, zc5, zc6]
      refine wpAnyZ_take [] 4 (.int .i64 tr) rfl (by kernel_rfl) (fun _ _ _ h => h) SS rfl (by intro wz hz; have z : wz.cell? ⟨gw, 11, none⟩ = some (.int .i64 tr) := hz.cell 11 (by show 11 < 14; decide); go_simp) ?_
      try simp only [zc1, zc2, zc3, Act.put, zc4, zc5, zc6]
      refine wpAnyZ_take [] 5 (.pointer (some ⟨gw, 0, none⟩)) rfl (by kernel_rfl) (fun _ _ _ h => h) SS rfl (by intro wz hz; go_simp) ?_
      try simp only [zc1, zc2, zc3, Act.put, zc4, zc5, zc6]
      refine wpAnyZ_take [] 6 (.pointer (some ⟨gw, 0, none⟩)) rfl (by kernel_rfl) (fun _ _ _ h => h) SS rfl (by intro wz hz; go_simp) ?_
      try simp only [zc1, zc2, zc3, Act.put, zc4, zc5, zc6]
      refine wpAnyZ_take [] 7 (.pointer (some ⟨gw, 0, none⟩)) rfl (by kernel_rfl) (fun _ _ _ h => h) SS rfl (by intro wz hz; go_simp) ?_
      try simp only [zc1, zc2, zc3, Act.put, zc4, zc5, zc6]
      refine wpAnyZ_take [] 8 (.pointer (some ⟨gw, 12, none⟩)) rfl (by kernel_rfl) (fun _ _ _ h => h) SS rfl (by intro wz hz; go_simp) ?_
      try simp only [zc1, zc2, zc3, Act.put, zc4, zc5, zc6]
      refine wpAnyZ_take [] 9 (.int .i64 li) rfl (by kernel_rfl) (fun _ _ _ h => h) SS rfl (by intro wz hz; have z : wz.cell? ⟨gw, 12, none⟩ = some (.int .i64 li) := hz.cell 12 (by show 12 < 14; decide); go_simp) ?_
      try simp only [zc1, zc2, zc3, Act.put, zc4, zc5, zc6]
      refine wpAnyZ_take [] 10 (.bool false) rfl (by kernel_rfl) (fun _ _ _ h => h) SS rfl (by intro wz hz; go_simp) ?_
      try simp only [zc1, zc2, zc3, Act.put, zc4, zc5, zc6]
      refine wpAnyZ_doneB (by kernel_rfl) ?_ _
      refine HK6.out _ _ ?_
      clear HK6
      refine wp_cond_false rfl ?_
      refine wp_skip ?_
      try simp only [Exit.then]
      refine HK5.out _ _ ?_
      clear HK5
      have k4 := k3.trans (KpT.none Gd)
      clear Gd SS h3 k3
      generalize w3.drew = w4 at *
      obtain ⟨r1, hr1⟩ : ∃ r1, tr + 1 = r1 := ⟨_, rfl⟩
      have hw2 : IntKind.i64.wrap (tr + 1) = r1 := by rw [hr1]; exact wrap_i64_in _ (by omega) (by omega)
      have HR1 : Hid _ := hr1
      clear hr1
      have x11 : w4.cell? ⟨gw, 11, none⟩ = some (.int .i64 tr) := hd.bx.cell 11 (by show 11 < 14; decide)
      refine wp_seq_k fun K7 hK7 => ?_
      have HK7 : Hid _ := hK7
      clear hK7
      have s0 : True := trivial
      go_wp2_with (have _t := s0; clear s0; refine wpList_stC _ rfl _ _ _ rfl gw 11 100 _ #[.int .i64 id, .string nm, .slice a L.length c, .int .i64 mo, .int .i64 bu, .int .i64 st, .bool fi, .int .i64 at', .slice q G.length d, .int .i64 0, .int .i64 pa, .int .i64 r1, .int .i64 li, .slice na xs.length nc] (.int .i64 r1) rfl rfl hd.bx (stc_int _ _ _) (by show 11 < 14; decide) rfl ?_; intro w5 bw5 uw5)
      refine HK7.out _ _ ?_
      clear HK7
      have h5 := hd.set uw5 bw5
      have k5 := k4.trans (KpT.bx hd.bx (by decide) uw5)
      go_wp2_with (go_at_call 116; refine (sendEnd_any _ _ _ _ _ _ _ _ _ _ _ _ _ _ _ _ _ _ _ _ _ _ _ _ _ _ h5 (by have := HXL.out; omega)).mono ?_; rintro e w6 ⟨rfl, ⟨na6, nc6, h6⟩, f6⟩)
      first | go_end0 | refine bodyPost_ret (results_none rfl _ _ _) rfl ?_
      refine ⟨rfl, ?_, k5.trans (f6.kp h5)⟩
      try rw [if_neg HL.out, if_neg hel]
      show GA wB _ gw (⟨id, nm, mo, bu, st, fi, at', 0, pa, tr + 1, li, L, G⟩ : Gv) (T ++ [_])
      rw [HR1.out]
      exact GA.of (map_one HT.out _ _ rfl) (V := ⟨id, nm, mo, bu, st, fi, at', 0, pa, r1, li, L, G⟩) h6
end

section
section
variable {wB w w' w1 w2 : World} {gw : Nat} {id : Int} {nm : ByteArray} {mo bu st : Int} {fi : Bool} {at' ti pa tr li : Int} {a : Option Addr} {n c : Nat} {L : List Nat} {q : Option Addr} {m d : Nat} {G : List (Int × Int)} {na : Option Addr} {nn nc : Nat} {xs : List Nx}
/-- what has to go once more lies otherwise -/
theorem GW.reO (h : GW wB w gw id nm mo bu st fi at' ti pa tr li a n c L q m d G na nn nc xs) (u : w.grownBy w1 (Value.slice q m d).ownBlock) {q2 : Option Addr} {m2 d2 : Nat} {G2 : List (Int × Int)} (hO : OwGi w1 wB.heap.size q2 m2 d2 G2) (hq2 : ∀ z, (Value.slice q2 m2 d2).ownBlock = some z → (Value.slice q m d).ownBlock = some z) (u2 : w1.grownBy w2 (some gw)) (b2 : BxS w2 gw 100 #[.int .i64 id, .string nm, .slice a n c, .int .i64 mo, .int .i64 bu, .int .i64 st, .bool fi, .int .i64 at', .slice q2 m2 d2, .int .i64 ti, .int .i64 pa, .int .i64 tr, .int .i64 li, .slice na nn nc]) : GW wB w2 gw id nm mo bu st fi at' ti pa tr li a n c L q2 m2 d2 G2 na nn nc xs := by
  have hrow : ∀ z, (Value.slice q m d).ownBlock = some z → ∃ cs, BxS w z 82 cs := fun z e => own_bxS h.O.own e
  have bw1 := h.bx.keep u (fun e => by obtain ⟨cs, hb⟩ := hrow _ e.symm; exact BxS.apart h.bx hb (by decide) rfl)
  have hA := h.A.kRR u (fun z e e2 => by obtain ⟨cs, hb⟩ := hrow z e; exact own_ty h.A.own hb (by decide) e2)
  exact ⟨b2, hA.kRR u2 (fun z e e2 => by have e := Option.some.inj e; subst e; exact own_ty hA.own bw1 (by decide) e2), hO.bx bw1 (by decide) u2, (h.N.kR u (fun z e => h.sO z e)).bx bw1 (by decide) (by decide) (by decide) u2, h.gl, h.sA, (fun z e => h.sO z (hq2 z e)), grown_far (grown_far h.g u (fun z e => h.O.new z e)) u2 (fun z e => by have e := Option.some.inj e; have := h.gl; omega)⟩
theorem GW.hdO (h : GW wB w gw id nm mo bu st fi at' ti pa tr li a n c L q m d G na nn nc xs) (u : w.grownBy w1 (Value.slice q m d).ownBlock) {G2 : List (Int × Int)} (hO : OwGi w1 wB.heap.size q m d G2) : GW wB w1 gw id nm mo bu st fi at' ti pa tr li a n c L q m d G2 na nn nc xs := by
  have hrow : ∀ z, (Value.slice q m d).ownBlock = some z → ∃ cs, BxS w z 82 cs := fun z e => own_bxS h.O.own e
  have bw1 := h.bx.keep u (fun e => by obtain ⟨cs, hb⟩ := hrow _ e.symm; exact BxS.apart h.bx hb (by decide) rfl)
  have hA := h.A.kRR u (fun z e e2 => by obtain ⟨cs, hb⟩ := hrow z e; exact own_ty h.A.own hb (by decide) e2)
  exact ⟨bw1, hA, hO, h.N.kR u (fun z e => h.sO z e), h.gl, h.sA, h.sO, grown_far h.g u (fun z e => h.O.new z e)⟩
theorem KpT.ow {lo : Nat} (hO : OwGi w lo q m d G) (u : w.grownBy w1 (Value.slice q m d).ownBlock) : KpT w w1 := fun g9 cs9 hb => hb.keep u (fun e => by obtain ⟨cs, hb2⟩ := own_bxS hO.own e.symm; exact BxS.apart hb hb2 (by decide) rfl)
theorem OwGi.hd2 {lo g cap : Nat} {x y : Int} (h : OwGi w lo (some ⟨g, 0, none⟩) n cap ((x, y) :: G)) : w.cell? ⟨g, 0, none⟩ = some (.int .i64 x) ∧ w.cell? ⟨g, 1, none⟩ = some (.int .i64 y) := by
  have h0 := h.ownP.cells (g := g) rfl 0 (.int .i64 x) rfl
  have h1 := h.ownP.cells (g := g) rfl 1 (.int .i64 y) rfl
  rw [addr_add, Nat.zero_add] at h0 h1
  exact ⟨h0, h1⟩
theorem OwGi.head {lo g cap : Nat} {x y e : Int} {cur : Array Value} (h : OwGi w lo (some ⟨g, 0, none⟩) n cap ((x, y) :: G)) (hb : BxS w g 82 cur) (hb' : BxS w' g 82 (cur.setIfInBounds 0 (.int .i64 e))) : OwGi w' lo (some ⟨g, 0, none⟩) n cap ((e, y) :: G) := by
  have hl := h.len
  have hl2 : ((e, y) :: G).length = n := hl
  refine ⟨?_, hl2, h.new⟩
  rw [← flP_flG _ n hl2]
  refine ⟨by rw [flP_len]; omega, ?_⟩
  rcases h.ownP.2 with ⟨h1, _⟩ | ⟨g', cap', cur', h1, h2, h3, h4, h5, h6, h7⟩
  · simp at h1
  · simp only [Value.slice.injEq, Option.some.injEq, Addr.mk.injEq] at h1
    obtain ⟨⟨rfl, _⟩, _, rfl⟩ := h1
    have e1 : cur' = cur := by
      have hb : w.heap[g]? = some (.cells cur 82) := hb
      rw [h3] at hb
      injection hb with hb
      injection hb
    subst e1
    refine .inr ⟨g, cap, _, rfl, h2, hb', h4, h5, by simpa using h6, ?_⟩
    rw [Array.toList_setIfInBounds, List.take_set, h7]
    rfl
end

set_option maxHeartbeats 32000000 in
theorem sendAgain_any (wB w : World) (gw : Nat) (V : Gv) (T : List Nt) (p : Int × Int) (G : List (Int × Int)) (hV : V.G = p :: G) (h : GA wB w gw V T) (ho : GvO V) (hT1 : T.length ≤ 1000) : Calls Try.prog 114 #[.pointer (some ⟨gw, 0, none⟩)] w fun e w' => e = .returned (.tuple #[]) ∧ GA wB w' gw (agD V p G).1 (T ++ (agD V p G).2) ∧ KpT w w' := by
  obtain ⟨a, c, q, d, na, nc, xs, hT, h⟩ := h
  obtain ⟨id, nm, mo, bu, st, fi, at', ti, pa, tr, li, L, G0⟩ := V
  have hV : G0 = p :: G := hV
  subst hV
  have hgp := ho.gp p (List.mem_cons_self ..)
  have hmo := ho.mo
  have hn9 := ho.n9
  have hgl := ho.gl
  obtain ⟨x, y⟩ := p
  dsimp only at h hgp hmo hn9 hgl
  rw [List.length_cons] at h hgl
  have hxl : xs.length ≤ 1000 := by rw [← hT, List.length_map] at hT1; exact hT1
  have HT : Hid _ := hT
  clear hT1 ho hT
  obtain ⟨gq, rfl⟩ : ∃ gq, q = some ⟨gq, 0, none⟩ := by
    rcases h.O.own.2 with ⟨h1, h2⟩ | ⟨g, cap, cur, h1, _⟩
    · omega
    · simp only [Value.slice.injEq] at h1; exact ⟨g, h1.1⟩
  obtain ⟨p0, p1⟩ := h.O.hd2
  have x8 : w.cell? ⟨gw, 8, none⟩ = some (.slice (some ⟨gq, 0, none⟩) (G.length + 1) d) := h.bx.cell 8 (by show 8 < 14; decide)
  go_enter Try.func114, Try.ntmps114
  refine wp_seq_k fun K1 hK1 => ?_
  have HK1 : Hid _ := hK1
  clear hK1
  go_wp2
  refine HK1.out _ _ ?_
  clear HK1
  clear x8
  refine wp_seq_k fun K2 hK2 => ?_
  have HK2 : Hid _ := hK2
  clear hK2
  by_cases hzz : x = 0 ∧ y = 0
  · obtain ⟨rfl, rfl⟩ := hzz
    have ha : ∀ wz, (Op.equalIn 10000 82 (.agg #[.int .i64 0, .int .i64 0]) (.agg #[.int .i64 0, .int .i64 0])).run Try.prog wz = .ok true wz := fun wz => arr2_i64 0 0 0 0 wz
    go_wp2_with (go_at_call 113; refine (sendMeta_any _ _ _ _ _ _ _ _ _ _ _ _ _ _ _ _ _ _ _ _ _ _ _ _ _ _ h (by omega)).mono ?_; rintro e w5 ⟨rfl, ⟨na5, nc5, h5⟩, f5⟩)
    refine HK2.out _ _ ?_
    clear HK2
    have k5 := f5.kp h
    clear p0 p1 ha
    have Gd := grown_drew w5 none
    have hd := h5.keepN Gd
    refine wp_seq_k fun K4 hK4 => ?_
    have HK4 : Hid _ := hK4
    clear hK4
    have SS4 : w5.drew.cell? ⟨gq, 0, none⟩ = some (.int .i64 0) ∧ w5.drew.cell? ⟨gq, 1, none⟩ = some (.int .i64 0) := hd.O.hd2
    refine wp_regionL (fun wz => wz.cell? ⟨gq, 0, none⟩ = some (.int .i64 0) ∧ wz.cell? ⟨gq, 1, none⟩ = some (.int .i64 0)) [] #[false, false, false, false, false, false, false, false, false] rfl (by kernel_rfl) ?_
    refine wpAnyZ_take [] 0 (.pointer (some ⟨gq, 0, none⟩)) rfl (by kernel_rfl) (fun _ _ _ h => h) SS4 rfl (by rintro wz ⟨z0, z1⟩; go_simp) ?_
    try simp only [zc1, zc2, zc3, Act.put, zc4, zc5, zc6]
    refine wpAnyZ_take [] 1 (.pointer (some ⟨gq, 0, none⟩)) rfl (by kernel_rfl) (fun _ _ _ h => h) SS4 rfl (by rintro wz ⟨z0, z1⟩; go_simp) ?_
    try simp only [zc1, zc2, zc3, Act.put, zc4, zc5, zc6]
    refine wpAnyZ_take [] 2 (.pointer (some ⟨gq, 0, none⟩)) rfl (by kernel_rfl) (fun _ _ _ h => h) SS4 rfl (by rintro wz ⟨z0, z1⟩; go_simp) ?_
    try simp only [zc1, zc2, zc3, Act.put, zc4, zc5, zc6]
    refine wpAnyZ_take [] 3 (.int .i64 0) rfl (by kernel_rfl) (fun _ _ _ h => h) SS4 rfl (by rintro wz ⟨z0, z1⟩; go_simp) ?_
    try simp only [zc1, zc2, zc3, Act.put, zc4, zc5, zc6]
    refine wpAnyZ_take [] 4 (.pointer (some ⟨gq, 0, none⟩)) rfl (by kernel_rfl) (fun _ _ _ h => h) SS4 rfl (by rintro wz ⟨z0, z1⟩; go_simp) ?_
    try simp only [zc1, zc2, zc3, Act.put, zc4, zc5, zc6]
    refine wpAnyZ_take [] 5 (.pointer (some ⟨gq, 0, none⟩)) rfl (by kernel_rfl) (fun _ _ _ h => h) SS4 rfl (by rintro wz ⟨z0, z1⟩; go_simp) ?_
    try simp only [zc1, zc2, zc3, Act.put, zc4, zc5, zc6]
    refine wpAnyZ_take [] 6 (.pointer (some ⟨gq, 1, none⟩)) rfl (by kernel_rfl) (fun _ _ _ h => h) SS4 rfl (by rintro wz ⟨z0, z1⟩; go_simp) ?_
    try simp only [zc1, zc2, zc3, Act.put, zc4, zc5, zc6]
    refine wpAnyZ_take [] 7 (.int .i64 0) rfl (by kernel_rfl) (fun _ _ _ h => h) SS4 rfl (by rintro wz ⟨z0, z1⟩; go_simp) ?_
    try simp only [zc1, zc2, zc3, Act.put, zc4, zc5, zc6]
    refine wpAnyZ_take [] 8 (.bool true) rfl (by kernel_rfl) (fun _ _ _ h => h) SS4 rfl (by rintro wz ⟨z0, z1⟩; go_simp) ?_
    try simp only [zc1, zc2, zc3, Act.put, zc4, zc5, zc6]
    refine wpAnyZ_doneB (by kernel_rfl) ?_ _
    refine HK4.out _ _ ?_
    clear HK4
    refine wp_cond_true rfl ?_
    have k6 := k5.trans (KpT.none Gd)
    clear SS4 Gd h5 k5
    generalize w5.drew = w6 at *
    have x8 : w6.cell? ⟨gw, 8, none⟩ = some (.slice (some ⟨gq, 0, none⟩) (G.length + 1) d) := hd.bx.cell 8 (by show 8 < 14; decide)
    have kDl : Calls Try.prog 125 #[.slice (some ⟨gq, 0, none⟩) (G.length + 1) d, .int .i64 0, .int .i64 1] w6 _ := deleteG_any gq (G.length + 1) d wB.heap.size 0 1 ((0, 0) :: G) w6 hd.O rfl (by omega) (by omega)
    have s0 : True := trivial
    go_wp2_with (first
      | (go_at_call 125; have _t := s0; clear s0; refine Calls.mono kDl ?_; rintro e w7 ⟨rfl, hO7, u7⟩; have b7 := hd.bx.keep u7 (fun e => own_ty hd.O.own hd.bx (by decide) e.symm); have s1 : True := trivial)
      | (have _t := s1; clear s1; refine wpList_stC _ rfl _ _ _ rfl gw 8 100 _ #[.int .i64 id, .string nm, .slice a L.length c, .int .i64 mo, .int .i64 bu, .int .i64 st, .bool fi, .int .i64 at', .slice (some ⟨gq, 0, none⟩) ((G.length + 1) - 1) d, .int .i64 ti, .int .i64 pa, .int .i64 tr, .int .i64 li, .slice na5 (xs.length + 1) nc5] (.slice (some ⟨gq, 0, none⟩) ((G.length + 1) - 1) d) rfl rfl b7 (stc_slG _ _ _ _ _) (by show 8 < 14; decide) rfl ?_; intro w8 b8 u8))
    have h8 := hd.reO u7 hO7 (fun z e => e) u8 b8
    have k8 : KpT w6 w8 := (KpT.ow hd.O u7).trans (KpT.bx b7 (by decide) u8)
    try simp only [Exit.then]
    first | go_end0 | refine bodyPost_ret (results_none rfl _ _ _) rfl ?_
    refine ⟨rfl, ?_, k6.trans k8⟩
    have HX : agD (⟨id, nm, mo, bu, st, fi, at', ti, pa, tr, li, L, ((0 : Int), (0 : Int)) :: G⟩ : Gv) ((0 : Int), (0 : Int)) G = ((⟨id, nm, mo, bu, st, fi, at', ti, pa, tr, li, L, G⟩ : Gv), [ntMeta (⟨id, nm, mo, bu, st, fi, at', ti, pa, tr, li, L, ((0 : Int), (0 : Int)) :: G⟩ : Gv)]) := rfl
    rw [HX]
    exact GA.of (map_one HT.out _ _ rfl) (V := ⟨id, nm, mo, bu, st, fi, at', ti, pa, tr, li, L, G⟩) h8
  · have h3 : 0 ≤ x ∧ x < y ∧ y ≤ (L.length : Int) := hgp.resolve_left hzz
    have ha := fun wz => arr2_i64 x y 0 0 wz
    have hzb : (x == 0 && y == 0) = false := by
      by_cases e1 : x = 0
      · by_cases e2 : y = 0
        · exact absurd ⟨e1, e2⟩ hzz
        · simp [e2]
      · simp [e1]
    rw [hzb] at ha
    obtain ⟨x, rfl⟩ : ∃ k : Nat, x = (k : Int) := ⟨x.toNat, by omega⟩
    obtain ⟨y, rfl⟩ : ∃ k : Nat, y = (k : Int) := ⟨y.toNat, by omega⟩
    obtain ⟨k, hk⟩ : ∃ k : Nat, mo = (k : Int) := ⟨mo.toNat, by omega⟩
    obtain ⟨en, hen⟩ : ∃ en, enN (⟨id, nm, mo, bu, st, fi, at', ti, pa, tr, li, L, ((x : Int), (y : Int)) :: G⟩ : Gv) x y = en := ⟨_, rfl⟩
    have hen2 : en = if x + k ≤ y then x + k else y := by
      rw [← hen]; unfold enN; show (if x + mo.toNat ≤ y then x + mo.toNat else y) = _; rw [hk, Int.toNat_natCast]
    have hk1 : 1 ≤ k ∧ k ≤ 1024 := by omega
    have hle : x < en ∧ en ≤ y := by
      rw [hen2]
      by_cases e : x + k ≤ y
      · rw [if_pos e]; omega
      · rw [if_neg e]; omega
    have HKK : Hid _ := hk
    clear hk
    have HEN : Hid _ := hen
    have HEN2 : Hid _ := hen2
    have HZZ : Hid _ := hzz
    clear hen hen2 hzz hzb hgp
    refine wp_seq_k fun K3 hK3 => ?_
    have HK3 : Hid _ := hK3
    clear hK3
    go_wp2
    refine HK3.out _ _ ?_
    clear HK3
    refine wp_cond_false rfl ?_
    clear ha
    have Gd := grown_drew w none
    have hd := h.keepN Gd
    have SS : w.drew.cell? ⟨gq, 0, none⟩ = some (.int .i64 (x : Int)) ∧ w.drew.cell? ⟨gq, 1, none⟩ = some (.int .i64 (y : Int)) := hd.O.hd2
    refine wp_regionL (fun wz => wz.cell? ⟨gq, 0, none⟩ = some (.int .i64 (x : Int)) ∧ wz.cell? ⟨gq, 1, none⟩ = some (.int .i64 (y : Int))) [8] #[false, false, false, false, false, false, false, false, false] rfl (by kernel_rfl) ?_
    refine wpAnyZ_take [8] 0 (.pointer (some ⟨gq, 0, none⟩)) rfl (by kernel_rfl) (fun _ _ _ h => h) SS rfl (by rintro wz ⟨z0, z1⟩; go_simp) ?_
    try simp only [zc1, zc2, zc3, Act.put, zc4, zc5, zc6]
    refine wpAnyZ_take [8] 1 (.pointer (some ⟨gw, 0, none⟩)) rfl (by kernel_rfl) (fun _ _ _ h => h) SS rfl (by rintro wz ⟨z0, z1⟩; go_simp) ?_
    try simp only [zc1, zc2, zc3, Act.put, zc4, zc5, zc6]
    refine wpAnyZ_take [8] 2 (.pointer (some ⟨gq, 0, none⟩)) rfl (by kernel_rfl) (fun _ _ _ h => h) SS rfl (by rintro wz ⟨z0, z1⟩; go_simp) ?_
    try simp only [zc1, zc2, zc3, Act.put, zc4, zc5, zc6]
    refine wpAnyZ_take [8] 3 (.pointer (some ⟨gq, 0, none⟩)) rfl (by kernel_rfl) (fun _ _ _ h => h) SS rfl (by rintro wz ⟨z0, z1⟩; go_simp) ?_
    try simp only [zc1, zc2, zc3, Act.put, zc4, zc5, zc6]
    refine wpAnyZ_take [8] 4 (.agg #[.int .i64 (x : Int), .int .i64 (y : Int)]) rfl (by kernel_rfl) (fun _ _ _ h => h) SS rfl (by rintro wz ⟨z0, z1⟩; go_simp) ?_
    try simp only [zc1, zc2, zc3, Act.put, zc4, zc5, zc6]
    refine wpAnyZ_take [7, 8] 6 (.pointer (some ⟨gq, 0, none⟩)) rfl (by kernel_rfl) (fun _ _ _ h => h) SS rfl (by rintro wz ⟨z0, z1⟩; go_simp) ?_
    try simp only [zc1, zc2, zc3, Act.put, zc4, zc5, zc6]
    clear p0 p1
    have kG := KpT.none Gd
    clear Gd
    generalize w.drew = w2 at *
    refine wpAnyZ_oneB 5 rfl (by kernel_rfl) (fun KK hKK => ?_)
    go_simp
    go_at_call 115
    refine (sendPiece_any wB w2 gw id nm mo bu st fi at' ti pa tr li a L.length c L _ _ d _ na xs.length nc xs hd x y k en HKK.out (by omega) (by omega) (by omega) (by omega) hn9 (by omega) HEN2.out).mono ?_
    rintro e w5 ⟨rfl, ⟨na5, nc5, a5, c5, h5⟩, f5⟩
    dsimp only
    have SS5 := h5.O.hd2
    refine hKK _ _ (fun _ => SS5) ?_
    try simp only [zc1, zc2, zc3, Act.put, zc4, zc5, zc6]
    have k5 := kG.trans (f5.kp hd)
    refine wpAnyZ_take [8] 7 (.pointer (some ⟨gq, 0, none⟩)) rfl (by kernel_rfl) (fun _ _ _ h => h) SS5 rfl (by rintro wz ⟨z0, z1⟩; go_simp) ?_
    try simp only [zc1, zc2, zc3, Act.put, zc4, zc5, zc6]
    refine wpAnyZ_oneB 8 rfl (by kernel_rfl) (fun KK hKK => ?_)
    obtain ⟨cur, bq⟩ := own_bxS h5.O.own (g := gq) rfl
    refine step_stCd _ rfl _ _ _ rfl gq 0 82 _ (cur.setIfInBounds 0 (.int .i64 (en : Int))) (.int .i64 (en : Int)) rfl rfl bq (fun w' h1 h2 => stc_int _ _ _ _ h1 h2) (by
      rcases h5.O.own.2 with ⟨k1, _⟩ | ⟨g', cap', cur', k1, k2, k3, k4, k5, k6, k7⟩
      · simp at k1
      · simp only [Value.slice.injEq, Option.some.injEq, Addr.mk.injEq] at k1
        obtain ⟨⟨rfl, _⟩, _, rfl⟩ := k1
        have bq : w5.heap[gq]? = some (.cells cur 82) := bq
        rw [k3] at bq
        injection bq with bq
        injection bq with bq
        rw [← bq, k6]
        omega) rfl ?_
    intro w6 b6 u6
    refine hKK _ _ (fun h => absurd (by decide) h) ?_
    try simp only [zc1, zc2, zc3, Act.put, zc4, zc5, zc6]
    refine wpAnyZ_doneB (by kernel_rfl) ?_ _
    have hO6 := h5.O.head bq b6
    have h6 := h5.hdO u6 hO6
    have k6 := k5.trans (KpT.ow h5.O u6)
    try simp only [Exit.then]
    refine HK2.out _ _ ?_
    clear HK2
    clear SS SS5 h5 f5 k5 u6 b6 bq hO6 h hd kG
    have Gd := grown_drew w6 none
    have hd := h6.keepN Gd
    refine wp_seq_k fun K4 hK4 => ?_
    have HK4 : Hid _ := hK4
    clear hK4
    by_cases hey : en = y
    · subst hey
      have HX : Hid (agD (⟨id, nm, mo, bu, st, fi, at', ti, pa, tr, li, L, ((x : Int), (en : Int)) :: G⟩ : Gv) ((x : Int), (en : Int)) G = ((⟨id, nm, mo, bu, st, fi, at', ti, pa, tr, li, L, G⟩ : Gv), [ntPie (⟨id, nm, mo, bu, st, fi, at', ti, pa, tr, li, L, ((x : Int), (en : Int)) :: G⟩ : Gv) x en])) := by
        show _ = _
        unfold agD
        rw [if_neg HZZ.out, Int.toNat_natCast, Int.toNat_natCast, HEN.out, if_pos rfl]
      have SS4 : w6.drew.cell? ⟨gq, 0, none⟩ = some (.int .i64 (en : Int)) ∧ w6.drew.cell? ⟨gq, 1, none⟩ = some (.int .i64 (en : Int)) := hd.O.hd2
      refine wp_regionL (fun wz => wz.cell? ⟨gq, 0, none⟩ = some (.int .i64 (en : Int)) ∧ wz.cell? ⟨gq, 1, none⟩ = some (.int .i64 (en : Int))) [] #[false, false, false, false, false, false, false, false, false] rfl (by kernel_rfl) ?_
      refine wpAnyZ_take [] 0 (.pointer (some ⟨gq, 0, none⟩)) rfl (by kernel_rfl) (fun _ _ _ h => h) SS4 rfl (by rintro wz ⟨z0, z1⟩; go_simp) ?_
      try simp only [zc1, zc2, zc3, Act.put, zc4, zc5, zc6]
      refine wpAnyZ_take [] 1 (.pointer (some ⟨gq, 0, none⟩)) rfl (by kernel_rfl) (fun _ _ _ h => h) SS4 rfl (by rintro wz ⟨z0, z1⟩; go_simp) ?_
      try simp only [zc1, zc2, zc3, Act.put, zc4, zc5, zc6]
      refine wpAnyZ_take [] 2 (.pointer (some ⟨gq, 0, none⟩)) rfl (by kernel_rfl) (fun _ _ _ h => h) SS4 rfl (by rintro wz ⟨z0, z1⟩; go_simp) ?_
      try simp only [zc1, zc2, zc3, Act.put, zc4, zc5, zc6]
      refine wpAnyZ_take [] 3 (.int .i64 (en : Int)) rfl (by kernel_rfl) (fun _ _ _ h => h) SS4 rfl (by rintro wz ⟨z0, z1⟩; go_simp) ?_
      try simp only [zc1, zc2, zc3, Act.put, zc4, zc5, zc6]
      refine wpAnyZ_take [] 4 (.pointer (some ⟨gq, 0, none⟩)) rfl (by kernel_rfl) (fun _ _ _ h => h) SS4 rfl (by rintro wz ⟨z0, z1⟩; go_simp) ?_
      try simp only [zc1, zc2, zc3, Act.put, zc4, zc5, zc6]
      refine wpAnyZ_take [] 5 (.pointer (some ⟨gq, 0, none⟩)) rfl (by kernel_rfl) (fun _ _ _ h => h) SS4 rfl (by rintro wz ⟨z0, z1⟩; go_simp) ?_
      try simp only [zc1, zc2, zc3, Act.put, zc4, zc5, zc6]
      refine wpAnyZ_take [] 6 (.pointer (some ⟨gq, 1, none⟩)) rfl (by kernel_rfl) (fun _ _ _ h => h) SS4 rfl (by rintro wz ⟨z0, z1⟩; go_simp) ?_
      try simp only [zc1, zc2, zc3, Act.put, zc4, zc5, zc6]
      refine wpAnyZ_take [] 7 (.int .i64 (en : Int)) rfl (by kernel_rfl) (fun _ _ _ h => h) SS4 rfl (by rintro wz ⟨z0, z1⟩; go_simp) ?_
      try simp only [zc1, zc2, zc3, Act.put, zc4, zc5, zc6]
      refine wpAnyZ_take [] 8 (.bool true) rfl (by kernel_rfl) (fun _ _ _ h => h) SS4 rfl (by rintro wz ⟨z0, z1⟩; go_simp) ?_
      try simp only [zc1, zc2, zc3, Act.put, zc4, zc5, zc6]
      refine wpAnyZ_doneB (by kernel_rfl) ?_ _
      refine HK4.out _ _ ?_
      clear HK4
      refine wp_cond_true rfl ?_
      have k7 := k6.trans (KpT.none Gd)
      clear SS4 Gd h6 k6
      generalize w6.drew = w6' at *
      have x8 : w6'.cell? ⟨gw, 8, none⟩ = some (.slice (some ⟨gq, 0, none⟩) (G.length + 1) d) := hd.bx.cell 8 (by show 8 < 14; decide)
      have kDl : Calls Try.prog 125 #[.slice (some ⟨gq, 0, none⟩) (G.length + 1) d, .int .i64 0, .int .i64 1] w6' _ := deleteG_any gq (G.length + 1) d wB.heap.size 0 1 (((en : Int), (en : Int)) :: G) w6' hd.O rfl (by omega) (by omega)
      have s0 : True := trivial
      go_wp2_with (first
        | (go_at_call 125; have _t := s0; clear s0; refine Calls.mono kDl ?_; rintro e w7 ⟨rfl, hO7, u7⟩; have b7 := hd.bx.keep u7 (fun e => own_ty hd.O.own hd.bx (by decide) e.symm); have s1 : True := trivial)
        | (have _t := s1; clear s1; refine wpList_stC _ rfl _ _ _ rfl gw 8 100 _ #[.int .i64 id, .string nm, .slice a L.length c, .int .i64 mo, .int .i64 bu, .int .i64 st, .bool fi, .int .i64 at', .slice (some ⟨gq, 0, none⟩) ((G.length + 1) - 1) d, .int .i64 ti, .int .i64 pa, .int .i64 tr, .int .i64 li, .slice na5 (xs.length + 1) nc5] (.slice (some ⟨gq, 0, none⟩) ((G.length + 1) - 1) d) rfl rfl b7 (stc_slG _ _ _ _ _) (by show 8 < 14; decide) rfl ?_; intro w8 b8 u8))
      have h8 := hd.reO u7 hO7 (fun z e => e) u8 b8
      have k8 : KpT w6' w8 := (KpT.ow hd.O u7).trans (KpT.bx b7 (by decide) u8)
      try simp only [Exit.then]
      first | go_end0 | refine bodyPost_ret (results_none rfl _ _ _) rfl ?_
      refine ⟨rfl, ?_, k7.trans k8⟩
      refine (show GA wB w8 gw (agD _ _ _).1 (T ++ (agD _ _ _).2) from ?_)
      rw [HX.out]
      exact GA.of (map_one HT.out _ _ rfl) (V := ⟨id, nm, mo, bu, st, fi, at', ti, pa, tr, li, L, G⟩) h8
    · have hey2 : ((en : Int) == (y : Int)) = false := beq_eq_false_iff_ne.2 (by omega)
      have HX : Hid (agD (⟨id, nm, mo, bu, st, fi, at', ti, pa, tr, li, L, ((x : Int), (y : Int)) :: G⟩ : Gv) ((x : Int), (y : Int)) G = ((⟨id, nm, mo, bu, st, fi, at', ti, pa, tr, li, L, ((en : Int), (y : Int)) :: G⟩ : Gv), [ntPie (⟨id, nm, mo, bu, st, fi, at', ti, pa, tr, li, L, ((x : Int), (y : Int)) :: G⟩ : Gv) x en])) := by
        show _ = _
        unfold agD
        rw [if_neg HZZ.out, Int.toNat_natCast, Int.toNat_natCast, HEN.out, if_neg hey]
      have SS4 : w6.drew.cell? ⟨gq, 0, none⟩ = some (.int .i64 (en : Int)) ∧ w6.drew.cell? ⟨gq, 1, none⟩ = some (.int .i64 (y : Int)) := hd.O.hd2
      refine wp_regionL (fun wz => wz.cell? ⟨gq, 0, none⟩ = some (.int .i64 (en : Int)) ∧ wz.cell? ⟨gq, 1, none⟩ = some (.int .i64 (y : Int))) [] #[false, false, false, false, false, false, false, false, false] rfl (by kernel_rfl) ?_
      refine wpAnyZ_take [] 0 (.pointer (some ⟨gq, 0, none⟩)) rfl (by kernel_rfl) (fun _ _ _ h => h) SS4 rfl (by rintro wz ⟨z0, z1⟩; go_simp) ?_
      try simp only [zc1, zc2, zc3, Act.put, zc4, zc5, zc6]
      refine wpAnyZ_take [] 1 (.pointer (some ⟨gq, 0, none⟩)) rfl (by kernel_rfl) (fun _ _ _ h => h) SS4 rfl (by rintro wz ⟨z0, z1⟩; go_simp) ?_
      try simp only [zc1, zc2, zc3, Act.put, zc4, zc5, zc6]
      refine wpAnyZ_take [] 2 (.pointer (some ⟨gq, 0, none⟩)) rfl (by kernel_rfl) (fun _ _ _ h => h) SS4 rfl (by rintro wz ⟨z0, z1⟩; go_simp) ?_
      try simp only [zc1, zc2, zc3, Act.put, zc4, zc5, zc6]
      refine wpAnyZ_take [] 3 (.int .i64 (en : Int)) rfl (by kernel_rfl) (fun _ _ _ h => h) SS4 rfl (by rintro wz ⟨z0, z1⟩; go_simp) ?_
      try simp only [zc1, zc2, zc3, Act.put, zc4, zc5, zc6]
      refine wpAnyZ_take [] 4 (.pointer (some ⟨gq, 0, none⟩)) rfl (by kernel_rfl) (fun _ _ _ h => h) SS4 rfl (by rintro wz ⟨z0, z1⟩; go_simp) ?_
      try simp only [zc1, zc2, zc3, Act.put, zc4, zc5, zc6]
      refine wpAnyZ_take [] 5 (.pointer (some ⟨gq, 0, none⟩)) rfl (by kernel_rfl) (fun _ _ _ h => h) SS4 rfl (by rintro wz ⟨z0, z1⟩; go_simp) ?_
      try simp only [zc1, zc2, zc3, Act.put, zc4, zc5, zc6]
      refine wpAnyZ_take [] 6 (.pointer (some ⟨gq, 1, none⟩)) rfl (by kernel_rfl) (fun _ _ _ h => h) SS4 rfl (by rintro wz ⟨z0, z1⟩; go_simp) ?_
      try simp only [zc1, zc2, zc3, Act.put, zc4, zc5, zc6]
      refine wpAnyZ_take [] 7 (.int .i64 (y : Int)) rfl (by kernel_rfl) (fun _ _ _ h => h) SS4 rfl (by rintro wz ⟨z0, z1⟩; go_simp) ?_
      try simp only [zc1, zc2, zc3, Act.put, zc4, zc5, zc6]
      refine wpAnyZ_take [] 8 (.bool false) rfl (by kernel_rfl) (fun _ _ _ h => h) SS4 rfl (by rintro wz ⟨z0, z1⟩; go_simp) ?_
      try simp only [zc1, zc2, zc3, Act.put, zc4, zc5, zc6]
      refine wpAnyZ_doneB (by kernel_rfl) ?_ _
      refine HK4.out _ _ ?_
      clear HK4
      refine wp_cond_false rfl ?_
      refine wp_skip ?_
      try simp only [Exit.then]
      first | go_end0 | refine bodyPost_ret (results_none rfl _ _ _) rfl ?_
      refine ⟨rfl, ?_, k6.trans (KpT.none Gd)⟩
      refine (show GA wB _ gw (agD _ _ _).1 (T ++ (agD _ _ _).2) from ?_)
      rw [HX.out]
      exact GA.of (map_one HT.out _ _ rfl) (V := ⟨id, nm, mo, bu, st, fi, at', ti, pa, tr, li, L, ((en : Int), (y : Int)) :: G⟩) hd
end
end Go.Proofs.Ytnimehkfnpepfaa
