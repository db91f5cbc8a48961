import Derived.Test.YtnimehkfnpepfaaWh31
import Derived.Test.YtnimehkfnpepfaaWh36
namespace Go.Proofs.Ytnimehkfnpepfaa
open Go.RowKit
set_option maxRecDepth 100000
set_option linter.unusedVariables false
set_option linter.unusedSimpArgs false

section
/-- what holds of a taker between two steps -/
structure TvQ (V : Tv) : Prop where
  ri : Rise (giF V.G) V.G.length
  gl : V.G.length ≤ 65536
  ge : ∀ j, j < V.G.length → (giF V.G j).2 ≤ (V.L.length : Int)
  n9 : V.L.length ≤ 65536
  si : 0 ≤ V.si ∧ V.si ≤ 65536
  la : 0 ≤ V.la ∧ V.la ≤ 65536
theorem TvO.q {V : Tv} (h : TvO V) : TvQ V := ⟨h.ri, h.gl, fun j hj => by rw [h.rc]; exact (rise_rc h.ri).2 j hj, h.n9, h.si, h.la⟩
theorem ha_leQ {V : Tv} (ho : TvQ V) (h : haB (giF V.G) V.si V.G.length = true) : V.si ≤ (V.L.length : Int) := by
  unfold haB at h
  have h := of_decide_eq_true h
  have hu : ¬ uqA (giF V.G) 0 V.G.length < V.si := by
    intro e
    unfold uqF at h
    rw [if_pos e, List.length_append] at h
    have h : (uqL (giF V.G) 0 V.si V.G.length).length + 1 = 0 := h
    omega
  obtain ⟨h1, h2⟩ := uqA_rise V.G.length ho.ri
  by_cases e : V.G.length = 0
  · rw [e] at hu
    have hu : ¬ (0 : Int) < V.si := hu
    omega
  · rw [h2 (by omega)] at hu
    have := ho.ge (V.G.length - 1) (by omega)
    omega
/-- a file's sum -/
def smI (X : List Nat) : Int := ((smT X X.length % 4294967296 : Nat) : Int)
/-- the verdict -/
def juV (V : Tv) : Tv × List Nt :=
  if V.kn = true ∧ V.en = true ∧ (V.si = V.la → haB (giF V.G) V.si V.G.length = true) then
    (if V.si = V.la ∧ V.su = smI (V.L.take V.si.toNat) then ({ V with st := 3 }, [ntDone V.id 0]) else ({ V with st := 4 }, [ntDone V.id 9]))
  else (V, [])

set_option maxHeartbeats 32000000 in
/-- is the file whole, or will it never be? -/
theorem judge_any (wB w : World) (gw : Nat) (V : Tv) (T : List Nt) (h : KA wB w gw V T) (ho : TvQ V) (hT1 : T.length ≤ 1000) : Calls Try.prog 123 #[.pointer (some ⟨gw, 0, none⟩)] w fun e w' => e = .returned (.tuple #[]) ∧ KA wB w' gw (juV V).1 (T ++ (juV V).2) ∧ KpK w w' ∧ ((juV V).1.st = 0 → w.grownBy w' none) := by
  obtain ⟨a, c, q, d, na, nc, xs, hT, h⟩ := h
  have hle := fun h => ha_leQ (V := V) ho h
  have hsi := ho.si
  have hgl := ho.gl
  have hn9 := ho.n9
  clear ho
  obtain ⟨id, kn, nm, si, en, la, su, st, ti, pa, tr, li, L, G⟩ := V
  dsimp only at h hle hsi hgl hn9
  have hxl : xs.length ≤ 1000 := by rw [← hT, List.length_map] at hT1; exact hT1
  have HXL : Hid _ := hxl
  have HGL : Hid _ := hgl
  have HLE : Hid _ := hle
  have HSI : Hid _ := hsi
  have HN9 : Hid _ := hn9
  clear hT1 hxl hgl hle hsi hn9
  have HT : Hid _ := hT
  clear hT
  cases kn with
  | false =>
    have HX : Hid (juV (⟨id, false, nm, si, en, la, su, st, ti, pa, tr, li, L, G⟩ : Tv) = ((⟨id, false, nm, si, en, la, su, st, ti, pa, tr, li, L, G⟩ : Tv), [])) := by show _ = _; unfold juV; rw [if_neg (fun e => by cases e.1)]
    go_enter Try.func123, Try.ntmps123
    refine wp_seq_k fun K2 hK2 => ?_
    have HK2 : Hid _ := hK2
    clear hK2
    refine wp_seq_k fun K3 hK3 => ?_
    have HK3 : Hid _ := hK3
    clear hK3
    have Gd := grown_drew w none
    have hd := h.keepN Gd
    have SS : BxS w.drew gw 112 #[.int .i64 id, .bool false, .string nm, .int .i64 si, .bool en, .int .i64 la, .int .i64 su, .slice q G.length d, .slice a L.length c, .int .i64 st, .int .i64 ti, .int .i64 pa, .int .i64 tr, .int .i64 li, .slice na xs.length nc] := hd.bx
    refine wp_regionL (fun wz => BxS wz gw 112 #[.int .i64 id, .bool false, .string nm, .int .i64 si, .bool en, .int .i64 la, .int .i64 su, .slice q G.length d, .slice a L.length c, .int .i64 st, .int .i64 ti, .int .i64 pa, .int .i64 tr, .int .i64 li, .slice na xs.length nc]) [] #[false, false, false, false, false, false, false, false, false, false, false, false, false, false, false, false, false, false, false, false, false, false, false, false, false, false, false, false, false, false, false, false, false, false, false] rfl (by kernel_rfl) ?_
    generalize w.drew = wd at *
    refine wpAnyZ_take [] 0 (.pointer (some ⟨gw, 0, none⟩)) rfl (by kernel_rfl) (fun _ _ _ h => h) SS rfl (by intro wz hz; go_simp) ?_
    try simp only [zc1, zc2, zc3, Act.put, zc4, zc5, zc6]
    refine wpAnyZ_take [] 1 (.pointer (some ⟨gw, 0, none⟩)) rfl (by kernel_rfl) (fun _ _ _ h => h) SS rfl (by intro wz hz; go_simp) ?_
    try simp only [zc1, zc2, zc3, Act.put, zc4, zc5, zc6]
    refine wpAnyZ_take [] 2 (.pointer (some ⟨gw, 0, none⟩)) rfl (by kernel_rfl) (fun _ _ _ h => h) SS rfl (by intro wz hz; go_simp) ?_
    try simp only [zc1, zc2, zc3, Act.put, zc4, zc5, zc6]
    refine wpAnyZ_take [] 3 (.pointer (some ⟨gw, 1, none⟩)) rfl (by kernel_rfl) (fun _ _ _ h => h) SS rfl (by intro wz hz; go_simp) ?_
    try simp only [zc1, zc2, zc3, Act.put, zc4, zc5, zc6]
    refine wpAnyZ_take [] 4 (.bool false) rfl (by kernel_rfl) (fun _ _ _ h => h) SS rfl (by intro wz hz; have z : wz.cell? ⟨gw, 1, none⟩ = some (.bool false) := hz.cell 1 (by show 1 < 15; decide); go_simp) ?_
    try simp only [zc1, zc2, zc3, Act.put, zc4, zc5, zc6]
    refine wpAnyZ_take [] 5 (.bool true) rfl (by kernel_rfl) (fun _ _ _ h => h) SS rfl (by intro wz hz; go_simp) ?_
    try simp only [zc1, zc2, zc3, Act.put, zc4, zc5, zc6]
    refine wpAnyZ_take [] 6 (.bool true) rfl (by kernel_rfl) (fun _ _ _ h => h) SS rfl (by intro wz hz; go_simp) ?_
    try simp only [zc1, zc2, zc3, Act.put, zc4, zc5, zc6]
    refine wpAnyZ_skipD [] 7 rfl (by kernel_rfl) (fun _ _ _ h => h) SS rfl ?_
    try simp only [zc1, zc2, zc3, Act.put, zc4, zc5, zc6]
    refine wpAnyZ_skipD [] 8 rfl (by kernel_rfl) (fun _ _ _ h => h) SS rfl ?_
    try simp only [zc1, zc2, zc3, Act.put, zc4, zc5, zc6]
    refine wpAnyZ_skipD [] 9 rfl (by kernel_rfl) (fun _ _ _ h => h) SS rfl ?_
    try simp only [zc1, zc2, zc3, Act.put, zc4, zc5, zc6]
    refine wpAnyZ_skipD [] 10 rfl (by kernel_rfl) (fun _ _ _ h => h) SS rfl ?_
    try simp only [zc1, zc2, zc3, Act.put, zc4, zc5, zc6]
    refine wpAnyZ_skipD [] 11 rfl (by kernel_rfl) (fun _ _ _ h => h) SS rfl ?_
    try simp only [zc1, zc2, zc3, Act.put, zc4, zc5, zc6]
    refine wpAnyZ_skipD [] 12 rfl (by kernel_rfl) (fun _ _ _ h => h) SS rfl ?_
    try simp only [zc1, zc2, zc3, Act.put, zc4, zc5, zc6]
    refine wpAnyZ_take [] 13 (.bool true) rfl (by kernel_rfl) (fun _ _ _ h => h) SS rfl (by intro wz hz; go_simp) ?_
    try simp only [zc1, zc2, zc3, Act.put, zc4, zc5, zc6]
    refine wpAnyZ_take [] 14 (.bool true) rfl (by kernel_rfl) (fun _ _ _ h => h) SS rfl (by intro wz hz; go_simp) ?_
    try simp only [zc1, zc2, zc3, Act.put, zc4, zc5, zc6]
    refine wpAnyZ_skipD [] 15 rfl (by kernel_rfl) (fun _ _ _ h => h) SS rfl ?_
    try simp only [zc1, zc2, zc3, Act.put, zc4, zc5, zc6]
    refine wpAnyZ_skipD [] 16 rfl (by kernel_rfl) (fun _ _ _ h => h) SS rfl ?_
    try simp only [zc1, zc2, zc3, Act.put, zc4, zc5, zc6]
    refine wpAnyZ_skipD [] 17 rfl (by kernel_rfl) (fun _ _ _ h => h) SS rfl ?_
    try simp only [zc1, zc2, zc3, Act.put, zc4, zc5, zc6]
    refine wpAnyZ_skipD [] 18 rfl (by kernel_rfl) (fun _ _ _ h => h) SS rfl ?_
    try simp only [zc1, zc2, zc3, Act.put, zc4, zc5, zc6]
    refine wpAnyZ_skipD [] 19 rfl (by kernel_rfl) (fun _ _ _ h => h) SS rfl ?_
    try simp only [zc1, zc2, zc3, Act.put, zc4, zc5, zc6]
    refine wpAnyZ_skipD [] 20 rfl (by kernel_rfl) (fun _ _ _ h => h) SS rfl ?_
    try simp only [zc1, zc2, zc3, Act.put, zc4, zc5, zc6]
    refine wpAnyZ_skipD [] 21 rfl (by kernel_rfl) (fun _ _ _ h => h) SS rfl ?_
    try simp only [zc1, zc2, zc3, Act.put, zc4, zc5, zc6]
    refine wpAnyZ_skipD [] 22 rfl (by kernel_rfl) (fun _ _ _ h => h) SS rfl ?_
    try simp only [zc1, zc2, zc3, Act.put, zc4, zc5, zc6]
    refine wpAnyZ_skipD [] 23 rfl (by kernel_rfl) (fun _ _ _ h => h) SS rfl ?_
    try simp only [zc1, zc2, zc3, Act.put, zc4, zc5, zc6]
    refine wpAnyZ_skipD [] 24 rfl (by kernel_rfl) (fun _ _ _ h => h) SS rfl ?_
    try simp only [zc1, zc2, zc3, Act.put, zc4, zc5, zc6]
    refine wpAnyZ_skipD [] 25 rfl (by kernel_rfl) (fun _ _ _ h => h) SS rfl ?_
    try simp only [zc1, zc2, zc3, Act.put, zc4, zc5, zc6]
    refine wpAnyZ_skipD [] 26 rfl (by kernel_rfl) (fun _ _ _ h => h) SS rfl ?_
    try simp only [zc1, zc2, zc3, Act.put, zc4, zc5, zc6]
    refine wpAnyZ_skipD [] 27 rfl (by kernel_rfl) (fun _ _ _ h => h) SS rfl ?_
    try simp only [zc1, zc2, zc3, Act.put, zc4, zc5, zc6]
    refine wpAnyZ_skipD [] 28 rfl (by kernel_rfl) (fun _ _ _ h => h) SS rfl ?_
    try simp only [zc1, zc2, zc3, Act.put, zc4, zc5, zc6]
    refine wpAnyZ_skipD [] 29 rfl (by kernel_rfl) (fun _ _ _ h => h) SS rfl ?_
    try simp only [zc1, zc2, zc3, Act.put, zc4, zc5, zc6]
    refine wpAnyZ_skipD [] 30 rfl (by kernel_rfl) (fun _ _ _ h => h) SS rfl ?_
    try simp only [zc1, zc2, zc3, Act.put, zc4, zc5, zc6]
    refine wpAnyZ_skipD [] 31 rfl (by kernel_rfl) (fun _ _ _ h => h) SS rfl ?_
    try simp only [zc1, zc2, zc3, Act.put, zc4, zc5, zc6]
    refine wpAnyZ_skipD [] 32 rfl (by kernel_rfl) (fun _ _ _ h => h) SS rfl ?_
    try simp only [zc1, zc2, zc3, Act.put, zc4, zc5, zc6]
    refine wpAnyZ_skipD [] 33 rfl (by kernel_rfl) (fun _ _ _ h => h) SS rfl ?_
    try simp only [zc1, zc2, zc3, Act.put, zc4, zc5, zc6]
    refine wpAnyZ_take [] 34 (.bool true) rfl (by kernel_rfl) (fun _ _ _ h => h) SS rfl (by intro wz hz; go_simp) ?_
    try simp only [zc1, zc2, zc3, Act.put, zc4, zc5, zc6]
    refine wpAnyZ_doneB (by kernel_rfl) ?_ _
    refine HK3.out _ _ ?_
    clear HK3
    refine wp_cond_true rfl ?_
    clear HK2
    refine wp_ret ?_
    try simp only [Exit.then, Exit.inBlock]
    refine bodyPost_ret (results_none rfl _ _ _) rfl ?_
    refine ⟨rfl, ?_, KpK.none Gd, fun _ => Gd⟩
    rw [HX.out]
    show KA wB _ gw (⟨id, false, nm, si, en, la, su, st, ti, pa, tr, li, L, G⟩ : Tv) (T ++ [])
    rw [List.append_nil]
    exact KA.of HT.out (V := (⟨id, false, nm, si, en, la, su, st, ti, pa, tr, li, L, G⟩ : Tv)) hd
  | true =>
    cases en with
    | false =>
      have HX : Hid (juV (⟨id, true, nm, si, false, la, su, st, ti, pa, tr, li, L, G⟩ : Tv) = ((⟨id, true, nm, si, false, la, su, st, ti, pa, tr, li, L, G⟩ : Tv), [])) := by show _ = _; unfold juV; rw [if_neg (fun e => by cases e.2.1)]
      go_enter Try.func123, Try.ntmps123
      refine wp_seq_k fun K2 hK2 => ?_
      have HK2 : Hid _ := hK2
      clear hK2
      refine wp_seq_k fun K3 hK3 => ?_
      have HK3 : Hid _ := hK3
      clear hK3
      have Gd := grown_drew w none
      have hd := h.keepN Gd
      have SS : BxS w.drew gw 112 #[.int .i64 id, .bool true, .string nm, .int .i64 si, .bool false, .int .i64 la, .int .i64 su, .slice q G.length d, .slice a L.length c, .int .i64 st, .int .i64 ti, .int .i64 pa, .int .i64 tr, .int .i64 li, .slice na xs.length nc] := hd.bx
      refine wp_regionL (fun wz => BxS wz gw 112 #[.int .i64 id, .bool true, .string nm, .int .i64 si, .bool false, .int .i64 la, .int .i64 su, .slice q G.length d, .slice a L.length c, .int .i64 st, .int .i64 ti, .int .i64 pa, .int .i64 tr, .int .i64 li, .slice na xs.length nc]) [] #[false, false, false, false, false, false, false, false, false, false, false, false, false, false, false, false, false, false, false, false, false, false, false, false, false, false, false, false, false, false, false, false, false, false, false] rfl (by kernel_rfl) ?_
      generalize w.drew = wd at *
      refine wpAnyZ_take [] 0 (.pointer (some ⟨gw, 0, none⟩)) rfl (by kernel_rfl) (fun _ _ _ h => h) SS rfl (by intro wz hz; go_simp) ?_
      try simp only [zc1, zc2, zc3, Act.put, zc4, zc5, zc6]
      refine wpAnyZ_take [] 1 (.pointer (some ⟨gw, 0, none⟩)) rfl (by kernel_rfl) (fun _ _ _ h => h) SS rfl (by intro wz hz; go_simp) ?_
      try simp only [zc1, zc2, zc3, Act.put, zc4, zc5, zc6]
      refine wpAnyZ_take [] 2 (.pointer (some ⟨gw, 0, none⟩)) rfl (by kernel_rfl) (fun _ _ _ h => h) SS rfl (by intro wz hz; go_simp) ?_
      try simp only [zc1, zc2, zc3, Act.put, zc4, zc5, zc6]
      refine wpAnyZ_take [] 3 (.pointer (some ⟨gw, 1, none⟩)) rfl (by kernel_rfl) (fun _ _ _ h => h) SS rfl (by intro wz hz; go_simp) ?_
      try simp only [zc1, zc2, zc3, Act.put, zc4, zc5, zc6]
      refine wpAnyZ_take [] 4 (.bool true) rfl (by kernel_rfl) (fun _ _ _ h => h) SS rfl (by intro wz hz; have z : wz.cell? ⟨gw, 1, none⟩ = some (.bool true) := hz.cell 1 (by show 1 < 15; decide); go_simp) ?_
      try simp only [zc1, zc2, zc3, Act.put, zc4, zc5, zc6]
      refine wpAnyZ_take [] 5 (.bool false) rfl (by kernel_rfl) (fun _ _ _ h => h) SS rfl (by intro wz hz; go_simp) ?_
      try simp only [zc1, zc2, zc3, Act.put, zc4, zc5, zc6]
      refine wpAnyZ_take [] 6 (.bool false) rfl (by kernel_rfl) (fun _ _ _ h => h) SS rfl (by intro wz hz; go_simp) ?_
      try simp only [zc1, zc2, zc3, Act.put, zc4, zc5, zc6]
      refine wpAnyZ_take [] 7 (.pointer (some ⟨gw, 0, none⟩)) rfl (by kernel_rfl) (fun _ _ _ h => h) SS rfl (by intro wz hz; go_simp) ?_
      try simp only [zc1, zc2, zc3, Act.put, zc4, zc5, zc6]
      refine wpAnyZ_take [] 8 (.pointer (some ⟨gw, 0, none⟩)) rfl (by kernel_rfl) (fun _ _ _ h => h) SS rfl (by intro wz hz; go_simp) ?_
      try simp only [zc1, zc2, zc3, Act.put, zc4, zc5, zc6]
      refine wpAnyZ_take [] 9 (.pointer (some ⟨gw, 0, none⟩)) rfl (by kernel_rfl) (fun _ _ _ h => h) SS rfl (by intro wz hz; go_simp) ?_
      try simp only [zc1, zc2, zc3, Act.put, zc4, zc5, zc6]
      refine wpAnyZ_take [] 10 (.pointer (some ⟨gw, 4, none⟩)) rfl (by kernel_rfl) (fun _ _ _ h => h) SS rfl (by intro wz hz; go_simp) ?_
      try simp only [zc1, zc2, zc3, Act.put, zc4, zc5, zc6]
      refine wpAnyZ_take [] 11 (.bool false) rfl (by kernel_rfl) (fun _ _ _ h => h) SS rfl (by intro wz hz; have z : wz.cell? ⟨gw, 4, none⟩ = some (.bool false) := hz.cell 4 (by show 4 < 15; decide); go_simp) ?_
      try simp only [zc1, zc2, zc3, Act.put, zc4, zc5, zc6]
      refine wpAnyZ_take [] 12 (.bool true) rfl (by kernel_rfl) (fun _ _ _ h => h) SS rfl (by intro wz hz; go_simp) ?_
      try simp only [zc1, zc2, zc3, Act.put, zc4, zc5, zc6]
      refine wpAnyZ_take [] 13 (.bool true) rfl (by kernel_rfl) (fun _ _ _ h => h) SS rfl (by intro wz hz; go_simp) ?_
      try simp only [zc1, zc2, zc3, Act.put, zc4, zc5, zc6]
      refine wpAnyZ_take [] 14 (.bool true) rfl (by kernel_rfl) (fun _ _ _ h => h) SS rfl (by intro wz hz; go_simp) ?_
      try simp only [zc1, zc2, zc3, Act.put, zc4, zc5, zc6]
      refine wpAnyZ_skipD [] 15 rfl (by kernel_rfl) (fun _ _ _ h => h) SS rfl ?_
      try simp only [zc1, zc2, zc3, Act.put, zc4, zc5, zc6]
      refine wpAnyZ_skipD [] 16 rfl (by kernel_rfl) (fun _ _ _ h => h) SS rfl ?_
      try simp only [zc1, zc2, zc3, Act.put, zc4, zc5, zc6]
      refine wpAnyZ_skipD [] 17 rfl (by kernel_rfl) (fun _ _ _ h => h) SS rfl ?_
      try simp only [zc1, zc2, zc3, Act.put, zc4, zc5, zc6]
      refine wpAnyZ_skipD [] 18 rfl (by kernel_rfl) (fun _ _ _ h => h) SS rfl ?_
      try simp only [zc1, zc2, zc3, Act.put, zc4, zc5, zc6]
      refine wpAnyZ_skipD [] 19 rfl (by kernel_rfl) (fun _ _ _ h => h) SS rfl ?_
      try simp only [zc1, zc2, zc3, Act.put, zc4, zc5, zc6]
      refine wpAnyZ_skipD [] 20 rfl (by kernel_rfl) (fun _ _ _ h => h) SS rfl ?_
      try simp only [zc1, zc2, zc3, Act.put, zc4, zc5, zc6]
      refine wpAnyZ_skipD [] 21 rfl (by kernel_rfl) (fun _ _ _ h => h) SS rfl ?_
      try simp only [zc1, zc2, zc3, Act.put, zc4, zc5, zc6]
      refine wpAnyZ_skipD [] 22 rfl (by kernel_rfl) (fun _ _ _ h => h) SS rfl ?_
      try simp only [zc1, zc2, zc3, Act.put, zc4, zc5, zc6]
      refine wpAnyZ_skipD [] 23 rfl (by kernel_rfl) (fun _ _ _ h => h) SS rfl ?_
      try simp only [zc1, zc2, zc3, Act.put, zc4, zc5, zc6]
      refine wpAnyZ_skipD [] 24 rfl (by kernel_rfl) (fun _ _ _ h => h) SS rfl ?_
      try simp only [zc1, zc2, zc3, Act.put, zc4, zc5, zc6]
      refine wpAnyZ_skipD [] 25 rfl (by kernel_rfl) (fun _ _ _ h => h) SS rfl ?_
      try simp only [zc1, zc2, zc3, Act.put, zc4, zc5, zc6]
      refine wpAnyZ_skipD [] 26 rfl (by kernel_rfl) (fun _ _ _ h => h) SS rfl ?_
      try simp only [zc1, zc2, zc3, Act.put, zc4, zc5, zc6]
      refine wpAnyZ_skipD [] 27 rfl (by kernel_rfl) (fun _ _ _ h => h) SS rfl ?_
      try simp only [zc1, zc2, zc3, Act.put, zc4, zc5, zc6]
      refine wpAnyZ_skipD [] 28 rfl (by kernel_rfl) (fun _ _ _ h => h) SS rfl ?_
      try simp only [zc1, zc2, zc3, Act.put, zc4, zc5, zc6]
      refine wpAnyZ_skipD [] 29 rfl (by kernel_rfl) (fun _ _ _ h => h) SS rfl ?_
      try simp only [zc1, zc2, zc3, Act.put, zc4, zc5, zc6]
      refine wpAnyZ_skipD [] 30 rfl (by kernel_rfl) (fun _ _ _ h => h) SS rfl ?_
      try simp only [zc1, zc2, zc3, Act.put, zc4, zc5, zc6]
      refine wpAnyZ_skipD [] 31 rfl (by kernel_rfl) (fun _ _ _ h => h) SS rfl ?_
      try simp only [zc1, zc2, zc3, Act.put, zc4, zc5, zc6]
      refine wpAnyZ_skipD [] 32 rfl (by kernel_rfl) (fun _ _ _ h => h) SS rfl ?_
      try simp only [zc1, zc2, zc3, Act.put, zc4, zc5, zc6]
      refine wpAnyZ_skipD [] 33 rfl (by kernel_rfl) (fun _ _ _ h => h) SS rfl ?_
      try simp only [zc1, zc2, zc3, Act.put, zc4, zc5, zc6]
      refine wpAnyZ_take [] 34 (.bool true) rfl (by kernel_rfl) (fun _ _ _ h => h) SS rfl (by intro wz hz; go_simp) ?_
      try simp only [zc1, zc2, zc3, Act.put, zc4, zc5, zc6]
      refine wpAnyZ_doneB (by kernel_rfl) ?_ _
      refine HK3.out _ _ ?_
      clear HK3
      refine wp_cond_true rfl ?_
      clear HK2
      refine wp_ret ?_
      try simp only [Exit.then, Exit.inBlock]
      refine bodyPost_ret (results_none rfl _ _ _) rfl ?_
      refine ⟨rfl, ?_, KpK.none Gd, fun _ => Gd⟩
      rw [HX.out]
      show KA wB _ gw (⟨id, true, nm, si, false, la, su, st, ti, pa, tr, li, L, G⟩ : Tv) (T ++ [])
      rw [List.append_nil]
      exact KA.of HT.out (V := (⟨id, true, nm, si, false, la, su, st, ti, pa, tr, li, L, G⟩ : Tv)) hd
    | true =>
      by_cases hel : si = la
      · subst hel
        have HX0 : Hid (juV (⟨id, true, nm, si, true, si, su, st, ti, pa, tr, li, L, G⟩ : Tv) = (if haB (giF G) si G.length = true then (if su = smI (L.take si.toNat) then ((⟨id, true, nm, si, true, si, su, 3, ti, pa, tr, li, L, G⟩ : Tv), [ntDone id 0]) else ((⟨id, true, nm, si, true, si, su, 4, ti, pa, tr, li, L, G⟩ : Tv), [ntDone id 9])) else ((⟨id, true, nm, si, true, si, su, st, ti, pa, tr, li, L, G⟩ : Tv), []))) := by
          show _ = _
          unfold juV
          by_cases e : haB (giF G) si G.length = true
          · rw [if_pos ⟨rfl, rfl, fun _ => e⟩, if_pos e]
            by_cases e2 : su = smI (L.take si.toNat)
            · rw [if_pos ⟨rfl, e2⟩, if_pos e2]
            · rw [if_neg (fun e3 => e2 e3.2), if_neg e2]
          · rw [if_neg (fun e3 => e (e3.2.2 rfl)), if_neg e]
        have kH := fun wz (k : RdG wz q G.length d (giF G)) => hasAll_any id true nm si true si su q G.length d a L.length c st ti pa tr li (giF G) wz k (by have := HGL.out; omega)
        unfold tkA at kH
        obtain ⟨hb, hhb⟩ : ∃ hb, haB (giF G) si G.length = hb := ⟨_, rfl⟩
        rw [hhb] at kH HX0 HLE
        clear hhb
        go_enter Try.func123, Try.ntmps123
        refine wp_seq_k fun K2 hK2 => ?_
        have HK2 : Hid _ := hK2
        clear hK2
        refine wp_seq_k fun K3 hK3 => ?_
        have HK3 : Hid _ := hK3
        clear hK3
        have Gd := grown_drew w none
        have hd := h.keepN Gd
        have SS : BxS w.drew gw 112 #[.int .i64 id, .bool true, .string nm, .int .i64 si, .bool true, .int .i64 si, .int .i64 su, .slice q G.length d, .slice a L.length c, .int .i64 st, .int .i64 ti, .int .i64 pa, .int .i64 tr, .int .i64 li, .slice na xs.length nc] := hd.bx
        refine wp_regionL (fun wz => BxS wz gw 112 #[.int .i64 id, .bool true, .string nm, .int .i64 si, .bool true, .int .i64 si, .int .i64 su, .slice q G.length d, .slice a L.length c, .int .i64 st, .int .i64 ti, .int .i64 pa, .int .i64 tr, .int .i64 li, .slice na xs.length nc]) [] #[false, false, false, false, false, false, false, false, false, false, false, false, false, false, false, false, false, false, false, false, false, false, false, false, false, false, false, false, false, false, false, false, false, false, false] rfl (by kernel_rfl) ?_
        generalize w.drew = wd at *
        refine wpAnyZ_take [] 0 (.pointer (some ⟨gw, 0, none⟩)) rfl (by kernel_rfl) (fun _ _ _ h => h) SS rfl (by intro wz hz; go_simp) ?_
        try simp only [zc1, zc2, zc3, Act.put, zc4, zc5, zc6]
        refine wpAnyZ_take [] 1 (.pointer (some ⟨gw, 0, none⟩)) rfl (by kernel_rfl) (fun _ _ _ h => h) SS rfl (by intro wz hz; go_simp) ?_
        try simp only [zc1, zc2, zc3, Act.put, zc4, zc5, zc6]
        refine wpAnyZ_take [] 2 (.pointer (some ⟨gw, 0, none⟩)) rfl (by kernel_rfl) (fun _ _ _ h => h) SS rfl (by intro wz hz; go_simp) ?_
        try simp only [zc1, zc2, zc3, Act.put, zc4, zc5, zc6]
        refine wpAnyZ_take [] 3 (.pointer (some ⟨gw, 1, none⟩)) rfl (by kernel_rfl) (fun _ _ _ h => h) SS rfl (by intro wz hz; go_simp) ?_
        try simp only [zc1, zc2, zc3, Act.put, zc4, zc5, zc6]
        refine wpAnyZ_take [] 4 (.bool true) rfl (by kernel_rfl) (fun _ _ _ h => h) SS rfl (by intro wz hz; have z : wz.cell? ⟨gw, 1, none⟩ = some (.bool true) := hz.cell 1 (by show 1 < 15; decide); go_simp) ?_
        try simp only [zc1, zc2, zc3, Act.put, zc4, zc5, zc6]
        refine wpAnyZ_take [] 5 (.bool false) rfl (by kernel_rfl) (fun _ _ _ h => h) SS rfl (by intro wz hz; go_simp) ?_
        try simp only [zc1, zc2, zc3, Act.put, zc4, zc5, zc6]
        refine wpAnyZ_take [] 6 (.bool false) rfl (by kernel_rfl) (fun _ _ _ h => h) SS rfl (by intro wz hz; go_simp) ?_
        try simp only [zc1, zc2, zc3, Act.put, zc4, zc5, zc6]
        refine wpAnyZ_take [] 7 (.pointer (some ⟨gw, 0, none⟩)) rfl (by kernel_rfl) (fun _ _ _ h => h) SS rfl (by intro wz hz; go_simp) ?_
        try simp only [zc1, zc2, zc3, Act.put, zc4, zc5, zc6]
        refine wpAnyZ_take [] 8 (.pointer (some ⟨gw, 0, none⟩)) rfl (by kernel_rfl) (fun _ _ _ h => h) SS rfl (by intro wz hz; go_simp) ?_
        try simp only [zc1, zc2, zc3, Act.put, zc4, zc5, zc6]
        refine wpAnyZ_take [] 9 (.pointer (some ⟨gw, 0, none⟩)) rfl (by kernel_rfl) (fun _ _ _ h => h) SS rfl (by intro wz hz; go_simp) ?_
        try simp only [zc1, zc2, zc3, Act.put, zc4, zc5, zc6]
        refine wpAnyZ_take [] 10 (.pointer (some ⟨gw, 4, none⟩)) rfl (by kernel_rfl) (fun _ _ _ h => h) SS rfl (by intro wz hz; go_simp) ?_
        try simp only [zc1, zc2, zc3, Act.put, zc4, zc5, zc6]
        refine wpAnyZ_take [] 11 (.bool true) rfl (by kernel_rfl) (fun _ _ _ h => h) SS rfl (by intro wz hz; have z : wz.cell? ⟨gw, 4, none⟩ = some (.bool true) := hz.cell 4 (by show 4 < 15; decide); go_simp) ?_
        try simp only [zc1, zc2, zc3, Act.put, zc4, zc5, zc6]
        refine wpAnyZ_take [] 12 (.bool false) rfl (by kernel_rfl) (fun _ _ _ h => h) SS rfl (by intro wz hz; go_simp) ?_
        try simp only [zc1, zc2, zc3, Act.put, zc4, zc5, zc6]
        refine wpAnyZ_take [] 13 (.bool false) rfl (by kernel_rfl) (fun _ _ _ h => h) SS rfl (by intro wz hz; go_simp) ?_
        try simp only [zc1, zc2, zc3, Act.put, zc4, zc5, zc6]
        refine wpAnyZ_take [] 14 (.bool false) rfl (by kernel_rfl) (fun _ _ _ h => h) SS rfl (by intro wz hz; go_simp) ?_
        try simp only [zc1, zc2, zc3, Act.put, zc4, zc5, zc6]
        refine wpAnyZ_take [] 15 (.pointer (some ⟨gw, 0, none⟩)) rfl (by kernel_rfl) (fun _ _ _ h => h) SS rfl (by intro wz hz; go_simp) ?_
        try simp only [zc1, zc2, zc3, Act.put, zc4, zc5, zc6]
        refine wpAnyZ_take [] 16 (.pointer (some ⟨gw, 0, none⟩)) rfl (by kernel_rfl) (fun _ _ _ h => h) SS rfl (by intro wz hz; go_simp) ?_
        try simp only [zc1, zc2, zc3, Act.put, zc4, zc5, zc6]
        refine wpAnyZ_take [] 17 (.pointer (some ⟨gw, 0, none⟩)) rfl (by kernel_rfl) (fun _ _ _ h => h) SS rfl (by intro wz hz; go_simp) ?_
        try simp only [zc1, zc2, zc3, Act.put, zc4, zc5, zc6]
        refine wpAnyZ_take [] 18 (.pointer (some ⟨gw, 3, none⟩)) rfl (by kernel_rfl) (fun _ _ _ h => h) SS rfl (by intro wz hz; go_simp) ?_
        try simp only [zc1, zc2, zc3, Act.put, zc4, zc5, zc6]
        refine wpAnyZ_take [] 19 (.int .i64 si) rfl (by kernel_rfl) (fun _ _ _ h => h) SS rfl (by intro wz hz; have z : wz.cell? ⟨gw, 3, none⟩ = some (.int .i64 si) := hz.cell 3 (by show 3 < 15; decide); go_simp) ?_
        try simp only [zc1, zc2, zc3, Act.put, zc4, zc5, zc6]
        refine wpAnyZ_take [] 20 (.pointer (some ⟨gw, 0, none⟩)) rfl (by kernel_rfl) (fun _ _ _ h => h) SS rfl (by intro wz hz; go_simp) ?_
        try simp only [zc1, zc2, zc3, Act.put, zc4, zc5, zc6]
        refine wpAnyZ_take [] 21 (.pointer (some ⟨gw, 0, none⟩)) rfl (by kernel_rfl) (fun _ _ _ h => h) SS rfl (by intro wz hz; go_simp) ?_
        try simp only [zc1, zc2, zc3, Act.put, zc4, zc5, zc6]
        refine wpAnyZ_take [] 22 (.pointer (some ⟨gw, 0, none⟩)) rfl (by kernel_rfl) (fun _ _ _ h => h) SS rfl (by intro wz hz; go_simp) ?_
        try simp only [zc1, zc2, zc3, Act.put, zc4, zc5, zc6]
        refine wpAnyZ_take [] 23 (.pointer (some ⟨gw, 5, none⟩)) rfl (by kernel_rfl) (fun _ _ _ h => h) SS rfl (by intro wz hz; go_simp) ?_
        try simp only [zc1, zc2, zc3, Act.put, zc4, zc5, zc6]
        refine wpAnyZ_take [] 24 (.int .i64 si) rfl (by kernel_rfl) (fun _ _ _ h => h) SS rfl (by intro wz hz; have z : wz.cell? ⟨gw, 5, none⟩ = some (.int .i64 si) := hz.cell 5 (by show 5 < 15; decide); go_simp) ?_
        try simp only [zc1, zc2, zc3, Act.put, zc4, zc5, zc6]
        refine wpAnyZ_take [] 25 (.bool true) rfl (by kernel_rfl) (fun _ _ _ h => h) SS rfl (by intro wz hz; go_simp) ?_
        try simp only [zc1, zc2, zc3, Act.put, zc4, zc5, zc6]
        refine wpAnyZ_take [] 26 (.bool true) rfl (by kernel_rfl) (fun _ _ _ h => h) SS rfl (by intro wz hz; go_simp) ?_
        try simp only [zc1, zc2, zc3, Act.put, zc4, zc5, zc6]
        refine wpAnyZ_take [] 27 (.pointer (some ⟨gw, 0, none⟩)) rfl (by kernel_rfl) (fun _ _ _ h => h) SS rfl (by intro wz hz; go_simp) ?_
        try simp only [zc1, zc2, zc3, Act.put, zc4, zc5, zc6]
        refine wpAnyZ_take [] 28 (.pointer (some ⟨gw, 0, none⟩)) rfl (by kernel_rfl) (fun _ _ _ h => h) SS rfl (by intro wz hz; go_simp) ?_
        try simp only [zc1, zc2, zc3, Act.put, zc4, zc5, zc6]
        refine wpAnyZ_take [] 29 (.pointer (some ⟨gw, 0, none⟩)) rfl (by kernel_rfl) (fun _ _ _ h => h) SS rfl (by intro wz hz; go_simp) ?_
        try simp only [zc1, zc2, zc3, Act.put, zc4, zc5, zc6]
        refine wpAnyZ_take [] 30 (.agg #[.int .i64 id, .bool true, .string nm, .int .i64 si, .bool true, .int .i64 si, .int .i64 su, .slice q G.length d, .slice a L.length c, .int .i64 st, .int .i64 ti, .int .i64 pa, .int .i64 tr, .int .i64 li]) rfl (by kernel_rfl) (fun _ _ _ h => h) SS rfl (by intro wz hz; exact ld_14k rfl rfl hz) ?_
        try simp only [zc1, zc2, zc3, Act.put, zc4, zc5, zc6]
        refine wpAnyZ_oneB 31 rfl (by kernel_rfl) (fun KK hKK => ?_)
        go_simp
        go_at_call 120
        refine (kH wd hd.O.rd).mono ?_
        rintro e w2 ⟨rfl, y2⟩
        dsimp only
        have S2 := SS.keep y2 (by simp)
        have h2 := hd.keepN y2
        have G2 := grown_trans Gd y2
        refine hKK _ _ (fun _ => S2) ?_
        try simp only [zc1, zc2, zc3, Act.put, zc4, zc5, zc6]
        cases hb with
        | false =>
          refine wpAnyZ_take [] 32 (.bool true) rfl (by kernel_rfl) (fun _ _ _ h => h) S2 rfl (by intro wz hz; go_simp) ?_
          try simp only [zc1, zc2, zc3, Act.put, zc4, zc5, zc6]
          refine wpAnyZ_take [] 33 (.bool true) rfl (by kernel_rfl) (fun _ _ _ h => h) S2 rfl (by intro wz hz; go_simp) ?_
          try simp only [zc1, zc2, zc3, Act.put, zc4, zc5, zc6]
          refine wpAnyZ_take [] 34 (.bool true) rfl (by kernel_rfl) (fun _ _ _ h => h) S2 rfl (by intro wz hz; go_simp) ?_
          try simp only [zc1, zc2, zc3, Act.put, zc4, zc5, zc6]
          refine wpAnyZ_doneB (by kernel_rfl) ?_ _
          refine HK3.out _ _ ?_
          clear HK3
          refine wp_cond_true rfl ?_
          clear HK2
          refine wp_ret ?_
          try simp only [Exit.then, Exit.inBlock]
          refine bodyPost_ret (results_none rfl _ _ _) rfl ?_
          refine ⟨rfl, ?_, KpK.none G2, fun _ => G2⟩
          rw [HX0.out, if_neg (by decide)]
          show KA wB _ gw (⟨id, true, nm, si, true, si, su, st, ti, pa, tr, li, L, G⟩ : Tv) (T ++ [])
          rw [List.append_nil]
          exact KA.of HT.out (V := (⟨id, true, nm, si, true, si, su, st, ti, pa, tr, li, L, G⟩ : Tv)) h2
        | true =>
          have hle := HLE.out rfl
          have hsi := HSI.out
          have hn9 := HN9.out
          obtain ⟨k, hk⟩ : ∃ k : Nat, si = (k : Int) := ⟨si.toNat, by omega⟩
          have hk2 : si.toNat = k := by omega
          have hkl : k ≤ L.length := by omega
          rw [hk2, if_pos rfl] at HX0
          have hkl2 : (L.take k).length = k := by rw [List.length_take]; omega
          have hlc := h2.A.rd.le
          have hcn : a = none → k = 0 ∧ c = 0 := fun e => by have := h2.A.rd.nil e; omega
          refine wpAnyZ_take [] 32 (.bool false) rfl (by kernel_rfl) (fun _ _ _ h => h) S2 rfl (by intro wz hz; go_simp) ?_
          try simp only [zc1, zc2, zc3, Act.put, zc4, zc5, zc6]
          refine wpAnyZ_take [] 33 (.bool false) rfl (by kernel_rfl) (fun _ _ _ h => h) S2 rfl (by intro wz hz; go_simp) ?_
          try simp only [zc1, zc2, zc3, Act.put, zc4, zc5, zc6]
          refine wpAnyZ_take [] 34 (.bool false) rfl (by kernel_rfl) (fun _ _ _ h => h) S2 rfl (by intro wz hz; go_simp) ?_
          try simp only [zc1, zc2, zc3, Act.put, zc4, zc5, zc6]
          refine wpAnyZ_doneB (by kernel_rfl) ?_ _
          refine HK3.out _ _ ?_
          clear HK3
          refine wp_cond_false rfl ?_
          refine wp_skip ?_
          try simp only [Exit.then]
          refine HK2.out _ _ ?_
          clear HK2
          clear Gd hd SS y2 h hle hsi hn9 kH
          have k2 := KpK.none G2
          clear G2
          have HK : Hid _ := hk
          have hskE : smI (L.take k) = ((smT (L.take k) k % 4294967296 : Nat) : Int) := by unfold smI; rw [hkl2]
          rw [hskE] at HX0
          clear hk hk2 hkl2 hskE
          have S2k : BxS w2 gw 112 #[.int .i64 id, .bool true, .string nm, .int .i64 (k : Int), .bool true, .int .i64 (k : Int), .int .i64 su, .slice q G.length d, .slice a L.length c, .int .i64 st, .int .i64 ti, .int .i64 pa, .int .i64 tr, .int .i64 li, .slice na xs.length nc] := by rw [HK.out] at S2; exact S2
          have h2k : TKW wB w2 gw id true nm (k : Int) true (k : Int) su st ti pa tr li a L.length c L q G.length d G na xs.length nc xs := by rw [HK.out] at h2; exact h2
          rw [HK.out] at HX0 ⊢
          clear S2 h2
          refine wp_seq_k fun K2 hK2 => ?_
          have HK2 : Hid _ := hK2
          clear hK2
          refine wp_seq_k fun K3 hK3 => ?_
          have HK3 : Hid _ := hK3
          clear hK3
          have Gd := grown_drew w2 none
          have hd := h2k.keepN Gd
          have SS : BxS w2.drew gw 112 #[.int .i64 id, .bool true, .string nm, .int .i64 (k : Int), .bool true, .int .i64 (k : Int), .int .i64 su, .slice q G.length d, .slice a L.length c, .int .i64 st, .int .i64 ti, .int .i64 pa, .int .i64 tr, .int .i64 li, .slice na xs.length nc] := hd.bx
          refine wp_regionL (fun wz => BxS wz gw 112 #[.int .i64 id, .bool true, .string nm, .int .i64 (k : Int), .bool true, .int .i64 (k : Int), .int .i64 su, .slice q G.length d, .slice a L.length c, .int .i64 st, .int .i64 ti, .int .i64 pa, .int .i64 tr, .int .i64 li, .slice na xs.length nc]) [] #[false, false, false, false, false, false, false, false, false, false, false, false, false, false, false, false, false, false, false, false, false, false, false, false, false, false, false, false, false, false, false] rfl (by kernel_rfl) ?_
          generalize w2.drew = wd at *
          refine wpAnyZ_take [] 0 (.pointer (some ⟨gw, 0, none⟩)) rfl (by kernel_rfl) (fun _ _ _ h => h) SS rfl (by intro wz hz; go_simp) ?_
          try simp only [zc1, zc2, zc3, Act.put, zc4, zc5, zc6]
          refine wpAnyZ_take [] 1 (.pointer (some ⟨gw, 0, none⟩)) rfl (by kernel_rfl) (fun _ _ _ h => h) SS rfl (by intro wz hz; go_simp) ?_
          try simp only [zc1, zc2, zc3, Act.put, zc4, zc5, zc6]
          refine wpAnyZ_take [] 2 (.pointer (some ⟨gw, 0, none⟩)) rfl (by kernel_rfl) (fun _ _ _ h => h) SS rfl (by intro wz hz; go_simp) ?_
          try simp only [zc1, zc2, zc3, Act.put, zc4, zc5, zc6]
          refine wpAnyZ_take [] 3 (.pointer (some ⟨gw, 3, none⟩)) rfl (by kernel_rfl) (fun _ _ _ h => h) SS rfl (by intro wz hz; go_simp) ?_
          try simp only [zc1, zc2, zc3, Act.put, zc4, zc5, zc6]
          refine wpAnyZ_take [] 4 (.int .i64 (k : Int)) rfl (by kernel_rfl) (fun _ _ _ h => h) SS rfl (by intro wz hz; have z : wz.cell? ⟨gw, 3, none⟩ = some (.int .i64 (k : Int)) := hz.cell 3 (by show 3 < 15; decide); go_simp) ?_
          try simp only [zc1, zc2, zc3, Act.put, zc4, zc5, zc6]
          refine wpAnyZ_take [] 5 (.pointer (some ⟨gw, 0, none⟩)) rfl (by kernel_rfl) (fun _ _ _ h => h) SS rfl (by intro wz hz; go_simp) ?_
          try simp only [zc1, zc2, zc3, Act.put, zc4, zc5, zc6]
          refine wpAnyZ_take [] 6 (.pointer (some ⟨gw, 0, none⟩)) rfl (by kernel_rfl) (fun _ _ _ h => h) SS rfl (by intro wz hz; go_simp) ?_
          try simp only [zc1, zc2, zc3, Act.put, zc4, zc5, zc6]
          refine wpAnyZ_take [] 7 (.pointer (some ⟨gw, 0, none⟩)) rfl (by kernel_rfl) (fun _ _ _ h => h) SS rfl (by intro wz hz; go_simp) ?_
          try simp only [zc1, zc2, zc3, Act.put, zc4, zc5, zc6]
          refine wpAnyZ_take [] 8 (.pointer (some ⟨gw, 5, none⟩)) rfl (by kernel_rfl) (fun _ _ _ h => h) SS rfl (by intro wz hz; go_simp) ?_
          try simp only [zc1, zc2, zc3, Act.put, zc4, zc5, zc6]
          refine wpAnyZ_take [] 9 (.int .i64 (k : Int)) rfl (by kernel_rfl) (fun _ _ _ h => h) SS rfl (by intro wz hz; have z : wz.cell? ⟨gw, 5, none⟩ = some (.int .i64 (k : Int)) := hz.cell 5 (by show 5 < 15; decide); go_simp) ?_
          try simp only [zc1, zc2, zc3, Act.put, zc4, zc5, zc6]
          refine wpAnyZ_take [] 10 (.bool true) rfl (by kernel_rfl) (fun _ _ _ h => h) SS rfl (by intro wz hz; go_simp) ?_
          try simp only [zc1, zc2, zc3, Act.put, zc4, zc5, zc6]
          refine wpAnyZ_take [] 11 (.bool true) rfl (by kernel_rfl) (fun _ _ _ h => h) SS rfl (by intro wz hz; go_simp) ?_
          try simp only [zc1, zc2, zc3, Act.put, zc4, zc5, zc6]
          refine wpAnyZ_take [] 12 (.pointer (some ⟨gw, 0, none⟩)) rfl (by kernel_rfl) (fun _ _ _ h => h) SS rfl (by intro wz hz; go_simp) ?_
          try simp only [zc1, zc2, zc3, Act.put, zc4, zc5, zc6]
          refine wpAnyZ_take [] 13 (.pointer (some ⟨gw, 0, none⟩)) rfl (by kernel_rfl) (fun _ _ _ h => h) SS rfl (by intro wz hz; go_simp) ?_
          try simp only [zc1, zc2, zc3, Act.put, zc4, zc5, zc6]
          refine wpAnyZ_take [] 14 (.pointer (some ⟨gw, 0, none⟩)) rfl (by kernel_rfl) (fun _ _ _ h => h) SS rfl (by intro wz hz; go_simp) ?_
          try simp only [zc1, zc2, zc3, Act.put, zc4, zc5, zc6]
          refine wpAnyZ_take [] 15 (.pointer (some ⟨gw, 6, none⟩)) rfl (by kernel_rfl) (fun _ _ _ h => h) SS rfl (by intro wz hz; go_simp) ?_
          try simp only [zc1, zc2, zc3, Act.put, zc4, zc5, zc6]
          refine wpAnyZ_take [] 16 (.int .i64 su) rfl (by kernel_rfl) (fun _ _ _ h => h) SS rfl (by intro wz hz; have z : wz.cell? ⟨gw, 6, none⟩ = some (.int .i64 su) := hz.cell 6 (by show 6 < 15; decide); go_simp) ?_
          try simp only [zc1, zc2, zc3, Act.put, zc4, zc5, zc6]
          refine wpAnyZ_take [] 17 (.pointer (some ⟨gw, 0, none⟩)) rfl (by kernel_rfl) (fun _ _ _ h => h) SS rfl (by intro wz hz; go_simp) ?_
          try simp only [zc1, zc2, zc3, Act.put, zc4, zc5, zc6]
          refine wpAnyZ_take [] 18 (.pointer (some ⟨gw, 0, none⟩)) rfl (by kernel_rfl) (fun _ _ _ h => h) SS rfl (by intro wz hz; go_simp) ?_
          try simp only [zc1, zc2, zc3, Act.put, zc4, zc5, zc6]
          refine wpAnyZ_take [] 19 (.pointer (some ⟨gw, 0, none⟩)) rfl (by kernel_rfl) (fun _ _ _ h => h) SS rfl (by intro wz hz; go_simp) ?_
          try simp only [zc1, zc2, zc3, Act.put, zc4, zc5, zc6]
          refine wpAnyZ_take [] 20 (.pointer (some ⟨gw, 8, none⟩)) rfl (by kernel_rfl) (fun _ _ _ h => h) SS rfl (by intro wz hz; go_simp) ?_
          try simp only [zc1, zc2, zc3, Act.put, zc4, zc5, zc6]
          refine wpAnyZ_take [] 21 (.slice a L.length c) rfl (by kernel_rfl) (fun _ _ _ h => h) SS rfl (by intro wz hz; have z : wz.cell? ⟨gw, 8, none⟩ = some (.slice a L.length c) := hz.cell 8 (by show 8 < 15; decide); go_simp) ?_
          try simp only [zc1, zc2, zc3, Act.put, zc4, zc5, zc6]
          refine wpAnyZ_take [] 22 (.pointer (some ⟨gw, 0, none⟩)) rfl (by kernel_rfl) (fun _ _ _ h => h) SS rfl (by intro wz hz; go_simp) ?_
          try simp only [zc1, zc2, zc3, Act.put, zc4, zc5, zc6]
          refine wpAnyZ_take [] 23 (.pointer (some ⟨gw, 0, none⟩)) rfl (by kernel_rfl) (fun _ _ _ h => h) SS rfl (by intro wz hz; go_simp) ?_
          try simp only [zc1, zc2, zc3, Act.put, zc4, zc5, zc6]
          refine wpAnyZ_take [] 24 (.pointer (some ⟨gw, 0, none⟩)) rfl (by kernel_rfl) (fun _ _ _ h => h) SS rfl (by intro wz hz; go_simp) ?_
          try simp only [zc1, zc2, zc3, Act.put, zc4, zc5, zc6]
          refine wpAnyZ_take [] 25 (.pointer (some ⟨gw, 3, none⟩)) rfl (by kernel_rfl) (fun _ _ _ h => h) SS rfl (by intro wz hz; go_simp) ?_
          try simp only [zc1, zc2, zc3, Act.put, zc4, zc5, zc6]
          refine wpAnyZ_take [] 26 (.int .i64 (k : Int)) rfl (by kernel_rfl) (fun _ _ _ h => h) SS rfl (by intro wz hz; have z : wz.cell? ⟨gw, 3, none⟩ = some (.int .i64 (k : Int)) := hz.cell 3 (by show 3 < 15; decide); go_simp) ?_
          try simp only [zc1, zc2, zc3, Act.put, zc4, zc5, zc6]
          have k3 : (k : Int) ≤ (c : Int) := by omega
          have k4 : k ≤ c := by omega
          have k5 : (0 : Int) ≤ (k : Int) := by omega
          refine wpAnyZ_take [] 27 (.slice a k c) rfl (by kernel_rfl) (fun _ _ _ h => h) SS rfl (by intro wz hz; cases a with | none => obtain ⟨rfl, rfl⟩ := hcn rfl; go_simp | some ad => obtain ⟨ab, ao, ar⟩ := ad; go_simp) ?_
          try simp only [zc1, zc2, zc3, Act.put, zc4, zc5, zc6]
          clear k3 k4 k5
          refine wpAnyZ_oneB 28 rfl (by kernel_rfl) (fun KK hKK => ?_)
          go_simp
          go_at_call 19
          refine (dsum_any a k c (L.take k) wd (hd.A.rd.cut hkl)).mono ?_
          rintro e w3 ⟨rfl, hw3⟩
          subst hw3
          dsimp only
          refine hKK _ _ (fun _ => SS) ?_
          try simp only [zc1, zc2, zc3, Act.put, zc4, zc5, zc6]
          obtain ⟨sm, hsm⟩ : ∃ sm : Int, ((smT (L.take k) k % 4294967296 : Nat) : Int) = sm := ⟨_, rfl⟩
          rw [hsm] at HX0 ⊢
          clear hsm hkl hlc hcn HLE HSI HN9
          have k6 := k2.trans (KpK.none Gd)
          by_cases hs : su = sm
          · have hs2 : (su == sm) = true := by rw [hs]; exact beq_self_eq_true _
            rw [if_pos hs] at HX0
            clear hs
            refine wpAnyZ_take [] 29 (.bool true) rfl (by kernel_rfl) (fun _ _ _ h => h) SS rfl (by intro wz hz; go_simp) ?_
            try simp only [zc1, zc2, zc3, Act.put, zc4, zc5, zc6]
            refine wpAnyZ_take [] 30 (.bool true) rfl (by kernel_rfl) (fun _ _ _ h => h) SS rfl (by intro wz hz; go_simp) ?_
            try simp only [zc1, zc2, zc3, Act.put, zc4, zc5, zc6]
            refine wpAnyZ_doneB (by kernel_rfl) ?_ _
            refine HK3.out _ _ ?_
            clear HK3
            refine wp_cond_true rfl ?_
            clear HK2
            refine wp_seq_k fun K4 hK4 => ?_
            have HK4 : Hid _ := hK4
            clear hK4
            have s0 : True := trivial
            go_wp2_with (have _t := s0; clear s0; refine wpList_stC _ rfl _ _ _ rfl gw 9 112 _ #[.int .i64 id, .bool true, .string nm, .int .i64 (k : Int), .bool true, .int .i64 (k : Int), .int .i64 su, .slice q G.length d, .slice a L.length c, .int .i64 3, .int .i64 ti, .int .i64 pa, .int .i64 tr, .int .i64 li, .slice na xs.length nc] (.int .i64 3) rfl rfl hd.bx (stc_stg _ _ _) (by show 9 < 15; decide) rfl ?_; intro w5 bw5 uw5)
            refine HK4.out _ _ ?_
            clear HK4
            have h5 := hd.set uw5 bw5
            have k5 := k6.trans (KpK.bx hd.bx (by decide) uw5)
            refine wp_seq_k fun K4 hK4 => ?_
            have HK4 : Hid _ := hK4
            clear hK4
            go_wp2_with (go_at_call 105; refine (sendDone_any _ _ _ _ _ _ _ _ _ _ _ _ _ _ _ _ _ _ _ _ _ _ _ _ _ _ _ 0 h5 (by have := HXL.out; omega)).mono ?_; rintro e w6 ⟨rfl, ⟨na6, nc6, h6⟩, f6⟩)
            refine HK4.out _ _ ?_
            clear HK4
            refine wp_ret ?_
            try simp only [Exit.then, Exit.inBlock]
            refine bodyPost_ret (results_none rfl _ _ _) rfl ?_
            refine ⟨rfl, ?_, k5.trans (f6.kp h5), ?_⟩
            · rw [HX0.out]
              show KA wB _ gw (⟨id, true, nm, (k : Int), true, (k : Int), su, 3, ti, pa, tr, li, L, G⟩ : Tv) (T ++ [ntDone id 0])
              exact KA.of (map_one HT.out _ _ rfl) (V := (⟨id, true, nm, (k : Int), true, (k : Int), su, 3, ti, pa, tr, li, L, G⟩ : Tv)) h6
            · intro e9
              rw [HX0.out] at e9
              have e9 : (3 : Int) = 0 := e9
              omega
          · have hs2 : (su == sm) = false := beq_eq_false_iff_ne.2 hs
            rw [if_neg hs] at HX0
            clear hs
            refine wpAnyZ_take [] 29 (.bool false) rfl (by kernel_rfl) (fun _ _ _ h => h) SS rfl (by intro wz hz; go_simp) ?_
            try simp only [zc1, zc2, zc3, Act.put, zc4, zc5, zc6]
            refine wpAnyZ_take [] 30 (.bool false) rfl (by kernel_rfl) (fun _ _ _ h => h) SS rfl (by intro wz hz; go_simp) ?_
            try simp only [zc1, zc2, zc3, Act.put, zc4, zc5, zc6]
            refine wpAnyZ_doneB (by kernel_rfl) ?_ _
            refine HK3.out _ _ ?_
            clear HK3
            refine wp_cond_false rfl ?_
            refine wp_skip ?_
            try simp only [Exit.then]
            refine HK2.out _ _ ?_
            clear HK2
            refine wp_seq_k fun K4 hK4 => ?_
            have HK4 : Hid _ := hK4
            clear hK4
            have s0 : True := trivial
            go_wp2_with (have _t := s0; clear s0; refine wpList_stC _ rfl _ _ _ rfl gw 9 112 _ #[.int .i64 id, .bool true, .string nm, .int .i64 (k : Int), .bool true, .int .i64 (k : Int), .int .i64 su, .slice q G.length d, .slice a L.length c, .int .i64 4, .int .i64 ti, .int .i64 pa, .int .i64 tr, .int .i64 li, .slice na xs.length nc] (.int .i64 4) rfl rfl hd.bx (stc_stg _ _ _) (by show 9 < 15; decide) rfl ?_; intro w5 bw5 uw5)
            refine HK4.out _ _ ?_
            clear HK4
            have h5 := hd.set uw5 bw5
            have k5 := k6.trans (KpK.bx hd.bx (by decide) uw5)
            go_wp2_with (go_at_call 105; refine (sendDone_any _ _ _ _ _ _ _ _ _ _ _ _ _ _ _ _ _ _ _ _ _ _ _ _ _ _ _ 9 h5 (by have := HXL.out; omega)).mono ?_; rintro e w6 ⟨rfl, ⟨na6, nc6, h6⟩, f6⟩)
            try simp only [Exit.then]
            first | go_end0 | refine bodyPost_ret (results_none rfl _ _ _) rfl ?_
            refine ⟨rfl, ?_, k5.trans (f6.kp h5), ?_⟩
            · rw [HX0.out]
              show KA wB _ gw (⟨id, true, nm, (k : Int), true, (k : Int), su, 4, ti, pa, tr, li, L, G⟩ : Tv) (T ++ [ntDone id 9])
              exact KA.of (map_one HT.out _ _ rfl) (V := (⟨id, true, nm, (k : Int), true, (k : Int), su, 4, ti, pa, tr, li, L, G⟩ : Tv)) h6
            · intro e9
              rw [HX0.out] at e9
              have e9 : (4 : Int) = 0 := e9
              omega
      · have hel2 : (si == la) = false := beq_eq_false_iff_ne.2 hel
        have HX : Hid (juV (⟨id, true, nm, si, true, la, su, st, ti, pa, tr, li, L, G⟩ : Tv) = ((⟨id, true, nm, si, true, la, su, 4, ti, pa, tr, li, L, G⟩ : Tv), [ntDone id 9])) := by show _ = _; unfold juV; rw [if_pos ⟨rfl, rfl, fun e => absurd e hel⟩, if_neg (fun e => hel e.1)]
        clear hel
        go_enter Try.func123, Try.ntmps123
        refine wp_seq_k fun K2 hK2 => ?_
        have HK2 : Hid _ := hK2
        clear hK2
        refine wp_seq_k fun K3 hK3 => ?_
        have HK3 : Hid _ := hK3
        clear hK3
        have Gd := grown_drew w none
        have hd := h.keepN Gd
        have SS : BxS w.drew gw 112 #[.int .i64 id, .bool true, .string nm, .int .i64 si, .bool true, .int .i64 la, .int .i64 su, .slice q G.length d, .slice a L.length c, .int .i64 st, .int .i64 ti, .int .i64 pa, .int .i64 tr, .int .i64 li, .slice na xs.length nc] := hd.bx
        refine wp_regionL (fun wz => BxS wz gw 112 #[.int .i64 id, .bool true, .string nm, .int .i64 si, .bool true, .int .i64 la, .int .i64 su, .slice q G.length d, .slice a L.length c, .int .i64 st, .int .i64 ti, .int .i64 pa, .int .i64 tr, .int .i64 li, .slice na xs.length nc]) [] #[false, false, false, false, false, false, false, false, false, false, false, false, false, false, false, false, false, false, false, false, false, false, false, false, false, false, false, false, false, false, false, false, false, false, false] rfl (by kernel_rfl) ?_
        generalize w.drew = wd at *
        refine wpAnyZ_take [] 0 (.pointer (some ⟨gw, 0, none⟩)) rfl (by kernel_rfl) (fun _ _ _ h => h) SS rfl (by intro wz hz; go_simp) ?_
        try simp only [zc1, zc2, zc3, Act.put, zc4, zc5, zc6]
        refine wpAnyZ_take [] 1 (.pointer (some ⟨gw, 0, none⟩)) rfl (by kernel_rfl) (fun _ _ _ h => h) SS rfl (by intro wz hz; go_simp) ?_
        try simp only [zc1, zc2, zc3, Act.put, zc4, zc5, zc6]
        refine wpAnyZ_take [] 2 (.pointer (some ⟨gw, 0, none⟩)) rfl (by kernel_rfl) (fun _ _ _ h => h) SS rfl (by intro wz hz; go_simp) ?_
        try simp only [zc1, zc2, zc3, Act.put, zc4, zc5, zc6]
        refine wpAnyZ_take [] 3 (.pointer (some ⟨gw, 1, none⟩)) rfl (by kernel_rfl) (fun _ _ _ h => h) SS rfl (by intro wz hz; go_simp) ?_
        try simp only [zc1, zc2, zc3, Act.put, zc4, zc5, zc6]
        refine wpAnyZ_take [] 4 (.bool true) rfl (by kernel_rfl) (fun _ _ _ h => h) SS rfl (by intro wz hz; have z : wz.cell? ⟨gw, 1, none⟩ = some (.bool true) := hz.cell 1 (by show 1 < 15; decide); go_simp) ?_
        try simp only [zc1, zc2, zc3, Act.put, zc4, zc5, zc6]
        refine wpAnyZ_take [] 5 (.bool false) rfl (by kernel_rfl) (fun _ _ _ h => h) SS rfl (by intro wz hz; go_simp) ?_
        try simp only [zc1, zc2, zc3, Act.put, zc4, zc5, zc6]
        refine wpAnyZ_take [] 6 (.bool false) rfl (by kernel_rfl) (fun _ _ _ h => h) SS rfl (by intro wz hz; go_simp) ?_
        try simp only [zc1, zc2, zc3, Act.put, zc4, zc5, zc6]
        refine wpAnyZ_take [] 7 (.pointer (some ⟨gw, 0, none⟩)) rfl (by kernel_rfl) (fun _ _ _ h => h) SS rfl (by intro wz hz; go_simp) ?_
        try simp only [zc1, zc2, zc3, Act.put, zc4, zc5, zc6]
        refine wpAnyZ_take [] 8 (.pointer (some ⟨gw, 0, none⟩)) rfl (by kernel_rfl) (fun _ _ _ h => h) SS rfl (by intro wz hz; go_simp) ?_
        try simp only [zc1, zc2, zc3, Act.put, zc4, zc5, zc6]
        refine wpAnyZ_take [] 9 (.pointer (some ⟨gw, 0, none⟩)) rfl (by kernel_rfl) (fun _ _ _ h => h) SS rfl (by intro wz hz; go_simp) ?_
        try simp only [zc1, zc2, zc3, Act.put, zc4, zc5, zc6]
        refine wpAnyZ_take [] 10 (.pointer (some ⟨gw, 4, none⟩)) rfl (by kernel_rfl) (fun _ _ _ h => h) SS rfl (by intro wz hz; go_simp) ?_
        try simp only [zc1, zc2, zc3, Act.put, zc4, zc5, zc6]
        refine wpAnyZ_take [] 11 (.bool true) rfl (by kernel_rfl) (fun _ _ _ h => h) SS rfl (by intro wz hz; have z : wz.cell? ⟨gw, 4, none⟩ = some (.bool true) := hz.cell 4 (by show 4 < 15; decide); go_simp) ?_
        try simp only [zc1, zc2, zc3, Act.put, zc4, zc5, zc6]
        refine wpAnyZ_take [] 12 (.bool false) rfl (by kernel_rfl) (fun _ _ _ h => h) SS rfl (by intro wz hz; go_simp) ?_
        try simp only [zc1, zc2, zc3, Act.put, zc4, zc5, zc6]
        refine wpAnyZ_take [] 13 (.bool false) rfl (by kernel_rfl) (fun _ _ _ h => h) SS rfl (by intro wz hz; go_simp) ?_
        try simp only [zc1, zc2, zc3, Act.put, zc4, zc5, zc6]
        refine wpAnyZ_take [] 14 (.bool false) rfl (by kernel_rfl) (fun _ _ _ h => h) SS rfl (by intro wz hz; go_simp) ?_
        try simp only [zc1, zc2, zc3, Act.put, zc4, zc5, zc6]
        refine wpAnyZ_take [] 15 (.pointer (some ⟨gw, 0, none⟩)) rfl (by kernel_rfl) (fun _ _ _ h => h) SS rfl (by intro wz hz; go_simp) ?_
        try simp only [zc1, zc2, zc3, Act.put, zc4, zc5, zc6]
        refine wpAnyZ_take [] 16 (.pointer (some ⟨gw, 0, none⟩)) rfl (by kernel_rfl) (fun _ _ _ h => h) SS rfl (by intro wz hz; go_simp) ?_
        try simp only [zc1, zc2, zc3, Act.put, zc4, zc5, zc6]
        refine wpAnyZ_take [] 17 (.pointer (some ⟨gw, 0, none⟩)) rfl (by kernel_rfl) (fun _ _ _ h => h) SS rfl (by intro wz hz; go_simp) ?_
        try simp only [zc1, zc2, zc3, Act.put, zc4, zc5, zc6]
        refine wpAnyZ_take [] 18 (.pointer (some ⟨gw, 3, none⟩)) rfl (by kernel_rfl) (fun _ _ _ h => h) SS rfl (by intro wz hz; go_simp) ?_
        try simp only [zc1, zc2, zc3, Act.put, zc4, zc5, zc6]
        refine wpAnyZ_take [] 19 (.int .i64 si) rfl (by kernel_rfl) (fun _ _ _ h => h) SS rfl (by intro wz hz; have z : wz.cell? ⟨gw, 3, none⟩ = some (.int .i64 si) := hz.cell 3 (by show 3 < 15; decide); go_simp) ?_
        try simp only [zc1, zc2, zc3, Act.put, zc4, zc5, zc6]
        refine wpAnyZ_take [] 20 (.pointer (some ⟨gw, 0, none⟩)) rfl (by kernel_rfl) (fun _ _ _ h => h) SS rfl (by intro wz hz; go_simp) ?_
        try simp only [zc1, zc2, zc3, Act.put, zc4, zc5, zc6]
        refine wpAnyZ_take [] 21 (.pointer (some ⟨gw, 0, none⟩)) rfl (by kernel_rfl) (fun _ _ _ h => h) SS rfl (by intro wz hz; go_simp) ?_
        try simp only [zc1, zc2, zc3, Act.put, zc4, zc5, zc6]
        refine wpAnyZ_take [] 22 (.pointer (some ⟨gw, 0, none⟩)) rfl (by kernel_rfl) (fun _ _ _ h => h) SS rfl (by intro wz hz; go_simp) ?_
        try simp only [zc1, zc2, zc3, Act.put, zc4, zc5, zc6]
        refine wpAnyZ_take [] 23 (.pointer (some ⟨gw, 5, none⟩)) rfl (by kernel_rfl) (fun _ _ _ h => h) SS rfl (by intro wz hz; go_simp) ?_
        try simp only [zc1, zc2, zc3, Act.put, zc4, zc5, zc6]
        refine wpAnyZ_take [] 24 (.int .i64 la) rfl (by kernel_rfl) (fun _ _ _ h => h) SS rfl (by intro wz hz; have z : wz.cell? ⟨gw, 5, none⟩ = some (.int .i64 la) := hz.cell 5 (by show 5 < 15; decide); go_simp) ?_
        try simp only [zc1, zc2, zc3, Act.put, zc4, zc5, zc6]
        refine wpAnyZ_take [] 25 (.bool false) rfl (by kernel_rfl) (fun _ _ _ h => h) SS rfl (by intro wz hz; go_simp) ?_
        try simp only [zc1, zc2, zc3, Act.put, zc4, zc5, zc6]
        refine wpAnyZ_take [] 26 (.bool false) rfl (by kernel_rfl) (fun _ _ _ h => h) SS rfl (by intro wz hz; go_simp) ?_
        try simp only [zc1, zc2, zc3, Act.put, zc4, zc5, zc6]
        refine wpAnyZ_skipD [] 27 rfl (by kernel_rfl) (fun _ _ _ h => h) SS rfl ?_
        try simp only [zc1, zc2, zc3, Act.put, zc4, zc5, zc6]
        refine wpAnyZ_skipD [] 28 rfl (by kernel_rfl) (fun _ _ _ h => h) SS rfl ?_
        try simp only [zc1, zc2, zc3, Act.put, zc4, zc5, zc6]
        refine wpAnyZ_skipD [] 29 rfl (by kernel_rfl) (fun _ _ _ h => h) SS rfl ?_
        try simp only [zc1, zc2, zc3, Act.put, zc4, zc5, zc6]
        refine wpAnyZ_skipD [] 30 rfl (by kernel_rfl) (fun _ _ _ h => h) SS rfl ?_
        try simp only [zc1, zc2, zc3, Act.put, zc4, zc5, zc6]
        refine wpAnyZ_skipD [] 31 rfl (by kernel_rfl) (fun _ _ _ h => h) SS rfl ?_
        try simp only [zc1, zc2, zc3, Act.put, zc4, zc5, zc6]
        refine wpAnyZ_skipD [] 32 rfl (by kernel_rfl) (fun _ _ _ h => h) SS rfl ?_
        try simp only [zc1, zc2, zc3, Act.put, zc4, zc5, zc6]
        refine wpAnyZ_take [] 33 (.bool false) rfl (by kernel_rfl) (fun _ _ _ h => h) SS rfl (by intro wz hz; go_simp) ?_
        try simp only [zc1, zc2, zc3, Act.put, zc4, zc5, zc6]
        refine wpAnyZ_take [] 34 (.bool false) rfl (by kernel_rfl) (fun _ _ _ h => h) SS rfl (by intro wz hz; go_simp) ?_
        try simp only [zc1, zc2, zc3, Act.put, zc4, zc5, zc6]
        refine wpAnyZ_doneB (by kernel_rfl) ?_ _
        refine HK3.out _ _ ?_
        clear HK3
        refine wp_cond_false rfl ?_
        refine wp_skip ?_
        try simp only [Exit.then]
        refine HK2.out _ _ ?_
        clear HK2
        have k1 := KpK.none Gd
        have h1 := hd
        clear Gd SS hd h
        refine wp_seq_k fun K2 hK2 => ?_
        have HK2 : Hid _ := hK2
        clear hK2
        refine wp_seq_k fun K3 hK3 => ?_
        have HK3 : Hid _ := hK3
        clear hK3
        have Gd := grown_drew wd none
        have hd := h1.keepN Gd
        have SS : BxS wd.drew gw 112 #[.int .i64 id, .bool true, .string nm, .int .i64 si, .bool true, .int .i64 la, .int .i64 su, .slice q G.length d, .slice a L.length c, .int .i64 st, .int .i64 ti, .int .i64 pa, .int .i64 tr, .int .i64 li, .slice na xs.length nc] := hd.bx
        refine wp_regionL (fun wz => BxS wz gw 112 #[.int .i64 id, .bool true, .string nm, .int .i64 si, .bool true, .int .i64 la, .int .i64 su, .slice q G.length d, .slice a L.length c, .int .i64 st, .int .i64 ti, .int .i64 pa, .int .i64 tr, .int .i64 li, .slice na xs.length nc]) [] #[false, false, false, false, false, false, false, false, false, false, false, false, false, false, false, false, false, false, false, false, false, false, false, false, false, false, false, false, false, false, false] rfl (by kernel_rfl) ?_
        generalize wd.drew = we at *
        refine wpAnyZ_take [] 0 (.pointer (some ⟨gw, 0, none⟩)) rfl (by kernel_rfl) (fun _ _ _ h => h) SS rfl (by intro wz hz; go_simp) ?_
        try simp only [zc1, zc2, zc3, Act.put, zc4, zc5, zc6]
        refine wpAnyZ_take [] 1 (.pointer (some ⟨gw, 0, none⟩)) rfl (by kernel_rfl) (fun _ _ _ h => h) SS rfl (by intro wz hz; go_simp) ?_
        try simp only [zc1, zc2, zc3, Act.put, zc4, zc5, zc6]
        refine wpAnyZ_take [] 2 (.pointer (some ⟨gw, 0, none⟩)) rfl (by kernel_rfl) (fun _ _ _ h => h) SS rfl (by intro wz hz; go_simp) ?_
        try simp only [zc1, zc2, zc3, Act.put, zc4, zc5, zc6]
        refine wpAnyZ_take [] 3 (.pointer (some ⟨gw, 3, none⟩)) rfl (by kernel_rfl) (fun _ _ _ h => h) SS rfl (by intro wz hz; go_simp) ?_
        try simp only [zc1, zc2, zc3, Act.put, zc4, zc5, zc6]
        refine wpAnyZ_take [] 4 (.int .i64 si) rfl (by kernel_rfl) (fun _ _ _ h => h) SS rfl (by intro wz hz; have z : wz.cell? ⟨gw, 3, none⟩ = some (.int .i64 si) := hz.cell 3 (by show 3 < 15; decide); go_simp) ?_
        try simp only [zc1, zc2, zc3, Act.put, zc4, zc5, zc6]
        refine wpAnyZ_take [] 5 (.pointer (some ⟨gw, 0, none⟩)) rfl (by kernel_rfl) (fun _ _ _ h => h) SS rfl (by intro wz hz; go_simp) ?_
        try simp only [zc1, zc2, zc3, Act.put, zc4, zc5, zc6]
        refine wpAnyZ_take [] 6 (.pointer (some ⟨gw, 0, none⟩)) rfl (by kernel_rfl) (fun _ _ _ h => h) SS rfl (by intro wz hz; go_simp) ?_
        try simp only [zc1, zc2, zc3, Act.put, zc4, zc5, zc6]
        refine wpAnyZ_take [] 7 (.pointer (some ⟨gw, 0, none⟩)) rfl (by kernel_rfl) (fun _ _ _ h => h) SS rfl (by intro wz hz; go_simp) ?_
        try simp only [zc1, zc2, zc3, Act.put, zc4, zc5, zc6]
        refine wpAnyZ_take [] 8 (.pointer (some ⟨gw, 5, none⟩)) rfl (by kernel_rfl) (fun _ _ _ h => h) SS rfl (by intro wz hz; go_simp) ?_
        try simp only [zc1, zc2, zc3, Act.put, zc4, zc5, zc6]
        refine wpAnyZ_take [] 9 (.int .i64 la) rfl (by kernel_rfl) (fun _ _ _ h => h) SS rfl (by intro wz hz; have z : wz.cell? ⟨gw, 5, none⟩ = some (.int .i64 la) := hz.cell 5 (by show 5 < 15; decide); go_simp) ?_
        try simp only [zc1, zc2, zc3, Act.put, zc4, zc5, zc6]
        refine wpAnyZ_take [] 10 (.bool false) rfl (by kernel_rfl) (fun _ _ _ h => h) SS rfl (by intro wz hz; go_simp) ?_
        try simp only [zc1, zc2, zc3, Act.put, zc4, zc5, zc6]
        refine wpAnyZ_take [] 11 (.bool false) rfl (by kernel_rfl) (fun _ _ _ h => h) SS rfl (by intro wz hz; go_simp) ?_
        try simp only [zc1, zc2, zc3, Act.put, zc4, zc5, zc6]
        refine wpAnyZ_skipD [] 12 rfl (by kernel_rfl) (fun _ _ _ h => h) SS rfl ?_
        try simp only [zc1, zc2, zc3, Act.put, zc4, zc5, zc6]
        refine wpAnyZ_skipD [] 13 rfl (by kernel_rfl) (fun _ _ _ h => h) SS rfl ?_
        try simp only [zc1, zc2, zc3, Act.put, zc4, zc5, zc6]
        refine wpAnyZ_skipD [] 14 rfl (by kernel_rfl) (fun _ _ _ h => h) SS rfl ?_
        try simp only [zc1, zc2, zc3, Act.put, zc4, zc5, zc6]
        refine wpAnyZ_skipD [] 15 rfl (by kernel_rfl) (fun _ _ _ h => h) SS rfl ?_
        try simp only [zc1, zc2, zc3, Act.put, zc4, zc5, zc6]
        refine wpAnyZ_skipD [] 16 rfl (by kernel_rfl) (fun _ _ _ h => h) SS rfl ?_
        try simp only [zc1, zc2, zc3, Act.put, zc4, zc5, zc6]
        refine wpAnyZ_skipD [] 17 rfl (by kernel_rfl) (fun _ _ _ h => h) SS rfl ?_
        try simp only [zc1, zc2, zc3, Act.put, zc4, zc5, zc6]
        refine wpAnyZ_skipD [] 18 rfl (by kernel_rfl) (fun _ _ _ h => h) SS rfl ?_
        try simp only [zc1, zc2, zc3, Act.put, zc4, zc5, zc6]
        refine wpAnyZ_skipD [] 19 rfl (by kernel_rfl) (fun _ _ _ h => h) SS rfl ?_
        try simp only [zc1, zc2, zc3, Act.put, zc4, zc5, zc6]
        refine wpAnyZ_skipD [] 20 rfl (by kernel_rfl) (fun _ _ _ h => h) SS rfl ?_
        try simp only [zc1, zc2, zc3, Act.put, zc4, zc5, zc6]
        refine wpAnyZ_skipD [] 21 rfl (by kernel_rfl) (fun _ _ _ h => h) SS rfl ?_
        try simp only [zc1, zc2, zc3, Act.put, zc4, zc5, zc6]
        refine wpAnyZ_skipD [] 22 rfl (by kernel_rfl) (fun _ _ _ h => h) SS rfl ?_
        try simp only [zc1, zc2, zc3, Act.put, zc4, zc5, zc6]
        refine wpAnyZ_skipD [] 23 rfl (by kernel_rfl) (fun _ _ _ h => h) SS rfl ?_
        try simp only [zc1, zc2, zc3, Act.put, zc4, zc5, zc6]
        refine wpAnyZ_skipD [] 24 rfl (by kernel_rfl) (fun _ _ _ h => h) SS rfl ?_
        try simp only [zc1, zc2, zc3, Act.put, zc4, zc5, zc6]
        refine wpAnyZ_skipD [] 25 rfl (by kernel_rfl) (fun _ _ _ h => h) SS rfl ?_
        try simp only [zc1, zc2, zc3, Act.put, zc4, zc5, zc6]
        refine wpAnyZ_skipD [] 26 rfl (by kernel_rfl) (fun _ _ _ h => h) SS rfl ?_
        try simp only [zc1, zc2, zc3, Act.put, zc4, zc5, zc6]
        refine wpAnyZ_skipD [] 27 rfl (by kernel_rfl) (fun _ _ _ h => h) SS rfl ?_
        try simp only [zc1, zc2, zc3, Act.put, zc4, zc5, zc6]
        refine wpAnyZ_skipD [] 28 rfl (by kernel_rfl) (fun _ _ _ h => h) SS rfl ?_
        try simp only [zc1, zc2, zc3, Act.put, zc4, zc5, zc6]
        refine wpAnyZ_skipD [] 29 rfl (by kernel_rfl) (fun _ _ _ h => h) SS rfl ?_
        try simp only [zc1, zc2, zc3, Act.put, zc4, zc5, zc6]
        refine wpAnyZ_take [] 30 (.bool false) rfl (by kernel_rfl) (fun _ _ _ h => h) SS rfl (by intro wz hz; go_simp) ?_
        try simp only [zc1, zc2, zc3, Act.put, zc4, zc5, zc6]
        refine wpAnyZ_doneB (by kernel_rfl) ?_ _
        refine HK3.out _ _ ?_
        clear HK3
        refine wp_cond_false rfl ?_
        refine wp_skip ?_
        try simp only [Exit.then]
        refine HK2.out _ _ ?_
        clear HK2
        have k2 := k1.trans (KpK.none Gd)
        refine wp_seq_k fun K4 hK4 => ?_
        have HK4 : Hid _ := hK4
        clear hK4
        have s0 : True := trivial
        go_wp2_with (have _t := s0; clear s0; refine wpList_stC _ rfl _ _ _ rfl gw 9 112 _ #[.int .i64 id, .bool true, .string nm, .int .i64 si, .bool true, .int .i64 la, .int .i64 su, .slice q G.length d, .slice a L.length c, .int .i64 4, .int .i64 ti, .int .i64 pa, .int .i64 tr, .int .i64 li, .slice na xs.length nc] (.int .i64 4) rfl rfl hd.bx (stc_stg _ _ _) (by show 9 < 15; decide) rfl ?_; intro w5 bw5 uw5)
        refine HK4.out _ _ ?_
        clear HK4
        have h5 := hd.set uw5 bw5
        have k5 := k2.trans (KpK.bx hd.bx (by decide) uw5)
        go_wp2_with (go_at_call 105; refine (sendDone_any _ _ _ _ _ _ _ _ _ _ _ _ _ _ _ _ _ _ _ _ _ _ _ _ _ _ _ 9 h5 (by have := HXL.out; omega)).mono ?_; rintro e w6 ⟨rfl, ⟨na6, nc6, h6⟩, f6⟩)
        try simp only [Exit.then]
        first | go_end0 | refine bodyPost_ret (results_none rfl _ _ _) rfl ?_
        refine ⟨rfl, ?_, k5.trans (f6.kp h5), ?_⟩
        · rw [HX.out]
          show KA wB _ gw (⟨id, true, nm, si, true, la, su, 4, ti, pa, tr, li, L, G⟩ : Tv) (T ++ [ntDone id 9])
          exact KA.of (map_one HT.out _ _ rfl) (V := (⟨id, true, nm, si, true, la, su, 4, ti, pa, tr, li, L, G⟩ : Tv)) h6
        · intro e9
          rw [HX.out] at e9
          have e9 : (4 : Int) = 0 := e9
          omega
end
end Go.Proofs.Ytnimehkfnpepfaa
