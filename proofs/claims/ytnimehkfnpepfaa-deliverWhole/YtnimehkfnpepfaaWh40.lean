import Derived.Test.YtnimehkfnpepfaaWh39
namespace Go.Proofs.Ytnimehkfnpepfaa
open Go.RowKit
set_option maxRecDepth 100000
set_option linter.unusedVariables false
set_option linter.unusedSimpArgs false

section
set_option maxHeartbeats 16000000 in
/-- a piece's bytes come into the file -/
theorem lay_any (wB w : World) (gw : Nat) (id : Int) (kn : Bool) (nm : ByteArray) (si : Int) (en : Bool) (la su : Int) (st ti pa tr li : Int) (a : Option Addr) (n c : Nat) (L : List Nat) (q : Option Addr) (m d : Nat) (G : List (Int × Int)) (na : Option Addr) (nn nc : Nat) (xs : List Nx) (h : TKW wB w gw id kn nm si en la su st ti pa tr li a n c L q m d G na nn nc xs) (x : Nat) (pa2 : Option Addr) (pn pc : Nat) (D : List Nat) (hD : Rd wB pa2 pn pc D) (hp : 0 < pn) (hx : x + pn ≤ 65536) (hn : n ≤ 65536) (hm : m ≤ 65536) (hR : Rise (giF G) m) :
    Calls Try.prog 122 #[.pointer (some ⟨gw, 0, none⟩), .int .i64 (x : Int), .slice pa2 pn pc] w fun e w' => e = .returned (.tuple #[]) ∧ (∃ a' c' q' d', TKW wB w' gw id kn nm si en la su st ti pa tr li a' (laL L D (giF G) m x).length c' (laL L D (giF G) m x) q' (wiL (giF G) (x : Int) ((x + pn : Nat) : Int) m).length d' (wiL (giF G) (x : Int) ((x + pn : Nat) : Int) m) na nn nc xs) ∧ KpY w w' := by
  have i2 := Try.info_sp
  have un2 := Try.underlying82
  have hDl : D.length = pn := hD.len
  have hLl : L.length = n := h.A.len
  have hcp : ∀ z, n + z = max n (x + pn) → cpL (L ++ List.replicate z 0) D x (uqF (giF G) (x : Int) ((x + pn : Nat) : Int) m) (uqF (giF G) (x : Int) ((x + pn : Nat) : Int) m).length = (laL L D (giF G) m x) := fun z hz => by
    have := cp_la (L := L) (D := D) (F := giF G) (m := m) (x := x) (z := z) hR (by rw [hLl, hDl]; exact hz)
    rw [hDl] at this
    exact this
  have hlen : (laL L D (giF G) m x).length = max n (x + pn) := by rw [laL_len, hLl, hDl]
  rw [hlen]
  generalize (laL L D (giF G) m x) = LA at hcp
  have HCP : Hid _ := hcp
  clear hcp hlen hLl hDl hR
  obtain ⟨y, hy⟩ : ∃ y, x + pn = y := ⟨_, rfl⟩
  rw [hy] at HCP ⊢
  have hwy : IntKind.i64.wrap ((x : Int) + (pn : Int)) = (y : Int) := by rw [show (x : Int) + (pn : Int) = (y : Int) by omega]; exact wrap_i64_in _ (by omega) (by omega)
  have HY : Hid _ := hy
  have hy9 : y ≤ 65536 := by omega
  clear hy hx
  have bn := BxS.new w 82 #[.int .i64 0, .int .i64 0]
  have gn := World.grownBy_alloc w (.cells #[.int .i64 0, .int .i64 0] 82) none
  generalize hw1 : w.alloc (.cells #[.int .i64 0, .int .i64 0] 82) = w1 at bn gn
  go_enter Try.func122, Try.ntmps122
  refine wp_seq_k fun K1 hK1 => ?_
  have HK1 : Hid _ := hK1
  clear hK1
  have s0 : True := trivial
  go_wp2_with (have _t := s0; clear s0; refine wpList_stX _ rfl _ (.tmp 6) (.tmp 14) rfl w.heap.size _ _ rfl rfl bn i2 rfl (by simp [Value.oneCell']) ?_; intro w2 b6 u2)
  refine HK1.out _ _ ?_
  clear HK1
  have G2 : w.grownBy w2 none := grown_far gn u2 (fun z e => by have e := Option.some.inj e; omega)
  obtain ⟨g6, hg6⟩ : ∃ g6, w.heap.size = g6 := ⟨_, rfl⟩
  rw [hg6] at b6 ⊢
  clear hg6 u2 bn gn hw1 hwy
  have Gd := grown_drew w2 none
  have hd := (h.keepN G2).keepN Gd
  have SS : BxS w2.drew gw 112 #[.int .i64 id, .bool kn, .string nm, .int .i64 si, .bool en, .int .i64 la, .int .i64 su, .slice q m d, .slice a n c, .int .i64 st, .int .i64 ti, .int .i64 pa, .int .i64 tr, .int .i64 li, .slice na nn nc] ∧ BxS w2.drew g6 82 #[.int .i64 (x : Int), .int .i64 (y : Int)] := ⟨hd.bx, b6.keep Gd (by simp)⟩
  have KY2 : KpY w w2.drew := (KpY.none G2).trans (KpY.none Gd)
  refine wp_seq_k fun K1 hK1 => ?_
  have HK1 : Hid _ := hK1
  clear hK1
  refine wp_seq_k fun K2 hK2 => ?_
  have HK2 : Hid _ := hK2
  clear hK2
  by_cases hlt : n < y
  · have hl2 : (n : Int) < (y : Int) := by omega
    refine wp_regionL (fun wz => BxS wz gw 112 #[.int .i64 id, .bool kn, .string nm, .int .i64 si, .bool en, .int .i64 la, .int .i64 su, .slice q m d, .slice a n c, .int .i64 st, .int .i64 ti, .int .i64 pa, .int .i64 tr, .int .i64 li, .slice na nn nc] ∧ BxS wz g6 82 #[.int .i64 (x : Int), .int .i64 (y : Int)]) [] #[false, false, false, false, false, false, false, false, false] rfl (by kernel_rfl) ?_
    refine wpAnyZ_take [] 0 (.pointer (some ⟨gw, 0, none⟩)) rfl (by kernel_rfl) (fun _ _ _ h => h) SS rfl (by intro wz hz; go_simp) ?_
    try simp only [zc1, zc2, zc3, Act.put, zc4, zc5, zc6]
    refine wpAnyZ_take [] 1 (.pointer (some ⟨gw, 0, none⟩)) rfl (by kernel_rfl) (fun _ _ _ h => h) SS rfl (by intro wz hz; go_simp) ?_
    try simp only [zc1, zc2, zc3, Act.put, zc4, zc5, zc6]
    refine wpAnyZ_take [] 2 (.pointer (some ⟨gw, 0, none⟩)) rfl (by kernel_rfl) (fun _ _ _ h => h) SS rfl (by intro wz hz; go_simp) ?_
    try simp only [zc1, zc2, zc3, Act.put, zc4, zc5, zc6]
    refine wpAnyZ_take [] 3 (.pointer (some ⟨gw, 8, none⟩)) rfl (by kernel_rfl) (fun _ _ _ h => h) SS rfl (by intro wz hz; go_simp) ?_
    try simp only [zc1, zc2, zc3, Act.put, zc4, zc5, zc6]
    refine wpAnyZ_take [] 4 (.slice a n c) rfl (by kernel_rfl) (fun _ _ _ h => h) SS rfl (by rintro wz ⟨hz, hz6⟩; have z : wz.cell? ⟨gw, 8, none⟩ = some (.slice a n c) := hz.cell 8 (by show 8 < 15; decide); go_simp) ?_
    try simp only [zc1, zc2, zc3, Act.put, zc4, zc5, zc6]
    refine wpAnyZ_take [] 5 (.int .i64 (n : Int)) rfl (by kernel_rfl) (fun _ _ _ h => h) SS rfl (by intro wz hz; go_simp) ?_
    try simp only [zc1, zc2, zc3, Act.put, zc4, zc5, zc6]
    refine wpAnyZ_take [] 6 (.pointer (some ⟨g6, 1, none⟩)) rfl (by kernel_rfl) (fun _ _ _ h => h) SS rfl (by intro wz hz; go_simp) ?_
    try simp only [zc1, zc2, zc3, Act.put, zc4, zc5, zc6]
    refine wpAnyZ_take [] 7 (.int .i64 (y : Int)) rfl (by kernel_rfl) (fun _ _ _ h => h) SS rfl (by rintro wz ⟨hz, hz6⟩; obtain ⟨z0, z1⟩ := hz6.cell2; go_simp) ?_
    try simp only [zc1, zc2, zc3, Act.put, zc4, zc5, zc6]
    refine wpAnyZ_take [] 8 (.bool true) rfl (by kernel_rfl) (fun _ _ _ h => h) SS rfl (by intro wz hz; go_simp) ?_
    try simp only [zc1, zc2, zc3, Act.put, zc4, zc5, zc6]
    refine wpAnyZ_doneB (by kernel_rfl) ?_ _
    refine HK2.out _ _ ?_
    clear HK2
    refine wp_cond_true rfl ?_
    clear h G2 Gd hl2
    generalize w2.drew = w3 at *
    obtain ⟨k, hk⟩ : ∃ k, y - n = k := ⟨_, rfl⟩
    have hwk : IntKind.i64.wrap ((y : Int) - (n : Int)) = (k : Int) := by rw [show (y : Int) - (n : Int) = (k : Int) by omega]; exact wrap_i64_in _ (by omega) (by omega)
    have hk1 : n + k ≤ y := by omega
    have hk2 : y ≤ n + k := by omega
    have hk3 : 0 < k := by omega
    clear hk hlt
    have Gd := grown_drew w3 none
    have hd3 := hd.keepN Gd
    have S3 : BxS w3.drew gw 112 #[.int .i64 id, .bool kn, .string nm, .int .i64 si, .bool en, .int .i64 la, .int .i64 su, .slice q m d, .slice a n c, .int .i64 st, .int .i64 ti, .int .i64 pa, .int .i64 tr, .int .i64 li, .slice na nn nc] ∧ BxS w3.drew g6 82 #[.int .i64 (x : Int), .int .i64 (y : Int)] := ⟨hd3.bx, SS.2.keep Gd (by simp)⟩
    have K3 := KY2.trans (KpY.none Gd)
    refine wp_regionL (fun wz => BxS wz gw 112 #[.int .i64 id, .bool kn, .string nm, .int .i64 si, .bool en, .int .i64 la, .int .i64 su, .slice q m d, .slice a n c, .int .i64 st, .int .i64 ti, .int .i64 pa, .int .i64 tr, .int .i64 li, .slice na nn nc] ∧ BxS wz g6 82 #[.int .i64 (x : Int), .int .i64 (y : Int)]) [19] #[false, false, false, false, false, false, false, false, false, false, false, false, false, false, false, false, false, false, false, false] rfl (by kernel_rfl) ?_
    generalize w3.drew = w4 at *
    refine wpAnyZ_take [19] 0 (.pointer (some ⟨gw, 0, none⟩)) rfl (by kernel_rfl) (fun _ _ _ h => h) S3 rfl (by intro wz hz; go_simp) ?_
    try simp only [zc1, zc2, zc3, Act.put, zc4, zc5, zc6]
    refine wpAnyZ_take [19] 1 (.pointer (some ⟨gw, 0, none⟩)) rfl (by kernel_rfl) (fun _ _ _ h => h) S3 rfl (by intro wz hz; go_simp) ?_
    try simp only [zc1, zc2, zc3, Act.put, zc4, zc5, zc6]
    refine wpAnyZ_take [19] 2 (.pointer (some ⟨gw, 0, none⟩)) rfl (by kernel_rfl) (fun _ _ _ h => h) S3 rfl (by intro wz hz; go_simp) ?_
    try simp only [zc1, zc2, zc3, Act.put, zc4, zc5, zc6]
    refine wpAnyZ_take [19] 3 (.pointer (some ⟨gw, 0, none⟩)) rfl (by kernel_rfl) (fun _ _ _ h => h) S3 rfl (by intro wz hz; go_simp) ?_
    try simp only [zc1, zc2, zc3, Act.put, zc4, zc5, zc6]
    refine wpAnyZ_take [19] 4 (.pointer (some ⟨gw, 8, none⟩)) rfl (by kernel_rfl) (fun _ _ _ h => h) S3 rfl (by intro wz hz; go_simp) ?_
    try simp only [zc1, zc2, zc3, Act.put, zc4, zc5, zc6]
    refine wpAnyZ_take [19] 5 (.slice a n c) rfl (by kernel_rfl) (fun _ _ _ h => h) S3 rfl (by rintro wz ⟨hz, hz6⟩; have z : wz.cell? ⟨gw, 8, none⟩ = some (.slice a n c) := hz.cell 8 (by show 8 < 15; decide); go_simp) ?_
    try simp only [zc1, zc2, zc3, Act.put, zc4, zc5, zc6]
    refine wpAnyZ_take [19] 6 (.pointer (some ⟨g6, 1, none⟩)) rfl (by kernel_rfl) (fun _ _ _ h => h) S3 rfl (by intro wz hz; go_simp) ?_
    try simp only [zc1, zc2, zc3, Act.put, zc4, zc5, zc6]
    refine wpAnyZ_take [19] 7 (.int .i64 (y : Int)) rfl (by kernel_rfl) (fun _ _ _ h => h) S3 rfl (by rintro wz ⟨hz, hz6⟩; obtain ⟨z0, z1⟩ := hz6.cell2; go_simp) ?_
    try simp only [zc1, zc2, zc3, Act.put, zc4, zc5, zc6]
    refine wpAnyZ_take [19] 8 (.pointer (some ⟨gw, 0, none⟩)) rfl (by kernel_rfl) (fun _ _ _ h => h) S3 rfl (by intro wz hz; go_simp) ?_
    try simp only [zc1, zc2, zc3, Act.put, zc4, zc5, zc6]
    refine wpAnyZ_take [19] 9 (.pointer (some ⟨gw, 0, none⟩)) rfl (by kernel_rfl) (fun _ _ _ h => h) S3 rfl (by intro wz hz; go_simp) ?_
    try simp only [zc1, zc2, zc3, Act.put, zc4, zc5, zc6]
    refine wpAnyZ_take [19] 10 (.pointer (some ⟨gw, 0, none⟩)) rfl (by kernel_rfl) (fun _ _ _ h => h) S3 rfl (by intro wz hz; go_simp) ?_
    try simp only [zc1, zc2, zc3, Act.put, zc4, zc5, zc6]
    refine wpAnyZ_take [19] 11 (.pointer (some ⟨gw, 8, none⟩)) rfl (by kernel_rfl) (fun _ _ _ h => h) S3 rfl (by intro wz hz; go_simp) ?_
    try simp only [zc1, zc2, zc3, Act.put, zc4, zc5, zc6]
    refine wpAnyZ_take [19] 12 (.slice a n c) rfl (by kernel_rfl) (fun _ _ _ h => h) S3 rfl (by rintro wz ⟨hz, hz6⟩; have z : wz.cell? ⟨gw, 8, none⟩ = some (.slice a n c) := hz.cell 8 (by show 8 < 15; decide); go_simp) ?_
    try simp only [zc1, zc2, zc3, Act.put, zc4, zc5, zc6]
    refine wpAnyZ_take [19] 13 (.int .i64 (n : Int)) rfl (by kernel_rfl) (fun _ _ _ h => h) S3 rfl (by intro wz hz; go_simp) ?_
    try simp only [zc1, zc2, zc3, Act.put, zc4, zc5, zc6]
    refine wpAnyZ_take [19] 14 (.int .i64 (k : Int)) rfl (by kernel_rfl) (fun _ _ _ h => h) S3 rfl (by intro wz hz; go_simp) ?_
    try simp only [zc1, zc2, zc3, Act.put, zc4, zc5, zc6]
    clear hwk
    have hz4 := hd3.g.size
    refine wpAnyZ_oneB 15 rfl (by kernel_rfl) (fun KK hKK => ?_)
    refine step_of_listV rfl ?_
    refine wpList_apZd w4 rfl _ _ rfl a n c k wB.heap.size L rfl rfl hd3.A hz4 hk3 (by omega) ?_
    intro a5 c5 w5 hA5 u5 ho5
    have b65 := S3.2.keep u5 (fun e => own_ty hd3.A.own S3.2 (by decide) e.symm)
    have S5 : BxS w5 gw 112 #[.int .i64 id, .bool kn, .string nm, .int .i64 si, .bool en, .int .i64 la, .int .i64 su, .slice q m d, .slice a n c, .int .i64 st, .int .i64 ti, .int .i64 pa, .int .i64 tr, .int .i64 li, .slice na nn nc] ∧ BxS w5 g6 82 #[.int .i64 (x : Int), .int .i64 (y : Int)] := ⟨S3.1.keep u5 (fun e => own_ty hd3.A.own S3.1 (by decide) e.symm), b65⟩
    show KK _ w5
    refine hKK _ _ (fun _ => S5) ?_
    try simp only [zc1, zc2, zc3, Act.put, zc4, zc5, zc6]
    refine wpAnyZ_oneB 16 rfl (by kernel_rfl) (fun KK hKK => ?_)
    go_simp
    refine hKK _ _ (fun _ => S5) ?_
    try simp only [zc1, zc2, zc3, Act.put, zc4, zc5, zc6]
    refine wpAnyZ_oneB 17 rfl (by kernel_rfl) (fun KK hKK => ?_)
    go_simp
    refine hKK _ _ (fun _ => S5) ?_
    try simp only [zc1, zc2, zc3, Act.put, zc4, zc5, zc6]
    refine wpAnyZ_oneB 18 rfl (by kernel_rfl) (fun KK hKK => ?_)
    go_simp
    refine hKK _ _ (fun _ => S5) ?_
    try simp only [zc1, zc2, zc3, Act.put, zc4, zc5, zc6]
    refine wpAnyZ_oneB 19 rfl (by kernel_rfl) (fun KK hKK => ?_)
    refine step_stCd _ rfl _ _ _ rfl gw 8 112 _ #[.int .i64 id, .bool kn, .string nm, .int .i64 si, .bool en, .int .i64 la, .int .i64 su, .slice q m d, .slice a5 (n + k) c5, .int .i64 st, .int .i64 ti, .int .i64 pa, .int .i64 tr, .int .i64 li, .slice na nn nc] (.slice a5 (n + k) c5) rfl rfl S5.1 (fun w' h1 h2 => stc_sl _ _ _ _ _ _ h1 h2) (by show 8 < 15; decide) rfl ?_
    intro w6 b6w u6
    refine hKK _ _ (fun h => absurd (by decide) h) ?_
    try simp only [zc1, zc2, zc3, Act.put, zc4, zc5, zc6]
    refine wpAnyZ_doneB (by kernel_rfl) ?_ _
    try simp only [Exit.then]
    refine HK1.out _ _ ?_
    clear HK1
    have h6 := hd3.newA u5 hA5 ho5 u6 b6w
    have b66 := b65.keep u6 (fun e => BxS.apart b65 S5.1 (by decide) (Option.some.inj e))
    have K6 := (K3.trans (KpY.an hd3.A u5)).trans (KpY.bx S5.1 (by decide) (by decide) u6)
    have emx : max n y = n + k := by omega
    rw [emx] at HCP ⊢
    have ecp := HCP.out k rfl
    refine ly_t3 _ wB w6 gw id kn nm si en la su st ti pa tr li a5 (n + k) c5 (L ++ List.replicate k 0) q m d G na nn nc xs h6 g6 x y b66 hm pa2 pn pc D hD HY.out.symm hk2 (by omega) ?_
    intro w' q' d' h9 k9
    rw [ecp] at h9
    exact ⟨rfl, ⟨a5, c5, q', d', h9⟩, K6.trans k9⟩
  · have hl2 : ¬ (n : Int) < (y : Int) := by omega
    refine wp_regionL (fun wz => BxS wz gw 112 #[.int .i64 id, .bool kn, .string nm, .int .i64 si, .bool en, .int .i64 la, .int .i64 su, .slice q m d, .slice a n c, .int .i64 st, .int .i64 ti, .int .i64 pa, .int .i64 tr, .int .i64 li, .slice na nn nc] ∧ BxS wz g6 82 #[.int .i64 (x : Int), .int .i64 (y : Int)]) [] #[false, false, false, false, false, false, false, false, false] rfl (by kernel_rfl) ?_
    refine wpAnyZ_take [] 0 (.pointer (some ⟨gw, 0, none⟩)) rfl (by kernel_rfl) (fun _ _ _ h => h) SS rfl (by intro wz hz; go_simp) ?_
    try simp only [zc1, zc2, zc3, Act.put, zc4, zc5, zc6]
    refine wpAnyZ_take [] 1 (.pointer (some ⟨gw, 0, none⟩)) rfl (by kernel_rfl) (fun _ _ _ h => h) SS rfl (by intro wz hz; go_simp) ?_
    try simp only [zc1, zc2, zc3, Act.put, zc4, zc5, zc6]
    refine wpAnyZ_take [] 2 (.pointer (some ⟨gw, 0, none⟩)) rfl (by kernel_rfl) (fun _ _ _ h => h) SS rfl (by intro wz hz; go_simp) ?_
    try simp only [zc1, zc2, zc3, Act.put, zc4, zc5, zc6]
    refine wpAnyZ_take [] 3 (.pointer (some ⟨gw, 8, none⟩)) rfl (by kernel_rfl) (fun _ _ _ h => h) SS rfl (by intro wz hz; go_simp) ?_
    try simp only [zc1, zc2, zc3, Act.put, zc4, zc5, zc6]
    refine wpAnyZ_take [] 4 (.slice a n c) rfl (by kernel_rfl) (fun _ _ _ h => h) SS rfl (by rintro wz ⟨hz, hz6⟩; have z : wz.cell? ⟨gw, 8, none⟩ = some (.slice a n c) := hz.cell 8 (by show 8 < 15; decide); go_simp) ?_
    try simp only [zc1, zc2, zc3, Act.put, zc4, zc5, zc6]
    refine wpAnyZ_take [] 5 (.int .i64 (n : Int)) rfl (by kernel_rfl) (fun _ _ _ h => h) SS rfl (by intro wz hz; go_simp) ?_
    try simp only [zc1, zc2, zc3, Act.put, zc4, zc5, zc6]
    refine wpAnyZ_take [] 6 (.pointer (some ⟨g6, 1, none⟩)) rfl (by kernel_rfl) (fun _ _ _ h => h) SS rfl (by intro wz hz; go_simp) ?_
    try simp only [zc1, zc2, zc3, Act.put, zc4, zc5, zc6]
    refine wpAnyZ_take [] 7 (.int .i64 (y : Int)) rfl (by kernel_rfl) (fun _ _ _ h => h) SS rfl (by rintro wz ⟨hz, hz6⟩; obtain ⟨z0, z1⟩ := hz6.cell2; go_simp) ?_
    try simp only [zc1, zc2, zc3, Act.put, zc4, zc5, zc6]
    refine wpAnyZ_take [] 8 (.bool false) rfl (by kernel_rfl) (fun _ _ _ h => h) SS rfl (by intro wz hz; go_simp) ?_
    try simp only [zc1, zc2, zc3, Act.put, zc4, zc5, zc6]
    refine wpAnyZ_doneB (by kernel_rfl) ?_ _
    refine HK2.out _ _ ?_
    clear HK2
    refine wp_cond_false rfl ?_
    refine wp_skip ?_
    try simp only [Exit.then]
    refine HK1.out _ _ ?_
    clear HK1
    have emx : max n y = n := by omega
    rw [emx] at HCP ⊢
    have ecp := HCP.out 0 rfl
    rw [List.replicate_zero, List.append_nil] at ecp
    refine ly_t3 _ wB w2.drew gw id kn nm si en la su st ti pa tr li a n c L q m d G na nn nc xs hd g6 x y SS.2 hm pa2 pn pc D hD HY.out.symm (by omega) hn ?_
    intro w' q' d' h9 k9
    rw [ecp] at h9
    exact ⟨rfl, ⟨a, c, q', d', h9⟩, KY2.trans k9⟩
end
end Go.Proofs.Ytnimehkfnpepfaa
