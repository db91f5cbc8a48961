import Derived.Test.YtnimehkfnpepfaaWh18
import Derived.Lib.MinMax
import Derived.Test.YtnimehkfnpepfaaWh6
namespace Go.Proofs.Ytnimehkfnpepfaa
open Go.RowKit
set_option maxRecDepth 100000
set_option linter.unusedVariables false
set_option linter.unusedSimpArgs false

section
/-- a note's data -/
structure Nt where
  kd : Int
  id : Int
  nm : ByteArray
  si : Int
  su : Int
  at' : Int
  da : List Nat
  ga : List (Int × Int)
  o : Int
  co : Int
def Nx.dt (x : Nx) : Nt := ⟨x.kd, x.id, x.nm, x.si, x.su, x.at', x.da, x.ga, x.o, x.co⟩
theorem OwN.cell {w : World} {lo g n c : Nat} {xs : List Nx} (h : OwN w lo (some ⟨g, 0, none⟩) n c xs) {i : Nat} {x : Nx} (hi : xs[i]? = some x) (j : Nat) (hj : j < 10) : w.cell? ⟨g, i * 10 + j, none⟩ = x.cells[j]? := by
  have hf := flN_at xs i x hi j hj
  have hl : x.cells.length = 10 := rfl
  have hu : x.cells[j]? = some (x.cells[j]'(by omega)) := List.getElem?_eq_getElem (by omega)
  rw [hu] at hf ⊢
  have := h.own.cells (g := g) rfl (i * 10 + j) _ hf
  rw [addr_add, Nat.zero_add] at this
  exact this
theorem OwN.someN {w : World} {lo : Nat} {a : Option Addr} {n c : Nat} {xs : List Nx} (h : OwN w lo a n c xs) (h0 : 0 < n) : ∃ g, a = some ⟨g, 0, none⟩ := by
  rcases h.own.2 with ⟨h1, h2⟩ | ⟨g, cap', cur, h1, _⟩
  · omega
  · simp only [Value.slice.injEq] at h1; exact ⟨g, h1.1⟩
end

section
/-- a tick more -/
def wtN (ti pa : Int) : Int := if ti + 1 = pa then 0 else ti + 1
set_option maxHeartbeats 16000000 in
theorem waited_any (gw : Nat) (id : Int) (kn : Bool) (nm : ByteArray) (si : Int) (en : Bool) (la su : Int) (q : Option Addr) (m d : Nat) (a : Option Addr) (n c : Nat) (st ti pa tr li : Int) (na : Option Addr) (nn nc : Nat) (w : World) (b : BxS w gw 112 #[.int .i64 id, .bool kn, .string nm, .int .i64 si, .bool en, .int .i64 la, .int .i64 su, .slice q m d, .slice a n c, .int .i64 st, .int .i64 ti, .int .i64 pa, .int .i64 tr, .int .i64 li, .slice na nn nc]) (h0 : 0 ≤ ti) (h1 : ti ≤ pa - 1) (h2 : pa ≤ 1000) :
    Calls Try.prog 108 #[.pointer (some ⟨gw, 0, none⟩)] w fun e w' => e = .returned (.bool (decide (wtN ti pa = 0))) ∧ BxS w' gw 112 #[.int .i64 id, .bool kn, .string nm, .int .i64 si, .bool en, .int .i64 la, .int .i64 su, .slice q m d, .slice a n c, .int .i64 st, .int .i64 (wtN ti pa), .int .i64 pa, .int .i64 tr, .int .i64 li, .slice na nn nc] ∧ w.grownBy w' (some gw) := by
  have hr : Int.tmod (ti + 1) pa = wtN ti pa := by
    unfold wtN
    rw [Int.tmod_eq_emod_of_nonneg (by omega)]
    by_cases e : ti + 1 = pa
    · rw [if_pos e, e, Int.emod_self]
    · rw [if_neg e]; exact Int.emod_eq_of_lt (by omega) (by omega)
  have hr0 : 0 ≤ wtN ti pa ∧ wtN ti pa ≤ 1000 := by unfold wtN; by_cases e : ti + 1 = pa; rw [if_pos e]; omega; rw [if_neg e]; omega
  generalize wtN ti pa = r at hr hr0 ⊢
  have hw1 : IntKind.i64.wrap (ti + 1) = ti + 1 := wrap_i64_in _ (by omega) (by omega)
  obtain ⟨t1, ht1⟩ : ∃ t1, ti + 1 = t1 := ⟨_, rfl⟩
  rw [ht1] at hr hw1
  have hw2 : IntKind.i64.wrap r = r := wrap_i64_in _ (by omega) (by omega)
  have hp0 : ¬ pa = 0 := by omega
  have hp1 : (pa == 0) = false := beq_eq_false_iff_ne.2 hp0
  go_enter Try.func108, Try.ntmps108
  refine wp_seq_k fun K1 hK1 => ?_
  have HK1 : Hid _ := hK1
  clear hK1
  go_wp2
  refine HK1.out _ _ ?_
  clear HK1
  refine wp_seq_k fun K1 hK1 => ?_
  have HK1 : Hid _ := hK1
  clear hK1
  have Gd := grown_drew w none
  have SS : BxS w.drew gw 112 #[.int .i64 id, .bool kn, .string nm, .int .i64 si, .bool en, .int .i64 la, .int .i64 su, .slice q m d, .slice a n c, .int .i64 st, .int .i64 ti, .int .i64 pa, .int .i64 tr, .int .i64 li, .slice na nn nc] := b.keep Gd (by simp)
  refine wp_regionL (fun wz => BxS wz gw 112 #[.int .i64 id, .bool kn, .string nm, .int .i64 si, .bool en, .int .i64 la, .int .i64 su, .slice q m d, .slice a n c, .int .i64 st, .int .i64 ti, .int .i64 pa, .int .i64 tr, .int .i64 li, .slice na nn nc]) [16] #[false, false, false, false, false, false, false, false, false, false, false, false, false, false, false, false, false] rfl (by kernel_rfl) ?_
  refine wpAnyZ_take [16] 0 (.pointer (some ⟨gw, 0, none⟩)) rfl (by kernel_rfl) (fun _ _ _ h => h) SS rfl (by intro wz hz; go_simp) ?_
  try simp only [zc1, zc2, zc3, Act.put, zc4, zc5, zc6]
  refine wpAnyZ_take [16] 1 (.pointer (some ⟨gw, 0, none⟩)) rfl (by kernel_rfl) (fun _ _ _ h => h) SS rfl (by intro wz hz; go_simp) ?_
  try simp only [zc1, zc2, zc3, Act.put, zc4, zc5, zc6]
  refine wpAnyZ_take [16] 2 (.pointer (some ⟨gw, 0, none⟩)) rfl (by kernel_rfl) (fun _ _ _ h => h) SS rfl (by intro wz hz; go_simp) ?_
  try simp only [zc1, zc2, zc3, Act.put, zc4, zc5, zc6]
  refine wpAnyZ_take [16] 3 (.pointer (some ⟨gw, 0, none⟩)) rfl (by kernel_rfl) (fun _ _ _ h => h) SS rfl (by intro wz hz; go_simp) ?_
  try simp only [zc1, zc2, zc3, Act.put, zc4, zc5, zc6]
  refine wpAnyZ_take [16] 4 (.pointer (some ⟨gw, 10, none⟩)) rfl (by kernel_rfl) (fun _ _ _ h => h) SS rfl (by intro wz hz; go_simp) ?_
  try simp only [zc1, zc2, zc3, Act.put, zc4, zc5, zc6]
  refine wpAnyZ_take [16] 5 (.int .i64 ti) rfl (by kernel_rfl) (fun _ _ _ h => h) SS rfl (by intro wz hz; have z : wz.cell? ⟨gw, 10, none⟩ = some (.int .i64 ti) := hz.cell 10 (by show 10 < 15; decide); go_simp) ?_
  try simp only [zc1, zc2, zc3, Act.put, zc4, zc5, zc6]
  refine wpAnyZ_take [16] 6 (.int .i64 t1) rfl (by kernel_rfl) (fun _ _ _ h => h) SS rfl (by intro wz hz; go_simp) ?_
  try simp only [zc1, zc2, zc3, Act.put, zc4, zc5, zc6]
  refine wpAnyZ_take [16] 7 (.pointer (some ⟨gw, 0, none⟩)) rfl (by kernel_rfl) (fun _ _ _ h => h) SS rfl (by intro wz hz; go_simp) ?_
  try simp only [zc1, zc2, zc3, Act.put, zc4, zc5, zc6]
  refine wpAnyZ_take [16] 8 (.pointer (some ⟨gw, 0, none⟩)) rfl (by kernel_rfl) (fun _ _ _ h => h) SS rfl (by intro wz hz; go_simp) ?_
  try simp only [zc1, zc2, zc3, Act.put, zc4, zc5, zc6]
  refine wpAnyZ_take [16] 9 (.pointer (some ⟨gw, 0, none⟩)) rfl (by kernel_rfl) (fun _ _ _ h => h) SS rfl (by intro wz hz; go_simp) ?_
  try simp only [zc1, zc2, zc3, Act.put, zc4, zc5, zc6]
  refine wpAnyZ_take [16] 10 (.pointer (some ⟨gw, 11, none⟩)) rfl (by kernel_rfl) (fun _ _ _ h => h) SS rfl (by intro wz hz; go_simp) ?_
  try simp only [zc1, zc2, zc3, Act.put, zc4, zc5, zc6]
  refine wpAnyZ_take [16] 11 (.int .i64 pa) rfl (by kernel_rfl) (fun _ _ _ h => h) SS rfl (by intro wz hz; have z : wz.cell? ⟨gw, 11, none⟩ = some (.int .i64 pa) := hz.cell 11 (by show 11 < 15; decide); go_simp) ?_
  try simp only [zc1, zc2, zc3, Act.put, zc4, zc5, zc6]
  refine wpAnyZ_take [16] 12 (.int .i64 r) rfl (by kernel_rfl) (fun _ _ _ h => h) SS rfl (by intro wz hz; go_simp) ?_
  try simp only [zc1, zc2, zc3, Act.put, zc4, zc5, zc6]
  refine wpAnyZ_oneB 13 rfl (by kernel_rfl) (fun KK hKK => ?_)
  go_simp
  refine hKK _ _ (fun _ => SS) ?_
  try simp only [zc1, zc2, zc3, Act.put, zc4, zc5, zc6]
  refine wpAnyZ_oneB 14 rfl (by kernel_rfl) (fun KK hKK => ?_)
  go_simp
  refine hKK _ _ (fun _ => SS) ?_
  try simp only [zc1, zc2, zc3, Act.put, zc4, zc5, zc6]
  refine wpAnyZ_oneB 15 rfl (by kernel_rfl) (fun KK hKK => ?_)
  go_simp
  refine hKK _ _ (fun _ => SS) ?_
  try simp only [zc1, zc2, zc3, Act.put, zc4, zc5, zc6]
  refine wpAnyZ_oneB 16 rfl (by kernel_rfl) (fun KK hKK => ?_)
  refine step_stCd _ rfl _ _ _ rfl gw 10 112 _ #[.int .i64 id, .bool kn, .string nm, .int .i64 si, .bool en, .int .i64 la, .int .i64 su, .slice q m d, .slice a n c, .int .i64 st, .int .i64 r, .int .i64 pa, .int .i64 tr, .int .i64 li, .slice na nn nc] (.int .i64 r) rfl rfl SS (fun w' h1 h2 => stc_int _ _ _ _ h1 h2) (by show 10 < 15; decide) rfl ?_
  intro w4 b4 u4
  refine hKK _ _ (fun h => absurd (by decide) h) ?_
  try simp only [zc1, zc2, zc3, Act.put, zc4, zc5, zc6]
  refine wpAnyZ_doneB (by kernel_rfl) ?_ _
  refine HK1.out _ _ ?_
  clear HK1
  have x10 : w4.cell? ⟨gw, 10, none⟩ = some (.int .i64 r) := b4.cell 10 (by show 10 < 15; decide)
  go_wp2
  try go_ret
  exact ⟨by first | rfl | (by_cases e : r = 0 <;> simp [e]), b4, grown_trans (grown_weak Gd _) u4⟩
end

section
set_option maxHeartbeats 16000000 in
/-- a taker at work shares no memory with what was handed in -/
theorem tkAtWork_any (id : Int) (kn : Bool) (nm : ByteArray) (si : Int) (en : Bool) (la su : Int) (q : Option Addr) (m d : Nat) (a : Option Addr) (n c : Nat) (st ti pa tr li : Int) (F : Nat → Int × Int) (L : List Nat) (w : World) (hL : Rd w a n c L) (hG : RdG w q m d F) (hn : n ≤ 140737488351232) (hm : m ≤ 8796093021952) :
    Calls Try.prog 78 #[.agg (tkA id kn nm si en la su (.slice q m d) (.slice a n c) st ti pa tr li)] w fun e w' => ∃ gw a' c' q' d', e = .returned (.pointer (some ⟨gw, 0, none⟩)) ∧ BxS w' gw 112 #[.int .i64 id, .bool kn, .string nm, .int .i64 si, .bool en, .int .i64 la, .int .i64 su, .slice q' m d', .slice a' n c', .int .i64 st, .int .i64 ti, .int .i64 pa, .int .i64 tr, .int .i64 li, .slice none 0 0] ∧ Ans w' w.heap.size a' n c' L ∧ OwGi w' w.heap.size q' m d' (tabG F m) ∧ w.heap.size ≤ gw ∧ w.grownBy w' none := by
  have b0 := BxS.new w 48 #[.int .i64 id, .bool kn, .string nm, .int .i64 si, .bool en, .int .i64 la, .int .i64 su, .slice q m d, .slice a n c, .int .i64 st, .int .i64 ti, .int .i64 pa, .int .i64 tr, .int .i64 li]
  have g0 := World.grownBy_alloc w (.cells #[.int .i64 id, .bool kn, .string nm, .int .i64 si, .bool en, .int .i64 la, .int .i64 su, .slice q m d, .slice a n c, .int .i64 st, .int .i64 ti, .int .i64 pa, .int .i64 tr, .int .i64 li] 48) none
  have i14 := Try.info_tk
  unfold tkA
  generalize hw0 : w.alloc (.cells #[.int .i64 id, .bool kn, .string nm, .int .i64 si, .bool en, .int .i64 la, .int .i64 su, .slice q m d, .slice a n c, .int .i64 st, .int .i64 ti, .int .i64 pa, .int .i64 tr, .int .i64 li] 48) = w0 at b0 g0
  have l0 := b0.lt
  go_enter Try.func78, Try.ntmps78
  refine wp_seq_k fun K1 hK1 => ?_
  have HK1 : Hid _ := hK1
  clear hK1
  go_wp2
  refine HK1.out _ _ ?_
  clear HK1
  refine wp_seq_k fun K2 hK2 => ?_
  have HK2 : Hid _ := hK2
  clear hK2
  have Gd := grown_drew w0 none
  have SS : BxS w0.drew w.heap.size 48 #[.int .i64 id, .bool kn, .string nm, .int .i64 si, .bool en, .int .i64 la, .int .i64 su, .slice q m d, .slice a n c, .int .i64 st, .int .i64 ti, .int .i64 pa, .int .i64 tr, .int .i64 li] := b0.keep Gd (by simp)
  have G1 := grown_trans g0 Gd
  refine wp_regionL (fun wz => BxS wz w.heap.size 48 #[.int .i64 id, .bool kn, .string nm, .int .i64 si, .bool en, .int .i64 la, .int .i64 su, .slice q m d, .slice a n c, .int .i64 st, .int .i64 ti, .int .i64 pa, .int .i64 tr, .int .i64 li]) [7, 8, 9] #[false, false, false, false, false, false, false, false, false, false] rfl (by kernel_rfl) ?_
  refine wpAnyZ_take [7, 8, 9] 0 (.pointer (some ⟨w.heap.size, 7, none⟩)) rfl (by kernel_rfl) (fun _ _ _ h => h) SS rfl (by intro wz hz; go_simp) ?_
  try simp only [zc1, zc2, zc3, Act.put, zc4, zc5, zc6]
  refine wpAnyZ_take [7, 8, 9] 1 (.slice q m d) rfl (by kernel_rfl) (fun _ _ _ h => h) SS rfl (by intro wz hz; have z : wz.cell? ⟨w.heap.size, 7, none⟩ = some (.slice q m d) := hz.cell 7 (by show 7 < 14; decide); go_simp) ?_
  try simp only [zc1, zc2, zc3, Act.put, zc4, zc5, zc6]
  refine wpAnyZ_take [7, 8, 9] 3 (.pointer (some ⟨w.heap.size, 8, none⟩)) rfl (by kernel_rfl) (fun _ _ _ h => h) SS rfl (by intro wz hz; go_simp) ?_
  try simp only [zc1, zc2, zc3, Act.put, zc4, zc5, zc6]
  refine wpAnyZ_take [7, 8, 9] 4 (.slice a n c) rfl (by kernel_rfl) (fun _ _ _ h => h) SS rfl (by intro wz hz; have z : wz.cell? ⟨w.heap.size, 8, none⟩ = some (.slice a n c) := hz.cell 8 (by show 8 < 14; decide); go_simp) ?_
  try simp only [zc1, zc2, zc3, Act.put, zc4, zc5, zc6]
  have l1 := SS.lt
  generalize w0.drew = w1 at *
  refine wpAnyZ_oneB 2 rfl (by kernel_rfl) (fun KK hKK => ?_)
  go_simp
  go_at_call 93
  refine (gclone_any q m d F w1 (hG.keep G1) hm).mono ?_
  rintro e w2 ⟨q5, d5, rfl, hO5, y2⟩
  dsimp only
  have S2 := SS.keep y2 (by simp)
  have G2 := grown_trans G1 y2
  refine hKK _ _ (fun _ => S2) ?_
  try simp only [zc1, zc2, zc3, Act.put, zc4, zc5, zc6]
  refine wpAnyZ_take [7, 8, 9] 6 (.pointer (some ⟨w.heap.size, 7, none⟩)) rfl (by kernel_rfl) (fun _ _ _ h => h) S2 rfl (by intro wz hz; go_simp) ?_
  try simp only [zc1, zc2, zc3, Act.put, zc4, zc5, zc6]
  refine wpAnyZ_oneB 5 rfl (by kernel_rfl) (fun KK hKK => ?_)
  go_simp
  go_at_call 57
  refine (dclone_any a n c L w2 (hL.keep G2) (by omega)).mono ?_
  rintro e w3 ⟨a5, c5, rfl, hA5, y3⟩
  dsimp only
  have S3 := S2.keep y3 (by simp)
  have hO3 := hO5.keep y3
  have G3 := grown_trans G2 y3
  refine hKK _ _ (fun _ => S3) ?_
  try simp only [zc1, zc2, zc3, Act.put, zc4, zc5, zc6]
  refine wpAnyZ_oneB 7 rfl (by kernel_rfl) (fun KK hKK => ?_)
  refine step_stCd _ rfl _ _ _ rfl w.heap.size 7 48 _ #[.int .i64 id, .bool kn, .string nm, .int .i64 si, .bool en, .int .i64 la, .int .i64 su, .slice q5 m d5, .slice a n c, .int .i64 st, .int .i64 ti, .int .i64 pa, .int .i64 tr, .int .i64 li] (.slice q5 m d5) rfl rfl S3 (fun w' h1 h2 => stc_slG _ _ _ _ _ _ h1 h2) (by show 7 < 14; decide) rfl ?_
  intro w4 b4 u4
  refine hKK _ _ (fun h => absurd (by decide) h) ?_
  try simp only [zc1, zc2, zc3, Act.put, zc4, zc5, zc6]
  refine wpAnyZ_takeF 8 (.pointer (some ⟨w.heap.size, 8, none⟩)) rfl (by kernel_rfl) (fun _ _ _ h => h) rfl (by intro wz; go_simp) ?_
  try simp only [zc1, zc2, zc3, Act.put, zc4, zc5, zc6]
  refine wpAnyZ_oneB 9 rfl (by kernel_rfl) (fun KK hKK => ?_)
  refine step_stCd _ rfl _ _ _ rfl w.heap.size 8 48 _ #[.int .i64 id, .bool kn, .string nm, .int .i64 si, .bool en, .int .i64 la, .int .i64 su, .slice q5 m d5, .slice a5 n c5, .int .i64 st, .int .i64 ti, .int .i64 pa, .int .i64 tr, .int .i64 li] (.slice a5 n c5) rfl rfl b4 (fun w' h1 h2 => stc_sl _ _ _ _ _ _ h1 h2) (by show 8 < 14; decide) rfl ?_
  intro w5 b5 u5
  refine hKK _ _ (fun h => absurd (by decide) h) ?_
  try simp only [zc1, zc2, zc3, Act.put, zc4, zc5, zc6]
  refine wpAnyZ_doneB (by kernel_rfl) ?_ _
  have z1 := G1.size
  have z2 := G2.size
  have zy := y2.size
  have hA4 := (hA5.kept u4 (.inr (fun e => by have := hA5.new _ e; omega))).kept u5 (.inr (fun e => by have := hA5.new _ e; omega))
  have hO4 := (hO3.bx S3 (by decide) u4).bx b4 (by decide) u5
  have G5 := grown_far (grown_far G3 u4 (fun q e => by have e := Option.some.inj e; omega)) u5 (fun q e => by have e := Option.some.inj e; omega)
  refine HK2.out _ _ ?_
  clear HK2
  have bW := BxS.new w5 112 #[.int .i64 id, .bool kn, .string nm, .int .i64 si, .bool en, .int .i64 la, .int .i64 su, .slice q5 m d5, .slice a5 n c5, .int .i64 st, .int .i64 ti, .int .i64 pa, .int .i64 tr, .int .i64 li, .slice none 0 0]
  have gW := World.grownBy_alloc w5 (.cells #[.int .i64 id, .bool kn, .string nm, .int .i64 si, .bool en, .int .i64 la, .int .i64 su, .slice q5 m d5, .slice a5 n c5, .int .i64 st, .int .i64 ti, .int .i64 pa, .int .i64 tr, .int .i64 li, .slice none 0 0] 112) none
  generalize hw6 : w5.alloc (.cells #[.int .i64 id, .bool kn, .string nm, .int .i64 si, .bool en, .int .i64 la, .int .i64 su, .slice q5 m d5, .slice a5 n c5, .int .i64 st, .int .i64 ti, .int .i64 pa, .int .i64 tr, .int .i64 li, .slice none 0 0] 112) = w6 at bW gW
  have z5 := G5.size
  have s0 : True := trivial
  go_wp2_with (have _t := s0; clear s0; refine wpList_ldX _ rfl _ (.tmp 1) rfl w.heap.size _ rfl b5 Try.underlying48 i14 ?_)
  go_ret
  exact ⟨w5.heap.size, a5, c5, q5, d5, rfl, bW, (hA4.keep gW).wide (by omega), (hO4.keep gW).wide (by omega), by omega, grown_trans G5 gW⟩
end
end Go.Proofs.Ytnimehkfnpepfaa
