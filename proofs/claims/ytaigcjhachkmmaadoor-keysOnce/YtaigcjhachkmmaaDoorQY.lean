import Derived.Test.YtaigcjhachkmmaaDoorQX
namespace Go.Proofs.YtaigcjhachkmmaaDoor
open Go.RowKit
set_option maxRecDepth 100000
set_option linter.unusedVariables false
set_option linter.unusedSimpArgs false
theorem Tryd.info_booMQ : (Tryd.prog.info? 4).map (fun i => (i.zero, i.size, i.bytes)) = some (some (.bool false), 1, 1) := by kernel_rfl
def hatQ (H : List Bool) (k : Nat) : Bool := H.getD k false
def hlsQ (H : List Bool) : List Value := H.map Value.bool
/-- Block g is a row of bools, the call's own. -/
def BlHQ (w : World) (g : Nat) (H : List Bool) : Prop := w.heap[g]? = some (.cells (hlsQ H).toArray 4)
theorem BlHQ.lt {w : World} {g : Nat} {H : List Bool} (h : BlHQ w g H) : g < w.heap.size := (Array.getElem?_eq_some_iff.1 h).1
theorem BlHQ.cell {w : World} {g : Nat} {H : List Bool} (h : BlHQ w g H) (i : Nat) (hi : i < H.length) : w.cell? ⟨g, i, none⟩ = some (.bool (hatQ H i)) := by
  rw [cell_of_row w g i _ _ _ h]
  unfold hlsQ hatQ
  simp [hi]
theorem BlHQ.free {w : World} {g : Nat} {H : List Bool} (h : BlHQ w g H) (i : Nat) : w.frozen? ⟨g, i, none⟩ = false := frozen_of_row w g i _ _ h
theorem BlHQ.set {w : World} {g : Nat} {H : List Bool} (h : BlHQ w g H) (i : Nat) (x : Bool) : BlHQ (w.setCell ⟨g, i, none⟩ (.bool x)) g (H.set i x) := by
  unfold BlHQ
  rw [heap_setCell_same w g i _ _ _ h]
  simp [hlsQ, List.map_set]
theorem BlHQ.grown {w w' : World} {g : Nat} {H : List Bool} {r : Option Nat} (h : BlHQ w g H) (hg : w.grownBy w' r) (hne : some g ≠ r) : BlHQ w' g H := by
  unfold BlHQ; rw [hg.block g h.lt hne]; exact h
theorem hat_setQ (H : List Bool) (i j : Nat) (hi : i < H.length) : hatQ (H.set i true) j = (decide (i = j) || hatQ H j) := by
  unfold hatQ
  rw [List.getD_eq_getElem?_getD, List.getD_eq_getElem?_getD, List.getElem?_set]
  by_cases e : i = j
  · subst e; simp [hi]
  · simp [e]
theorem hat_noneQ (n i : Nat) : hatQ (List.replicate n false) i = false := by
  unfold hatQ
  rw [List.getD_eq_getElem?_getD, List.getElem?_replicate]
  split <;> rfl
theorem wpList_mkHQ (w : World) {ops : Array Oper} {rest : List Oper} {o : Oper} {a : Act} {Q : Exit → Act → World → Prop} (hg : o.guard = none) (l c : Operand)
    (hop : o.op = Op.makeSlice 44 l c) (L C : Int) (n : Nat) (hl : a.eval l = .int .i64 L) (hc : a.eval c = .int .i64 C) (hL : L = n) (hC : C = n) (hn : n ≤ 281474976710656)
    (hK : ∀ w', BlHQ w' w.heap.size (List.replicate n false) → w.grownBy w' none → wpList Tryd.prog ops Q rest (a.put o.dst (.slice (some ⟨w.heap.size, 0, none⟩) n n)) w') :
    wpList Tryd.prog ops Q (o :: rest) a w := by
  obtain ⟨i0, hi, hz0, hz1, hz2⟩ := info_parts Tryd.info_booMQ
  refine wpList_make_full w hg l c 44 hop w.heap.size 4 i0 (.bool false) 1 Tryd.underlying44 hi hz0 hz1 .i64 .i64 L C n hl hc hL hC (by rw [hz2]; omega) (by unfold maxLen; omega) (Nat.le_refl _) ?_
  intro w' hown hgr
  refine hK w' ?_ hgr
  rcases hown.2 with ⟨h, _⟩ | ⟨g, cap, cur, hv, _, hh, h1, _, h3, h4⟩
  · simp at h
  · simp only [Value.slice.injEq, Option.some.injEq, Addr.mk.injEq] at hv
    obtain ⟨⟨hgg, _⟩, _, hcap⟩ := hv
    subst hgg; subst hcap
    unfold BlHQ
    rw [hh]
    have e1 : cur.toList = hlsQ (List.replicate n false) := by
      have e0 : hlsQ (List.replicate n false) = List.replicate n (Value.bool false) := by simp [hlsQ]
      rw [e0]
      have e2 : (madeCells (Value.bool false).cells (n * 1)).toList = List.replicate n (Value.bool false) := by
        rw [Nat.mul_one]; exact toList_madeCells_one _ _
      rw [← e2, ← h4, List.take_of_length_le (by simp; omega)]
    rw [← e1]

/-- a sealed counter comes to a key that keeps in mind which were -/
theorem once_math {base t s i n : Nat} {tp : Int} {D : Nat → Bool} {S : List Int} {B : List Nat} (h : On1 base t s tp D) (hi : i < 256) (hl : S.length = 8) (hS : ∀ x, x ∈ S → 0 ≤ x ∧ x ≤ 4294967295) (hb : base + t ≤ 281474976710656) (hc : base + n < 281474976710656) (hB : B.length ≤ 1000) :
    (frB t D n = false → onE [⟨(i : Int), S, tp, (s : Int)⟩] (slL (fun x => (nthI S x).toNat) (base + n) i B) = 13) ∧ (frB t D n = true → onE [⟨(i : Int), S, tp, (s : Int)⟩] (slL (fun x => (nthI S x).toNat) (base + n) i B) = 0 ∧ onY [⟨(i : Int), S, tp, (s : Int)⟩] (slL (fun x => (nthI S x).toNat) (base + n) i B) = B ∧ onV [⟨(i : Int), S, tp, (s : Int)⟩] (slL (fun x => (nthI S x).toNat) (base + n) i B) = [⟨(i : Int), S, opT tp (base + n), (opS tp s (base + n) : Int)⟩]) := by
  have hk := h.may hb hi hl hS
  have f1 : ([⟨(i : Int), S, tp, (s : Int)⟩] : List Kd).getD (fiN [⟨(i : Int), S, tp, (s : Int)⟩] (i : Int)) kd0 = ⟨(i : Int), S, tp, (s : Int)⟩ := by rw [show fiN [⟨(i : Int), S, tp, (s : Int)⟩] (i : Int) = 0 from fi_one ⟨(i : Int), S, tp, (s : Int)⟩]; rfl
  obtain ⟨a1, a2⟩ := on_sealed (R := [⟨(i : Int), S, tp, (s : Int)⟩]) (c := base + n) (i := i) (B := B) (rm_one hk) (dr_one ⟨(i : Int), S, tp, (s : Int)⟩) hc hB ⟨(i : Int), S, tp, (s : Int)⟩ f1
  have ho := h.old n
  have ho' : oldB tp ((s : Int).toNat) (base + n) = !frB t D n := ho
  refine ⟨fun hf => ?_, fun hf => ?_⟩
  · rw [a1, if_pos (by rw [ho', hf]; rfl)]
  · have e : oldB tp ((s : Int).toNat) (base + n) = false := by rw [ho', hf]; rfl
    obtain ⟨a3, a4, a5⟩ := a2 e
    refine ⟨by rw [a1, if_neg (by rw [e]; simp)], a3, ?_⟩
    rw [a5, show fiN [⟨(i : Int), S, tp, (s : Int)⟩] (i : Int) = 0 from fi_one ⟨(i : Int), S, tp, (s : Int)⟩]
    rfl
theorem On1.congr {base t s : Nat} {tp : Int} {D E : Nat → Bool} (h : On1 base t s tp D) (e : ∀ j, D j = E j) : On1 base t s tp E := by
  have : D = E := funext e
  rw [← this]; exact h

theorem hat_updQ (H : List Bool) (n j : Nat) (hn : n < H.length) : (if j = n then true else hatQ H j) = hatQ (H.set n true) j := by
  rw [hat_setQ H n j hn]
  by_cases e : j = n
  · rw [if_pos e, e]; simp
  · rw [if_neg e, decide_eq_false (fun h => e h.symm)]; rfl
theorem rd_one (w : World) (b : Nat) (hb : b < 256) : Rd (w.alloc (.cells #[.int .u8 (b : Int)] 5)) (some ⟨w.heap.size, 0, none⟩) 1 1 [b] := by
  have bb := BxS.new w 5 #[.int .u8 (b : Int)]
  refine ⟨rfl, Nat.le_refl _, by decide, (fun e => by cases e), (fun x hx => by rw [List.mem_singleton.1 hx]; exact hb), fun _ => ⟨w.heap.size, 0, rfl, bb.lt, fun i hi => ?_⟩⟩
  obtain rfl : i = 0 := by omega
  exact bb.cell 0 (by show 0 < 1; decide)

set_option maxHeartbeats 32000000 in
theorem once_t14 {u0 u1 u2 u3 u4 u5 u6 u9 u13 u15 u16 u17 u18 u19 u20 u21 u22 u23 u24 u25 u26 u27 u28 u29 u30 u31 u32 u33 u34 u35 u36 u37 u38 u39 u40 u41 u42 u43 u44 u45 u46 u47 u48 u49 u50 u51 u52 u53 u54 u55 u56 u57 u58 u59 u60 u61 u62 u63 u64 u65 u66 u67 u68 u69 u70 u71 u72 u73 u74 u75 u76 u77 u78 u79 u80 u81 u82 u83 u84 u85 u86 u87 u88 u89 u90 u91 u92 u93 u94 u95 u96 u97 u98 u99 u100 u101 u102 u103 u104 u105 u106 u107 u108 u109 u110 u111 u112 u113 u114 u115 : Value} (Q : Exit → Act → World → Prop) (w2 wr : World) (g7 g8 gd base t s i : Nat) (tp tv : Int) (H : List Bool) (ka a : Option Addr) (kc nn cc : Nat) (S : List Int) (hL : Lin w2) (b7 : BxS w2 g7 36 #[.int .i64 (i : Int), .slice ka 8 kc, .int .i64 (-1), .int .i64 0]) (hka : RdI w2 ka 8 kc S) (hi : i < 256) (hS : ∀ x, x ∈ S → 0 ≤ x ∧ x ≤ 4294967295) (hbs : base < 1000000) (h8 : w2.heap.size ≤ g8) (hd : w2.heap.size ≤ gd) (h8d : g8 ≠ gd) (htv : Hid (tv = (t : Int) - 1)) (ht : t ≤ 400) (hO : On1 base t s tp (hatQ H)) (hH : H.length = 400) (bd : BlHQ wr gd H) (b8 : BxS wr g8 24 #[.slice a nn cc]) (hR : RdG wr a nn cc [⟨(i : Int), S, tp, (s : Int)⟩]) (G : w2.grownBy wr none) (n : Nat) (hn : n < 400) (hQ : ∀ (z15 z16 z17 z18 z19 z20 z48 z49 z50 z51 z52 z53 z54 z55 z56 z57 z58 z59 z60 z61 z62 z63 z64 z65 z66 z67 z68 z69 z70 z71 z72 z73 z74 z75 z76 z77 z78 z79 z80 z81 z82 z83 z84 z85 z86 z87 z88 z89 z90 z91 z92 z93 z94 z95 z96 z97 z98 z99 z100 z101 z102 z103 z104 z105 z106 z107 z108 z109 z110 z111 : Value) (t' s' : Nat) (tp' tv' : Int) (H' : List Bool) (a' : Option Addr) (n' c' : Nat) (w' : World), tv' = (t' : Int) - 1 ∧ t' ≤ 400 ∧ On1 base t' s' tp' (hatQ H') ∧ H'.length = 400 ∧ BlHQ w' gd H' ∧ BxS w' g8 24 #[.slice a' n' c'] ∧ RdG w' a' n' c' [⟨(i : Int), S, tp', (s' : Int)⟩] ∧ w2.grownBy w' none → Q .normal (Act.mk (List.toArray (u0 :: u1 :: u2 :: u3 :: u4 :: u5 :: u6 :: (.pointer (some ⟨g7, 0, none⟩)) :: (.pointer (some ⟨g8, 0, none⟩)) :: u9 :: (.int .i64 (base : Int)) :: (.int .i64 tv') :: (.slice (some ⟨gd, 0, none⟩) 400 400) :: u13 :: (.int .i64 (n : Int)) :: z15 :: z16 :: z17 :: z18 :: z19 :: z20 :: u21 :: u22 :: u23 :: u24 :: u25 :: u26 :: u27 :: u28 :: u29 :: u30 :: u31 :: u32 :: u33 :: u34 :: u35 :: u36 :: u37 :: u38 :: u39 :: u40 :: u41 :: u42 :: u43 :: u44 :: u45 :: u46 :: u47 :: z48 :: z49 :: z50 :: z51 :: z52 :: z53 :: z54 :: z55 :: z56 :: z57 :: z58 :: z59 :: z60 :: z61 :: z62 :: z63 :: z64 :: z65 :: z66 :: z67 :: z68 :: z69 :: z70 :: z71 :: z72 :: z73 :: z74 :: z75 :: z76 :: z77 :: z78 :: z79 :: z80 :: z81 :: z82 :: z83 :: z84 :: z85 :: z86 :: z87 :: z88 :: z89 :: z90 :: z91 :: z92 :: z93 :: z94 :: z95 :: z96 :: z97 :: z98 :: z99 :: z100 :: z101 :: z102 :: z103 :: z104 :: z105 :: z106 :: z107 :: z108 :: z109 :: z110 :: z111 :: u112 :: u113 :: u114 :: u115 :: [])) []) w') :
    Code.wp Tryd.prog (tailR 14 (Tryd.f5.body.getD .skip)) Q (Act.mk (List.toArray (u0 :: u1 :: u2 :: u3 :: u4 :: u5 :: u6 :: (.pointer (some ⟨g7, 0, none⟩)) :: (.pointer (some ⟨g8, 0, none⟩)) :: u9 :: (.int .i64 (base : Int)) :: (.int .i64 tv) :: (.slice (some ⟨gd, 0, none⟩) 400 400) :: u13 :: (.int .i64 (n : Int)) :: u15 :: u16 :: u17 :: u18 :: u19 :: u20 :: u21 :: u22 :: u23 :: u24 :: u25 :: u26 :: u27 :: u28 :: u29 :: u30 :: u31 :: u32 :: u33 :: u34 :: u35 :: u36 :: u37 :: u38 :: u39 :: u40 :: u41 :: u42 :: u43 :: u44 :: u45 :: u46 :: u47 :: u48 :: u49 :: u50 :: u51 :: u52 :: u53 :: u54 :: u55 :: u56 :: u57 :: u58 :: u59 :: u60 :: u61 :: u62 :: u63 :: u64 :: u65 :: u66 :: u67 :: u68 :: u69 :: u70 :: u71 :: u72 :: u73 :: u74 :: u75 :: u76 :: u77 :: u78 :: u79 :: u80 :: u81 :: u82 :: u83 :: u84 :: u85 :: u86 :: u87 :: u88 :: u89 :: u90 :: u91 :: u92 :: u93 :: u94 :: u95 :: u96 :: u97 :: u98 :: u99 :: u100 :: u101 :: u102 :: u103 :: u104 :: u105 :: u106 :: u107 :: u108 :: u109 :: u110 :: u111 :: u112 :: u113 :: u114 :: u115 :: [])) []) wr := by
  let pq : Exit → Act → World → Prop := bodyPost Tryd.prog Tryd.f5 (fun _ _ => True)
  conv => enter [2]; whnf
  refine wp_seq_k fun K1 hK1 => ?_
  have HK1 : Hid _ := hK1
  clear hK1
  have b7r := b7.keep G (by simp)
  obtain ⟨x0, x1, x2, x3⟩ := BxS.cell4 b7r
  have hSl := hka.len
  have hkr := hka.keep G
  have hLr := hL.keep G
  have i1 := Tryd.info_rg1
  have i4 := Tryd.info_ky4
  obtain ⟨cn, hcn⟩ : ∃ cn, base + n = cn := ⟨_, rfl⟩
  have HCN : Hid (base + n = cn) := hcn
  have hcl : cn < 281474976710656 := by omega
  have hwb : IntKind.i64.wrap ((base : Int) + (n : Int)) = (cn : Int) := by rw [show (base : Int) + (n : Int) = (cn : Int) by omega]; exact wrap_i64_in _ (by omega) (by omega)
  obtain ⟨b, hbw, hb256⟩ : ∃ b : Nat, IntKind.u8.wrap (n : Int) = (b : Int) ∧ b < 256 := ⟨n % 256, by rw [IntKind.wrap_u8]; omega, by omega⟩
  have bb := BxS.new wr 5 #[.int .u8 (b : Int)]
  have gb := World.grownBy_alloc wr (.cells #[.int .u8 (b : Int)] 5) none
  have hBr : Rd (wr.alloc (.cells #[.int .u8 (b : Int)] 5)) (some ⟨wr.heap.size, 0, none⟩) 1 1 [b] := rd_one wr b hb256
  obtain ⟨m1, m2⟩ := seal_math (B := [b]) hi hcl hSl hS (by show 1 ≤ 1000; decide)
  have kS := seal_all hide_any (i : Int) ka (some ⟨wr.heap.size, 0, none⟩) 8 kc 1 1 (-1) 0 (cn : Int) S [b] _ (hLr.keep gb) (hkr.keep gb) hBr
  rw [show slE (i : Int) 8 S (-1) 0 (cn : Int) 1 = 0 from m1, m2] at kS
  unfold kyV at kS
  obtain ⟨f1, f2⟩ := once_math (B := [b]) hO hi hSl hS (show base + t ≤ 281474976710656 by omega) (show base + n < 281474976710656 by omega) (by show 1 ≤ 1000; decide)
  rw [hcn] at f1 f2
  generalize slL (fun x => (nthI S x).toNat) cn i [b] = SL at *
  clear m1 m2 hcn
  have s0 : True := trivial
  go_wp2_with (go_at_call 14; have _t := s0; clear s0; refine kS.mono ?_; rintro e w4 ⟨sa, sn, sc, rfl, hs, y4, hn2⟩)
  clear x0 x1 x2 x3
  have Y4 := grown_trans gb y4
  have G4 := grown_trans G Y4
  have bd4 := bd.grown Y4 (by simp)
  have b84 := b8.keep Y4 (by simp)
  have x8 : w4.cell? ⟨g8, 0, none⟩ = some (.slice a nn cc) := b84.cell 0 (by show 0 < 1; decide)
  have kO := open_any a nn cc [⟨(i : Int), S, tp, (s : Int)⟩] sa sn sc SL w4 (hL.keep G4) (hR.keep Y4) hs.rd
  clear kS hBr bb
  refine HK1.out _ _ ?_
  clear HK1
  refine wp_seq_k fun K2 hK2 => ?_
  have HK2 : Hid _ := hK2
  clear hK2
  go_wp2
  refine HK2.out _ _ ?_
  clear HK2
  refine wp_seq_k fun K3 hK3 => ?_
  have HK3 : Hid _ := hK3
  clear hK3
  cases hDn : hatQ H n with
  | true =>
    have hfr : frB t (hatQ H) n = false := by unfold frB; rw [hDn]; rfl
    have hE := f1 hfr
    obtain ⟨q1, q2, q3, q4⟩ := on_bad hE (by decide) (rm_one (hO.may (by omega) hi hSl hS))
    rw [q1.out, q2.out, q3.out] at kO
    clear hE q1 q2 q3 q4 f1 f2
    generalize onI _ _ = oi at kO
    have s1 : True := trivial
    go_wp2_with (first
      | (go_at_call 9; have _t := s1; clear s1; refine kO.mono ?_; rintro e w5 ⟨a5, n5, c5, ks5, ya, yn, yc, rfl, hA, hY, y5⟩; have z5 := y5.size; clear x8; have bn := BxS.new w5 24 #[.slice none 0 0]; have gn := World.grownBy_alloc w5 (.cells #[.slice none 0 0] 24) none; have s2 : True := trivial)
      | (have _t := s2; clear s2; refine wpList_stX _ rfl _ (.tmp 17) (.tmp 65) rfl w5.heap.size _ _ rfl rfl bn i1 rfl (by simp [Value.oneCell']) ?_; intro w6 b6 u6; have Y6 := grown_far gn u6 (fun q e => by have e := Option.some.inj e; omega)))
    have x6 : w6.cell? ⟨w5.heap.size, 0, none⟩ = some (.slice a5 n5 c5) := b6.cell 0 (by show 0 < 1; decide)
    have G6 := grown_trans y5 Y6
    have bd6 := bd4.grown G6 (by simp)
    have b86 := b84.keep G6 (by simp)
    have hcd := bd6.cell n (by omega)
    have hA6 := hA.keep Y6
    have hY6 := hY.keep Y6
    have b8l := b84.lt
    have bdl := bd4.lt
    have G26 : w2.grownBy w6 none := grown_trans G4 G6
    refine HK3.out _ _ ?_
    clear HK3
    refine wp_seq_k fun K4 hK4 => ?_
    have HK4 : Hid _ := hK4
    clear hK4
    have hnn : (n : Int) < (400 : Int) := by omega
    rw [hDn] at hcd
    have hw62 : IntKind.i64.wrap (tv - 62) = tv - 62 := wrap_i64_in _ (by have := htv.out; omega) (by have := htv.out; omega)
    go_wp2
    refine HK4.out _ _ ?_
    clear HK4
    refine wp_seq_k fun K5 hK5 => ?_
    have HK5 : Hid _ := hK5
    clear hK5
    go_wp2
    refine HK5.out _ _ ?_
    clear HK5
    refine wp_seq_k fun K6 hK6 => ?_
    have HK6 : Hid _ := hK6
    clear hK6
    go_wp2
    refine HK6.out _ _ ?_
    clear HK6
    have s3 : True := trivial
    go_wp2_with (have _t := s3; clear s3; refine wpList_stX _ rfl _ (.tmp 8) (.tmp 111) rfl g8 _ _ rfl rfl b86 i1 rfl (by simp [Value.oneCell']) ?_; intro w9 b9 u9)
    exact hQ _ _ _ _ _ _ _ _ _ _ _ _ _ _ _ _ _ _ _ _ _ _ _ _ _ _ _ _ _ _ _ _ _ _ _ _ _ _ _ _ _ _ _ _ _ _ _ _ _ _ _ _ _ _ _ _ _ _ _ _ _ _ _ _ _ _ _ _ _ _ t s tp _ H a5 n5 c5 w9 ⟨htv.out, ht, hO, hH, bd6.grown u9 (fun e => h8d (Option.some.inj e).symm), b9, (hA6.far u9 (by omega)).rd, grown_far G26 u9 (fun q e => by have e := Option.some.inj e; omega)⟩

  | false =>
    by_cases hfar : tv - 62 ≤ (n : Int)
    · have hfr : frB t (hatQ H) n = true := by unfold frB; rw [hDn, decide_eq_true (by have := htv.out; omega)]; rfl
      by_cases hup : t ≤ n
      · obtain ⟨hE, hYY, hVV⟩ := f2 hfr
        rw [hE, hYY, hVV] at kO
        clear hE hYY hVV f1 f2
        generalize onI _ _ = oi at kO
        have s1 : True := trivial
        go_wp2_with (first
          | (go_at_call 9; have _t := s1; clear s1; refine kO.mono ?_; rintro e w5 ⟨a5, n5, c5, ks5, ya, yn, yc, rfl, hA, hY, y5⟩; have z5 := y5.size; clear x8; have bn := BxS.new w5 24 #[.slice none 0 0]; have gn := World.grownBy_alloc w5 (.cells #[.slice none 0 0] 24) none; have s2 : True := trivial)
          | (have _t := s2; clear s2; refine wpList_stX _ rfl _ (.tmp 17) (.tmp 65) rfl w5.heap.size _ _ rfl rfl bn i1 rfl (by simp [Value.oneCell']) ?_; intro w6 b6 u6; have Y6 := grown_far gn u6 (fun q e => by have e := Option.some.inj e; omega)))
        have x6 : w6.cell? ⟨w5.heap.size, 0, none⟩ = some (.slice a5 n5 c5) := b6.cell 0 (by show 0 < 1; decide)
        have G6 := grown_trans y5 Y6
        have bd6 := bd4.grown G6 (by simp)
        have b86 := b84.keep G6 (by simp)
        have hcd := bd6.cell n (by omega)
        have hA6 := hA.keep Y6
        have hY6 := hY.keep Y6
        have b8l := b84.lt
        have bdl := bd4.lt
        have G26 : w2.grownBy w6 none := grown_trans G4 G6
        refine HK3.out _ _ ?_
        clear HK3
        refine wp_seq_k fun K4 hK4 => ?_
        have HK4 : Hid _ := hK4
        clear hK4
        have hnn : (n : Int) < (400 : Int) := by omega
        rw [hDn] at hcd
        have hw62 : IntKind.i64.wrap (tv - 62) = tv - 62 := wrap_i64_in _ (by have := htv.out; omega) (by have := htv.out; omega)
        go_wp2
        refine HK4.out _ _ ?_
        clear HK4
        refine wp_seq_k fun K5 hK5 => ?_
        have HK5 : Hid _ := hK5
        clear hK5
        go_wp2
        refine HK5.out _ _ ?_
        clear HK5
        refine wp_seq_k fun K6 hK6 => ?_
        have HK6 : Hid _ := hK6
        clear hK6
        have hyl : yn = 1 := hY.len.symm
        subst hyl
        rcases hY.cases with ⟨rfl, hz, _⟩ | ⟨gy, rfl, _⟩
        · exact absurd hz (by decide)
        have hcy : w6.cell? ⟨gy, 0, none⟩ = some (.int .u8 (b : Int)) := hY6.cellJ (by decide)
        have hfd := bd6.free n
        have htop : tv < (n : Int) := by have := htv.out; omega
        go_wp2
        refine HK6.out _ _ ?_
        clear HK6
        have bd7 := bd6.set n true
        have u7 := grown_set w6 gd n (.bool true)
        clear hcd hcy hfd x6
        generalize w6.setCell ⟨gd, n, none⟩ (.bool true) = w7 at *
        have b67 := b6.keep u7 (fun e => by have e := Option.some.inj e; omega)
        have x6 : w7.cell? ⟨w5.heap.size, 0, none⟩ = some (.slice a5 n5 c5) := b67.cell 0 (by show 0 < 1; decide)
        have b87 := b86.keep u7 (fun e => h8d (Option.some.inj e))
        have s3 : True := trivial
        go_wp2_with (have _t := s3; clear s3; refine wpList_stX _ rfl _ (.tmp 8) (.tmp 111) rfl g8 _ _ rfl rfl b87 i1 rfl (by simp [Value.oneCell']) ?_; intro w9 b9 u9)
        have hN := (hO.next n hfr).congr (E := hatQ (H.set n true)) (fun j => hat_updQ H n j (by omega))
        rw [show max t (n + 1) = n + 1 by have := htv.out; omega] at hN
        have hcn := HCN.out
        rw [hcn] at hN
        exact hQ _ _ _ _ _ _ _ _ _ _ _ _ _ _ _ _ _ _ _ _ _ _ _ _ _ _ _ _ _ _ _ _ _ _ _ _ _ _ _ _ _ _ _ _ _ _ _ _ _ _ _ _ _ _ _ _ _ _ _ _ _ _ _ _ _ _ _ _ _ _ (n + 1) _ _ _ (H.set n true) a5 n5 c5 w9 ⟨by omega, by omega, hN, by rw [List.length_set]; exact hH, bd7.grown u9 (fun e => h8d (Option.some.inj e).symm), b9, ((hA6.far u7 (by omega)).far u9 (by omega)).rd, grown_far (grown_far G26 u7 (fun q e => by have e := Option.some.inj e; omega)) u9 (fun q e => by have e := Option.some.inj e; omega)⟩

      · obtain ⟨hE, hYY, hVV⟩ := f2 hfr
        rw [hE, hYY, hVV] at kO
        clear hE hYY hVV f1 f2
        generalize onI _ _ = oi at kO
        have s1 : True := trivial
        go_wp2_with (first
          | (go_at_call 9; have _t := s1; clear s1; refine kO.mono ?_; rintro e w5 ⟨a5, n5, c5, ks5, ya, yn, yc, rfl, hA, hY, y5⟩; have z5 := y5.size; clear x8; have bn := BxS.new w5 24 #[.slice none 0 0]; have gn := World.grownBy_alloc w5 (.cells #[.slice none 0 0] 24) none; have s2 : True := trivial)
          | (have _t := s2; clear s2; refine wpList_stX _ rfl _ (.tmp 17) (.tmp 65) rfl w5.heap.size _ _ rfl rfl bn i1 rfl (by simp [Value.oneCell']) ?_; intro w6 b6 u6; have Y6 := grown_far gn u6 (fun q e => by have e := Option.some.inj e; omega)))
        have x6 : w6.cell? ⟨w5.heap.size, 0, none⟩ = some (.slice a5 n5 c5) := b6.cell 0 (by show 0 < 1; decide)
        have G6 := grown_trans y5 Y6
        have bd6 := bd4.grown G6 (by simp)
        have b86 := b84.keep G6 (by simp)
        have hcd := bd6.cell n (by omega)
        have hA6 := hA.keep Y6
        have hY6 := hY.keep Y6
        have b8l := b84.lt
        have bdl := bd4.lt
        have G26 : w2.grownBy w6 none := grown_trans G4 G6
        refine HK3.out _ _ ?_
        clear HK3
        refine wp_seq_k fun K4 hK4 => ?_
        have HK4 : Hid _ := hK4
        clear hK4
        have hnn : (n : Int) < (400 : Int) := by omega
        rw [hDn] at hcd
        have hw62 : IntKind.i64.wrap (tv - 62) = tv - 62 := wrap_i64_in _ (by have := htv.out; omega) (by have := htv.out; omega)
        go_wp2
        refine HK4.out _ _ ?_
        clear HK4
        refine wp_seq_k fun K5 hK5 => ?_
        have HK5 : Hid _ := hK5
        clear hK5
        go_wp2
        refine HK5.out _ _ ?_
        clear HK5
        refine wp_seq_k fun K6 hK6 => ?_
        have HK6 : Hid _ := hK6
        clear hK6
        have hyl : yn = 1 := hY.len.symm
        subst hyl
        rcases hY.cases with ⟨rfl, hz, _⟩ | ⟨gy, rfl, _⟩
        · exact absurd hz (by decide)
        have hcy : w6.cell? ⟨gy, 0, none⟩ = some (.int .u8 (b : Int)) := hY6.cellJ (by decide)
        have hfd := bd6.free n
        have htop : ¬ tv < (n : Int) := by have := htv.out; omega
        go_wp2
        refine HK6.out _ _ ?_
        clear HK6
        have bd7 := bd6.set n true
        have u7 := grown_set w6 gd n (.bool true)
        clear hcd hcy hfd x6
        generalize w6.setCell ⟨gd, n, none⟩ (.bool true) = w7 at *
        have b67 := b6.keep u7 (fun e => by have e := Option.some.inj e; omega)
        have x6 : w7.cell? ⟨w5.heap.size, 0, none⟩ = some (.slice a5 n5 c5) := b67.cell 0 (by show 0 < 1; decide)
        have b87 := b86.keep u7 (fun e => h8d (Option.some.inj e))
        have s3 : True := trivial
        go_wp2_with (have _t := s3; clear s3; refine wpList_stX _ rfl _ (.tmp 8) (.tmp 111) rfl g8 _ _ rfl rfl b87 i1 rfl (by simp [Value.oneCell']) ?_; intro w9 b9 u9)
        have hN := (hO.next n hfr).congr (E := hatQ (H.set n true)) (fun j => hat_updQ H n j (by omega))
        rw [show max t (n + 1) = t by have := htv.out; omega] at hN
        have hcn := HCN.out
        rw [hcn] at hN
        exact hQ _ _ _ _ _ _ _ _ _ _ _ _ _ _ _ _ _ _ _ _ _ _ _ _ _ _ _ _ _ _ _ _ _ _ _ _ _ _ _ _ _ _ _ _ _ _ _ _ _ _ _ _ _ _ _ _ _ _ _ _ _ _ _ _ _ _ _ _ _ _ t _ _ _ (H.set n true) a5 n5 c5 w9 ⟨htv.out, by omega, hN, by rw [List.length_set]; exact hH, bd7.grown u9 (fun e => h8d (Option.some.inj e).symm), b9, ((hA6.far u7 (by omega)).far u9 (by omega)).rd, grown_far (grown_far G26 u7 (fun q e => by have e := Option.some.inj e; omega)) u9 (fun q e => by have e := Option.some.inj e; omega)⟩

    · have hfr : frB t (hatQ H) n = false := by unfold frB; rw [hDn, decide_eq_false (by have := htv.out; omega)]; rfl
      have hE := f1 hfr
      obtain ⟨q1, q2, q3, q4⟩ := on_bad hE (by decide) (rm_one (hO.may (by omega) hi hSl hS))
      rw [q1.out, q2.out, q3.out] at kO
      clear hE q1 q2 q3 q4 f1 f2
      generalize onI _ _ = oi at kO
      have s1 : True := trivial
      go_wp2_with (first
        | (go_at_call 9; have _t := s1; clear s1; refine kO.mono ?_; rintro e w5 ⟨a5, n5, c5, ks5, ya, yn, yc, rfl, hA, hY, y5⟩; have z5 := y5.size; clear x8; have bn := BxS.new w5 24 #[.slice none 0 0]; have gn := World.grownBy_alloc w5 (.cells #[.slice none 0 0] 24) none; have s2 : True := trivial)
        | (have _t := s2; clear s2; refine wpList_stX _ rfl _ (.tmp 17) (.tmp 65) rfl w5.heap.size _ _ rfl rfl bn i1 rfl (by simp [Value.oneCell']) ?_; intro w6 b6 u6; have Y6 := grown_far gn u6 (fun q e => by have e := Option.some.inj e; omega)))
      have x6 : w6.cell? ⟨w5.heap.size, 0, none⟩ = some (.slice a5 n5 c5) := b6.cell 0 (by show 0 < 1; decide)
      have G6 := grown_trans y5 Y6
      have bd6 := bd4.grown G6 (by simp)
      have b86 := b84.keep G6 (by simp)
      have hcd := bd6.cell n (by omega)
      have hA6 := hA.keep Y6
      have hY6 := hY.keep Y6
      have b8l := b84.lt
      have bdl := bd4.lt
      have G26 : w2.grownBy w6 none := grown_trans G4 G6
      refine HK3.out _ _ ?_
      clear HK3
      refine wp_seq_k fun K4 hK4 => ?_
      have HK4 : Hid _ := hK4
      clear hK4
      have hnn : (n : Int) < (400 : Int) := by omega
      rw [hDn] at hcd
      have hw62 : IntKind.i64.wrap (tv - 62) = tv - 62 := wrap_i64_in _ (by have := htv.out; omega) (by have := htv.out; omega)
      go_wp2
      refine HK4.out _ _ ?_
      clear HK4
      refine wp_seq_k fun K5 hK5 => ?_
      have HK5 : Hid _ := hK5
      clear hK5
      go_wp2
      refine HK5.out _ _ ?_
      clear HK5
      refine wp_seq_k fun K6 hK6 => ?_
      have HK6 : Hid _ := hK6
      clear hK6
      go_wp2
      refine HK6.out _ _ ?_
      clear HK6
      have s3 : True := trivial
      go_wp2_with (have _t := s3; clear s3; refine wpList_stX _ rfl _ (.tmp 8) (.tmp 111) rfl g8 _ _ rfl rfl b86 i1 rfl (by simp [Value.oneCell']) ?_; intro w9 b9 u9)
      exact hQ _ _ _ _ _ _ _ _ _ _ _ _ _ _ _ _ _ _ _ _ _ _ _ _ _ _ _ _ _ _ _ _ _ _ _ _ _ _ _ _ _ _ _ _ _ _ _ _ _ _ _ _ _ _ _ _ _ _ _ _ _ _ _ _ _ _ _ _ _ _ t s tp _ H a5 n5 c5 w9 ⟨htv.out, ht, hO, hH, bd6.grown u9 (fun e => h8d (Option.some.inj e).symm), b9, (hA6.far u9 (by omega)).rd, grown_far G26 u9 (fun q e => by have e := Option.some.inj e; omega)⟩


set_option maxHeartbeats 32000000 in
theorem once_t13 {u0 u1 u3 u4 u5 u6 u9 u14 u15 u16 u17 u18 u19 u20 u21 u22 u23 u24 u25 u26 u27 u28 u29 u30 u31 u32 u33 u34 u35 u36 u37 u38 u39 u40 u41 u42 u43 u44 u45 u46 u47 u48 u49 u50 u51 u52 u53 u54 u55 u56 u57 u58 u59 u60 u61 u62 u63 u64 u65 u66 u67 u68 u69 u70 u71 u72 u73 u74 u75 u76 u77 u78 u79 u80 u81 u82 u83 u84 u85 u86 u87 u88 u89 u90 u91 u92 u93 u94 u95 u96 u97 u98 u99 u100 u101 u102 u103 u104 u105 u106 u107 u108 u109 u110 u111 u112 u113 u114 u115 : Value} (Q : Exit → Act → World → Prop) (w2 wr : World) (g7 g8 gd base t s i : Nat) (tp tv : Int) (H : List Bool) (ka a : Option Addr) (kc nn cc : Nat) (S : List Int) (hL : Lin w2) (b7 : BxS w2 g7 36 #[.int .i64 (i : Int), .slice ka 8 kc, .int .i64 (-1), .int .i64 0]) (hka : RdI w2 ka 8 kc S) (hi : i < 256) (hS : ∀ x, x ∈ S → 0 ≤ x ∧ x ≤ 4294967295) (hbs : base < 1000000) (h8 : w2.heap.size ≤ g8) (hd : w2.heap.size ≤ gd) (h8d : g8 ≠ gd) (htv : Hid (tv = (t : Int) - 1)) (ht : t ≤ 400) (hO : On1 base t s tp (hatQ H)) (hH : H.length = 400) (bd : BlHQ wr gd H) (b8 : BxS wr g8 24 #[.slice a nn cc]) (hR : RdG wr a nn cc [⟨(i : Int), S, tp, (s : Int)⟩]) (G : w2.grownBy wr none) (lb lo ln lc k : Nat) (LL : List Int) (hl : RdI w2 (some ⟨lb, lo, none⟩) ln lc LL) (hlz : ∀ j, -9223372036854775808 ≤ nthI LL j ∧ nthI LL j ≤ 9223372036854775807) (hk : k < ln) (hln : ln ≤ 120) (hQ : ∀ (z14 z15 z16 z17 z18 z19 z20 z41 z42 z43 z44 z45 z46 z47 z48 z49 z50 z51 z52 z53 z54 z55 z56 z57 z58 z59 z60 z61 z62 z63 z64 z65 z66 z67 z68 z69 z70 z71 z72 z73 z74 z75 z76 z77 z78 z79 z80 z81 z82 z83 z84 z85 z86 z87 z88 z89 z90 z91 z92 z93 z94 z95 z96 z97 z98 z99 z100 z101 z102 z103 z104 z105 z106 z107 z108 z109 z110 z111 : Value) (t' s' : Nat) (tp' tv' : Int) (H' : List Bool) (a' : Option Addr) (n' c' : Nat) (w' : World), tv' = (t' : Int) - 1 ∧ t' ≤ 400 ∧ On1 base t' s' tp' (hatQ H') ∧ H'.length = 400 ∧ BlHQ w' gd H' ∧ BxS w' g8 24 #[.slice a' n' c'] ∧ RdG w' a' n' c' [⟨(i : Int), S, tp', (s' : Int)⟩] ∧ w2.grownBy w' none → Q .normal (Act.mk (List.toArray (u0 :: u1 :: (.slice (some ⟨lb, lo, none⟩) ln lc) :: u3 :: u4 :: u5 :: u6 :: (.pointer (some ⟨g7, 0, none⟩)) :: (.pointer (some ⟨g8, 0, none⟩)) :: u9 :: (.int .i64 (base : Int)) :: (.int .i64 tv') :: (.slice (some ⟨gd, 0, none⟩) 400 400) :: (.int .i64 ((k : Int) + 1)) :: z14 :: z15 :: z16 :: z17 :: z18 :: z19 :: z20 :: u21 :: u22 :: u23 :: u24 :: u25 :: u26 :: u27 :: u28 :: u29 :: u30 :: u31 :: u32 :: u33 :: u34 :: u35 :: u36 :: u37 :: u38 :: u39 :: u40 :: z41 :: z42 :: z43 :: z44 :: z45 :: z46 :: z47 :: z48 :: z49 :: z50 :: z51 :: z52 :: z53 :: z54 :: z55 :: z56 :: z57 :: z58 :: z59 :: z60 :: z61 :: z62 :: z63 :: z64 :: z65 :: z66 :: z67 :: z68 :: z69 :: z70 :: z71 :: z72 :: z73 :: z74 :: z75 :: z76 :: z77 :: z78 :: z79 :: z80 :: z81 :: z82 :: z83 :: z84 :: z85 :: z86 :: z87 :: z88 :: z89 :: z90 :: z91 :: z92 :: z93 :: z94 :: z95 :: z96 :: z97 :: z98 :: z99 :: z100 :: z101 :: z102 :: z103 :: z104 :: z105 :: z106 :: z107 :: z108 :: z109 :: z110 :: z111 :: u112 :: u113 :: u114 :: u115 :: [])) []) w') :
    Code.wp Tryd.prog (tailR 13 (Tryd.f5.body.getD .skip)) Q (Act.mk (List.toArray (u0 :: u1 :: (.slice (some ⟨lb, lo, none⟩) ln lc) :: u3 :: u4 :: u5 :: u6 :: (.pointer (some ⟨g7, 0, none⟩)) :: (.pointer (some ⟨g8, 0, none⟩)) :: u9 :: (.int .i64 (base : Int)) :: (.int .i64 tv) :: (.slice (some ⟨gd, 0, none⟩) 400 400) :: (.int .i64 (k : Int)) :: u14 :: u15 :: u16 :: u17 :: u18 :: u19 :: u20 :: u21 :: u22 :: u23 :: u24 :: u25 :: u26 :: u27 :: u28 :: u29 :: u30 :: u31 :: u32 :: u33 :: u34 :: u35 :: u36 :: u37 :: u38 :: u39 :: u40 :: u41 :: u42 :: u43 :: u44 :: u45 :: u46 :: u47 :: u48 :: u49 :: u50 :: u51 :: u52 :: u53 :: u54 :: u55 :: u56 :: u57 :: u58 :: u59 :: u60 :: u61 :: u62 :: u63 :: u64 :: u65 :: u66 :: u67 :: u68 :: u69 :: u70 :: u71 :: u72 :: u73 :: u74 :: u75 :: u76 :: u77 :: u78 :: u79 :: u80 :: u81 :: u82 :: u83 :: u84 :: u85 :: u86 :: u87 :: u88 :: u89 :: u90 :: u91 :: u92 :: u93 :: u94 :: u95 :: u96 :: u97 :: u98 :: u99 :: u100 :: u101 :: u102 :: u103 :: u104 :: u105 :: u106 :: u107 :: u108 :: u109 :: u110 :: u111 :: u112 :: u113 :: u114 :: u115 :: [])) []) wr := by
  let pq : Exit → Act → World → Prop := bodyPost Tryd.prog Tryd.f5 (fun _ _ => True)
  conv => enter [2]; whnf
  refine wp_seq_k fun K1 hK1 => ?_
  have HK1 : Hid _ := hK1
  clear hK1
  refine wp_block ?_
  refine wp_seq_k fun K2 hK2 => ?_
  have HK2 : Hid _ := hK2
  clear hK2
  obtain ⟨b', o', e, _, hc⟩ := (hl.keep G).at' (by omega)
  cases e
  have xk := hc k hk
  clear hc
  have hki : (k : Int) < (ln : Int) := by omega
  have s0 : True := trivial
  go_wp2_with (go_at_call 13; have _t := s0; clear s0; refine (pickY_any _ 400 _ (hlz k).1 (hlz k).2 (by decide) (by decide)).mono ?_; rintro e w' ⟨n, hn, rfl, hw'⟩; have hw' := hw'.symm; subst hw')
  refine HK2.out _ _ ?_
  clear HK2
  refine once_t14 _ w2 wr g7 g8 gd base t s i tp tv H ka a kc nn cc S hL b7 hka hi hS hbs h8 hd h8d htv ht hO hH bd b8 hR G n (by omega) ?_
  intro z15 z16 z17 z18 z19 z20 z48 z49 z50 z51 z52 z53 z54 z55 z56 z57 z58 z59 z60 z61 z62 z63 z64 z65 z66 z67 z68 z69 z70 z71 z72 z73 z74 z75 z76 z77 z78 z79 z80 z81 z82 z83 z84 z85 z86 z87 z88 z89 z90 z91 z92 z93 z94 z95 z96 z97 z98 z99 z100 z101 z102 z103 z104 z105 z106 z107 z108 z109 z110 z111 t' s' tp' tv' H' a' n' c' w' hrel
  simp only [Exit.inBlock, Exit.then]
  refine HK1.out _ _ ?_
  have hwk : IntKind.i64.wrap ((k : Int) + 1) = (k : Int) + 1 := wrap_i64_in _ (by omega) (by omega)
  have HQ : Hid _ := hQ
  clear hQ HK1 xk
  go_wp2
  exact HQ.out _ _ _ _ _ _ _ _ _ _ _ _ _ _ _ _ _ _ _ _ _ _ _ _ _ _ _ _ _ _ _ _ _ _ _ _ _ _ _ _ _ _ _ _ _ _ _ _ _ _ _ _ _ _ _ _ _ _ _ _ _ _ _ _ _ _ _ _ _ _ _ _ _ _ _ _ _ _ t' s' tp' _ H' a' n' c' w' hrel
end Go.Proofs.YtaigcjhachkmmaaDoor
