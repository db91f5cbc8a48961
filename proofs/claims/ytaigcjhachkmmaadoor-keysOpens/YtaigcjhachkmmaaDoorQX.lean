import Derived.Test.YtaigcjhachkmmaaDoorQW
import Derived.Test.YtaigcjhachkmmaaDoorQR
import Derived.Test.YtaigcjhachkmmaaDoorQU
import Derived.Test.YtaigcjhachkmmaaDoorQLT
import Derived.Test.YtaigcjhachkmmaaDoorYHd
import Derived.Test.YtaigcjhachkmmaaDoorZSub
namespace Go.Proofs.YtaigcjhachkmmaaDoor
open Go.RowKit
set_option maxRecDepth 100000
set_option linter.unusedVariables false
set_option linter.unusedSimpArgs false

theorem Ans.cellJ {w : World} {lo g n c j : Nat} {L : List Nat} (h : Ans w lo (some ⟨g, 0, none⟩) n c L) (hj : j < n) : w.cell? ⟨g, j, none⟩ = some (.int .u8 (nth L j : Int)) := by
  obtain ⟨b, off, e, _, hc⟩ := h.rd.at' (by omega)
  cases e
  have := hc j hj
  rw [Nat.zero_add] at this
  exact this
theorem Ans.nthB {w : World} {lo n c : Nat} {a : Option Addr} {L : List Nat} (h : Ans w lo a n c L) (j : Nat) : nth L j < 256 := by
  unfold nth
  rw [List.getD_eq_getElem?_getD]
  by_cases hj : j < L.length
  · rw [List.getElem?_eq_getElem hj]
    exact h.byte _ (List.getElem_mem hj)
  · rw [List.getElem?_eq_none (by omega)]
    decide
theorem Ans.setJ {w : World} {lo g n cap : Nat} {L : List Nat} (h : Ans w lo (some ⟨g, 0, none⟩) n cap L) (j x : Nat) (hx : x < 256) : Ans (w.setCell ⟨g, j, none⟩ (.int .u8 (x : Int))) lo (some ⟨g, 0, none⟩) n cap (L.set j x) :=
  ⟨own_set h.own j x, isB_set h.byte _ _ hx, h.new⟩
theorem Ans.freeJ {w : World} {lo g n c : Nat} {L : List Nat} (h : Ans w lo (some ⟨g, 0, none⟩) n c L) (j : Nat) (hj : j < n) : w.frozen? ⟨g, j, none⟩ = false := by
  rcases h.own.2 with ⟨h1, _⟩ | ⟨g', cap', cur, h1, h2, h3, h4, h5, h6⟩
  · cases h1
  · simp only [Value.slice.injEq, Option.some.injEq, Addr.mk.injEq] at h1
    obtain ⟨⟨rfl, _⟩, _⟩ := h1
    first | exact frozen_of_row _ _ _ _ _ h2 | exact frozen_of_row _ _ _ _ _ h3 | exact frozen_of_row _ _ _ _ _ h4
theorem Rd.offR {w w' : World} {a : Option Addr} {n cap g : Nat} {L : List Nat} {t : TypeId} {xa : Option Addr} {xn xc : Nat} (h : Rd w a n cap L) (b : BxS w g t #[.slice xa xn xc]) (hg : w.grownBy w' (some g)) : Rd w' a n cap L := by
  refine h.grown' hg (fun h0 b' off e e2 => ?_)
  have e2 := Option.some.inj e2
  obtain ⟨b2, off2, e3, _, hc⟩ := h.at' h0
  rw [e] at e3
  cases e3
  subst e2
  have h1 := hc 0 h0
  rw [cell_of_row _ _ _ _ _ _ b] at h1
  by_cases h2 : off + 0 = 0
  · rw [h2] at h1
    cases h1
  · rw [Array.getElem?_eq_none (by show 1 ≤ off + 0; omega)] at h1
    cases h1
theorem RdG.one {w : World} {a : Option Addr} {n c : Nat} {k : Kd} (h : RdG w a n c [k]) : n = 1 ∧ ∃ b off, a = some ⟨b, off, none⟩ ∧ 1 ≤ c ∧ w.cell? ⟨b, off + 2, none⟩ = some (.int .i64 k.tp) := by
  obtain ⟨ks, h1, h2⟩ := h.ex
  have hl : n = 1 := by rw [← h1.len, ← List.length_map (f := Kw.d), h2]; rfl
  subst hl
  have hl := h1.len
  match ks, hl with
  | [kw], _ =>
    obtain ⟨b, off, e, _, hc⟩ := h1.at' (by decide)
    have h3 := hc 0 kw rfl 2 (by decide)
    have h4 : kw.tp = k.tp := by
      have : [kw.d] = [k] := h2
      rw [← (List.cons.inj this).1]; rfl
    refine ⟨rfl, b, off, e, h1.le, ?_⟩
    rw [show off + 2 = off + (0 * 4 + 2) by omega, h3, ← h4]
    rfl

set_option maxHeartbeats 16000000 in
theorem bk_t16 {u0 u1 u2 u3 u4 u5 u6 u7 u8 u9 u10 u11 u12 u17 u19 u20 u21 u22 u23 u24 u25 u26 u27 u28 u29 u30 u31 u32 u33 u34 u35 u36 u37 u38 u39 u40 u41 u42 u43 u44 u45 u46 u47 u48 u49 u50 u51 u52 u53 u54 u55 u56 u57 u58 u59 u60 u61 u62 u63 u64 u65 u66 u67 u68 u69 u70 u71 u72 u73 u74 u75 u76 u77 u78 u79 u80 u81 u82 u83 u84 u85 u86 u87 u88 u89 u90 u91 u92 u93 u94 u95 u96 u97 u98 u99 u100 u101 u102 u103 u104 u105 u106 u107 u108 u109 u110 u111 u112 u113 u114 u115 u116 u117 u118 u119 u120 u121 u122 u123 u124 u125 u126 u127 u128 u129 u130 u131 u132 u133 u134 u135 u136 u137 u138 u139 u140 u141 u142 u143 u144 u145 u146 u147 u148 u149 u150 u151 u152 u153 u154 u155 u156 : Value} (w0 w : World) (gk g18 i c : Nat) (G0 : w0.grownBy w none) (h18 : w0.heap.size ≤ g18) (ka a ba sa : Option Addr) (kc n cc nb cb sn sc : Nat) (S : List Int) (B SL : List Nat) (hL : Lin w) (bk : BxS w gk 36 #[.int .i64 (i : Int), .slice ka 8 kc, .int .i64 (-1), .int .i64 0]) (b18 : BxS w g18 24 #[.slice a n cc]) (hne : gk ≠ g18) (hR : RdG w a n cc [⟨(i : Int), S, -1, 0⟩]) (hs : Rd w sa sn sc SL) (hb : Rd w ba nb cb B) (g18l : g18 < w.heap.size) (hM : BkF i c S B SL) (h0 : 0 < gk ∧ 0 < g18) :
    Code.wp Tryd.prog (tailR 16 (Tryd.f4.body.getD .skip)) (bodyPost Tryd.prog Tryd.f4 (fun e w' => e = .returned (.bool true) ∧ w0.grownBy w' none)) (Act.mk (List.toArray (u0 :: u1 :: u2 :: u3 :: u4 :: u5 :: u6 :: u7 :: u8 :: u9 :: u10 :: u11 :: u12 :: (.pointer (some ⟨gk, 0, none⟩)) :: (.int .i64 (c : Int)) :: (.slice ba nb cb) :: (.slice sa sn sc) :: u17 :: (.pointer (some ⟨g18, 0, none⟩)) :: u19 :: u20 :: u21 :: u22 :: u23 :: u24 :: u25 :: u26 :: u27 :: u28 :: u29 :: u30 :: u31 :: u32 :: u33 :: u34 :: u35 :: u36 :: u37 :: u38 :: u39 :: u40 :: u41 :: u42 :: u43 :: u44 :: u45 :: u46 :: u47 :: u48 :: u49 :: u50 :: u51 :: u52 :: u53 :: u54 :: u55 :: u56 :: u57 :: u58 :: u59 :: u60 :: u61 :: u62 :: u63 :: u64 :: u65 :: u66 :: u67 :: u68 :: u69 :: u70 :: u71 :: u72 :: u73 :: u74 :: u75 :: u76 :: u77 :: u78 :: u79 :: u80 :: u81 :: u82 :: u83 :: u84 :: u85 :: u86 :: u87 :: u88 :: u89 :: u90 :: u91 :: u92 :: u93 :: u94 :: u95 :: u96 :: u97 :: u98 :: u99 :: u100 :: u101 :: u102 :: u103 :: u104 :: u105 :: u106 :: u107 :: u108 :: u109 :: u110 :: u111 :: u112 :: u113 :: u114 :: u115 :: u116 :: u117 :: u118 :: u119 :: u120 :: u121 :: u122 :: u123 :: u124 :: u125 :: u126 :: u127 :: u128 :: u129 :: u130 :: u131 :: u132 :: u133 :: u134 :: u135 :: u136 :: u137 :: u138 :: u139 :: u140 :: u141 :: u142 :: u143 :: u144 :: u145 :: u146 :: u147 :: u148 :: u149 :: u150 :: u151 :: u152 :: u153 :: u154 :: u155 :: u156 :: [])) []) w := by
  conv => enter [2]; whnf
  have x0 : w.cell? ⟨g18, 0, none⟩ = some (.slice a n cc) := b18.cell 0 (by show 0 < 1; decide)
  have kO := open_any a n cc [⟨(i : Int), S, -1, 0⟩] sa sn sc SL w hL hR hs
  rw [hM.e0, hM.y0, hM.i0, hM.v0] at kO
  have kO2 := fun aa nn c2 wz (h1 : Lin wz) (h2 : RdG wz aa nn c2 [⟨(i : Int), S, (c : Int), 0⟩]) (h3 : Rd wz sa sn sc SL) => open_any aa nn c2 [⟨(i : Int), S, (c : Int), 0⟩] sa sn sc SL wz h1 h2 h3
  rw [hM.e1] at kO2
  clear hM
  have i1 := Tryd.info_rg1
  have i4 := Tryd.info_ky4
  have s0 : True := trivial
  go_wp2_with (first
    | (go_at_call 9; have _t := s0; clear s0; refine kO.mono ?_; rintro e w2 ⟨a1, n1, c1, ks1, ya, yn, yc, rfl, hA, hY, y2⟩; have z2 := y2.size; have b18 := b18.keep y2 (by simp); have bk := bk.keep y2 (by simp); clear x0; have s1 : True := trivial)
    | (have _t := s1; clear s1; refine wpList_stX _ rfl _ (.tmp 18) (.tmp 113) rfl g18 _ _ rfl rfl b18 i1 rfl (by simp [Value.oneCell']) ?_; intro w3 b3 u3; have hA := hA.far u3 (by omega); have hRd := hA.rd; obtain ⟨rfl, gr, og, rfl, hc1, xt⟩ := hRd.one; have xt : w3.cell? ⟨gr, og + 2, none⟩ = some (.int .i64 (c : Int)) := xt; have x0 : w3.cell? ⟨g18, 0, none⟩ = some (.slice (some ⟨gr, og, none⟩) 1 c1) := b3.cell 0 (by show 0 < 1; decide); have xk : w3.cell? ⟨gk, 0, none⟩ = some (.int .i64 (i : Int)) := (bk.keep u3 (fun e => hne (Option.some.inj e))).cell 0 (by show 0 < 4; decide); have hS3 := (hs.keep y2).offR b18 u3; have hL3 : Lin w3 := (hL.keep y2).kept u3 (fun e => by have e := Option.some.inj e; omega); have hYr := (hY.kept u3 (.inr (fun e => by have := hY.new _ e; omega))).rd; have e1 := str_any w3 ya yn yc B hYr; have e2 := str_any w3 ba nb cb B ((hb.keep y2).offR b18 u3); have s2 : True := trivial)
    | (go_at_call 9; have _t := s2; clear s2; refine (kO2 _ _ _ _ hL3 hRd hS3).mono ?_; rintro e w5 ⟨a5, n5, c5, k5, ya5, yn5, yc5, rfl, hA5, hY5, y5⟩))
  go_ret
  exact ⟨rfl, grown_trans (grown_far (grown_trans G0 y2) u3 (fun q e => by have e := Option.some.inj e; omega)) y5⟩

set_option maxHeartbeats 16000000 in
theorem bk_t13 {u0 u1 u2 u3 u4 u5 u6 u7 u8 u9 u10 u11 u12 u17 u20 u21 u22 u23 u24 u25 u26 u27 u28 u29 u30 u31 u32 u33 u34 u35 u36 u37 u38 u39 u40 u41 u42 u43 u44 u45 u46 u47 u48 u49 u50 u51 u52 u53 u54 u55 u56 u57 u58 u59 u60 u61 u62 u63 u64 u65 u66 u67 u68 u69 u70 u71 u72 u73 u74 u75 u76 u77 u78 u79 u80 u81 u82 u83 u84 u85 u86 u87 u88 u89 u90 u91 u92 u93 u94 u95 u96 u97 u98 u99 u100 u101 u102 u103 u104 u105 u106 u107 u108 u109 u110 u111 u112 u113 u114 u115 u116 u117 u118 u119 u120 u121 u122 u123 u124 u125 u126 u127 u128 u129 u130 u131 u132 u133 u134 u135 u136 u137 u138 u139 u140 u141 u142 u143 u144 u145 u146 u147 u148 u149 u150 u151 u152 u153 u154 u155 u156 : Value} (w0 w : World) (gk g18 i c : Nat) (G0 : w0.grownBy w none) (h18 : w0.heap.size ≤ g18) (ka a ba sa : Option Addr) (kc n cc nb cb sn sc : Nat) (S : List Int) (B SL : List Nat) (hL : Lin w) (bk : BxS w gk 36 #[.int .i64 (i : Int), .slice ka 8 kc, .int .i64 (-1), .int .i64 0]) (b18 : BxS w g18 24 #[.slice a n cc]) (hne : gk ≠ g18) (hR : RdG w a n cc [⟨(i : Int), S, -1, 0⟩]) (hs : Rd w sa sn sc SL) (hb : Rd w ba nb cb B) (g18l : g18 < w.heap.size) (hM : BkF i c S B SL) (h0 : 0 < gk ∧ 0 < g18) (wa : Option Addr) (wn wc : Nat) (WL : List Nat) (hW : Rd w wa wn wc WL) (hWE : onE [⟨(i : Int), S, -1, 0⟩] WL = 14) (hmay : kdB ⟨(i : Int), S, -1, 0⟩ = true) :
    Code.wp Tryd.prog (tailR 13 (Tryd.f4.body.getD .skip)) (bodyPost Tryd.prog Tryd.f4 (fun e w' => e = .returned (.bool true) ∧ w0.grownBy w' none)) (Act.mk (List.toArray (u0 :: u1 :: u2 :: u3 :: u4 :: u5 :: u6 :: u7 :: u8 :: u9 :: u10 :: u11 :: u12 :: (.pointer (some ⟨gk, 0, none⟩)) :: (.int .i64 (c : Int)) :: (.slice ba nb cb) :: (.slice sa sn sc) :: u17 :: (.pointer (some ⟨g18, 0, none⟩)) :: (.slice wa wn wc) :: u20 :: u21 :: u22 :: u23 :: u24 :: u25 :: u26 :: u27 :: u28 :: u29 :: u30 :: u31 :: u32 :: u33 :: u34 :: u35 :: u36 :: u37 :: u38 :: u39 :: u40 :: u41 :: u42 :: u43 :: u44 :: u45 :: u46 :: u47 :: u48 :: u49 :: u50 :: u51 :: u52 :: u53 :: u54 :: u55 :: u56 :: u57 :: u58 :: u59 :: u60 :: u61 :: u62 :: u63 :: u64 :: u65 :: u66 :: u67 :: u68 :: u69 :: u70 :: u71 :: u72 :: u73 :: u74 :: u75 :: u76 :: u77 :: u78 :: u79 :: u80 :: u81 :: u82 :: u83 :: u84 :: u85 :: u86 :: u87 :: u88 :: u89 :: u90 :: u91 :: u92 :: u93 :: u94 :: u95 :: u96 :: u97 :: u98 :: u99 :: u100 :: u101 :: u102 :: u103 :: u104 :: u105 :: u106 :: u107 :: u108 :: u109 :: u110 :: u111 :: u112 :: u113 :: u114 :: u115 :: u116 :: u117 :: u118 :: u119 :: u120 :: u121 :: u122 :: u123 :: u124 :: u125 :: u126 :: u127 :: u128 :: u129 :: u130 :: u131 :: u132 :: u133 :: u134 :: u135 :: u136 :: u137 :: u138 :: u139 :: u140 :: u141 :: u142 :: u143 :: u144 :: u145 :: u146 :: u147 :: u148 :: u149 :: u150 :: u151 :: u152 :: u153 :: u154 :: u155 :: u156 :: [])) []) w := by
  conv => enter [2]; whnf
  refine wp_seq_k fun KK hKK => ?_
  have HKK : Hid _ := hKK
  clear hKK
  have x0 : w.cell? ⟨g18, 0, none⟩ = some (.slice a n cc) := b18.cell 0 (by show 0 < 1; decide)
  have kO := open_any a n cc [⟨(i : Int), S, -1, 0⟩] wa wn wc WL w hL hR hW
  obtain ⟨q1, q2, q3, q4⟩ := on_bad hWE (by decide) (rm_one hmay)
  rw [q1.out, q2.out, q3.out, q4.out] at kO
  clear q1 q2 q3 q4 hWE hmay
  have i1 := Tryd.info_rg1
  have s0 : True := trivial
  go_wp2_with (first
    | (go_at_call 9; have _t := s0; clear s0; refine kO.mono ?_; rintro e w2 ⟨a1, n1, c1, ks1, ya, yn, yc, rfl, hA, hY, y2⟩; have z2 := y2.size; clear x0; have bn := BxS.new w2 24 #[.slice none 0 0]; have gn := World.grownBy_alloc w2 (.cells #[.slice none 0 0] 24) none; have s1 : True := trivial)
    | (have _t := s1; clear s1; refine wpList_stX _ rfl _ (.tmp 20) (.tmp 84) rfl w2.heap.size _ _ rfl rfl bn i1 rfl (by simp [Value.oneCell']) ?_; intro w3 b3 u3; have Y3 := grown_far gn u3 (fun q e => by have e := Option.some.inj e; omega)))
  have hYl := hY.len
  have hY0 : yn = 0 := hYl.symm
  clear hYl
  subst hY0
  have hRd := (hA.keep Y3).rd
  obtain ⟨rfl, gr, og, rfl, hc1, xt⟩ := hRd.one
  have xt : w3.cell? ⟨gr, og + 2, none⟩ = some (.int .i64 (-1)) := xt
  have G3 := grown_trans y2 Y3
  have z3 := G3.size
  have x0 : w3.cell? ⟨w2.heap.size, 0, none⟩ = some (.slice (some ⟨gr, og, none⟩) 1 c1) := b3.cell 0 (by show 0 < 1; decide)
  refine HKK.out _ _ ?_
  refine wp_seq_k fun KK2 hKK2 => ?_
  have HKK2 : Hid _ := hKK2
  clear hKK2 HKK
  go_wp2
  exact HKK2.out _ _ (bk_t16 w0 w3 gk g18 i c (grown_trans G0 G3) h18 ka a ba sa kc n cc nb cb sn sc S B SL (hL.keep G3) (bk.keep G3 (by simp)) (b18.keep G3 (by simp)) hne (hR.keep G3) (hs.keep G3) (hb.keep G3) (by omega) hM h0)

set_option maxHeartbeats 16000000 in
theorem bk_t12 {u0 u1 u2 u3 u6 u7 u8 u9 u10 u11 u12 u17 u20 u21 u22 u23 u24 u25 u26 u27 u28 u29 u30 u31 u32 u33 u34 u35 u36 u37 u38 u39 u40 u41 u42 u43 u44 u45 u46 u47 u48 u49 u50 u51 u52 u53 u54 u55 u56 u57 u58 u59 u60 u61 u62 u63 u64 u65 u66 u67 u68 u69 u70 u71 u72 u73 u74 u75 u76 u77 u78 u79 u80 u81 u82 u83 u84 u85 u86 u87 u88 u89 u90 u91 u92 u93 u94 u95 u96 u97 u98 u99 u100 u101 u102 u103 u104 u105 u106 u107 u108 u109 u110 u111 u112 u113 u114 u115 u116 u117 u118 u119 u120 u121 u122 u123 u124 u125 u126 u127 u128 u129 u130 u131 u132 u133 u134 u135 u136 u137 u138 u139 u140 u141 u142 u143 u144 u145 u146 u147 u148 u149 u150 u151 u152 u153 u154 u155 u156 : Value} (w0 w : World) (gk g18 i c : Nat) (G0 : w0.grownBy w none) (h18 : w0.heap.size ≤ g18) (ka a ba sa : Option Addr) (kc n cc nb cb sn sc : Nat) (S : List Int) (B SL : List Nat) (hL : Lin w) (bk : BxS w gk 36 #[.int .i64 (i : Int), .slice ka 8 kc, .int .i64 (-1), .int .i64 0]) (b18 : BxS w g18 24 #[.slice a n cc]) (hne : gk ≠ g18) (hR : RdG w a n cc [⟨(i : Int), S, -1, 0⟩]) (hs : Rd w sa sn sc SL) (hb : Rd w ba nb cb B) (g18l : g18 < w.heap.size) (hM : BkF i c S B SL) (h0 : 0 < gk ∧ 0 < g18) (gw wc lo : Nat) (hW : Ans w lo (some ⟨gw, 0, none⟩) sn wc SL) (hlo : gk < lo ∧ g18 < lo) (at' by' : Int) (h4 : I64 at') (h5 : I64 by') (hmay : kdB ⟨(i : Int), S, -1, 0⟩ = true) (ws : World) (gws : ws.grownBy w none) (G0s : w0.grownBy ws none) (hlw : ws.heap.size = lo) (hRs : RdG ws a n cc [⟨(i : Int), S, -1, 0⟩]) (hss : Rd ws sa sn sc SL) (hbs : Rd ws ba nb cb B) :
    Code.wp Tryd.prog (tailR 12 (Tryd.f4.body.getD .skip)) (bodyPost Tryd.prog Tryd.f4 (fun e w' => e = .returned (.bool true) ∧ w0.grownBy w' none)) (Act.mk (List.toArray (u0 :: u1 :: u2 :: u3 :: (.int .i64 at') :: (.int .i64 by') :: u6 :: u7 :: u8 :: u9 :: u10 :: u11 :: u12 :: (.pointer (some ⟨gk, 0, none⟩)) :: (.int .i64 (c : Int)) :: (.slice ba nb cb) :: (.slice sa sn sc) :: u17 :: (.pointer (some ⟨g18, 0, none⟩)) :: (.slice (some ⟨gw, 0, none⟩) sn wc) :: u20 :: u21 :: u22 :: u23 :: u24 :: u25 :: u26 :: u27 :: u28 :: u29 :: u30 :: u31 :: u32 :: u33 :: u34 :: u35 :: u36 :: u37 :: u38 :: u39 :: u40 :: u41 :: u42 :: u43 :: u44 :: u45 :: u46 :: u47 :: u48 :: u49 :: u50 :: u51 :: u52 :: u53 :: u54 :: u55 :: u56 :: u57 :: u58 :: u59 :: u60 :: u61 :: u62 :: u63 :: u64 :: u65 :: u66 :: u67 :: u68 :: u69 :: u70 :: u71 :: u72 :: u73 :: u74 :: u75 :: u76 :: u77 :: u78 :: u79 :: u80 :: u81 :: u82 :: u83 :: u84 :: u85 :: u86 :: u87 :: u88 :: u89 :: u90 :: u91 :: u92 :: u93 :: u94 :: u95 :: u96 :: u97 :: u98 :: u99 :: u100 :: u101 :: u102 :: u103 :: u104 :: u105 :: u106 :: u107 :: u108 :: u109 :: u110 :: u111 :: u112 :: u113 :: u114 :: u115 :: u116 :: u117 :: u118 :: u119 :: u120 :: u121 :: u122 :: u123 :: u124 :: u125 :: u126 :: u127 :: u128 :: u129 :: u130 :: u131 :: u132 :: u133 :: u134 :: u135 :: u136 :: u137 :: u138 :: u139 :: u140 :: u141 :: u142 :: u143 :: u144 :: u145 :: u146 :: u147 :: u148 :: u149 :: u150 :: u151 :: u152 :: u153 :: u154 :: u155 :: u156 :: [])) []) w := by
  conv => enter [2]; whnf
  refine wp_seq_k fun KK hKK => ?_
  have HKK : Hid _ := hKK
  clear hKK
  have hsl := hs.len
  have hbl := hb.len
  have hml := hM.len
  have hbd := hM.bd
  have sD := grown_drew w none
  have hWd := hW.keep sD
  have hsn1 : IntKind.i64.wrap ((sn : Int) - 1) = (sn : Int) - 1 := wrap_i64_in _ (by omega) (by omega)
  refine wp_regionL (fun wz => Ans wz lo (some ⟨gw, 0, none⟩) sn wc SL) [15] #[false, false, false, false, false, false, false, false, false, false, false, false, false, false, false, false] rfl (by kernel_rfl) ?_
  refine wpAnyZ_take [14, 15] 0 (.slice (some ⟨gw, 0, none⟩) sn wc) rfl (by kernel_rfl) (fun _ _ _ h => h) hWd rfl (by intro wz hz; go_simp) ?_
  try simp only [List.getElem_toArray, List.getElem_cons_succ, List.getElem_cons_zero, Act.put, List.setIfInBounds_toArray, List.set_cons_zero, List.set_cons_succ]
  refine wpAnyZ_take [14, 15] 1 (.slice sa sn sc) rfl (by kernel_rfl) (fun _ _ _ h => h) hWd rfl (by intro wz hz; go_simp) ?_
  try simp only [List.getElem_toArray, List.getElem_cons_succ, List.getElem_cons_zero, Act.put, List.setIfInBounds_toArray, List.set_cons_zero, List.set_cons_succ]
  refine wpAnyZ_take [14, 15] 2 (.int .i64 (sn : Int)) rfl (by kernel_rfl) (fun _ _ _ h => h) hWd rfl (by intro wz hz; go_simp) ?_
  try simp only [List.getElem_toArray, List.getElem_cons_succ, List.getElem_cons_zero, Act.put, List.setIfInBounds_toArray, List.set_cons_zero, List.set_cons_succ]
  refine wpAnyZ_take [14, 15] 3 (.int .i64 ((sn : Int) - 1)) rfl (by kernel_rfl) (fun _ _ _ h => h) hWd rfl (by intro wz hz; go_simp) ?_
  try simp only [List.getElem_toArray, List.getElem_cons_succ, List.getElem_cons_zero, Act.put, List.setIfInBounds_toArray, List.set_cons_zero, List.set_cons_succ]
  refine wpAnyZ_take [14, 15] 4 (.int .i64 at') rfl (by kernel_rfl) (fun _ _ _ h => h) hWd rfl (by intro wz hz; go_simp) ?_
  try simp only [List.getElem_toArray, List.getElem_cons_succ, List.getElem_cons_zero, Act.put, List.setIfInBounds_toArray, List.set_cons_zero, List.set_cons_succ]
  refine wpAnyZ_take [14, 15] 9 (.int .i64 by') rfl (by kernel_rfl) (fun _ _ _ h => h) hWd rfl (by intro wz hz; go_simp) ?_
  try simp only [List.getElem_toArray, List.getElem_cons_succ, List.getElem_cons_zero, Act.put, List.setIfInBounds_toArray, List.set_cons_zero, List.set_cons_succ]
  refine wpAnyZ_oneB 5 rfl (by kernel_rfl) (fun K hK => ?_)
  go_simp
  go_at_call 13
  refine (pickY_any at' 8 _ h4.1 h4.2 (by decide) (by decide)).mono ?_
  rintro e w' ⟨p, hp, rfl, hw'⟩
  dsimp only
  have hw' := hw'.symm
  subst hw'
  refine hK _ _ (fun _ => hWd) ?_
  try simp only [List.getElem_toArray, List.getElem_cons_succ, List.getElem_cons_zero, Act.put, List.setIfInBounds_toArray, List.set_cons_zero, List.set_cons_succ]
  obtain ⟨j, hj⟩ : ∃ j : Nat, (sn : Int) - 1 - (p : Int) = (j : Int) := ⟨sn - 1 - p, by omega⟩
  have hjn : j < sn := by omega
  have hjn' : (j : Int) < (sn : Int) := by omega
  have hj2 : IntKind.i64.wrap ((sn : Int) - 1 - (p : Int)) = (j : Int) := by rw [hj]; exact wrap_i64_in _ (by omega) (by omega)
  have hj0 : Hid ((sn : Int) - 1 - (p : Int) = (j : Int)) := hj
  clear hj
  refine wpAnyZ_take [14, 15] 6 (.int .i64 (j : Int)) rfl (by kernel_rfl) (fun _ _ _ h => h) hWd rfl (by intro wz hz; go_simp) ?_
  try simp only [List.getElem_toArray, List.getElem_cons_succ, List.getElem_cons_zero, Act.put, List.setIfInBounds_toArray, List.set_cons_zero, List.set_cons_succ]
  refine wpAnyZ_take [14, 15] 7 (.pointer (some ⟨gw, j, none⟩)) rfl (by kernel_rfl) (fun _ _ _ h => h) hWd rfl (by intro wz hz; go_simp) ?_
  try simp only [List.getElem_toArray, List.getElem_cons_succ, List.getElem_cons_zero, Act.put, List.setIfInBounds_toArray, List.set_cons_zero, List.set_cons_succ]
  refine wpAnyZ_take [14, 15] 8 (.int .u8 (nth SL j : Int)) rfl (by kernel_rfl) (fun _ _ _ h => h) hWd rfl (by intro wz hz; have hcj := hz.cellJ hjn; go_simp) ?_
  try simp only [List.getElem_toArray, List.getElem_cons_succ, List.getElem_cons_zero, Act.put, List.setIfInBounds_toArray, List.set_cons_zero, List.set_cons_succ]
  refine wpAnyZ_oneB 10 rfl (by kernel_rfl) (fun K hK => ?_)
  go_simp
  go_at_call 13
  refine (pickY_any by' 255 _ h5.1 h5.2 (by decide) (by decide)).mono ?_
  rintro e w' ⟨v, hv, rfl, hw'⟩
  dsimp only
  have hw' := hw'.symm
  subst hw'
  refine hK _ _ (fun _ => hWd) ?_
  try simp only [List.getElem_toArray, List.getElem_cons_succ, List.getElem_cons_zero, Act.put, List.setIfInBounds_toArray, List.set_cons_zero, List.set_cons_succ]
  obtain ⟨y, hy⟩ : ∃ y : Nat, (1 : Int) + (v : Int) = (y : Int) := ⟨v + 1, by omega⟩
  have hy2 : IntKind.i64.wrap (1 + (v : Int)) = (y : Int) := by rw [hy]; exact wrap_i64_in _ (by omega) (by omega)
  have hy3 : y < 256 ∧ y ≠ 0 := by omega
  have hy4 : IntKind.u8.wrap (y : Int) = (y : Int) := by rw [IntKind.wrap_u8]; omega
  have hby : nth SL j < 256 := hW.nthB j
  have hxr : bits .xor .u8 ((nth SL j : Nat) : Int) ((y : Nat) : Int) = ((nth SL j ^^^ y : Nat) : Int) := u8_xor_nat _ _ hby hy3.1
  clear hy
  refine wpAnyZ_take [14, 15] 11 (.int .i64 (y : Int)) rfl (by kernel_rfl) (fun _ _ _ h => h) hWd rfl (by intro wz hz; go_simp) ?_
  try simp only [List.getElem_toArray, List.getElem_cons_succ, List.getElem_cons_zero, Act.put, List.setIfInBounds_toArray, List.set_cons_zero, List.set_cons_succ]
  refine wpAnyZ_take [14, 15] 12 (.int .u8 (y : Int)) rfl (by kernel_rfl) (fun _ _ _ h => h) hWd rfl (by intro wz hz; go_simp) ?_
  try simp only [List.getElem_toArray, List.getElem_cons_succ, List.getElem_cons_zero, Act.put, List.setIfInBounds_toArray, List.set_cons_zero, List.set_cons_succ]
  refine wpAnyZ_take [14, 15] 13 (.int .u8 ((nth SL j ^^^ y : Nat) : Int)) rfl (by kernel_rfl) (fun _ _ _ h => h) hWd rfl (by intro wz hz; go_simp) ?_
  try simp only [List.getElem_toArray, List.getElem_cons_succ, List.getElem_cons_zero, Act.put, List.setIfInBounds_toArray, List.set_cons_zero, List.set_cons_succ]
  refine wpAnyZ_take [15] 14 (.pointer (some ⟨gw, j, none⟩)) rfl (by kernel_rfl) (fun _ _ _ h => h) hWd rfl (by intro wz hz; go_simp) ?_
  try simp only [List.getElem_toArray, List.getElem_cons_succ, List.getElem_cons_zero, Act.put, List.setIfInBounds_toArray, List.set_cons_zero, List.set_cons_succ]
  have hcj := hWd.cellJ hjn
  have hfj := hWd.freeJ j hjn
  refine wpAnyZ_oneB 15 rfl (by kernel_rfl) (fun K hK => ?_)
  go_simp
  refine hK _ _ (fun h => absurd (by decide) h) ?_
  try simp only [List.getElem_toArray, List.getElem_cons_succ, List.getElem_cons_zero, Act.put, List.setIfInBounds_toArray, List.set_cons_zero, List.set_cons_succ]
  refine wpAnyZ_doneB (by kernel_rfl) ?_ _
  have hx2 : nth SL j ^^^ y < 256 := Nat.xor_lt_two_pow (n := 8) hby hy3.1
  have hA9 := (hW.setJ j (nth SL j ^^^ y) hx2).keep (grown_drew _ none)
  have u9 := grown_trans (grown_set w gw j (.int .u8 ((nth SL j ^^^ y : Nat) : Int))) (grown_drew _ _)
  generalize (w.setCell ⟨gw, j, none⟩ (.int .u8 ((nth SL j ^^^ y : Nat) : Int))).drew = w9 at *
  have hgl := hW.new gw rfl
  have G9 : ws.grownBy w9 none := grown_far gws u9 (fun q e => by have e := Option.some.inj e; omega)
  have hj1 := hj0.out
  have hjs : j = SL.length - 1 - p := by omega
  have hz9 := G9.size
  have hWE := hM.wr p y (by omega) hy3.2
  rw [← hjs] at hWE
  exact HKK.out _ _ (bk_t13 w0 w9 gk g18 i c (grown_trans G0s G9) h18 ka a ba sa kc n cc nb cb sn sc S B SL (hL.kept u9 (fun e => by have e := Option.some.inj e; have := hL.lt; omega)) (bk.keep u9 (fun e => by have e := Option.some.inj e; omega)) (b18.keep u9 (fun e => by have e := Option.some.inj e; omega)) hne (hRs.keep G9) (hss.keep G9) (hbs.keep G9) (by omega) hM h0 _ sn wc _ hA9.rd hWE hmay)

set_option maxHeartbeats 16000000 in
theorem bk_t11 {u0 u1 u2 u3 u6 u7 u8 u9 u10 u11 u12 u17 u19 u20 u21 u22 u23 u24 u25 u26 u27 u28 u29 u30 u31 u32 u33 u34 u35 u36 u37 u38 u39 u40 u41 u42 u43 u44 u45 u46 u47 u48 u49 u50 u51 u52 u53 u54 u55 u56 u57 u58 u59 u60 u61 u62 u63 u64 u65 u66 u67 u68 u69 u70 u71 u72 u73 u74 u75 u76 u77 u78 u79 u80 u81 u82 u83 u84 u85 u86 u87 u88 u89 u90 u91 u92 u93 u94 u95 u96 u97 u98 u99 u100 u101 u102 u103 u104 u105 u106 u107 u108 u109 u110 u111 u112 u113 u114 u115 u116 u117 u118 u119 u120 u121 u122 u123 u124 u125 u126 u127 u128 u129 u130 u131 u132 u133 u134 u135 u136 u137 u138 u139 u140 u141 u142 u143 u144 u145 u146 u147 u148 u149 u150 u151 u152 u153 u154 u155 u156 : Value} (w0 w : World) (gk g18 i c : Nat) (G0 : w0.grownBy w none) (h18 : w0.heap.size ≤ g18) (ka a ba sa : Option Addr) (kc n cc nb cb sn sc : Nat) (S : List Int) (B SL : List Nat) (hL : Lin w) (bk : BxS w gk 36 #[.int .i64 (i : Int), .slice ka 8 kc, .int .i64 (-1), .int .i64 0]) (b18 : BxS w g18 24 #[.slice a n cc]) (hne : gk ≠ g18) (hR : RdG w a n cc [⟨(i : Int), S, -1, 0⟩]) (hs : Rd w sa sn sc SL) (hb : Rd w ba nb cb B) (g18l : g18 < w.heap.size) (hM : BkF i c S B SL) (h0 : 0 < gk ∧ 0 < g18) (at' by' : Int) (h4 : I64 at') (h5 : I64 by') (hmay : kdB ⟨(i : Int), S, -1, 0⟩ = true) :
    Code.wp Tryd.prog (tailR 11 (Tryd.f4.body.getD .skip)) (bodyPost Tryd.prog Tryd.f4 (fun e w' => e = .returned (.bool true) ∧ w0.grownBy w' none)) (Act.mk (List.toArray (u0 :: u1 :: u2 :: u3 :: (.int .i64 at') :: (.int .i64 by') :: u6 :: u7 :: u8 :: u9 :: u10 :: u11 :: u12 :: (.pointer (some ⟨gk, 0, none⟩)) :: (.int .i64 (c : Int)) :: (.slice ba nb cb) :: (.slice sa sn sc) :: u17 :: (.pointer (some ⟨g18, 0, none⟩)) :: u19 :: u20 :: u21 :: u22 :: u23 :: u24 :: u25 :: u26 :: u27 :: u28 :: u29 :: u30 :: u31 :: u32 :: u33 :: u34 :: u35 :: u36 :: u37 :: u38 :: u39 :: u40 :: u41 :: u42 :: u43 :: u44 :: u45 :: u46 :: u47 :: u48 :: u49 :: u50 :: u51 :: u52 :: u53 :: u54 :: u55 :: u56 :: u57 :: u58 :: u59 :: u60 :: u61 :: u62 :: u63 :: u64 :: u65 :: u66 :: u67 :: u68 :: u69 :: u70 :: u71 :: u72 :: u73 :: u74 :: u75 :: u76 :: u77 :: u78 :: u79 :: u80 :: u81 :: u82 :: u83 :: u84 :: u85 :: u86 :: u87 :: u88 :: u89 :: u90 :: u91 :: u92 :: u93 :: u94 :: u95 :: u96 :: u97 :: u98 :: u99 :: u100 :: u101 :: u102 :: u103 :: u104 :: u105 :: u106 :: u107 :: u108 :: u109 :: u110 :: u111 :: u112 :: u113 :: u114 :: u115 :: u116 :: u117 :: u118 :: u119 :: u120 :: u121 :: u122 :: u123 :: u124 :: u125 :: u126 :: u127 :: u128 :: u129 :: u130 :: u131 :: u132 :: u133 :: u134 :: u135 :: u136 :: u137 :: u138 :: u139 :: u140 :: u141 :: u142 :: u143 :: u144 :: u145 :: u146 :: u147 :: u148 :: u149 :: u150 :: u151 :: u152 :: u153 :: u154 :: u155 :: u156 :: [])) []) w := by
  conv => enter [2]; whnf
  refine wp_seq_k fun KK hKK => ?_
  have HKK : Hid _ := hKK
  clear hKK
  have hsl := hs.len
  have hbl := hb.len
  have hml := hM.len
  have hbn := hM.bd
  have bkl := bk.lt
  have s0 : True := trivial
  go_wp2_with (at_builtin; have _t := s0; clear s0; refine wpList_joinZ rfl _ _ rfl none 0 0 w.heap.size [] rfl (ansN _ _) (Nat.le_refl _) sa sn sc SL rfl hs (by omega) ?_; intro a5 c5 w5 hA5 u5; have u5 : w.grownBy w5 none := u5; rw [List.nil_append, Nat.zero_add] at hA5; rw [Nat.zero_add])
  rcases hA5.cases with ⟨rfl, hz, _⟩ | ⟨gw, rfl, _⟩
  · exact absurd hz (by omega)
  · have z5 := u5.size
    exact HKK.out _ _ (bk_t12 w0 w5 gk g18 i c (grown_trans G0 u5) h18 ka a ba sa kc n cc nb cb sn sc S B SL (hL.keep u5) (bk.keep u5 (by simp)) (b18.keep u5 (by simp)) hne (hR.keep u5) (hs.keep u5) (hb.keep u5) (by omega) hM h0 gw c5 w.heap.size hA5 ⟨bkl, g18l⟩ at' by' h4 h5 hmay w u5 G0 rfl hR hs hb)

set_option maxHeartbeats 16000000 in
theorem bk_t8 {u0 u1 u2 u3 u6 u7 u8 u9 u10 u11 u12 u17 u18 u19 u20 u21 u22 u23 u24 u25 u26 u27 u28 u29 u30 u31 u32 u33 u34 u35 u36 u37 u38 u39 u40 u41 u42 u43 u44 u45 u46 u47 u48 u49 u50 u51 u52 u53 u54 u55 u56 u57 u58 u59 u60 u61 u62 u63 u64 u65 u66 u67 u68 u69 u70 u71 u72 u73 u74 u75 u76 u77 u78 u79 u80 u81 u82 u83 u84 u85 u86 u87 u88 u89 u90 u91 u92 u93 u94 u95 u96 u97 u98 u99 u100 u101 u102 u103 u104 u105 u106 u107 u108 u109 u110 u111 u112 u113 u114 u115 u116 u117 u118 u119 u120 u121 u122 u123 u124 u125 u126 u127 u128 u129 u130 u131 u132 u133 u134 u135 u136 u137 u138 u139 u140 u141 u142 u143 u144 u145 u146 u147 u148 u149 u150 u151 u152 u153 u154 u155 u156 : Value} (w0 w : World) (gk i c : Nat) (G0 : w0.grownBy w none) (ka ba sa : Option Addr) (kc nb cb sn sc : Nat) (S : List Int) (B SL : List Nat) (hL : Lin w) (bk : BxS w gk 36 #[.int .i64 (i : Int), .slice ka 8 kc, .int .i64 (-1), .int .i64 0]) (hka : RdI w ka 8 kc S) (hs : Rd w sa sn sc SL) (hb : Rd w ba nb cb B) (hM : BkF i c S B SL) (h0 : 0 < gk) (hi : i < 256) (at' by' : Int) (h4 : I64 at') (h5 : I64 by') (hmay : kdB ⟨(i : Int), S, -1, 0⟩ = true) :
    Code.wp Tryd.prog (tailR 8 (Tryd.f4.body.getD .skip)) (bodyPost Tryd.prog Tryd.f4 (fun e w' => e = .returned (.bool true) ∧ w0.grownBy w' none)) (Act.mk (List.toArray (u0 :: u1 :: u2 :: u3 :: (.int .i64 at') :: (.int .i64 by') :: u6 :: u7 :: u8 :: u9 :: u10 :: u11 :: u12 :: (.pointer (some ⟨gk, 0, none⟩)) :: (.int .i64 (c : Int)) :: (.slice ba nb cb) :: (.slice sa sn sc) :: u17 :: u18 :: u19 :: u20 :: u21 :: u22 :: u23 :: u24 :: u25 :: u26 :: u27 :: u28 :: u29 :: u30 :: u31 :: u32 :: u33 :: u34 :: u35 :: u36 :: u37 :: u38 :: u39 :: u40 :: u41 :: u42 :: u43 :: u44 :: u45 :: u46 :: u47 :: u48 :: u49 :: u50 :: u51 :: u52 :: u53 :: u54 :: u55 :: u56 :: u57 :: u58 :: u59 :: u60 :: u61 :: u62 :: u63 :: u64 :: u65 :: u66 :: u67 :: u68 :: u69 :: u70 :: u71 :: u72 :: u73 :: u74 :: u75 :: u76 :: u77 :: u78 :: u79 :: u80 :: u81 :: u82 :: u83 :: u84 :: u85 :: u86 :: u87 :: u88 :: u89 :: u90 :: u91 :: u92 :: u93 :: u94 :: u95 :: u96 :: u97 :: u98 :: u99 :: u100 :: u101 :: u102 :: u103 :: u104 :: u105 :: u106 :: u107 :: u108 :: u109 :: u110 :: u111 :: u112 :: u113 :: u114 :: u115 :: u116 :: u117 :: u118 :: u119 :: u120 :: u121 :: u122 :: u123 :: u124 :: u125 :: u126 :: u127 :: u128 :: u129 :: u130 :: u131 :: u132 :: u133 :: u134 :: u135 :: u136 :: u137 :: u138 :: u139 :: u140 :: u141 :: u142 :: u143 :: u144 :: u145 :: u146 :: u147 :: u148 :: u149 :: u150 :: u151 :: u152 :: u153 :: u154 :: u155 :: u156 :: [])) []) w := by
  conv => enter [2]; whnf
  refine wp_seq_k fun KK hKK => ?_
  have HKK : Hid _ := hKK
  clear hKK
  obtain ⟨x0, x1, x2, x3⟩ := BxS.cell4 bk
  have bkl := bk.lt
  have kA := add_any none 0 0 [] ⟨(i : Int), ka, 8, kc, S, -1, 0⟩ w (RdG.nil w) hka ⟨⟨by show _ ≤ (i : Int); omega, by show (i : Int) ≤ _; omega⟩, ⟨by show _ ≤ (-1 : Int); decide, by show (-1 : Int) ≤ _; decide⟩, ⟨by show _ ≤ (0 : Int); decide, by show (0 : Int) ≤ _; decide⟩⟩
  obtain ⟨q1, q2⟩ := add_first hmay
  rw [show adE [] (Kw.d ⟨(i : Int), ka, 8, kc, S, -1, 0⟩) = 0 from q1, show adV [] (Kw.d ⟨(i : Int), ka, 8, kc, S, -1, 0⟩) = [⟨(i : Int), S, -1, 0⟩] from q2] at kA
  clear q1 q2
  have i1 := Tryd.info_rg1
  have i4 := Tryd.info_ky4
  have s0 : True := trivial
  go_wp2_with (first
    | (go_at_call 15; have _t := s0; clear s0; refine kA.mono ?_; rintro e w2 ⟨a1, n1, c1, ks1, rfl, hA, y2⟩; have z2 := y2.size; clear x0 x1 x2 x3; have bn := BxS.new w2 24 #[.slice none 0 0]; have gn := World.grownBy_alloc w2 (.cells #[.slice none 0 0] 24) none; have s1 : True := trivial)
    | (have _t := s1; clear s1; refine wpList_stX _ rfl _ (.tmp 18) (.tmp 59) rfl w2.heap.size _ _ rfl rfl bn i1 rfl (by simp [Value.oneCell']) ?_; intro w3 b3 u3; have Y3 := grown_far gn u3 (fun q e => by have e := Option.some.inj e; omega)))
  have hRd := (hA.keep Y3).rd
  have G3 := grown_trans y2 Y3
  have z3 := G3.size
  have b3l := b3.lt
  refine HKK.out _ _ ?_
  refine wp_seq_k fun KK2 hKK2 => ?_
  have HKK2 : Hid _ := hKK2
  clear hKK2 HKK
  go_wp2
  exact HKK2.out _ _ (bk_t11 w0 w3 gk w2.heap.size i c (grown_trans G0 G3) (by have := G0.size; omega) ka a1 ba sa kc n1 c1 nb cb sn sc S B SL (hL.keep G3) (bk.keep G3 (by simp)) b3 (by omega) hRd (hs.keep G3) (hb.keep G3) (by omega) hM ⟨h0, by omega⟩ at' by' h4 h5 hmay)

set_option maxHeartbeats 16000000 in
theorem bk_t5 {u0 u1 u2 u3 u6 u7 u8 u9 u10 u11 u12 u16 u17 u18 u19 u20 u21 u22 u23 u24 u25 u26 u27 u28 u29 u30 u31 u32 u33 u34 u35 u36 u37 u38 u39 u40 u41 u42 u43 u44 u45 u46 u47 u48 u49 u50 u51 u52 u53 u54 u55 u56 u57 u58 u59 u60 u61 u62 u63 u64 u65 u66 u67 u68 u69 u70 u71 u72 u73 u74 u75 u76 u77 u78 u79 u80 u81 u82 u83 u84 u85 u86 u87 u88 u89 u90 u91 u92 u93 u94 u95 u96 u97 u98 u99 u100 u101 u102 u103 u104 u105 u106 u107 u108 u109 u110 u111 u112 u113 u114 u115 u116 u117 u118 u119 u120 u121 u122 u123 u124 u125 u126 u127 u128 u129 u130 u131 u132 u133 u134 u135 u136 u137 u138 u139 u140 u141 u142 u143 u144 u145 u146 u147 u148 u149 u150 u151 u152 u153 u154 u155 u156 : Value} (w0 w : World) (gk i c : Nat) (G0 : w0.grownBy w none) (ka ba : Option Addr) (kc nb cb : Nat) (S : List Int) (B : List Nat) (hL : Lin w) (bk : BxS w gk 36 #[.int .i64 (i : Int), .slice ka 8 kc, .int .i64 (-1), .int .i64 0]) (hka : RdI w ka 8 kc S) (hb : Rd w ba nb cb B) (h0 : 0 < gk) (hi : i < 256) (hc : c < 281474976710656) (hS : ∀ x, x ∈ S → 0 ≤ x ∧ x ≤ 4294967295) (hnb : nb ≤ 1000) (at' by' : Int) (h4 : I64 at') (h5 : I64 by') :
    Code.wp Tryd.prog (tailR 5 (Tryd.f4.body.getD .skip)) (bodyPost Tryd.prog Tryd.f4 (fun e w' => e = .returned (.bool true) ∧ w0.grownBy w' none)) (Act.mk (List.toArray (u0 :: u1 :: u2 :: u3 :: (.int .i64 at') :: (.int .i64 by') :: u6 :: u7 :: u8 :: u9 :: u10 :: u11 :: u12 :: (.pointer (some ⟨gk, 0, none⟩)) :: (.int .i64 (c : Int)) :: (.slice ba nb cb) :: u16 :: u17 :: u18 :: u19 :: u20 :: u21 :: u22 :: u23 :: u24 :: u25 :: u26 :: u27 :: u28 :: u29 :: u30 :: u31 :: u32 :: u33 :: u34 :: u35 :: u36 :: u37 :: u38 :: u39 :: u40 :: u41 :: u42 :: u43 :: u44 :: u45 :: u46 :: u47 :: u48 :: u49 :: u50 :: u51 :: u52 :: u53 :: u54 :: u55 :: u56 :: u57 :: u58 :: u59 :: u60 :: u61 :: u62 :: u63 :: u64 :: u65 :: u66 :: u67 :: u68 :: u69 :: u70 :: u71 :: u72 :: u73 :: u74 :: u75 :: u76 :: u77 :: u78 :: u79 :: u80 :: u81 :: u82 :: u83 :: u84 :: u85 :: u86 :: u87 :: u88 :: u89 :: u90 :: u91 :: u92 :: u93 :: u94 :: u95 :: u96 :: u97 :: u98 :: u99 :: u100 :: u101 :: u102 :: u103 :: u104 :: u105 :: u106 :: u107 :: u108 :: u109 :: u110 :: u111 :: u112 :: u113 :: u114 :: u115 :: u116 :: u117 :: u118 :: u119 :: u120 :: u121 :: u122 :: u123 :: u124 :: u125 :: u126 :: u127 :: u128 :: u129 :: u130 :: u131 :: u132 :: u133 :: u134 :: u135 :: u136 :: u137 :: u138 :: u139 :: u140 :: u141 :: u142 :: u143 :: u144 :: u145 :: u146 :: u147 :: u148 :: u149 :: u150 :: u151 :: u152 :: u153 :: u154 :: u155 :: u156 :: [])) []) w := by
  conv => enter [2]; whnf
  refine wp_seq_k fun KK hKK => ?_
  have HKK : Hid _ := hKK
  clear hKK
  obtain ⟨x0, x1, x2, x3⟩ := BxS.cell4 bk
  have hbl := hb.len
  have hSl := hka.len
  have hM := bk_math (B := B) hi hc hSl hS (by omega)
  obtain ⟨m1, m2⟩ := seal_math (B := B) hi hc hSl hS (by omega)
  have hmay := key_new hi hSl hS
  have kS := seal_all hide_any (i : Int) ka ba 8 kc nb cb (-1) 0 (c : Int) S B w hL hka hb
  rw [hbl] at m1
  rw [m1, m2] at kS
  unfold kyV at kS
  generalize slL (fun x => (nthI S x).toNat) c i B = SL at *
  clear m1 m2
  have i4 := Tryd.info_ky4
  have s0 : True := trivial
  go_wp2_with (go_at_call 14; have _t := s0; clear s0; refine kS.mono ?_; rintro e w2 ⟨sa, sn, sc, rfl, hA, y2, hn2⟩)
  have hAl := hA.len
  have hml := hM.len
  have hsn : sn = nb + 15 := by omega
  subst hsn
  refine HKK.out _ _ ?_
  refine wp_seq_k fun KK2 hKK2 => ?_
  have HKK2 : Hid _ := hKK2
  clear hKK2 HKK x0 x1 x2 x3
  have hw15 : IntKind.i64.wrap ((nb : Int) + 15) = (nb : Int) + 15 := wrap_i64_in _ (by omega) (by omega)
  go_wp2
  exact HKK2.out _ _ (bk_t8 w0 w2 gk i c (grown_trans G0 y2) ka ba sa kc nb cb (nb + 15) sc S B SL (hL.keep y2) (bk.keep y2 (by simp)) (hka.keep y2) hA.rd (hb.keep y2) hM h0 hi at' by' h4 h5 hmay)

set_option maxHeartbeats 16000000 in
theorem back_grows (id seed counter at' by' : Int) (b : Option Addr) (nb cb : Nat) (B : List Nat) (w : World) (hL : Lin w) (hb : Rd w b nb cb B) (hn : nb ≤ 140737488355000) (h1 : I64 id) (h2 : I64 seed) (h3 : I64 counter) (h4 : I64 at') (h5 : I64 by') :
    Calls Tryd.prog 4 #[.int .i64 id, .int .i64 seed, .int .i64 counter, .slice b nb cb, .int .i64 at', .int .i64 by'] w fun e w' => e = .returned (.bool true) ∧ w.grownBy w' none := by
  have i4 := Tryd.info_ky4
  have hlB := hb.len
  have hL0 := hL.lt
  have s0 : True := trivial
  go_enter Tryd.func4, Tryd.ntmps4
  refine wp_seq_k fun K0 hK0 => ?_
  have HK0 : Hid _ := hK0
  clear hK0
  go_wp2
  refine HK0.out _ _ ?_
  clear HK0
  refine wp_seq_k fun K1 hK1 => ?_
  have HK1 : Hid _ := hK1
  clear hK1
  go_wp2_with (first
    | (go_at_call 12; have _t := s0; clear s0; refine (lkey_any id seed w h1 h2).mono ?_; rintro e w1 ⟨i, ka, kc, S, hi, hS, rfl, hA1, y1⟩; have z1 := y1.size; have s1 : True := trivial)
    | (go_at_call 13; have _t := s1; clear s1; refine (pickY_any counter 281474976710656 _ h3.1 h3.2 (by decide) (by decide)).mono ?_; rintro e w' ⟨c, hc, rfl, hw'⟩; have hw' := hw'.symm; subst hw'; have bn := BxS.new w1 36 #[.int .i64 0, .slice none 0 0, .int .i64 0, .int .i64 0]; have gn := World.grownBy_alloc w1 (.cells #[.int .i64 0, .slice none 0 0, .int .i64 0, .int .i64 0] 36) none; have s2 : True := trivial)
    | (have _t := s2; clear s2; refine wpList_stX _ rfl _ (.tmp 13) (.tmp 28) rfl w1.heap.size _ _ rfl rfl bn i4 rfl (by simp [Value.oneCell']) ?_; intro w2 b2 u2; have Y2 := grown_far gn u2 (fun q e => by have e := Option.some.inj e; omega)))
  have G2 := grown_trans y1 Y2
  have z2 := Y2.size
  refine HK1.out _ _ ?_
  clear HK1
  refine wp_seq_k fun K2 hK2 => ?_
  have HK2 : Hid _ := hK2
  clear hK2
  have s3 : True := trivial
  go_wp2_with (at_builtin; have _t := s3; clear s3; refine wpList_joinZ rfl _ _ rfl none 0 0 w2.heap.size [] rfl (ansN _ _) (Nat.le_refl _) b nb cb B rfl (hb.keep G2) (by omega) ?_; intro a5 c5 w5 hA5 u5; have u5 : w2.grownBy w5 none := u5; rw [List.nil_append, Nat.zero_add] at hA5; rw [Nat.zero_add])
  have G5 := grown_trans G2 u5
  have hS5 := (hA1.keep (grown_trans Y2 u5)).rd
  have b5 := b2.keep u5 (by simp)
  refine HK2.out _ _ ?_
  clear HK2
  refine wp_seq_k fun K3 hK3 => ?_
  have HK3 : Hid _ := hK3
  clear hK3
  have hR5 := hA5.rd
  by_cases hlt : nb ≤ 1000
  · have hlt' : ¬ (1000 : Int) < (nb : Int) := by omega
    go_wp2
    exact HK3.out _ _ (bk_t5 w w5 w1.heap.size i c G5 ka a5 kc nb c5 S B (hL.keep G5) b5 hS5 hR5 (by omega) hi (by omega) hS hlt at' by' h4 h5)
  · have hlt' : (1000 : Int) < (nb : Int) := by omega
    have hcut := hR5.cut (m := 1000) (by omega)
    have hm5 := hA5.max
    have hlc : (1000 : Int) ≤ (c5 : Int) := by omega
    have hlc' : 1000 ≤ c5 := by omega
    rcases hA5.cases with ⟨rfl, hz, _⟩ | ⟨gw, rfl, _⟩
    · exact absurd hz (by omega)
    · go_wp2
      exact HK3.out _ _ (bk_t5 w w5 w1.heap.size i c G5 ka _ kc 1000 c5 S _ (hL.keep G5) b5 hS5 hcut (by omega) hi (by omega) hS (Nat.le_refl _) at' by' h4 h5)

theorem below_ofQ {w w' : World} (h : w.grownBy w' none) : Below w.heap.size w w' := (Below.refl _ _).grown h (Nat.le_refl _) (fun k hk => by cases hk)
theorem back_walk (id seed counter at' by' : Int) (b : Option Addr) (nb cb : Nat) (B : List Nat) (w : World) (hL : Lin w) (hb : Rd w b nb cb B) (hn : nb ≤ 140737488355000) (h1 : I64 id) (h2 : I64 seed) (h3 : I64 counter) (h4 : I64 at') (h5 : I64 by') :
    Calls Tryd.prog 4 #[.int .i64 id, .int .i64 seed, .int .i64 counter, .slice b nb cb, .int .i64 at', .int .i64 by'] w fun e w' => e = .returned (.bool true) ∧ Below w.heap.size w w' := by
  refine (back_grows id seed counter at' by' b nb cb B w hL hb hn h1 h2 h3 h4 h5).mono ?_
  rintro e w' ⟨h, g⟩
  exact ⟨h, below_ofQ g⟩
end Go.Proofs.YtaigcjhachkmmaaDoor
