import Derived.Test.YtgnicopijocnjaaDoorMk5
namespace Go.Proofs.YtgnicopijocnjaaDoor
open Go.RowKit
set_option maxRecDepth 100000
set_option linter.unusedVariables false
set_option linter.unusedSimpArgs false

section
open Go.RowKit Go.Shelf

/-- the first of two pieces of code -/
def headM : Code → Code
  | .seq a _ => a
  | c => c
def flP (l : List (Nat × Nat)) : List Int := l.flatMap fun y => [(y.1 : Int), (y.2 : Int)]
/-- what a poke makes of the codes and of the place that comes next -/
def pkS (s : List Nat × Nat) (p : Int × Int × Int) : List Nat × Nat :=
  if p.1 = 1 then (if 0 ≤ p.2.1 ∧ p.2.1 ≤ (s.1.length : Int) - 1 then (s.1.set p.2.1.toNat (viW (nth s.1 p.2.1.toNat)), s.2) else s)
  else if p.1 = 2 then (if (0 ≤ p.2.1 ∧ p.2.1 ≤ (s.1.length : Int) - 1) ∧ (0 ≤ p.2.2 ∧ p.2.2 ≤ 4294967295) then (s.1.set p.2.1.toNat (coN p.2.2.toNat), s.2) else s)
  else if p.1 = 3 then (if (0 ≤ p.2.1 ∧ p.2.1 ≤ (s.1.length : Int) - 1) ∧ (0 ≤ p.2.2 ∧ p.2.2 ≤ 38) then (s.1.set p.2.1.toNat (nth s.1 p.2.1.toNat ^^^ 1 <<< p.2.2.toNat), s.2) else s)
  else if p.1 = 4 then (if 0 ≤ p.2.2 ∧ p.2.2 ≤ (s.1.length : Int) then (mgC s.1 s.2 p.2.2.toNat, (s.2 + p.2.2.toNat) % s.1.length) else s)
  else s
/-- what comes of it: a number, places and words, how it was refused, at which word -/
def pkO (s : List Nat × Nat) (p : Int × Int × Int) : Int × List Int × Int × Int :=
  if p.1 = 1 then (if 0 ≤ p.2.1 ∧ p.2.1 ≤ (s.1.length : Int) - 1 then (if wrW (nth s.1 p.2.1.toNat) = 2 then (0, [], 18, p.2.1) else ((gaW (riW (nth s.1 p.2.1.toNat)) 39 : Nat), [], 0, 0)) else (0, [], 2, 0))
  else if p.1 = 2 then (if (0 ≤ p.2.1 ∧ p.2.1 ≤ (s.1.length : Int) - 1) ∧ (0 ≤ p.2.2 ∧ p.2.2 ≤ 4294967295) then (0, [], 0, 0) else (0, [], 2, 0))
  else if p.1 = 3 then (if (0 ≤ p.2.1 ∧ p.2.1 ≤ (s.1.length : Int) - 1) ∧ (0 ≤ p.2.2 ∧ p.2.2 ≤ 38) then (0, [], 0, 0) else (0, [], 2, 0))
  else if p.1 = 4 then (if 0 ≤ p.2.2 ∧ p.2.2 ≤ (s.1.length : Int) then ((mgN s.1 s.2 p.2.2.toNat : Nat), mgL s.1 s.2 p.2.2.toNat, 0, 0) else (0, [], 2, 0))
  else if p.1 = 5 then (0, flP (alL s.1 s.1.length), 0, 0)
  else (0, [], 0, 0)
/-- an error, as it is told -/
def ErV (w : World) (ev : Value) (code at' : Int) : Prop :=
  (ev = .nilIface ∧ code = 0 ∧ at' = 0) ∨ (ev = .iface 24 (.int .i64 2) ∧ code = 2 ∧ at' = 0) ∨ (∃ gl, ev = .iface 52 (.pointer (some ⟨gl, 0, none⟩)) ∧ BxS w gl 56 #[.int .i64 at'] ∧ code = 18)
theorem Fw.toFrm {p : Nat → Prop} {w w' : World} (h : Fw p w w') : Frm p w w' := ⟨h.os, h.tape, h.output, h.size, h.block⟩
theorem BxS.frmM {w w' : World} {p : Nat → Prop} {g : Nat} {t : TypeId} {cs : Array Value} (h : BxS w g t cs) (hF : Frm p w w') (hn : ¬ p g) : BxS w' g t cs := (hF.block g h.lt hn).trans h
/-- what is so behind the switch -/
structure StA (W W' : World) (gm gc gx : Nat) (s : List Nat × Nat) (ev : Value) (a : Option Addr) (n c : Nat) (o : Int × List Int × Int × Int) (Ds Ds' : List Nat) : Prop where
  mem : Mem W' gm gc s.2 s.1
  box : BxS W' gx 29 #[.int .i64 o.1, .slice a n c, .int .i64 0, .int .i64 0]
  own : AnsZ W' W.heap.size a n c o.2.1
  err : ErV W' ev o.2.2.1 o.2.2.2
  frm : Frm (fun k => mB gm gc k ∨ k = gx) W W'
  nd : ∃ Es, Ds' = Es ++ Ds ∧ Es.Nodup ∧ ∀ D, D ∈ Es → W.heap.size ≤ D ∧ W'.heap[D]? = some (.deferred (some []))
set_option maxHeartbeats 16000000 in
theorem rm_2b {u0 u1 u2 u3 u4 u5 u7 u8 u9 u13 u14 u15 u16 u17 u18 u19 u20 u21 u22 u23 u24 u25 u26 u27 u28 u29 u30 u31 u32 u33 u34 u35 u36 u37 u38 u39 u40 u41 u42 u43 u44 u45 u46 u47 u48 u49 u50 u51 u52 u53 u54 u55 u56 u57 u58 u59 u60 u61 u62 u63 u64 u65 u66 u67 u68 u69 u70 u71 u72 u73 u74 u75 u76 u77 u78 u79 u80 u81 u82 u83 u84 u85 u86 u87 u88 u89 u90 u91 u92 u93 u94 u95 u96 u97 u98 u99 u100 u101 u102 u103 u104 u105 u106 u107 : Value} {Q : Exit → Act → World → Prop} (W : World) (gm gc gp gx : Nat) (C : List Nat) (nx : Nat) (d at' z : Int) (Ds : List Nat) (hM : Mem W gm gc nx C) (bp : BxS W gp 33 #[.int .i64 d, .int .i64 at', .int .i64 z]) (bx : BxS W gx 29 #[.int .i64 0, .slice none 0 0, .int .i64 0, .int .i64 0]) (hne : gx ≠ gm ∧ gx ≠ gc) (hd : d = 2) (hc : ¬ ((0 ≤ at' ∧ at' ≤ (C.length : Int) - 1) ∧ (0 ≤ z ∧ z ≤ 4294967295)))
    (hQ : ∀ W' ev a n c Ds' {z13 z14 z15 z34 z35 z36 z37 z38 z39 z40 z41 z42 z43 z44 z45 z46 z47 z48 z49 z50 z51 z52 z53 z54 z55 z56 z57 z58 z59 z60 z61 z62 z63 z64 z65 z66 z67 z68 z69 z70 z71 z72 z73 z74 z75 z76 z77 z78 z79 z80 z81 z82 z83 z84 z85 z86 z87 z88 z89 z90 : Value}, StA W W' gm gc gx (pkS (C, nx) (d, at', z)) ev a n c (pkO (C, nx) (d, at', z)) Ds Ds' → Q .normal (Act.mk (List.toArray (u0 :: u1 :: u2 :: u3 :: u4 :: u5 :: (.pointer (some ⟨gm, 0, none⟩)) :: u7 :: u8 :: u9 :: (.pointer (some ⟨gp, 0, none⟩)) :: (.pointer (some ⟨gx, 0, none⟩)) :: (ev) :: z13 :: z14 :: z15 :: u16 :: u17 :: u18 :: u19 :: u20 :: u21 :: u22 :: u23 :: u24 :: u25 :: u26 :: u27 :: u28 :: u29 :: u30 :: u31 :: u32 :: u33 :: z34 :: z35 :: z36 :: z37 :: z38 :: z39 :: z40 :: z41 :: z42 :: z43 :: z44 :: z45 :: z46 :: z47 :: z48 :: z49 :: z50 :: z51 :: z52 :: z53 :: z54 :: z55 :: z56 :: z57 :: z58 :: z59 :: z60 :: z61 :: z62 :: z63 :: z64 :: z65 :: z66 :: z67 :: z68 :: z69 :: z70 :: z71 :: z72 :: z73 :: z74 :: z75 :: z76 :: z77 :: z78 :: z79 :: z80 :: z81 :: z82 :: z83 :: z84 :: z85 :: z86 :: z87 :: z88 :: z89 :: z90 :: u91 :: u92 :: u93 :: u94 :: u95 :: u96 :: u97 :: u98 :: u99 :: u100 :: u101 :: u102 :: u103 :: u104 :: u105 :: u106 :: u107 :: [])) (Ds'.map mark)) W') :
    Code.wp Tryd.prog (headM (tailR 12 (Tryd.f5.body.getD .skip))) Q (Act.mk (List.toArray (u0 :: u1 :: u2 :: u3 :: u4 :: u5 :: (.pointer (some ⟨gm, 0, none⟩)) :: u7 :: u8 :: u9 :: (.pointer (some ⟨gp, 0, none⟩)) :: (.pointer (some ⟨gx, 0, none⟩)) :: (.nilIface) :: u13 :: u14 :: u15 :: u16 :: u17 :: u18 :: u19 :: u20 :: u21 :: u22 :: u23 :: u24 :: u25 :: u26 :: u27 :: u28 :: u29 :: u30 :: u31 :: u32 :: u33 :: u34 :: u35 :: u36 :: u37 :: u38 :: u39 :: u40 :: u41 :: u42 :: u43 :: u44 :: u45 :: u46 :: u47 :: u48 :: u49 :: u50 :: u51 :: u52 :: u53 :: u54 :: u55 :: u56 :: u57 :: u58 :: u59 :: u60 :: u61 :: u62 :: u63 :: u64 :: u65 :: u66 :: u67 :: u68 :: u69 :: u70 :: u71 :: u72 :: u73 :: u74 :: u75 :: u76 :: u77 :: u78 :: u79 :: u80 :: u81 :: u82 :: u83 :: u84 :: u85 :: u86 :: u87 :: u88 :: u89 :: u90 :: u91 :: u92 :: u93 :: u94 :: u95 :: u96 :: u97 :: u98 :: u99 :: u100 :: u101 :: u102 :: u103 :: u104 :: u105 :: u106 :: u107 :: [])) (Ds.map mark)) W := by
  have HQ : Hid _ := @hQ
  clear hQ
  have c0 : W.cell? ⟨gp, 0, none⟩ = some (.int .i64 d) := bp.cell 0 (by simp)
  have c1 : W.cell? ⟨gp, 1, none⟩ = some (.int .i64 at') := bp.cell 1 (by simp)
  have c2 : W.cell? ⟨gp, 2, none⟩ = some (.int .i64 z) := bp.cell 2 (by simp)
  have hmo := hM.most
  have HE : Hid (pkS (C, nx) (d, at', z) = (C, nx) ∧ pkO (C, nx) (d, at', z) = (0, [], 2, 0)) := by
    subst hd
    refine ⟨?_, ?_⟩
    · unfold pkS
      dsimp only
      rw [if_neg (by decide), if_pos rfl, if_neg hc]
      try rfl
    · unfold pkO
      dsimp only
      rw [if_neg (by decide), if_pos rfl, if_neg hc]
      try rfl
  rw [HE.out.1, HE.out.2] at HQ
  clear HE
  subst hd
  have HC := mstore_bad gm gc nx C at' z W hM hc
  conv => enter [2]; whnf
  go_wp2_with (go_at_call 12; refine HC.mono ?_; rintro e W1 ⟨rfl, hw⟩; have hw := hw.symm; subst hw)
  (try simp only [Exit.inBlock, Exit.then])
  exact HQ.out _ _ none 0 0 Ds ⟨hM, bx, ansZ_nil _ _, .inr (.inl ⟨rfl, rfl, rfl⟩), Frm.refl _ _, [], rfl, List.nodup_nil, (fun D h => by cases h)⟩
set_option maxHeartbeats 16000000 in
theorem rm_3b {u0 u1 u2 u3 u4 u5 u7 u8 u9 u13 u14 u15 u16 u17 u18 u19 u20 u21 u22 u23 u24 u25 u26 u27 u28 u29 u30 u31 u32 u33 u34 u35 u36 u37 u38 u39 u40 u41 u42 u43 u44 u45 u46 u47 u48 u49 u50 u51 u52 u53 u54 u55 u56 u57 u58 u59 u60 u61 u62 u63 u64 u65 u66 u67 u68 u69 u70 u71 u72 u73 u74 u75 u76 u77 u78 u79 u80 u81 u82 u83 u84 u85 u86 u87 u88 u89 u90 u91 u92 u93 u94 u95 u96 u97 u98 u99 u100 u101 u102 u103 u104 u105 u106 u107 : Value} {Q : Exit → Act → World → Prop} (W : World) (gm gc gp gx : Nat) (C : List Nat) (nx : Nat) (d at' z : Int) (Ds : List Nat) (hM : Mem W gm gc nx C) (bp : BxS W gp 33 #[.int .i64 d, .int .i64 at', .int .i64 z]) (bx : BxS W gx 29 #[.int .i64 0, .slice none 0 0, .int .i64 0, .int .i64 0]) (hne : gx ≠ gm ∧ gx ≠ gc) (hd : d = 3) (hc : ¬ ((0 ≤ at' ∧ at' ≤ (C.length : Int) - 1) ∧ (0 ≤ z ∧ z ≤ 38)))
    (hQ : ∀ W' ev a n c Ds' {z13 z14 z15 z34 z35 z36 z37 z38 z39 z40 z41 z42 z43 z44 z45 z46 z47 z48 z49 z50 z51 z52 z53 z54 z55 z56 z57 z58 z59 z60 z61 z62 z63 z64 z65 z66 z67 z68 z69 z70 z71 z72 z73 z74 z75 z76 z77 z78 z79 z80 z81 z82 z83 z84 z85 z86 z87 z88 z89 z90 : Value}, StA W W' gm gc gx (pkS (C, nx) (d, at', z)) ev a n c (pkO (C, nx) (d, at', z)) Ds Ds' → Q .normal (Act.mk (List.toArray (u0 :: u1 :: u2 :: u3 :: u4 :: u5 :: (.pointer (some ⟨gm, 0, none⟩)) :: u7 :: u8 :: u9 :: (.pointer (some ⟨gp, 0, none⟩)) :: (.pointer (some ⟨gx, 0, none⟩)) :: (ev) :: z13 :: z14 :: z15 :: u16 :: u17 :: u18 :: u19 :: u20 :: u21 :: u22 :: u23 :: u24 :: u25 :: u26 :: u27 :: u28 :: u29 :: u30 :: u31 :: u32 :: u33 :: z34 :: z35 :: z36 :: z37 :: z38 :: z39 :: z40 :: z41 :: z42 :: z43 :: z44 :: z45 :: z46 :: z47 :: z48 :: z49 :: z50 :: z51 :: z52 :: z53 :: z54 :: z55 :: z56 :: z57 :: z58 :: z59 :: z60 :: z61 :: z62 :: z63 :: z64 :: z65 :: z66 :: z67 :: z68 :: z69 :: z70 :: z71 :: z72 :: z73 :: z74 :: z75 :: z76 :: z77 :: z78 :: z79 :: z80 :: z81 :: z82 :: z83 :: z84 :: z85 :: z86 :: z87 :: z88 :: z89 :: z90 :: u91 :: u92 :: u93 :: u94 :: u95 :: u96 :: u97 :: u98 :: u99 :: u100 :: u101 :: u102 :: u103 :: u104 :: u105 :: u106 :: u107 :: [])) (Ds'.map mark)) W') :
    Code.wp Tryd.prog (headM (tailR 12 (Tryd.f5.body.getD .skip))) Q (Act.mk (List.toArray (u0 :: u1 :: u2 :: u3 :: u4 :: u5 :: (.pointer (some ⟨gm, 0, none⟩)) :: u7 :: u8 :: u9 :: (.pointer (some ⟨gp, 0, none⟩)) :: (.pointer (some ⟨gx, 0, none⟩)) :: (.nilIface) :: u13 :: u14 :: u15 :: u16 :: u17 :: u18 :: u19 :: u20 :: u21 :: u22 :: u23 :: u24 :: u25 :: u26 :: u27 :: u28 :: u29 :: u30 :: u31 :: u32 :: u33 :: u34 :: u35 :: u36 :: u37 :: u38 :: u39 :: u40 :: u41 :: u42 :: u43 :: u44 :: u45 :: u46 :: u47 :: u48 :: u49 :: u50 :: u51 :: u52 :: u53 :: u54 :: u55 :: u56 :: u57 :: u58 :: u59 :: u60 :: u61 :: u62 :: u63 :: u64 :: u65 :: u66 :: u67 :: u68 :: u69 :: u70 :: u71 :: u72 :: u73 :: u74 :: u75 :: u76 :: u77 :: u78 :: u79 :: u80 :: u81 :: u82 :: u83 :: u84 :: u85 :: u86 :: u87 :: u88 :: u89 :: u90 :: u91 :: u92 :: u93 :: u94 :: u95 :: u96 :: u97 :: u98 :: u99 :: u100 :: u101 :: u102 :: u103 :: u104 :: u105 :: u106 :: u107 :: [])) (Ds.map mark)) W := by
  have HQ : Hid _ := @hQ
  clear hQ
  have c0 : W.cell? ⟨gp, 0, none⟩ = some (.int .i64 d) := bp.cell 0 (by simp)
  have c1 : W.cell? ⟨gp, 1, none⟩ = some (.int .i64 at') := bp.cell 1 (by simp)
  have c2 : W.cell? ⟨gp, 2, none⟩ = some (.int .i64 z) := bp.cell 2 (by simp)
  have hmo := hM.most
  have HE : Hid (pkS (C, nx) (d, at', z) = (C, nx) ∧ pkO (C, nx) (d, at', z) = (0, [], 2, 0)) := by
    subst hd
    refine ⟨?_, ?_⟩
    · unfold pkS
      dsimp only
      rw [if_neg (by decide), if_neg (by decide), if_pos rfl, if_neg hc]
      try rfl
    · unfold pkO
      dsimp only
      rw [if_neg (by decide), if_neg (by decide), if_pos rfl, if_neg hc]
      try rfl
  rw [HE.out.1, HE.out.2] at HQ
  clear HE
  subst hd
  have HC := mturn_bad gm gc nx C at' z W hM hc
  conv => enter [2]; whnf
  go_wp2_with (go_at_call 13; refine HC.mono ?_; rintro e W1 ⟨rfl, hw⟩; have hw := hw.symm; subst hw)
  (try simp only [Exit.inBlock, Exit.then])
  exact HQ.out _ _ none 0 0 Ds ⟨hM, bx, ansZ_nil _ _, .inr (.inl ⟨rfl, rfl, rfl⟩), Frm.refl _ _, [], rfl, List.nodup_nil, (fun D h => by cases h)⟩
set_option maxHeartbeats 16000000 in
theorem rm_2g {u0 u1 u2 u3 u4 u5 u7 u8 u9 u13 u14 u15 u16 u17 u18 u19 u20 u21 u22 u23 u24 u25 u26 u27 u28 u29 u30 u31 u32 u33 u34 u35 u36 u37 u38 u39 u40 u41 u42 u43 u44 u45 u46 u47 u48 u49 u50 u51 u52 u53 u54 u55 u56 u57 u58 u59 u60 u61 u62 u63 u64 u65 u66 u67 u68 u69 u70 u71 u72 u73 u74 u75 u76 u77 u78 u79 u80 u81 u82 u83 u84 u85 u86 u87 u88 u89 u90 u91 u92 u93 u94 u95 u96 u97 u98 u99 u100 u101 u102 u103 u104 u105 u106 u107 : Value} {Q : Exit → Act → World → Prop} (W : World) (gm gc gp gx : Nat) (C : List Nat) (nx : Nat) (d at' z : Int) (Ds : List Nat) (hM : Mem W gm gc nx C) (bp : BxS W gp 33 #[.int .i64 d, .int .i64 at', .int .i64 z]) (bx : BxS W gx 29 #[.int .i64 0, .slice none 0 0, .int .i64 0, .int .i64 0]) (hne : gx ≠ gm ∧ gx ≠ gc) (hd : d = 2) (hc : (0 ≤ at' ∧ at' ≤ (C.length : Int) - 1) ∧ (0 ≤ z ∧ z ≤ 4294967295))
    (hQ : ∀ W' ev a n c Ds' {z13 z14 z15 z34 z35 z36 z37 z38 z39 z40 z41 z42 z43 z44 z45 z46 z47 z48 z49 z50 z51 z52 z53 z54 z55 z56 z57 z58 z59 z60 z61 z62 z63 z64 z65 z66 z67 z68 z69 z70 z71 z72 z73 z74 z75 z76 z77 z78 z79 z80 z81 z82 z83 z84 z85 z86 z87 z88 z89 z90 : Value}, StA W W' gm gc gx (pkS (C, nx) (d, at', z)) ev a n c (pkO (C, nx) (d, at', z)) Ds Ds' → Q .normal (Act.mk (List.toArray (u0 :: u1 :: u2 :: u3 :: u4 :: u5 :: (.pointer (some ⟨gm, 0, none⟩)) :: u7 :: u8 :: u9 :: (.pointer (some ⟨gp, 0, none⟩)) :: (.pointer (some ⟨gx, 0, none⟩)) :: (ev) :: z13 :: z14 :: z15 :: u16 :: u17 :: u18 :: u19 :: u20 :: u21 :: u22 :: u23 :: u24 :: u25 :: u26 :: u27 :: u28 :: u29 :: u30 :: u31 :: u32 :: u33 :: z34 :: z35 :: z36 :: z37 :: z38 :: z39 :: z40 :: z41 :: z42 :: z43 :: z44 :: z45 :: z46 :: z47 :: z48 :: z49 :: z50 :: z51 :: z52 :: z53 :: z54 :: z55 :: z56 :: z57 :: z58 :: z59 :: z60 :: z61 :: z62 :: z63 :: z64 :: z65 :: z66 :: z67 :: z68 :: z69 :: z70 :: z71 :: z72 :: z73 :: z74 :: z75 :: z76 :: z77 :: z78 :: z79 :: z80 :: z81 :: z82 :: z83 :: z84 :: z85 :: z86 :: z87 :: z88 :: z89 :: z90 :: u91 :: u92 :: u93 :: u94 :: u95 :: u96 :: u97 :: u98 :: u99 :: u100 :: u101 :: u102 :: u103 :: u104 :: u105 :: u106 :: u107 :: [])) (Ds'.map mark)) W') :
    Code.wp Tryd.prog (headM (tailR 12 (Tryd.f5.body.getD .skip))) Q (Act.mk (List.toArray (u0 :: u1 :: u2 :: u3 :: u4 :: u5 :: (.pointer (some ⟨gm, 0, none⟩)) :: u7 :: u8 :: u9 :: (.pointer (some ⟨gp, 0, none⟩)) :: (.pointer (some ⟨gx, 0, none⟩)) :: (.nilIface) :: u13 :: u14 :: u15 :: u16 :: u17 :: u18 :: u19 :: u20 :: u21 :: u22 :: u23 :: u24 :: u25 :: u26 :: u27 :: u28 :: u29 :: u30 :: u31 :: u32 :: u33 :: u34 :: u35 :: u36 :: u37 :: u38 :: u39 :: u40 :: u41 :: u42 :: u43 :: u44 :: u45 :: u46 :: u47 :: u48 :: u49 :: u50 :: u51 :: u52 :: u53 :: u54 :: u55 :: u56 :: u57 :: u58 :: u59 :: u60 :: u61 :: u62 :: u63 :: u64 :: u65 :: u66 :: u67 :: u68 :: u69 :: u70 :: u71 :: u72 :: u73 :: u74 :: u75 :: u76 :: u77 :: u78 :: u79 :: u80 :: u81 :: u82 :: u83 :: u84 :: u85 :: u86 :: u87 :: u88 :: u89 :: u90 :: u91 :: u92 :: u93 :: u94 :: u95 :: u96 :: u97 :: u98 :: u99 :: u100 :: u101 :: u102 :: u103 :: u104 :: u105 :: u106 :: u107 :: [])) (Ds.map mark)) W := by
  have HQ : Hid _ := @hQ
  clear hQ
  have c0 : W.cell? ⟨gp, 0, none⟩ = some (.int .i64 d) := bp.cell 0 (by simp)
  have c1 : W.cell? ⟨gp, 1, none⟩ = some (.int .i64 at') := bp.cell 1 (by simp)
  have c2 : W.cell? ⟨gp, 2, none⟩ = some (.int .i64 z) := bp.cell 2 (by simp)
  have hmo := hM.most
  obtain ⟨k, rfl⟩ : ∃ k : Nat, at' = (k : Int) := ⟨at'.toNat, by omega⟩
  obtain ⟨y, rfl⟩ : ∃ y : Nat, z = (y : Int) := ⟨z.toNat, by omega⟩
  have HE : Hid (pkS (C, nx) (d, (k : Int), (y : Int)) = (C.set k (coN y), nx) ∧ pkO (C, nx) (d, (k : Int), (y : Int)) = (0, [], 0, 0)) := by
    subst hd
    refine ⟨?_, ?_⟩
    · unfold pkS
      dsimp only
      rw [if_neg (by decide), if_pos rfl, if_pos hc]
      try rfl
    · unfold pkO
      dsimp only
      rw [if_neg (by decide), if_pos rfl, if_pos hc]
      try rfl
  rw [HE.out.1, HE.out.2] at HQ
  clear HE
  subst hd
  have HC := mstore_any gm gc nx k y C W hM (by omega) (by omega)
  conv => enter [2]; whnf
  go_wp2_with (go_at_call 12; refine HC.mono ?_; rintro e W1 ⟨rfl, hM1, hg⟩)
  (try simp only [Exit.inBlock, Exit.then])
  exact HQ.out _ _ none 0 0 Ds ⟨hM1, bx.keep hg (by simp; exact hne.2), ansZ_nil _ _, .inl ⟨rfl, rfl, rfl⟩, (Frm.of (p := fun k => mB gm gc k ∨ k = gx) hg (fun k e _ => .inl (.inr (Option.some.inj e).symm))), [], rfl, List.nodup_nil, (fun D h => by cases h)⟩
set_option maxHeartbeats 16000000 in
theorem rm_3g {u0 u1 u2 u3 u4 u5 u7 u8 u9 u13 u14 u15 u16 u17 u18 u19 u20 u21 u22 u23 u24 u25 u26 u27 u28 u29 u30 u31 u32 u33 u34 u35 u36 u37 u38 u39 u40 u41 u42 u43 u44 u45 u46 u47 u48 u49 u50 u51 u52 u53 u54 u55 u56 u57 u58 u59 u60 u61 u62 u63 u64 u65 u66 u67 u68 u69 u70 u71 u72 u73 u74 u75 u76 u77 u78 u79 u80 u81 u82 u83 u84 u85 u86 u87 u88 u89 u90 u91 u92 u93 u94 u95 u96 u97 u98 u99 u100 u101 u102 u103 u104 u105 u106 u107 : Value} {Q : Exit → Act → World → Prop} (W : World) (gm gc gp gx : Nat) (C : List Nat) (nx : Nat) (d at' z : Int) (Ds : List Nat) (hM : Mem W gm gc nx C) (bp : BxS W gp 33 #[.int .i64 d, .int .i64 at', .int .i64 z]) (bx : BxS W gx 29 #[.int .i64 0, .slice none 0 0, .int .i64 0, .int .i64 0]) (hne : gx ≠ gm ∧ gx ≠ gc) (hd : d = 3) (hc : (0 ≤ at' ∧ at' ≤ (C.length : Int) - 1) ∧ (0 ≤ z ∧ z ≤ 38))
    (hQ : ∀ W' ev a n c Ds' {z13 z14 z15 z34 z35 z36 z37 z38 z39 z40 z41 z42 z43 z44 z45 z46 z47 z48 z49 z50 z51 z52 z53 z54 z55 z56 z57 z58 z59 z60 z61 z62 z63 z64 z65 z66 z67 z68 z69 z70 z71 z72 z73 z74 z75 z76 z77 z78 z79 z80 z81 z82 z83 z84 z85 z86 z87 z88 z89 z90 : Value}, StA W W' gm gc gx (pkS (C, nx) (d, at', z)) ev a n c (pkO (C, nx) (d, at', z)) Ds Ds' → Q .normal (Act.mk (List.toArray (u0 :: u1 :: u2 :: u3 :: u4 :: u5 :: (.pointer (some ⟨gm, 0, none⟩)) :: u7 :: u8 :: u9 :: (.pointer (some ⟨gp, 0, none⟩)) :: (.pointer (some ⟨gx, 0, none⟩)) :: (ev) :: z13 :: z14 :: z15 :: u16 :: u17 :: u18 :: u19 :: u20 :: u21 :: u22 :: u23 :: u24 :: u25 :: u26 :: u27 :: u28 :: u29 :: u30 :: u31 :: u32 :: u33 :: z34 :: z35 :: z36 :: z37 :: z38 :: z39 :: z40 :: z41 :: z42 :: z43 :: z44 :: z45 :: z46 :: z47 :: z48 :: z49 :: z50 :: z51 :: z52 :: z53 :: z54 :: z55 :: z56 :: z57 :: z58 :: z59 :: z60 :: z61 :: z62 :: z63 :: z64 :: z65 :: z66 :: z67 :: z68 :: z69 :: z70 :: z71 :: z72 :: z73 :: z74 :: z75 :: z76 :: z77 :: z78 :: z79 :: z80 :: z81 :: z82 :: z83 :: z84 :: z85 :: z86 :: z87 :: z88 :: z89 :: z90 :: u91 :: u92 :: u93 :: u94 :: u95 :: u96 :: u97 :: u98 :: u99 :: u100 :: u101 :: u102 :: u103 :: u104 :: u105 :: u106 :: u107 :: [])) (Ds'.map mark)) W') :
    Code.wp Tryd.prog (headM (tailR 12 (Tryd.f5.body.getD .skip))) Q (Act.mk (List.toArray (u0 :: u1 :: u2 :: u3 :: u4 :: u5 :: (.pointer (some ⟨gm, 0, none⟩)) :: u7 :: u8 :: u9 :: (.pointer (some ⟨gp, 0, none⟩)) :: (.pointer (some ⟨gx, 0, none⟩)) :: (.nilIface) :: u13 :: u14 :: u15 :: u16 :: u17 :: u18 :: u19 :: u20 :: u21 :: u22 :: u23 :: u24 :: u25 :: u26 :: u27 :: u28 :: u29 :: u30 :: u31 :: u32 :: u33 :: u34 :: u35 :: u36 :: u37 :: u38 :: u39 :: u40 :: u41 :: u42 :: u43 :: u44 :: u45 :: u46 :: u47 :: u48 :: u49 :: u50 :: u51 :: u52 :: u53 :: u54 :: u55 :: u56 :: u57 :: u58 :: u59 :: u60 :: u61 :: u62 :: u63 :: u64 :: u65 :: u66 :: u67 :: u68 :: u69 :: u70 :: u71 :: u72 :: u73 :: u74 :: u75 :: u76 :: u77 :: u78 :: u79 :: u80 :: u81 :: u82 :: u83 :: u84 :: u85 :: u86 :: u87 :: u88 :: u89 :: u90 :: u91 :: u92 :: u93 :: u94 :: u95 :: u96 :: u97 :: u98 :: u99 :: u100 :: u101 :: u102 :: u103 :: u104 :: u105 :: u106 :: u107 :: [])) (Ds.map mark)) W := by
  have HQ : Hid _ := @hQ
  clear hQ
  have c0 : W.cell? ⟨gp, 0, none⟩ = some (.int .i64 d) := bp.cell 0 (by simp)
  have c1 : W.cell? ⟨gp, 1, none⟩ = some (.int .i64 at') := bp.cell 1 (by simp)
  have c2 : W.cell? ⟨gp, 2, none⟩ = some (.int .i64 z) := bp.cell 2 (by simp)
  have hmo := hM.most
  obtain ⟨k, rfl⟩ : ∃ k : Nat, at' = (k : Int) := ⟨at'.toNat, by omega⟩
  obtain ⟨y, rfl⟩ : ∃ y : Nat, z = (y : Int) := ⟨z.toNat, by omega⟩
  have HE : Hid (pkS (C, nx) (d, (k : Int), (y : Int)) = (C.set k (nth C k ^^^ 1 <<< y), nx) ∧ pkO (C, nx) (d, (k : Int), (y : Int)) = (0, [], 0, 0)) := by
    subst hd
    refine ⟨?_, ?_⟩
    · unfold pkS
      dsimp only
      rw [if_neg (by decide), if_neg (by decide), if_pos rfl, if_pos hc]
      try rfl
    · unfold pkO
      dsimp only
      rw [if_neg (by decide), if_neg (by decide), if_pos rfl, if_pos hc]
      try rfl
  rw [HE.out.1, HE.out.2] at HQ
  clear HE
  subst hd
  have HC := mturn_any gm gc nx k y C W hM (by omega) (by omega)
  conv => enter [2]; whnf
  go_wp2_with (go_at_call 13; refine HC.mono ?_; rintro e W1 ⟨rfl, hM1, hg⟩)
  (try simp only [Exit.inBlock, Exit.then])
  exact HQ.out _ _ none 0 0 Ds ⟨hM1, bx.keep hg (by simp; exact hne.2), ansZ_nil _ _, .inl ⟨rfl, rfl, rfl⟩, (Frm.of (p := fun k => mB gm gc k ∨ k = gx) hg (fun k e _ => .inl (.inr (Option.some.inj e).symm))), [], rfl, List.nodup_nil, (fun D h => by cases h)⟩
set_option maxHeartbeats 16000000 in
theorem rm_1b {u0 u1 u2 u3 u4 u5 u7 u8 u9 u13 u14 u15 u16 u17 u18 u19 u20 u21 u22 u23 u24 u25 u26 u27 u28 u29 u30 u31 u32 u33 u34 u35 u36 u37 u38 u39 u40 u41 u42 u43 u44 u45 u46 u47 u48 u49 u50 u51 u52 u53 u54 u55 u56 u57 u58 u59 u60 u61 u62 u63 u64 u65 u66 u67 u68 u69 u70 u71 u72 u73 u74 u75 u76 u77 u78 u79 u80 u81 u82 u83 u84 u85 u86 u87 u88 u89 u90 u91 u92 u93 u94 u95 u96 u97 u98 u99 u100 u101 u102 u103 u104 u105 u106 u107 : Value} {Q : Exit → Act → World → Prop} (W : World) (gm gc gp gx : Nat) (C : List Nat) (nx : Nat) (d at' z : Int) (Ds : List Nat) (hM : Mem W gm gc nx C) (bp : BxS W gp 33 #[.int .i64 d, .int .i64 at', .int .i64 z]) (bx : BxS W gx 29 #[.int .i64 0, .slice none 0 0, .int .i64 0, .int .i64 0]) (hne : gx ≠ gm ∧ gx ≠ gc) (hd : d = 1) (hc : ¬ (0 ≤ at' ∧ at' ≤ (C.length : Int) - 1))
    (hQ : ∀ W' ev a n c Ds' {z13 z14 z15 z34 z35 z36 z37 z38 z39 z40 z41 z42 z43 z44 z45 z46 z47 z48 z49 z50 z51 z52 z53 z54 z55 z56 z57 z58 z59 z60 z61 z62 z63 z64 z65 z66 z67 z68 z69 z70 z71 z72 z73 z74 z75 z76 z77 z78 z79 z80 z81 z82 z83 z84 z85 z86 z87 z88 z89 z90 : Value}, StA W W' gm gc gx (pkS (C, nx) (d, at', z)) ev a n c (pkO (C, nx) (d, at', z)) Ds Ds' → Q .normal (Act.mk (List.toArray (u0 :: u1 :: u2 :: u3 :: u4 :: u5 :: (.pointer (some ⟨gm, 0, none⟩)) :: u7 :: u8 :: u9 :: (.pointer (some ⟨gp, 0, none⟩)) :: (.pointer (some ⟨gx, 0, none⟩)) :: (ev) :: z13 :: z14 :: z15 :: u16 :: u17 :: u18 :: u19 :: u20 :: u21 :: u22 :: u23 :: u24 :: u25 :: u26 :: u27 :: u28 :: u29 :: u30 :: u31 :: u32 :: u33 :: z34 :: z35 :: z36 :: z37 :: z38 :: z39 :: z40 :: z41 :: z42 :: z43 :: z44 :: z45 :: z46 :: z47 :: z48 :: z49 :: z50 :: z51 :: z52 :: z53 :: z54 :: z55 :: z56 :: z57 :: z58 :: z59 :: z60 :: z61 :: z62 :: z63 :: z64 :: z65 :: z66 :: z67 :: z68 :: z69 :: z70 :: z71 :: z72 :: z73 :: z74 :: z75 :: z76 :: z77 :: z78 :: z79 :: z80 :: z81 :: z82 :: z83 :: z84 :: z85 :: z86 :: z87 :: z88 :: z89 :: z90 :: u91 :: u92 :: u93 :: u94 :: u95 :: u96 :: u97 :: u98 :: u99 :: u100 :: u101 :: u102 :: u103 :: u104 :: u105 :: u106 :: u107 :: [])) (Ds'.map mark)) W') :
    Code.wp Tryd.prog (headM (tailR 12 (Tryd.f5.body.getD .skip))) Q (Act.mk (List.toArray (u0 :: u1 :: u2 :: u3 :: u4 :: u5 :: (.pointer (some ⟨gm, 0, none⟩)) :: u7 :: u8 :: u9 :: (.pointer (some ⟨gp, 0, none⟩)) :: (.pointer (some ⟨gx, 0, none⟩)) :: (.nilIface) :: u13 :: u14 :: u15 :: u16 :: u17 :: u18 :: u19 :: u20 :: u21 :: u22 :: u23 :: u24 :: u25 :: u26 :: u27 :: u28 :: u29 :: u30 :: u31 :: u32 :: u33 :: u34 :: u35 :: u36 :: u37 :: u38 :: u39 :: u40 :: u41 :: u42 :: u43 :: u44 :: u45 :: u46 :: u47 :: u48 :: u49 :: u50 :: u51 :: u52 :: u53 :: u54 :: u55 :: u56 :: u57 :: u58 :: u59 :: u60 :: u61 :: u62 :: u63 :: u64 :: u65 :: u66 :: u67 :: u68 :: u69 :: u70 :: u71 :: u72 :: u73 :: u74 :: u75 :: u76 :: u77 :: u78 :: u79 :: u80 :: u81 :: u82 :: u83 :: u84 :: u85 :: u86 :: u87 :: u88 :: u89 :: u90 :: u91 :: u92 :: u93 :: u94 :: u95 :: u96 :: u97 :: u98 :: u99 :: u100 :: u101 :: u102 :: u103 :: u104 :: u105 :: u106 :: u107 :: [])) (Ds.map mark)) W := by
  have HQ : Hid _ := @hQ
  clear hQ
  have c0 : W.cell? ⟨gp, 0, none⟩ = some (.int .i64 d) := bp.cell 0 (by simp)
  have c1 : W.cell? ⟨gp, 1, none⟩ = some (.int .i64 at') := bp.cell 1 (by simp)
  have c2 : W.cell? ⟨gp, 2, none⟩ = some (.int .i64 z) := bp.cell 2 (by simp)
  have hmo := hM.most
  have HE : Hid (pkS (C, nx) (d, at', z) = (C, nx) ∧ pkO (C, nx) (d, at', z) = (0, [], 2, 0)) := by
    subst hd
    refine ⟨?_, ?_⟩
    · unfold pkS
      dsimp only
      rw [if_pos rfl, if_neg hc]
      try rfl
    · unfold pkO
      dsimp only
      rw [if_pos rfl, if_neg hc]
      try rfl
  rw [HE.out.1, HE.out.2] at HQ
  clear HE
  subst hd
  have HC := mload_bad gm gc nx C at' W hM hc
  conv => enter [2]; whnf
  go_wp2_with (go_at_call 11; refine HC.mono ?_; rintro e W1 ⟨rfl, hw⟩; have hw := hw.symm; subst hw; have bx1 := bx; have x0 := bx1.cell 0 (by simp); simp at x0; have xf := bx1.free 0)
  (try simp only [Exit.inBlock, Exit.then])
  exact HQ.out _ _ none 0 0 Ds ⟨(hM).grown (grown_set W gx 0 (.int .i64 0)) (by simp; exact fun e => hne.1 e.symm) (by simp; exact fun e => hne.2 e.symm), bx1.set 0 (.int .i64 0), ansZ_nil _ _, .inr (.inl ⟨rfl, rfl, rfl⟩), (Frm.refl (fun k => mB gm gc k ∨ k = gx) W).trans (Frm.of (p := fun k => k = gx) (grown_set W gx 0 (.int .i64 0)) (fun k e _ => (Option.some.inj e).symm)) (fun i _ h => .inr h), [], rfl, List.nodup_nil, (fun D h => by cases h)⟩
set_option maxHeartbeats 16000000 in
theorem rm_1l {u0 u1 u2 u3 u4 u5 u7 u8 u9 u13 u14 u15 u16 u17 u18 u19 u20 u21 u22 u23 u24 u25 u26 u27 u28 u29 u30 u31 u32 u33 u34 u35 u36 u37 u38 u39 u40 u41 u42 u43 u44 u45 u46 u47 u48 u49 u50 u51 u52 u53 u54 u55 u56 u57 u58 u59 u60 u61 u62 u63 u64 u65 u66 u67 u68 u69 u70 u71 u72 u73 u74 u75 u76 u77 u78 u79 u80 u81 u82 u83 u84 u85 u86 u87 u88 u89 u90 u91 u92 u93 u94 u95 u96 u97 u98 u99 u100 u101 u102 u103 u104 u105 u106 u107 : Value} {Q : Exit → Act → World → Prop} (W : World) (gm gc gp gx : Nat) (C : List Nat) (nx : Nat) (d at' z : Int) (Ds : List Nat) (hM : Mem W gm gc nx C) (bp : BxS W gp 33 #[.int .i64 d, .int .i64 at', .int .i64 z]) (bx : BxS W gx 29 #[.int .i64 0, .slice none 0 0, .int .i64 0, .int .i64 0]) (hne : gx ≠ gm ∧ gx ≠ gc) (hd : d = 1) (hc : 0 ≤ at' ∧ at' ≤ (C.length : Int) - 1) (hw : wrW (nth C at'.toNat) = 2)
    (hQ : ∀ W' ev a n c Ds' {z13 z14 z15 z34 z35 z36 z37 z38 z39 z40 z41 z42 z43 z44 z45 z46 z47 z48 z49 z50 z51 z52 z53 z54 z55 z56 z57 z58 z59 z60 z61 z62 z63 z64 z65 z66 z67 z68 z69 z70 z71 z72 z73 z74 z75 z76 z77 z78 z79 z80 z81 z82 z83 z84 z85 z86 z87 z88 z89 z90 : Value}, StA W W' gm gc gx (pkS (C, nx) (d, at', z)) ev a n c (pkO (C, nx) (d, at', z)) Ds Ds' → Q .normal (Act.mk (List.toArray (u0 :: u1 :: u2 :: u3 :: u4 :: u5 :: (.pointer (some ⟨gm, 0, none⟩)) :: u7 :: u8 :: u9 :: (.pointer (some ⟨gp, 0, none⟩)) :: (.pointer (some ⟨gx, 0, none⟩)) :: (ev) :: z13 :: z14 :: z15 :: u16 :: u17 :: u18 :: u19 :: u20 :: u21 :: u22 :: u23 :: u24 :: u25 :: u26 :: u27 :: u28 :: u29 :: u30 :: u31 :: u32 :: u33 :: z34 :: z35 :: z36 :: z37 :: z38 :: z39 :: z40 :: z41 :: z42 :: z43 :: z44 :: z45 :: z46 :: z47 :: z48 :: z49 :: z50 :: z51 :: z52 :: z53 :: z54 :: z55 :: z56 :: z57 :: z58 :: z59 :: z60 :: z61 :: z62 :: z63 :: z64 :: z65 :: z66 :: z67 :: z68 :: z69 :: z70 :: z71 :: z72 :: z73 :: z74 :: z75 :: z76 :: z77 :: z78 :: z79 :: z80 :: z81 :: z82 :: z83 :: z84 :: z85 :: z86 :: z87 :: z88 :: z89 :: z90 :: u91 :: u92 :: u93 :: u94 :: u95 :: u96 :: u97 :: u98 :: u99 :: u100 :: u101 :: u102 :: u103 :: u104 :: u105 :: u106 :: u107 :: [])) (Ds'.map mark)) W') :
    Code.wp Tryd.prog (headM (tailR 12 (Tryd.f5.body.getD .skip))) Q (Act.mk (List.toArray (u0 :: u1 :: u2 :: u3 :: u4 :: u5 :: (.pointer (some ⟨gm, 0, none⟩)) :: u7 :: u8 :: u9 :: (.pointer (some ⟨gp, 0, none⟩)) :: (.pointer (some ⟨gx, 0, none⟩)) :: (.nilIface) :: u13 :: u14 :: u15 :: u16 :: u17 :: u18 :: u19 :: u20 :: u21 :: u22 :: u23 :: u24 :: u25 :: u26 :: u27 :: u28 :: u29 :: u30 :: u31 :: u32 :: u33 :: u34 :: u35 :: u36 :: u37 :: u38 :: u39 :: u40 :: u41 :: u42 :: u43 :: u44 :: u45 :: u46 :: u47 :: u48 :: u49 :: u50 :: u51 :: u52 :: u53 :: u54 :: u55 :: u56 :: u57 :: u58 :: u59 :: u60 :: u61 :: u62 :: u63 :: u64 :: u65 :: u66 :: u67 :: u68 :: u69 :: u70 :: u71 :: u72 :: u73 :: u74 :: u75 :: u76 :: u77 :: u78 :: u79 :: u80 :: u81 :: u82 :: u83 :: u84 :: u85 :: u86 :: u87 :: u88 :: u89 :: u90 :: u91 :: u92 :: u93 :: u94 :: u95 :: u96 :: u97 :: u98 :: u99 :: u100 :: u101 :: u102 :: u103 :: u104 :: u105 :: u106 :: u107 :: [])) (Ds.map mark)) W := by
  have HQ : Hid _ := @hQ
  clear hQ
  have c0 : W.cell? ⟨gp, 0, none⟩ = some (.int .i64 d) := bp.cell 0 (by simp)
  have c1 : W.cell? ⟨gp, 1, none⟩ = some (.int .i64 at') := bp.cell 1 (by simp)
  have c2 : W.cell? ⟨gp, 2, none⟩ = some (.int .i64 z) := bp.cell 2 (by simp)
  have hmo := hM.most
  obtain ⟨k, rfl⟩ : ∃ k : Nat, at' = (k : Int) := ⟨at'.toNat, by omega⟩
  have HE : Hid (pkS (C, nx) (d, (k : Int), z) = (C, nx) ∧ pkO (C, nx) (d, (k : Int), z) = (0, [], 18, (k : Int))) := by
    subst hd
    refine ⟨?_, ?_⟩
    · unfold pkS
      dsimp only
      rw [if_pos rfl, if_pos hc, show ((k : Int).toNat) = k from rfl, show viW (nth C k) = nth C k from by { unfold viW; exact if_pos hw }, set_nth]
      try rfl
    · unfold pkO
      dsimp only
      rw [if_pos rfl, if_pos hc, if_pos hw]
      try rfl
  rw [HE.out.1, HE.out.2] at HQ
  clear HE
  subst hd
  have HC := mload_lost gm gc nx k C W hM (by omega) hw
  conv => enter [2]; whnf
  go_wp2_with (go_at_call 11; refine HC.mono ?_; rintro e W1 ⟨gl, rfl, hgl, hln, hM1, hg⟩; have bx1 := bx.keep hg (by simp; exact hne.2); have x0 := bx1.cell 0 (by simp); simp at x0; have xf := bx1.free 0)
  (try simp only [Exit.inBlock, Exit.then])
  exact HQ.out _ _ none 0 0 Ds ⟨(hM1).grown (grown_set W1 gx 0 (.int .i64 0)) (by simp; exact fun e => hne.1 e.symm) (by simp; exact fun e => hne.2 e.symm), bx1.set 0 (.int .i64 0), ansZ_nil _ _, .inr (.inr ⟨gl, rfl, hgl.keep (grown_set W1 gx 0 (.int .i64 0)) (by have := bx.lt; simp; omega), rfl⟩), (Frm.of (p := fun k => mB gm gc k ∨ k = gx) hg (fun k e _ => .inl (.inr (Option.some.inj e).symm))).trans (Frm.of (p := fun k => k = gx) (grown_set W1 gx 0 (.int .i64 0)) (fun k e _ => (Option.some.inj e).symm)) (fun i _ h => .inr h), [], rfl, List.nodup_nil, (fun D h => by cases h)⟩
set_option maxHeartbeats 16000000 in
theorem rm_1g {u0 u1 u2 u3 u4 u5 u7 u8 u9 u13 u14 u15 u16 u17 u18 u19 u20 u21 u22 u23 u24 u25 u26 u27 u28 u29 u30 u31 u32 u33 u34 u35 u36 u37 u38 u39 u40 u41 u42 u43 u44 u45 u46 u47 u48 u49 u50 u51 u52 u53 u54 u55 u56 u57 u58 u59 u60 u61 u62 u63 u64 u65 u66 u67 u68 u69 u70 u71 u72 u73 u74 u75 u76 u77 u78 u79 u80 u81 u82 u83 u84 u85 u86 u87 u88 u89 u90 u91 u92 u93 u94 u95 u96 u97 u98 u99 u100 u101 u102 u103 u104 u105 u106 u107 : Value} {Q : Exit → Act → World → Prop} (W : World) (gm gc gp gx : Nat) (C : List Nat) (nx : Nat) (d at' z : Int) (Ds : List Nat) (hM : Mem W gm gc nx C) (bp : BxS W gp 33 #[.int .i64 d, .int .i64 at', .int .i64 z]) (bx : BxS W gx 29 #[.int .i64 0, .slice none 0 0, .int .i64 0, .int .i64 0]) (hne : gx ≠ gm ∧ gx ≠ gc) (hd : d = 1) (hc : 0 ≤ at' ∧ at' ≤ (C.length : Int) - 1) (hw : ¬ wrW (nth C at'.toNat) = 2)
    (hQ : ∀ W' ev a n c Ds' {z13 z14 z15 z34 z35 z36 z37 z38 z39 z40 z41 z42 z43 z44 z45 z46 z47 z48 z49 z50 z51 z52 z53 z54 z55 z56 z57 z58 z59 z60 z61 z62 z63 z64 z65 z66 z67 z68 z69 z70 z71 z72 z73 z74 z75 z76 z77 z78 z79 z80 z81 z82 z83 z84 z85 z86 z87 z88 z89 z90 : Value}, StA W W' gm gc gx (pkS (C, nx) (d, at', z)) ev a n c (pkO (C, nx) (d, at', z)) Ds Ds' → Q .normal (Act.mk (List.toArray (u0 :: u1 :: u2 :: u3 :: u4 :: u5 :: (.pointer (some ⟨gm, 0, none⟩)) :: u7 :: u8 :: u9 :: (.pointer (some ⟨gp, 0, none⟩)) :: (.pointer (some ⟨gx, 0, none⟩)) :: (ev) :: z13 :: z14 :: z15 :: u16 :: u17 :: u18 :: u19 :: u20 :: u21 :: u22 :: u23 :: u24 :: u25 :: u26 :: u27 :: u28 :: u29 :: u30 :: u31 :: u32 :: u33 :: z34 :: z35 :: z36 :: z37 :: z38 :: z39 :: z40 :: z41 :: z42 :: z43 :: z44 :: z45 :: z46 :: z47 :: z48 :: z49 :: z50 :: z51 :: z52 :: z53 :: z54 :: z55 :: z56 :: z57 :: z58 :: z59 :: z60 :: z61 :: z62 :: z63 :: z64 :: z65 :: z66 :: z67 :: z68 :: z69 :: z70 :: z71 :: z72 :: z73 :: z74 :: z75 :: z76 :: z77 :: z78 :: z79 :: z80 :: z81 :: z82 :: z83 :: z84 :: z85 :: z86 :: z87 :: z88 :: z89 :: z90 :: u91 :: u92 :: u93 :: u94 :: u95 :: u96 :: u97 :: u98 :: u99 :: u100 :: u101 :: u102 :: u103 :: u104 :: u105 :: u106 :: u107 :: [])) (Ds'.map mark)) W') :
    Code.wp Tryd.prog (headM (tailR 12 (Tryd.f5.body.getD .skip))) Q (Act.mk (List.toArray (u0 :: u1 :: u2 :: u3 :: u4 :: u5 :: (.pointer (some ⟨gm, 0, none⟩)) :: u7 :: u8 :: u9 :: (.pointer (some ⟨gp, 0, none⟩)) :: (.pointer (some ⟨gx, 0, none⟩)) :: (.nilIface) :: u13 :: u14 :: u15 :: u16 :: u17 :: u18 :: u19 :: u20 :: u21 :: u22 :: u23 :: u24 :: u25 :: u26 :: u27 :: u28 :: u29 :: u30 :: u31 :: u32 :: u33 :: u34 :: u35 :: u36 :: u37 :: u38 :: u39 :: u40 :: u41 :: u42 :: u43 :: u44 :: u45 :: u46 :: u47 :: u48 :: u49 :: u50 :: u51 :: u52 :: u53 :: u54 :: u55 :: u56 :: u57 :: u58 :: u59 :: u60 :: u61 :: u62 :: u63 :: u64 :: u65 :: u66 :: u67 :: u68 :: u69 :: u70 :: u71 :: u72 :: u73 :: u74 :: u75 :: u76 :: u77 :: u78 :: u79 :: u80 :: u81 :: u82 :: u83 :: u84 :: u85 :: u86 :: u87 :: u88 :: u89 :: u90 :: u91 :: u92 :: u93 :: u94 :: u95 :: u96 :: u97 :: u98 :: u99 :: u100 :: u101 :: u102 :: u103 :: u104 :: u105 :: u106 :: u107 :: [])) (Ds.map mark)) W := by
  have HQ : Hid _ := @hQ
  clear hQ
  have c0 : W.cell? ⟨gp, 0, none⟩ = some (.int .i64 d) := bp.cell 0 (by simp)
  have c1 : W.cell? ⟨gp, 1, none⟩ = some (.int .i64 at') := bp.cell 1 (by simp)
  have c2 : W.cell? ⟨gp, 2, none⟩ = some (.int .i64 z) := bp.cell 2 (by simp)
  have hmo := hM.most
  obtain ⟨k, rfl⟩ : ∃ k : Nat, at' = (k : Int) := ⟨at'.toNat, by omega⟩
  have HE : Hid (pkS (C, nx) (d, (k : Int), z) = (C.set k (riW (nth C k)), nx) ∧ pkO (C, nx) (d, (k : Int), z) = (((gaW (riW (nth C k)) 39 : Nat) : Int), [], 0, 0)) := by
    subst hd
    refine ⟨?_, ?_⟩
    · unfold pkS
      dsimp only
      rw [if_pos rfl, if_pos hc, show ((k : Int).toNat) = k from rfl, show viW (nth C k) = riW (nth C k) from by { unfold viW; exact if_neg hw }]
      try rfl
    · unfold pkO
      dsimp only
      rw [if_pos rfl, if_pos hc, if_neg hw]
      try rfl
  rw [HE.out.1, HE.out.2] at HQ
  clear HE
  subst hd
  have hle := mwr_le (nth C k)
  have HC := mload_ok gm gc nx k C W hM (by omega) (by have hw : ¬ wrW (nth C k) = 2 := hw; omega)
  generalize gaW (riW (nth C k)) 39 = X at HC HQ
  conv => enter [2]; whnf
  go_wp2_with (go_at_call 11; refine HC.mono ?_; rintro e W1 ⟨rfl, hM1, hg⟩; have bx1 := bx.keep hg (by simp; exact hne.2); have x0 := bx1.cell 0 (by simp); simp at x0; have xf := bx1.free 0)
  (try simp only [Exit.inBlock, Exit.then])
  exact HQ.out _ _ none 0 0 Ds ⟨(hM1).grown (grown_set W1 gx 0 (.int .i64 (X : Int))) (by simp; exact fun e => hne.1 e.symm) (by simp; exact fun e => hne.2 e.symm), bx1.set 0 (.int .i64 (X : Int)), ansZ_nil _ _, .inl ⟨rfl, rfl, rfl⟩, (Frm.of (p := fun k => mB gm gc k ∨ k = gx) hg (fun k e _ => .inl (.inr (Option.some.inj e).symm))).trans (Frm.of (p := fun k => k = gx) (grown_set W1 gx 0 (.int .i64 (X : Int))) (fun k e _ => (Option.some.inj e).symm)) (fun i _ h => .inr h), [], rfl, List.nodup_nil, (fun D h => by cases h)⟩
set_option maxHeartbeats 16000000 in
theorem rm_4b {u0 u1 u2 u3 u4 u5 u7 u8 u9 u13 u14 u15 u16 u17 u18 u19 u20 u21 u22 u23 u24 u25 u26 u27 u28 u29 u30 u31 u32 u33 u34 u35 u36 u37 u38 u39 u40 u41 u42 u43 u44 u45 u46 u47 u48 u49 u50 u51 u52 u53 u54 u55 u56 u57 u58 u59 u60 u61 u62 u63 u64 u65 u66 u67 u68 u69 u70 u71 u72 u73 u74 u75 u76 u77 u78 u79 u80 u81 u82 u83 u84 u85 u86 u87 u88 u89 u90 u91 u92 u93 u94 u95 u96 u97 u98 u99 u100 u101 u102 u103 u104 u105 u106 u107 : Value} {Q : Exit → Act → World → Prop} (W : World) (gm gc gp gx : Nat) (C : List Nat) (nx : Nat) (d at' z : Int) (Ds : List Nat) (hM : Mem W gm gc nx C) (bp : BxS W gp 33 #[.int .i64 d, .int .i64 at', .int .i64 z]) (bx : BxS W gx 29 #[.int .i64 0, .slice none 0 0, .int .i64 0, .int .i64 0]) (hne : gx ≠ gm ∧ gx ≠ gc) (hd : d = 4) (hc : ¬ (0 ≤ z ∧ z ≤ (C.length : Int)))
    (hQ : ∀ W' ev a n c Ds' {z13 z14 z15 z34 z35 z36 z37 z38 z39 z40 z41 z42 z43 z44 z45 z46 z47 z48 z49 z50 z51 z52 z53 z54 z55 z56 z57 z58 z59 z60 z61 z62 z63 z64 z65 z66 z67 z68 z69 z70 z71 z72 z73 z74 z75 z76 z77 z78 z79 z80 z81 z82 z83 z84 z85 z86 z87 z88 z89 z90 : Value}, StA W W' gm gc gx (pkS (C, nx) (d, at', z)) ev a n c (pkO (C, nx) (d, at', z)) Ds Ds' → Q .normal (Act.mk (List.toArray (u0 :: u1 :: u2 :: u3 :: u4 :: u5 :: (.pointer (some ⟨gm, 0, none⟩)) :: u7 :: u8 :: u9 :: (.pointer (some ⟨gp, 0, none⟩)) :: (.pointer (some ⟨gx, 0, none⟩)) :: (ev) :: z13 :: z14 :: z15 :: u16 :: u17 :: u18 :: u19 :: u20 :: u21 :: u22 :: u23 :: u24 :: u25 :: u26 :: u27 :: u28 :: u29 :: u30 :: u31 :: u32 :: u33 :: z34 :: z35 :: z36 :: z37 :: z38 :: z39 :: z40 :: z41 :: z42 :: z43 :: z44 :: z45 :: z46 :: z47 :: z48 :: z49 :: z50 :: z51 :: z52 :: z53 :: z54 :: z55 :: z56 :: z57 :: z58 :: z59 :: z60 :: z61 :: z62 :: z63 :: z64 :: z65 :: z66 :: z67 :: z68 :: z69 :: z70 :: z71 :: z72 :: z73 :: z74 :: z75 :: z76 :: z77 :: z78 :: z79 :: z80 :: z81 :: z82 :: z83 :: z84 :: z85 :: z86 :: z87 :: z88 :: z89 :: z90 :: u91 :: u92 :: u93 :: u94 :: u95 :: u96 :: u97 :: u98 :: u99 :: u100 :: u101 :: u102 :: u103 :: u104 :: u105 :: u106 :: u107 :: [])) (Ds'.map mark)) W') :
    Code.wp Tryd.prog (headM (tailR 12 (Tryd.f5.body.getD .skip))) Q (Act.mk (List.toArray (u0 :: u1 :: u2 :: u3 :: u4 :: u5 :: (.pointer (some ⟨gm, 0, none⟩)) :: u7 :: u8 :: u9 :: (.pointer (some ⟨gp, 0, none⟩)) :: (.pointer (some ⟨gx, 0, none⟩)) :: (.nilIface) :: u13 :: u14 :: u15 :: u16 :: u17 :: u18 :: u19 :: u20 :: u21 :: u22 :: u23 :: u24 :: u25 :: u26 :: u27 :: u28 :: u29 :: u30 :: u31 :: u32 :: u33 :: u34 :: u35 :: u36 :: u37 :: u38 :: u39 :: u40 :: u41 :: u42 :: u43 :: u44 :: u45 :: u46 :: u47 :: u48 :: u49 :: u50 :: u51 :: u52 :: u53 :: u54 :: u55 :: u56 :: u57 :: u58 :: u59 :: u60 :: u61 :: u62 :: u63 :: u64 :: u65 :: u66 :: u67 :: u68 :: u69 :: u70 :: u71 :: u72 :: u73 :: u74 :: u75 :: u76 :: u77 :: u78 :: u79 :: u80 :: u81 :: u82 :: u83 :: u84 :: u85 :: u86 :: u87 :: u88 :: u89 :: u90 :: u91 :: u92 :: u93 :: u94 :: u95 :: u96 :: u97 :: u98 :: u99 :: u100 :: u101 :: u102 :: u103 :: u104 :: u105 :: u106 :: u107 :: [])) (Ds.map mark)) W := by
  have HQ : Hid _ := @hQ
  clear hQ
  have c0 : W.cell? ⟨gp, 0, none⟩ = some (.int .i64 d) := bp.cell 0 (by simp)
  have c1 : W.cell? ⟨gp, 1, none⟩ = some (.int .i64 at') := bp.cell 1 (by simp)
  have c2 : W.cell? ⟨gp, 2, none⟩ = some (.int .i64 z) := bp.cell 2 (by simp)
  have hmo := hM.most
  have HE : Hid (pkS (C, nx) (d, at', z) = (C, nx) ∧ pkO (C, nx) (d, at', z) = (0, [], 2, 0)) := by
    subst hd
    refine ⟨?_, ?_⟩
    · unfold pkS
      dsimp only
      rw [if_neg (by decide), if_neg (by decide), if_neg (by decide), if_pos rfl, if_neg hc]
      try rfl
    · unfold pkO
      dsimp only
      rw [if_neg (by decide), if_neg (by decide), if_neg (by decide), if_pos rfl, if_neg hc]
      try rfl
  rw [HE.out.1, HE.out.2] at HQ
  clear HE
  subst hd
  have HC := scrub_bad gm gc nx C z W hM hc
  conv => enter [2]; whnf
  go_wp2_with (go_at_call 14; refine HC.mono ?_; rintro e W1 ⟨rfl, hw⟩; have hw := hw.symm; subst hw; have bx1 := bx; have x0 := bx1.cell 0 (by simp); simp at x0; have xf := bx1.free 0; have x1 := bx1.cell 1 (by simp); simp at x1; have xf1 := bx1.free 1)
  (try simp only [Exit.inBlock, Exit.then])
  exact HQ.out _ _ none 0 0 Ds ⟨((hM).grown (grown_set W gx 0 (.int .i64 0)) (by simp; exact fun e => hne.1 e.symm) (by simp; exact fun e => hne.2 e.symm)).grown (grown_set (W.setCell ⟨gx, 0, none⟩ (.int .i64 0)) gx 1 (.slice none 0 0)) (by simp; exact fun e => hne.1 e.symm) (by simp; exact fun e => hne.2 e.symm), (bx1.set 0 (.int .i64 0)).set 1 (.slice none 0 0), ansZ_nil _ _, .inr (.inl ⟨rfl, rfl, rfl⟩), ((Frm.refl (fun k => mB gm gc k ∨ k = gx) W).trans (Frm.of (p := fun k => k = gx) (grown_set W gx 0 (.int .i64 0)) (fun k e _ => (Option.some.inj e).symm)) (fun i _ h => .inr h)).trans (Frm.of (p := fun k => k = gx) (grown_set (W.setCell ⟨gx, 0, none⟩ (.int .i64 0)) gx 1 (.slice none 0 0)) (fun k e _ => (Option.some.inj e).symm)) (fun i _ h => .inr h), [], rfl, List.nodup_nil, (fun D h => by cases h)⟩
set_option maxHeartbeats 16000000 in
theorem rm_4g {u0 u1 u2 u3 u4 u5 u7 u8 u9 u13 u14 u15 u16 u17 u18 u19 u20 u21 u22 u23 u24 u25 u26 u27 u28 u29 u30 u31 u32 u33 u34 u35 u36 u37 u38 u39 u40 u41 u42 u43 u44 u45 u46 u47 u48 u49 u50 u51 u52 u53 u54 u55 u56 u57 u58 u59 u60 u61 u62 u63 u64 u65 u66 u67 u68 u69 u70 u71 u72 u73 u74 u75 u76 u77 u78 u79 u80 u81 u82 u83 u84 u85 u86 u87 u88 u89 u90 u91 u92 u93 u94 u95 u96 u97 u98 u99 u100 u101 u102 u103 u104 u105 u106 u107 : Value} {Q : Exit → Act → World → Prop} (W : World) (gm gc gp gx : Nat) (C : List Nat) (nx : Nat) (d at' z : Int) (Ds : List Nat) (hM : Mem W gm gc nx C) (bp : BxS W gp 33 #[.int .i64 d, .int .i64 at', .int .i64 z]) (bx : BxS W gx 29 #[.int .i64 0, .slice none 0 0, .int .i64 0, .int .i64 0]) (hne : gx ≠ gm ∧ gx ≠ gc) (hd : d = 4) (hc : 0 ≤ z ∧ z ≤ (C.length : Int))
    (hQ : ∀ W' ev a n c Ds' {z13 z14 z15 z34 z35 z36 z37 z38 z39 z40 z41 z42 z43 z44 z45 z46 z47 z48 z49 z50 z51 z52 z53 z54 z55 z56 z57 z58 z59 z60 z61 z62 z63 z64 z65 z66 z67 z68 z69 z70 z71 z72 z73 z74 z75 z76 z77 z78 z79 z80 z81 z82 z83 z84 z85 z86 z87 z88 z89 z90 : Value}, StA W W' gm gc gx (pkS (C, nx) (d, at', z)) ev a n c (pkO (C, nx) (d, at', z)) Ds Ds' → Q .normal (Act.mk (List.toArray (u0 :: u1 :: u2 :: u3 :: u4 :: u5 :: (.pointer (some ⟨gm, 0, none⟩)) :: u7 :: u8 :: u9 :: (.pointer (some ⟨gp, 0, none⟩)) :: (.pointer (some ⟨gx, 0, none⟩)) :: (ev) :: z13 :: z14 :: z15 :: u16 :: u17 :: u18 :: u19 :: u20 :: u21 :: u22 :: u23 :: u24 :: u25 :: u26 :: u27 :: u28 :: u29 :: u30 :: u31 :: u32 :: u33 :: z34 :: z35 :: z36 :: z37 :: z38 :: z39 :: z40 :: z41 :: z42 :: z43 :: z44 :: z45 :: z46 :: z47 :: z48 :: z49 :: z50 :: z51 :: z52 :: z53 :: z54 :: z55 :: z56 :: z57 :: z58 :: z59 :: z60 :: z61 :: z62 :: z63 :: z64 :: z65 :: z66 :: z67 :: z68 :: z69 :: z70 :: z71 :: z72 :: z73 :: z74 :: z75 :: z76 :: z77 :: z78 :: z79 :: z80 :: z81 :: z82 :: z83 :: z84 :: z85 :: z86 :: z87 :: z88 :: z89 :: z90 :: u91 :: u92 :: u93 :: u94 :: u95 :: u96 :: u97 :: u98 :: u99 :: u100 :: u101 :: u102 :: u103 :: u104 :: u105 :: u106 :: u107 :: [])) (Ds'.map mark)) W') :
    Code.wp Tryd.prog (headM (tailR 12 (Tryd.f5.body.getD .skip))) Q (Act.mk (List.toArray (u0 :: u1 :: u2 :: u3 :: u4 :: u5 :: (.pointer (some ⟨gm, 0, none⟩)) :: u7 :: u8 :: u9 :: (.pointer (some ⟨gp, 0, none⟩)) :: (.pointer (some ⟨gx, 0, none⟩)) :: (.nilIface) :: u13 :: u14 :: u15 :: u16 :: u17 :: u18 :: u19 :: u20 :: u21 :: u22 :: u23 :: u24 :: u25 :: u26 :: u27 :: u28 :: u29 :: u30 :: u31 :: u32 :: u33 :: u34 :: u35 :: u36 :: u37 :: u38 :: u39 :: u40 :: u41 :: u42 :: u43 :: u44 :: u45 :: u46 :: u47 :: u48 :: u49 :: u50 :: u51 :: u52 :: u53 :: u54 :: u55 :: u56 :: u57 :: u58 :: u59 :: u60 :: u61 :: u62 :: u63 :: u64 :: u65 :: u66 :: u67 :: u68 :: u69 :: u70 :: u71 :: u72 :: u73 :: u74 :: u75 :: u76 :: u77 :: u78 :: u79 :: u80 :: u81 :: u82 :: u83 :: u84 :: u85 :: u86 :: u87 :: u88 :: u89 :: u90 :: u91 :: u92 :: u93 :: u94 :: u95 :: u96 :: u97 :: u98 :: u99 :: u100 :: u101 :: u102 :: u103 :: u104 :: u105 :: u106 :: u107 :: [])) (Ds.map mark)) W := by
  have HQ : Hid _ := @hQ
  clear hQ
  have c0 : W.cell? ⟨gp, 0, none⟩ = some (.int .i64 d) := bp.cell 0 (by simp)
  have c1 : W.cell? ⟨gp, 1, none⟩ = some (.int .i64 at') := bp.cell 1 (by simp)
  have c2 : W.cell? ⟨gp, 2, none⟩ = some (.int .i64 z) := bp.cell 2 (by simp)
  have hmo := hM.most
  obtain ⟨y, rfl⟩ : ∃ y : Nat, z = (y : Int) := ⟨z.toNat, by omega⟩
  have HE : Hid (pkS (C, nx) (d, at', (y : Int)) = (mgC C nx y, (nx + y) % C.length) ∧ pkO (C, nx) (d, at', (y : Int)) = (((mgN C nx y : Nat) : Int), mgL C nx y, 0, 0)) := by
    subst hd
    refine ⟨?_, ?_⟩
    · unfold pkS
      dsimp only
      rw [if_neg (by decide), if_neg (by decide), if_neg (by decide), if_pos rfl, if_pos hc]
      try rfl
    · unfold pkO
      dsimp only
      rw [if_neg (by decide), if_neg (by decide), if_neg (by decide), if_pos rfl, if_pos hc]
      try rfl
  rw [HE.out.1, HE.out.2] at HQ
  clear HE
  subst hd
  have HC := scrub_any gm gc nx y C W hM (by omega)
  generalize mgN C nx y = X at HC HQ
  have hlt := bx.lt
  conv => enter [2]; whnf
  go_wp2_with (go_at_call 14; refine HC.mono ?_; rintro e W1 ⟨al, nl, cl, rfl, hM1, hA1, hF1⟩; have bx1 := bx.frmM hF1.toFrm (fun h => h.elim hne.1 hne.2); have x0 := bx1.cell 0 (by simp); simp at x0; have xf := bx1.free 0; have x1 := bx1.cell 1 (by simp); simp at x1; have xf1 := bx1.free 1)
  (try simp only [Exit.inBlock, Exit.then])
  exact HQ.out _ _ al nl cl Ds ⟨((hM1).grown (grown_set W1 gx 0 (.int .i64 (X : Int))) (by simp; exact fun e => hne.1 e.symm) (by simp; exact fun e => hne.2 e.symm)).grown (grown_set (W1.setCell ⟨gx, 0, none⟩ (.int .i64 (X : Int))) gx 1 (.slice al nl cl)) (by simp; exact fun e => hne.1 e.symm) (by simp; exact fun e => hne.2 e.symm), (bx1.set 0 (.int .i64 (X : Int))).set 1 (.slice al nl cl), ((hA1.kept (grown_set W1 gx 0 (.int .i64 (X : Int))) (.inr (fun e => by have := hA1.new gx e; omega))).kept (grown_set _ gx 1 _) (.inr (fun e => by have := hA1.new gx e; omega))), .inl ⟨rfl, rfl, rfl⟩, ((hF1.toFrm.weak (q := fun k => mB gm gc k ∨ k = gx) (fun i _ h => .inl h)).trans (Frm.of (p := fun k => k = gx) (grown_set W1 gx 0 (.int .i64 (X : Int))) (fun k e _ => (Option.some.inj e).symm)) (fun i _ h => .inr h)).trans (Frm.of (p := fun k => k = gx) (grown_set (W1.setCell ⟨gx, 0, none⟩ (.int .i64 (X : Int))) gx 1 (.slice al nl cl)) (fun k e _ => (Option.some.inj e).symm)) (fun i _ h => .inr h), [], rfl, List.nodup_nil, (fun D h => by cases h)⟩
set_option maxHeartbeats 16000000 in
theorem rm_0 {u0 u1 u2 u3 u4 u5 u7 u8 u9 u13 u14 u15 u16 u17 u18 u19 u20 u21 u22 u23 u24 u25 u26 u27 u28 u29 u30 u31 u32 u33 u34 u35 u36 u37 u38 u39 u40 u41 u42 u43 u44 u45 u46 u47 u48 u49 u50 u51 u52 u53 u54 u55 u56 u57 u58 u59 u60 u61 u62 u63 u64 u65 u66 u67 u68 u69 u70 u71 u72 u73 u74 u75 u76 u77 u78 u79 u80 u81 u82 u83 u84 u85 u86 u87 u88 u89 u90 u91 u92 u93 u94 u95 u96 u97 u98 u99 u100 u101 u102 u103 u104 u105 u106 u107 : Value} {Q : Exit → Act → World → Prop} (W : World) (gm gc gp gx : Nat) (C : List Nat) (nx : Nat) (d at' z : Int) (Ds : List Nat) (hM : Mem W gm gc nx C) (bp : BxS W gp 33 #[.int .i64 d, .int .i64 at', .int .i64 z]) (bx : BxS W gx 29 #[.int .i64 0, .slice none 0 0, .int .i64 0, .int .i64 0]) (hne : gx ≠ gm ∧ gx ≠ gc) (hd : d ≠ 1 ∧ d ≠ 2 ∧ d ≠ 3 ∧ d ≠ 4 ∧ d ≠ 5)
    (hQ : ∀ W' ev a n c Ds' {z13 z14 z15 z34 z35 z36 z37 z38 z39 z40 z41 z42 z43 z44 z45 z46 z47 z48 z49 z50 z51 z52 z53 z54 z55 z56 z57 z58 z59 z60 z61 z62 z63 z64 z65 z66 z67 z68 z69 z70 z71 z72 z73 z74 z75 z76 z77 z78 z79 z80 z81 z82 z83 z84 z85 z86 z87 z88 z89 z90 : Value}, StA W W' gm gc gx (pkS (C, nx) (d, at', z)) ev a n c (pkO (C, nx) (d, at', z)) Ds Ds' → Q .normal (Act.mk (List.toArray (u0 :: u1 :: u2 :: u3 :: u4 :: u5 :: (.pointer (some ⟨gm, 0, none⟩)) :: u7 :: u8 :: u9 :: (.pointer (some ⟨gp, 0, none⟩)) :: (.pointer (some ⟨gx, 0, none⟩)) :: (ev) :: z13 :: z14 :: z15 :: u16 :: u17 :: u18 :: u19 :: u20 :: u21 :: u22 :: u23 :: u24 :: u25 :: u26 :: u27 :: u28 :: u29 :: u30 :: u31 :: u32 :: u33 :: z34 :: z35 :: z36 :: z37 :: z38 :: z39 :: z40 :: z41 :: z42 :: z43 :: z44 :: z45 :: z46 :: z47 :: z48 :: z49 :: z50 :: z51 :: z52 :: z53 :: z54 :: z55 :: z56 :: z57 :: z58 :: z59 :: z60 :: z61 :: z62 :: z63 :: z64 :: z65 :: z66 :: z67 :: z68 :: z69 :: z70 :: z71 :: z72 :: z73 :: z74 :: z75 :: z76 :: z77 :: z78 :: z79 :: z80 :: z81 :: z82 :: z83 :: z84 :: z85 :: z86 :: z87 :: z88 :: z89 :: z90 :: u91 :: u92 :: u93 :: u94 :: u95 :: u96 :: u97 :: u98 :: u99 :: u100 :: u101 :: u102 :: u103 :: u104 :: u105 :: u106 :: u107 :: [])) (Ds'.map mark)) W') :
    Code.wp Tryd.prog (headM (tailR 12 (Tryd.f5.body.getD .skip))) Q (Act.mk (List.toArray (u0 :: u1 :: u2 :: u3 :: u4 :: u5 :: (.pointer (some ⟨gm, 0, none⟩)) :: u7 :: u8 :: u9 :: (.pointer (some ⟨gp, 0, none⟩)) :: (.pointer (some ⟨gx, 0, none⟩)) :: (.nilIface) :: u13 :: u14 :: u15 :: u16 :: u17 :: u18 :: u19 :: u20 :: u21 :: u22 :: u23 :: u24 :: u25 :: u26 :: u27 :: u28 :: u29 :: u30 :: u31 :: u32 :: u33 :: u34 :: u35 :: u36 :: u37 :: u38 :: u39 :: u40 :: u41 :: u42 :: u43 :: u44 :: u45 :: u46 :: u47 :: u48 :: u49 :: u50 :: u51 :: u52 :: u53 :: u54 :: u55 :: u56 :: u57 :: u58 :: u59 :: u60 :: u61 :: u62 :: u63 :: u64 :: u65 :: u66 :: u67 :: u68 :: u69 :: u70 :: u71 :: u72 :: u73 :: u74 :: u75 :: u76 :: u77 :: u78 :: u79 :: u80 :: u81 :: u82 :: u83 :: u84 :: u85 :: u86 :: u87 :: u88 :: u89 :: u90 :: u91 :: u92 :: u93 :: u94 :: u95 :: u96 :: u97 :: u98 :: u99 :: u100 :: u101 :: u102 :: u103 :: u104 :: u105 :: u106 :: u107 :: [])) (Ds.map mark)) W := by
  have HQ : Hid _ := @hQ
  clear hQ
  have c0 : W.cell? ⟨gp, 0, none⟩ = some (.int .i64 d) := bp.cell 0 (by simp)
  have c1 : W.cell? ⟨gp, 1, none⟩ = some (.int .i64 at') := bp.cell 1 (by simp)
  have c2 : W.cell? ⟨gp, 2, none⟩ = some (.int .i64 z) := bp.cell 2 (by simp)
  have hmo := hM.most
  obtain ⟨d1, d2, d3, d4, d5⟩ := hd
  have HE : Hid (pkS (C, nx) (d, at', z) = (C, nx) ∧ pkO (C, nx) (d, at', z) = (0, [], 0, 0)) := by
    refine ⟨?_, ?_⟩
    · unfold pkS
      dsimp only
      rw [if_neg d1, if_neg d2, if_neg d3, if_neg d4]
    · unfold pkO
      dsimp only
      rw [if_neg d1, if_neg d2, if_neg d3, if_neg d4, if_neg d5]
  rw [HE.out.1, HE.out.2] at HQ
  clear HE
  conv => enter [2]; whnf
  go_wp2
  (try simp only [Exit.inBlock, Exit.then])
  exact HQ.out _ _ none 0 0 Ds ⟨hM, bx, ansZ_nil _ _, .inl ⟨rfl, rfl, rfl⟩, Frm.refl _ _, [], rfl, List.nodup_nil, (fun D h => by cases h)⟩
end
end Go.Proofs.YtgnicopijocnjaaDoor
