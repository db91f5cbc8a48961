import Derived.Test.YtgnicopijocnjaaDoorMk7
import Derived.Test.YtgnicopijocnjaaDoorMk8
import Derived.Deep.LoopGhost
namespace Go.Proofs.YtgnicopijocnjaaDoor
open Go.RowKit
set_option maxRecDepth 100000
set_option linter.unusedVariables false
set_option linter.unusedSimpArgs false

section
open Go.RowKit Go.Shelf

/-- what comes of a poke, with where its row lies -/
structure Px where
  N : Int
  a : Option Addr
  n : Nat
  c : Nat
  M : List Int
  E : Int
  A : Int
def cellsX (x : Px) : List Value := [.int .i64 x.N, .slice x.a x.n x.c, .int .i64 x.E, .int .i64 x.A]
def flX (xs : List Px) : List Value := xs.flatMap cellsX
def datX (x : Px) : Int × List Int × Int × Int := (x.N, x.M, x.E, x.A)
theorem flX_len (xs : List Px) : (flX xs).length = xs.length * 4 := by
  induction xs with
  | nil => rfl
  | cons f fs ih => show (cellsX f ++ flX fs).length = _; rw [List.length_append, ih, List.length_cons]; show 4 + _ = _; omega
theorem flX_add (xs : List Px) (x : Px) : flX xs ++ cellsX x = flX (xs ++ [x]) := by simp [flX]
/-- a row of them, all of it in memory from block lo on -/
structure OwX (w : World) (lo : Nat) (a : Option Addr) (n c : Nat) (xs : List Px) : Prop where
  row : w.ownsRow 0 29 4 (.slice a n c) n (flX xs)
  new : ∀ g, (Value.slice a n c).ownBlock = some g → lo ≤ g
  dat : ∀ x, x ∈ xs → AnsZ w lo x.a x.n x.c x.M
theorem OwX.len {w : World} {lo n c : Nat} {a : Option Addr} {xs : List Px} (h : OwX w lo a n c xs) : xs.length = n := by
  have h1 := h.row.1
  rw [flX_len] at h1
  omega
theorem OwX.nil (w : World) (lo : Nat) : OwX w lo none 0 0 [] := ⟨World.ownsRow_nil _ _ _ _, (fun g h => by simp [Value.ownBlock] at h), (fun x h => by cases h)⟩
theorem AnsZ.frmM {w w' : World} {p : Nat → Prop} {lo n c : Nat} {a : Option Addr} {L : List Int} (h : AnsZ w lo a n c L) (hF : Frm p w w') (hn : ∀ x, (Value.slice a n c).ownBlock = some x → ¬ p x) : AnsZ w' lo a n c L := ⟨row_frm h.own hF hn, h.new⟩
theorem OwX.frm {w w' : World} {p : Nat → Prop} {lo n c : Nat} {a : Option Addr} {xs : List Px} (h : OwX w lo a n c xs) (hF : Frm p w w') (hn : ∀ k, lo ≤ k → k < w.heap.size → ¬ p k) : OwX w' lo a n c xs :=
  ⟨row_frm h.row hF (fun x hx => hn x (h.new x hx) (row_lt h.row hx).1), h.new, fun x hx => (h.dat x hx).frmM hF (fun y hy => hn y ((h.dat x hx).new y hy) ((h.dat x hx).lt y hy))⟩
theorem OwX.keep {w w' : World} {lo n c : Nat} {a : Option Addr} {xs : List Px} (h : OwX w lo a n c xs) (hg : w.grownBy w' none) : OwX w' lo a n c xs := h.frm (p := fun _ => False) (Frm.of hg (fun k e _ => by cases e)) (fun _ _ _ h => h)
theorem cell_fourX (w : World) (a b c d : Value) (j : Nat) (u : Value) (h : [a, b, c, d][j]? = some u) : (w.alloc (.cells #[a, b, c, d] 29)).cell? ((⟨w.heap.size, 0, none⟩ : Addr).add j) = some u := by
  rw [addr_add, cell_of_row _ _ _ _ _ _ (heap_alloc_new w _)]
  simpa using h
/-- rows of numbers lie in no block of such structs -/
theorem AnsZ.ne_box {w : World} {lo n c gx : Nat} {a : Option Addr} {L : List Int} {cs : Array Value} (h : AnsZ w lo a n c L) (b : BxS w gx 29 cs) : ∀ x, (Value.slice a n c).ownBlock = some x → ¬ x = gx := fun x hx e => by
  subst e
  obtain ⟨_, c1, h1⟩ := row_lt h.own hx
  exact cells_ne h1 b (by decide)
theorem OwX.frm2 {w w' : World} {p : Nat → Prop} {lo n c : Nat} {a : Option Addr} {xs : List Px} (h : OwX w lo a n c xs) (hF : Frm p w w') (h1 : ∀ x, (Value.slice a n c).ownBlock = some x → ¬ p x) (h2 : ∀ y, y ∈ xs → ∀ x, (Value.slice y.a y.n y.c).ownBlock = some x → ¬ p x) : OwX w' lo a n c xs :=
  ⟨row_frm h.row hF h1, h.new, fun x hx => (h.dat x hx).frmM hF (h2 x hx)⟩
theorem OwX.push {w w' : World} {lo m co gx cx : Nat} {ao : Option Addr} {xs : List Px} {x : Px} (h : OwX w lo ao m co xs) (hx : AnsZ w lo x.a x.n x.c x.M) (hlo : lo ≤ w.heap.size) (hg : w.grownBy w' (Value.slice ao m co).ownBlock) (hgx : (Value.slice ao m co).ownBlock = some gx ∨ w.heap.size ≤ gx)
    (hO : w'.ownsRow 0 29 4 (.slice (some ⟨gx, 0, none⟩) (m + 1) cx) (m + 1) (flX xs ++ cellsX x)) : OwX w' lo (some ⟨gx, 0, none⟩) (m + 1) cx (xs ++ [x]) := by
  have key : ∀ y : Px, AnsZ w lo y.a y.n y.c y.M → AnsZ w' lo y.a y.n y.c y.M := fun y hy => hy.kept hg (by
    cases e : (Value.slice y.a y.n y.c).ownBlock with
    | none => exact .inl rfl
    | some g =>
      refine .inr (fun e2 => ?_)
      obtain ⟨_, c1, h1⟩ := row_lt hy.own e
      obtain ⟨_, c2, h2⟩ := row_lt h.row e2.symm
      exact cells_ne h1 h2 (by decide))
  refine ⟨by rw [← flX_add]; exact hO, fun g e => ?_, fun y hy => ?_⟩
  · have e : gx = g := Option.some.inj e
    subst e
    rcases hgx with h1 | h1
    · exact h.new _ h1
    · omega
  · rcases List.mem_append.1 hy with hy | hy
    · exact key y (h.dat y hy)
    · rw [List.mem_singleton.1 hy]; exact key x hx
set_option maxHeartbeats 16000000 in
theorem rm_32 {ds : List Deferred} {u0 u1 u2 u3 u4 u5 u6 u7 u9 u10 u12 u13 u14 u15 u16 u17 u18 u19 u20 u21 u22 u23 u24 u25 u26 u27 u28 u29 u30 u31 u32 u33 u34 u35 u36 u37 u38 u39 u40 u41 u42 u43 u44 u45 u46 u47 u48 u49 u50 u51 u52 u53 u54 u55 u56 u57 u58 u59 u60 u61 u62 u63 u64 u65 u66 u67 u68 u69 u70 u71 u72 u73 u74 u75 u76 u77 u78 u79 u80 u81 u82 u83 u84 u85 u86 u87 u88 u89 u90 u91 u92 u93 u94 u95 u96 u97 u98 u99 u100 u101 u102 u103 u104 u105 u106 u107 : Value} {Q : Exit → Act → World → Prop} (W : World) (lo gx m co : Nat) (ao : Option Addr) (x : Px) (xs : List Px) (hO : OwX W lo ao m co xs) (hA : AnsZ W lo x.a x.n x.c x.M) (bx : BxS W gx 29 #[.int .i64 x.N, .slice x.a x.n x.c, .int .i64 x.E, .int .i64 x.A]) (hlo : lo ≤ W.heap.size) (hm : m ≤ 1000000000000)
    (hQ : ∀ W' gy cy {z102 z103 z104 z105 : Value}, OwX W' lo (some ⟨gy, 0, none⟩) (m + 1) cy (xs ++ [x]) → Frm (fun k => (Value.slice ao m co).ownBlock = some k) W W' → Q .normal (Act.mk (List.toArray (u0 :: u1 :: u2 :: u3 :: u4 :: u5 :: u6 :: u7 :: (.slice (some ⟨gy, 0, none⟩) (m + 1) cy) :: u9 :: u10 :: (.pointer (some ⟨gx, 0, none⟩)) :: u12 :: u13 :: u14 :: u15 :: u16 :: u17 :: u18 :: u19 :: u20 :: u21 :: u22 :: u23 :: u24 :: u25 :: u26 :: u27 :: u28 :: u29 :: u30 :: u31 :: u32 :: u33 :: u34 :: u35 :: u36 :: u37 :: u38 :: u39 :: u40 :: u41 :: u42 :: u43 :: u44 :: u45 :: u46 :: u47 :: u48 :: u49 :: u50 :: u51 :: u52 :: u53 :: u54 :: u55 :: u56 :: u57 :: u58 :: u59 :: u60 :: u61 :: u62 :: u63 :: u64 :: u65 :: u66 :: u67 :: u68 :: u69 :: u70 :: u71 :: u72 :: u73 :: u74 :: u75 :: u76 :: u77 :: u78 :: u79 :: u80 :: u81 :: u82 :: u83 :: u84 :: u85 :: u86 :: u87 :: u88 :: u89 :: u90 :: u91 :: u92 :: u93 :: u94 :: u95 :: u96 :: u97 :: u98 :: u99 :: u100 :: u101 :: z102 :: z103 :: z104 :: z105 :: u106 :: u107 :: [])) ds) W') :
    Code.wp Tryd.prog (tailR 32 (Tryd.f5.body.getD .skip)) Q (Act.mk (List.toArray (u0 :: u1 :: u2 :: u3 :: u4 :: u5 :: u6 :: u7 :: (.slice ao m co) :: u9 :: u10 :: (.pointer (some ⟨gx, 0, none⟩)) :: u12 :: u13 :: u14 :: u15 :: u16 :: u17 :: u18 :: u19 :: u20 :: u21 :: u22 :: u23 :: u24 :: u25 :: u26 :: u27 :: u28 :: u29 :: u30 :: u31 :: u32 :: u33 :: u34 :: u35 :: u36 :: u37 :: u38 :: u39 :: u40 :: u41 :: u42 :: u43 :: u44 :: u45 :: u46 :: u47 :: u48 :: u49 :: u50 :: u51 :: u52 :: u53 :: u54 :: u55 :: u56 :: u57 :: u58 :: u59 :: u60 :: u61 :: u62 :: u63 :: u64 :: u65 :: u66 :: u67 :: u68 :: u69 :: u70 :: u71 :: u72 :: u73 :: u74 :: u75 :: u76 :: u77 :: u78 :: u79 :: u80 :: u81 :: u82 :: u83 :: u84 :: u85 :: u86 :: u87 :: u88 :: u89 :: u90 :: u91 :: u92 :: u93 :: u94 :: u95 :: u96 :: u97 :: u98 :: u99 :: u100 :: u101 :: u102 :: u103 :: u104 :: u105 :: u106 :: u107 :: [])) ds) W := by
  have HQ : Hid _ := @hQ
  clear hQ
  have HO : Hid _ := hO
  have HA : Hid _ := hA
  have hrow := hO.row
  clear hO hA
  obtain ⟨i0, hi0, hz0, hz1, hz2⟩ := info_parts Tryd.info_pkd
  obtain ⟨e0, e1, e2, e3⟩ := bx.cell4M
  have gA := World.grownBy_alloc W (.cells #[.int .i64 x.N, .slice x.a x.n x.c, .int .i64 x.E, .int .i64 x.A] 29) none
  conv => enter [2]; whnf
  go_wp2_with (at_builtin; refine wpList_apS (W.alloc (.cells #[.int .i64 x.N, .slice x.a x.n x.c, .int .i64 x.E, .int .i64 x.A] 29)) rfl (.tmp 102) (.tmp 104) 23 29 i0 _ 4 48 Tryd.underlying23 hi0 hz0 hz1 hz2 rfl (by decide) rfl (.slice ao m co) m (flX xs) rfl (hrow.alloc _) ⟨W.heap.size, 0, none⟩ 1 1 [.int .i64 x.N, .slice x.a x.n x.c, .int .i64 x.E, .int .i64 x.A] rfl rfl (cell_fourX W _ _ _ _) (by simp [Value.oneCell']) (by decide) (by unfold maxLen; omega) (by omega) ?_; intro gy cy w9 hgy g9 hO9)
  have hsz := gA.size
  refine HQ.out w9 gy cy ((HO.out.keep gA).push (HA.out.keep gA) (by omega) g9 hgy hO9) ((Frm.of (p := fun k => (Value.slice ao m co).ownBlock = some k) gA (fun k e _ => by cases e)).trans (Frm.of (p := fun k => (Value.slice ao m co).ownBlock = some k) g9 (fun k e _ => e)) (fun i _ h => h))
set_option maxHeartbeats 16000000 in
theorem rm_28n {ds : List Deferred} {u0 u1 u2 u3 u4 u5 u6 u7 u9 u10 u13 u14 u15 u16 u17 u18 u19 u20 u21 u22 u23 u24 u25 u26 u27 u28 u29 u30 u31 u32 u33 u34 u35 u36 u37 u38 u39 u40 u41 u42 u43 u44 u45 u46 u47 u48 u49 u50 u51 u52 u53 u54 u55 u56 u57 u58 u59 u60 u61 u62 u63 u64 u65 u66 u67 u68 u69 u70 u71 u72 u73 u74 u75 u76 u77 u78 u79 u80 u81 u82 u83 u84 u85 u86 u87 u88 u89 u90 u91 u92 u93 u94 u95 u96 u97 u98 u99 u100 u101 u102 u103 u104 u105 u106 u107 : Value} {Q : Exit → Act → World → Prop} (W : World) (lo gx m co n c : Nat) (N : Int) (ao a : Option Addr) (M : List Int) (xs : List Px) (hO : OwX W lo ao m co xs) (hA : AnsZ W lo a n c M) (bx : BxS W gx 29 #[.int .i64 N, .slice a n c, .int .i64 0, .int .i64 0]) (hH : HdE W) (h0 : 0 < gx) (hlo : lo ≤ W.heap.size) (hm : m ≤ 1000000000000)
    (hap : (Value.slice ao m co).ownBlock ≠ some gx)
    (hQ : ∀ W' gy cy {z16 z91 z92 z93 z94 z95 z96 z97 z98 z99 z100 z101 z102 z103 z104 z105 : Value}, OwX W' lo (some ⟨gy, 0, none⟩) (m + 1) cy (xs ++ [⟨N, a, n, c, M, 0, 0⟩]) → Frm (fun k => k = gx ∨ (Value.slice ao m co).ownBlock = some k) W W' → Q .normal (Act.mk (List.toArray (u0 :: u1 :: u2 :: u3 :: u4 :: u5 :: u6 :: u7 :: (.slice (some ⟨gy, 0, none⟩) (m + 1) cy) :: u9 :: u10 :: (.pointer (some ⟨gx, 0, none⟩)) :: (.nilIface) :: u13 :: u14 :: u15 :: z16 :: u17 :: u18 :: u19 :: u20 :: u21 :: u22 :: u23 :: u24 :: u25 :: u26 :: u27 :: u28 :: u29 :: u30 :: u31 :: u32 :: u33 :: u34 :: u35 :: u36 :: u37 :: u38 :: u39 :: u40 :: u41 :: u42 :: u43 :: u44 :: u45 :: u46 :: u47 :: u48 :: u49 :: u50 :: u51 :: u52 :: u53 :: u54 :: u55 :: u56 :: u57 :: u58 :: u59 :: u60 :: u61 :: u62 :: u63 :: u64 :: u65 :: u66 :: u67 :: u68 :: u69 :: u70 :: u71 :: u72 :: u73 :: u74 :: u75 :: u76 :: u77 :: u78 :: u79 :: u80 :: u81 :: u82 :: u83 :: u84 :: u85 :: u86 :: u87 :: u88 :: u89 :: u90 :: z91 :: z92 :: z93 :: z94 :: z95 :: z96 :: z97 :: z98 :: z99 :: z100 :: z101 :: z102 :: z103 :: z104 :: z105 :: u106 :: u107 :: [])) ds) W') :
    Code.wp Tryd.prog (tailR 28 (Tryd.f5.body.getD .skip)) Q (Act.mk (List.toArray (u0 :: u1 :: u2 :: u3 :: u4 :: u5 :: u6 :: u7 :: (.slice ao m co) :: u9 :: u10 :: (.pointer (some ⟨gx, 0, none⟩)) :: (.nilIface) :: u13 :: u14 :: u15 :: u16 :: u17 :: u18 :: u19 :: u20 :: u21 :: u22 :: u23 :: u24 :: u25 :: u26 :: u27 :: u28 :: u29 :: u30 :: u31 :: u32 :: u33 :: u34 :: u35 :: u36 :: u37 :: u38 :: u39 :: u40 :: u41 :: u42 :: u43 :: u44 :: u45 :: u46 :: u47 :: u48 :: u49 :: u50 :: u51 :: u52 :: u53 :: u54 :: u55 :: u56 :: u57 :: u58 :: u59 :: u60 :: u61 :: u62 :: u63 :: u64 :: u65 :: u66 :: u67 :: u68 :: u69 :: u70 :: u71 :: u72 :: u73 :: u74 :: u75 :: u76 :: u77 :: u78 :: u79 :: u80 :: u81 :: u82 :: u83 :: u84 :: u85 :: u86 :: u87 :: u88 :: u89 :: u90 :: u91 :: u92 :: u93 :: u94 :: u95 :: u96 :: u97 :: u98 :: u99 :: u100 :: u101 :: u102 :: u103 :: u104 :: u105 :: u106 :: u107 :: [])) ds) W := by
  have HQ : Hid _ := @hQ
  clear hQ
  have HO : Hid _ := hO
  have HA : Hid _ := hA
  have HB : Hid _ := bx
  clear hO hA
  obtain ⟨i0, hi0, hz0, hz1, hz2⟩ := info_parts Tryd.info_pkd
  have x0 := bx.cell 2 (by simp)
  have xf := bx.free 2
  simp at x0
  conv => enter [2]; whnf
  refine wp_seq_k fun K28 hK28 => ?_
  have HK28 : Hid _ := hK28
  clear hK28
  go_wp2_with (first
    | (go_at_call 10; refine (tell_nil _).mono ?_; rintro e wT ⟨rfl, hwT⟩; have hwT := hwT.symm; subst hwT))
  (try simp only [Exit.inBlock, Exit.then])
  refine HK28.out _ _ ?_
  clear HK28
  have b1 := bx.set 2 (.int .i64 0)
  have F1 : Frm (fun k => k = gx) W (W.setCell ⟨gx, 2, none⟩ (.int .i64 0)) := Frm.of (grown_set W gx 2 (.int .i64 0)) (fun k e _ => (Option.some.inj e).symm)
  have hH1 : HdE (W.setCell ⟨gx, 2, none⟩ (.int .i64 0)) := hH.keep (grown_set W gx 2 (.int .i64 0)) (fun e => by have := Option.some.inj e; omega)
  clear bx x0 xf hH
  generalize (W.setCell ⟨gx, 2, none⟩ (.int .i64 0)) = W1 at *
  have g2 := World.grownBy_alloc W1 (.cells #[.pointer none] 52) none
  have b2 := b1.keep g2 (by simp)
  have t2 := BxS.new W1 52 #[.pointer none]
  have hH2 := hH1.keep g2 (by simp)
  have F2 := F1.trans (Frm.of (p := fun k => k = gx) g2 (fun k e _ => by cases e)) (fun i _ h => h)
  have hz1 := F1.size
  have hz2 := g2.size
  have hl1 := b1.lt
  clear hH1 b1 F1
  refine wp_seq_k fun K29 hK29 => ?_
  have HK29 : Hid _ := hK29
  clear hK29
  go_wp2
  (try simp only [Exit.inBlock, Exit.then])
  refine HK29.out _ _ ?_
  clear HK29
  refine wp_seq_k fun K32 hK32 => ?_
  have HK32 : Hid _ := hK32
  clear hK32
  generalize W1.alloc (.cells #[.pointer none] 52) = W2 at *
  go_wp2_with (go_at_call 16; refine (as_nil _ _).mono ?_; rintro e w8 ⟨rfl, hw8⟩; have hw8 := hw8.symm; subst hw8)
  (try simp only [Exit.inBlock, Exit.then])
  refine HK32.out _ _ ?_
  clear HK32
  have hz3 := F2.size
  refine rm_32 W2 lo gx m co ao ⟨N, a, n, c, M, 0, 0⟩ xs (HO.out.frm2 F2 (fun k h1 h => hap (h1.trans (congrArg some h))) (fun y hy => (HO.out.dat y hy).ne_box HB.out)) (HA.out.frmM F2 (HA.out.ne_box HB.out)) b2 (by omega) hm ?_
  intro W' gy cy
  intros
  rename_i h1 h2
  exact HQ.out W' gy cy h1 ((F2.weak (q := fun k => k = gx ∨ (Value.slice ao m co).ownBlock = some k) (fun i _ h => .inl h)).trans h2 (fun i _ h => .inr h))
set_option maxHeartbeats 16000000 in
theorem rm_28e {ds : List Deferred} {u0 u1 u2 u3 u4 u5 u6 u7 u9 u10 u13 u14 u15 u16 u17 u18 u19 u20 u21 u22 u23 u24 u25 u26 u27 u28 u29 u30 u31 u32 u33 u34 u35 u36 u37 u38 u39 u40 u41 u42 u43 u44 u45 u46 u47 u48 u49 u50 u51 u52 u53 u54 u55 u56 u57 u58 u59 u60 u61 u62 u63 u64 u65 u66 u67 u68 u69 u70 u71 u72 u73 u74 u75 u76 u77 u78 u79 u80 u81 u82 u83 u84 u85 u86 u87 u88 u89 u90 u91 u92 u93 u94 u95 u96 u97 u98 u99 u100 u101 u102 u103 u104 u105 u106 u107 : Value} {Q : Exit → Act → World → Prop} (W : World) (lo gx m co n c : Nat) (N : Int) (ao a : Option Addr) (M : List Int) (xs : List Px) (hO : OwX W lo ao m co xs) (hA : AnsZ W lo a n c M) (bx : BxS W gx 29 #[.int .i64 N, .slice a n c, .int .i64 0, .int .i64 0]) (hH : HdE W) (h0 : 0 < gx) (hlo : lo ≤ W.heap.size) (hm : m ≤ 1000000000000)
    (hap : (Value.slice ao m co).ownBlock ≠ some gx)
    (hQ : ∀ W' gy cy {z16 z91 z92 z93 z94 z95 z96 z97 z98 z99 z100 z101 z102 z103 z104 z105 : Value}, OwX W' lo (some ⟨gy, 0, none⟩) (m + 1) cy (xs ++ [⟨N, a, n, c, M, 2, 0⟩]) → Frm (fun k => k = gx ∨ (Value.slice ao m co).ownBlock = some k) W W' → Q .normal (Act.mk (List.toArray (u0 :: u1 :: u2 :: u3 :: u4 :: u5 :: u6 :: u7 :: (.slice (some ⟨gy, 0, none⟩) (m + 1) cy) :: u9 :: u10 :: (.pointer (some ⟨gx, 0, none⟩)) :: (.iface 24 (.int .i64 2)) :: u13 :: u14 :: u15 :: z16 :: u17 :: u18 :: u19 :: u20 :: u21 :: u22 :: u23 :: u24 :: u25 :: u26 :: u27 :: u28 :: u29 :: u30 :: u31 :: u32 :: u33 :: u34 :: u35 :: u36 :: u37 :: u38 :: u39 :: u40 :: u41 :: u42 :: u43 :: u44 :: u45 :: u46 :: u47 :: u48 :: u49 :: u50 :: u51 :: u52 :: u53 :: u54 :: u55 :: u56 :: u57 :: u58 :: u59 :: u60 :: u61 :: u62 :: u63 :: u64 :: u65 :: u66 :: u67 :: u68 :: u69 :: u70 :: u71 :: u72 :: u73 :: u74 :: u75 :: u76 :: u77 :: u78 :: u79 :: u80 :: u81 :: u82 :: u83 :: u84 :: u85 :: u86 :: u87 :: u88 :: u89 :: u90 :: z91 :: z92 :: z93 :: z94 :: z95 :: z96 :: z97 :: z98 :: z99 :: z100 :: z101 :: z102 :: z103 :: z104 :: z105 :: u106 :: u107 :: [])) ds) W') :
    Code.wp Tryd.prog (tailR 28 (Tryd.f5.body.getD .skip)) Q (Act.mk (List.toArray (u0 :: u1 :: u2 :: u3 :: u4 :: u5 :: u6 :: u7 :: (.slice ao m co) :: u9 :: u10 :: (.pointer (some ⟨gx, 0, none⟩)) :: (.iface 24 (.int .i64 2)) :: u13 :: u14 :: u15 :: u16 :: u17 :: u18 :: u19 :: u20 :: u21 :: u22 :: u23 :: u24 :: u25 :: u26 :: u27 :: u28 :: u29 :: u30 :: u31 :: u32 :: u33 :: u34 :: u35 :: u36 :: u37 :: u38 :: u39 :: u40 :: u41 :: u42 :: u43 :: u44 :: u45 :: u46 :: u47 :: u48 :: u49 :: u50 :: u51 :: u52 :: u53 :: u54 :: u55 :: u56 :: u57 :: u58 :: u59 :: u60 :: u61 :: u62 :: u63 :: u64 :: u65 :: u66 :: u67 :: u68 :: u69 :: u70 :: u71 :: u72 :: u73 :: u74 :: u75 :: u76 :: u77 :: u78 :: u79 :: u80 :: u81 :: u82 :: u83 :: u84 :: u85 :: u86 :: u87 :: u88 :: u89 :: u90 :: u91 :: u92 :: u93 :: u94 :: u95 :: u96 :: u97 :: u98 :: u99 :: u100 :: u101 :: u102 :: u103 :: u104 :: u105 :: u106 :: u107 :: [])) ds) W := by
  have HQ : Hid _ := @hQ
  clear hQ
  have HO : Hid _ := hO
  have HA : Hid _ := hA
  have HB : Hid _ := bx
  clear hO hA
  obtain ⟨i0, hi0, hz0, hz1, hz2⟩ := info_parts Tryd.info_pkd
  have x0 := bx.cell 2 (by simp)
  have xf := bx.free 2
  simp at x0
  conv => enter [2]; whnf
  refine wp_seq_k fun K28 hK28 => ?_
  have HK28 : Hid _ := hK28
  clear hK28
  go_wp2_with (first
    | (go_at_call 10; refine (tellE_any 2 (by decide) (by decide) _).mono ?_; rintro e wT ⟨rfl, hwT⟩; have hwT := hwT.symm; subst hwT))
  (try simp only [Exit.inBlock, Exit.then])
  refine HK28.out _ _ ?_
  clear HK28
  have b1 := bx.set 2 (.int .i64 2)
  have F1 : Frm (fun k => k = gx) W (W.setCell ⟨gx, 2, none⟩ (.int .i64 2)) := Frm.of (grown_set W gx 2 (.int .i64 2)) (fun k e _ => (Option.some.inj e).symm)
  have hH1 : HdE (W.setCell ⟨gx, 2, none⟩ (.int .i64 2)) := hH.keep (grown_set W gx 2 (.int .i64 2)) (fun e => by have := Option.some.inj e; omega)
  clear bx x0 xf hH
  generalize (W.setCell ⟨gx, 2, none⟩ (.int .i64 2)) = W1 at *
  have g2 := World.grownBy_alloc W1 (.cells #[.pointer none] 52) none
  have b2 := b1.keep g2 (by simp)
  have t2 := BxS.new W1 52 #[.pointer none]
  have hH2 := hH1.keep g2 (by simp)
  have F2 := F1.trans (Frm.of (p := fun k => k = gx) g2 (fun k e _ => by cases e)) (fun i _ h => h)
  have hz1 := F1.size
  have hz2 := g2.size
  have hl1 := b1.lt
  clear hH1 b1 F1
  refine wp_seq_k fun K29 hK29 => ?_
  have HK29 : Hid _ := hK29
  clear hK29
  go_wp2
  (try simp only [Exit.inBlock, Exit.then])
  refine HK29.out _ _ ?_
  clear HK29
  refine wp_seq_k fun K32 hK32 => ?_
  have HK32 : Hid _ := hK32
  clear hK32
  generalize W1.alloc (.cells #[.pointer none] 52) = W2 at *
  have HF2 : Hid _ := F2
  clear F2
  go_wp2_with (go_at_call 16; refine (as_errno 2 W1.heap.size W2 hH2).mono ?_; rintro e W3 ⟨rfl, g3⟩)
  have b3 := b2.keep g3 (by simp)
  have F3 : Frm (fun k => k = gx) W W3 := HF2.out.trans (Frm.of (p := fun k => k = gx) g3 (fun k e _ => by cases e)) (fun i _ h => h)
  (try simp only [Exit.inBlock, Exit.then])
  refine HK32.out _ _ ?_
  clear HK32
  have hz3 := F3.size
  refine rm_32 W3 lo gx m co ao ⟨N, a, n, c, M, 2, 0⟩ xs (HO.out.frm2 F3 (fun k h1 h => hap (h1.trans (congrArg some h))) (fun y hy => (HO.out.dat y hy).ne_box HB.out)) (HA.out.frmM F3 (HA.out.ne_box HB.out)) b3 (by omega) hm ?_
  intro W' gy cy
  intros
  rename_i h1 h2
  exact HQ.out W' gy cy h1 ((F3.weak (q := fun k => k = gx ∨ (Value.slice ao m co).ownBlock = some k) (fun i _ h => .inl h)).trans h2 (fun i _ h => .inr h))
set_option maxHeartbeats 16000000 in
theorem rm_28l {ds : List Deferred} {u0 u1 u2 u3 u4 u5 u6 u7 u9 u10 u13 u14 u15 u16 u17 u18 u19 u20 u21 u22 u23 u24 u25 u26 u27 u28 u29 u30 u31 u32 u33 u34 u35 u36 u37 u38 u39 u40 u41 u42 u43 u44 u45 u46 u47 u48 u49 u50 u51 u52 u53 u54 u55 u56 u57 u58 u59 u60 u61 u62 u63 u64 u65 u66 u67 u68 u69 u70 u71 u72 u73 u74 u75 u76 u77 u78 u79 u80 u81 u82 u83 u84 u85 u86 u87 u88 u89 u90 u91 u92 u93 u94 u95 u96 u97 u98 u99 u100 u101 u102 u103 u104 u105 u106 u107 : Value} {Q : Exit → Act → World → Prop} (W : World) (lo gx m co n c : Nat) (N : Int) (ao a : Option Addr) (M : List Int) (xs : List Px) (hO : OwX W lo ao m co xs) (hA : AnsZ W lo a n c M) (bx : BxS W gx 29 #[.int .i64 N, .slice a n c, .int .i64 0, .int .i64 0]) (hH : HdE W) (h0 : 0 < gx) (hlo : lo ≤ W.heap.size) (hm : m ≤ 1000000000000)
    (hap : (Value.slice ao m co).ownBlock ≠ some gx) (gl : Nat) (at' : Int) (hL : BxS W gl 56 #[.int .i64 at'])
    (hQ : ∀ W' gy cy {z16 z91 z92 z93 z94 z95 z96 z97 z98 z99 z100 z101 z102 z103 z104 z105 : Value}, OwX W' lo (some ⟨gy, 0, none⟩) (m + 1) cy (xs ++ [⟨N, a, n, c, M, 18, at'⟩]) → Frm (fun k => k = gx ∨ (Value.slice ao m co).ownBlock = some k) W W' → Q .normal (Act.mk (List.toArray (u0 :: u1 :: u2 :: u3 :: u4 :: u5 :: u6 :: u7 :: (.slice (some ⟨gy, 0, none⟩) (m + 1) cy) :: u9 :: u10 :: (.pointer (some ⟨gx, 0, none⟩)) :: (.iface 52 (.pointer (some ⟨gl, 0, none⟩))) :: u13 :: u14 :: u15 :: z16 :: u17 :: u18 :: u19 :: u20 :: u21 :: u22 :: u23 :: u24 :: u25 :: u26 :: u27 :: u28 :: u29 :: u30 :: u31 :: u32 :: u33 :: u34 :: u35 :: u36 :: u37 :: u38 :: u39 :: u40 :: u41 :: u42 :: u43 :: u44 :: u45 :: u46 :: u47 :: u48 :: u49 :: u50 :: u51 :: u52 :: u53 :: u54 :: u55 :: u56 :: u57 :: u58 :: u59 :: u60 :: u61 :: u62 :: u63 :: u64 :: u65 :: u66 :: u67 :: u68 :: u69 :: u70 :: u71 :: u72 :: u73 :: u74 :: u75 :: u76 :: u77 :: u78 :: u79 :: u80 :: u81 :: u82 :: u83 :: u84 :: u85 :: u86 :: u87 :: u88 :: u89 :: u90 :: z91 :: z92 :: z93 :: z94 :: z95 :: z96 :: z97 :: z98 :: z99 :: z100 :: z101 :: z102 :: z103 :: z104 :: z105 :: u106 :: u107 :: [])) ds) W') :
    Code.wp Tryd.prog (tailR 28 (Tryd.f5.body.getD .skip)) Q (Act.mk (List.toArray (u0 :: u1 :: u2 :: u3 :: u4 :: u5 :: u6 :: u7 :: (.slice ao m co) :: u9 :: u10 :: (.pointer (some ⟨gx, 0, none⟩)) :: (.iface 52 (.pointer (some ⟨gl, 0, none⟩))) :: u13 :: u14 :: u15 :: u16 :: u17 :: u18 :: u19 :: u20 :: u21 :: u22 :: u23 :: u24 :: u25 :: u26 :: u27 :: u28 :: u29 :: u30 :: u31 :: u32 :: u33 :: u34 :: u35 :: u36 :: u37 :: u38 :: u39 :: u40 :: u41 :: u42 :: u43 :: u44 :: u45 :: u46 :: u47 :: u48 :: u49 :: u50 :: u51 :: u52 :: u53 :: u54 :: u55 :: u56 :: u57 :: u58 :: u59 :: u60 :: u61 :: u62 :: u63 :: u64 :: u65 :: u66 :: u67 :: u68 :: u69 :: u70 :: u71 :: u72 :: u73 :: u74 :: u75 :: u76 :: u77 :: u78 :: u79 :: u80 :: u81 :: u82 :: u83 :: u84 :: u85 :: u86 :: u87 :: u88 :: u89 :: u90 :: u91 :: u92 :: u93 :: u94 :: u95 :: u96 :: u97 :: u98 :: u99 :: u100 :: u101 :: u102 :: u103 :: u104 :: u105 :: u106 :: u107 :: [])) ds) W := by
  have HQ : Hid _ := @hQ
  clear hQ
  have HO : Hid _ := hO
  have HA : Hid _ := hA
  have HB : Hid _ := bx
  clear hO hA
  obtain ⟨i0, hi0, hz0, hz1, hz2⟩ := info_parts Tryd.info_pkd
  have x0 := bx.cell 2 (by simp)
  have xf := bx.free 2
  simp at x0
  conv => enter [2]; whnf
  refine wp_seq_k fun K28 hK28 => ?_
  have HK28 : Hid _ := hK28
  clear hK28
  go_wp2_with (first
    | (go_at_call 10; refine (tell_lost gl _).mono ?_; rintro e wT ⟨rfl, hwT⟩; have hwT := hwT.symm; subst hwT))
  (try simp only [Exit.inBlock, Exit.then])
  refine HK28.out _ _ ?_
  clear HK28
  have b1 := bx.set 2 (.int .i64 18)
  have F1 : Frm (fun k => k = gx) W (W.setCell ⟨gx, 2, none⟩ (.int .i64 18)) := Frm.of (grown_set W gx 2 (.int .i64 18)) (fun k e _ => (Option.some.inj e).symm)
  have hH1 : HdE (W.setCell ⟨gx, 2, none⟩ (.int .i64 18)) := hH.keep (grown_set W gx 2 (.int .i64 18)) (fun e => by have := Option.some.inj e; omega)
  have hgl : gl ≠ gx := fun e => by subst e; exact cells_ne hL bx (by decide)
  have hL1 := hL.keep (grown_set W gx 2 (.int .i64 18)) (by simp; exact hgl)
  clear hL
  clear bx x0 xf hH
  generalize (W.setCell ⟨gx, 2, none⟩ (.int .i64 18)) = W1 at *
  have g2 := World.grownBy_alloc W1 (.cells #[.pointer none] 52) none
  have b2 := b1.keep g2 (by simp)
  have t2 := BxS.new W1 52 #[.pointer none]
  have hH2 := hH1.keep g2 (by simp)
  have F2 := F1.trans (Frm.of (p := fun k => k = gx) g2 (fun k e _ => by cases e)) (fun i _ h => h)
  have hz1 := F1.size
  have hz2 := g2.size
  have hl1 := b1.lt
  clear hH1 b1 F1
  refine wp_seq_k fun K29 hK29 => ?_
  have HK29 : Hid _ := hK29
  clear hK29
  go_wp2
  (try simp only [Exit.inBlock, Exit.then])
  refine HK29.out _ _ ?_
  clear HK29
  refine wp_seq_k fun K32 hK32 => ?_
  have HK32 : Hid _ := hK32
  clear hK32
  generalize W1.alloc (.cells #[.pointer none] 52) = W2 at *
  have HF2 : Hid _ := F2
  clear F2
  have hL2 := hL1.keep g2 (by simp)
  have hgx1 : gx < W1.heap.size := hl1
  go_wp2_with (go_at_call 16; refine (as_lost (some ⟨gl, 0, none⟩) W1.heap.size W2 hH2 t2).mono ?_; rintro e W3 ⟨rfl, hB3, g3⟩; have b3 := b2.keep g3 (fun e => by have := Option.some.inj e; omega); have hL3 := hL2.keep g3 (fun e => by have := Option.some.inj e; have := hL1.lt; omega); have y0 := hB3.cell 0 (by simp); have y1 := hL3.cell 0 (by simp); have y2 := b3.cell 3 (by simp); have y3 := b3.free 3; simp at y0 y1 y2)
  have b4 := b3.set 3 (.int .i64 at')
  have F3 : Frm (fun k => k = gx) W (W3.setCell ⟨gx, 3, none⟩ (.int .i64 at')) := (HF2.out.trans (Frm.of (p := fun k => k = W1.heap.size) g3 (fun k e _ => (Option.some.inj e).symm)) (fun i hi h => by omega)).trans (Frm.of (p := fun k => k = gx) (grown_set W3 gx 3 (.int .i64 at')) (fun k e _ => (Option.some.inj e).symm)) (fun i _ h => h)
  (try simp only [Exit.inBlock, Exit.then])
  refine HK32.out _ _ ?_
  clear HK32
  have hz3 := F3.size
  refine rm_32 (W3.setCell ⟨gx, 3, none⟩ (.int .i64 at')) lo gx m co ao ⟨N, a, n, c, M, 18, at'⟩ xs (HO.out.frm2 F3 (fun k h1 h => hap (h1.trans (congrArg some h))) (fun y hy => (HO.out.dat y hy).ne_box HB.out)) (HA.out.frmM F3 (HA.out.ne_box HB.out)) b4 (by omega) hm ?_
  intro W' gy cy
  intros
  rename_i h1 h2
  exact HQ.out W' gy cy h1 ((F3.weak (q := fun k => k = gx ∨ (Value.slice ao m co).ownBlock = some k) (fun i _ h => .inl h)).trans h2 (fun i _ h => .inr h))
end

section
open Go.RowKit Go.Shelf

/-- pokes as they are read -/
structure RdPk (w : World) (a : Option Addr) (n cap : Nat) (F : Nat → Int × Int × Int) : Prop where
  at' : 0 < n → ∃ b off, a = some ⟨b, off, none⟩ ∧ ∀ i, i < n → w.cell? ⟨b, off + i * 3, none⟩ = some (.int .i64 (F i).1) ∧ w.cell? ⟨b, off + i * 3 + 1, none⟩ = some (.int .i64 (F i).2.1) ∧ w.cell? ⟨b, off + i * 3 + 2, none⟩ = some (.int .i64 (F i).2.2)
theorem RdPk.frm {w w' : World} {a : Option Addr} {n cap : Nat} {F : Nat → Int × Int × Int} (h : RdPk w a n cap F) (hF : Frm (fun _ => False) w w') : RdPk w' a n cap F :=
  ⟨fun h0 => by
    obtain ⟨b, off, e, hc⟩ := h.at' h0
    have kk : ∀ {o : Nat} {v : Value}, w.cell? ⟨b, o, none⟩ = some v → w'.cell? ⟨b, o, none⟩ = some v := fun {o v} hv => by
      have hb : b < w.heap.size := by
        refine Nat.lt_of_not_le fun e => ?_
        have hn : w.heap[b]? = none := Array.getElem?_eq_none e
        simp [World.cell?, hn] at hv
      exact (World.cell?_of_block (w := w) (hF.block b hb (fun h => h))).trans hv
    exact ⟨b, off, e, fun i hi => ⟨kk (hc i hi).1, kk (hc i hi).2.1, kk (hc i hi).2.2⟩⟩⟩
/-- the memory behind so many pokes; what came of them -/
def pkR (s : List Nat × Nat) (F : Nat → Int × Int × Int) : Nat → List Nat × Nat
  | 0 => s
  | i + 1 => pkS (pkR s F i) (F i)
def pkT (s : List Nat × Nat) (F : Nat → Int × Int × Int) : Nat → List (Int × List Int × Int × Int)
  | 0 => []
  | i + 1 => pkT s F i ++ [pkO (pkR s F i) (F i)]
/-- what is so between two pokes -/
structure RmI (w0 : World) (lo gm gc : Nat) (s : List Nat × Nat) (i : Nat) (ao : Option Addr) (co : Nat) (xs : List Px) (L : List (Int × List Int × Int × Int)) (Ds : List Nat) (W : World) : Prop where
  mem : Mem W gm gc s.2 s.1
  own : OwX W lo ao i co xs
  dat : xs.map datX = L
  fr : Frm (fun _ => False) w0 W
  nd : Ds.Nodup
  de : ∀ D, D ∈ Ds → W.heap[D]? = some (.deferred (some []))
  dg : ∀ D, D ∈ Ds → w0.heap.size ≤ D
  lo1 : lo ≤ W.heap.size

theorem HdE.frm {w w' : World} {p : Nat → Prop} (h : HdE w) (hF : Frm p w w') (hn : ¬ p 0) : HdE w' := by
  have hb : 0 < w.heap.size := by
    refine Nat.pos_of_ne_zero fun e => ?_
    have hn : w.heap[0]? = none := Array.getElem?_eq_none (by omega)
    unfold HdE at h
    simp [World.cell?, hn] at h
  unfold HdE
  rw [World.cell?_of_block (w := w) (hF.block 0 hb hn)]
  exact h
theorem dat_eq (o : Int × List Int × Int × Int) (a : Option Addr) (n c : Nat) {e f : Int} (h1 : o.2.2.1 = e) (h2 : o.2.2.2 = f) : datX ⟨o.1, a, n, c, o.2.1, e, f⟩ = o := by
  subst h1 h2
  rfl
/-- from W to W4: the memory's blocks alone are changed -/
theorem StA.frmW {W W3 W4 : World} {gm gc gx n c : Nat} {s : List Nat × Nat} {ev : Value} {a : Option Addr} {o : Int × List Int × Int × Int} {Ds Ds' : List Nat} (hS : StA W3 W4 gm gc gx s ev a n c o Ds Ds') (g : W.grownBy W3 none) (hgx : W.heap.size ≤ gx) : Frm (mB gm gc) W W4 :=
  (Frm.of (p := mB gm gc) g (fun k e _ => by cases e)).trans hS.frm (fun i hi h => h.elim (fun h => h) (fun h => by omega))
theorem RmI.next {w0 W W3 W4 W5 : World} {lo gm gc gx gy cy i co n c : Nat} {s s' : List Nat × Nat} {ao a : Option Addr} {xs : List Px} {x : Px} {L : List (Int × List Int × Int × Int)} {ev : Value} {o : Int × List Int × Int × Int} {Ds Ds' : List Nat} (J : RmI w0 lo gm gc s i ao co xs L Ds W) (g : W.grownBy W3 none) (hS : StA W3 W4 gm gc gx s' ev a n c o Ds Ds') (hgx : W.heap.size ≤ gx) (hgx3 : gx < W3.heap.size)
    (h5 : OwX W5 lo (some ⟨gy, 0, none⟩) (i + 1) cy (xs ++ [x])) (F5 : Frm (fun k => k = gx ∨ (Value.slice ao i co).ownBlock = some k) W4 W5) (hx : datX x = o) (hgm : gm < lo) (hgc : gc < lo) (hgm0 : w0.heap.size ≤ gm) (hgc0 : w0.heap.size ≤ gc) : RmI w0 lo gm gc s' (i + 1) (some ⟨gy, 0, none⟩) cy (xs ++ [x]) (L ++ [o]) Ds' W5 := by
  have hlo := J.lo1
  have F04 := hS.frmW g hgx
  have hz4 := F04.size
  have hz5 := F5.size
  have hg := g.size
  have hz34 := hS.frm.size
  have hnb : ∀ k, k < lo → ¬ (k = gx ∨ (Value.slice ao i co).ownBlock = some k) := fun k hk h => by
    rcases h with h | h
    · omega
    · have := J.own.new k h; omega
  refine ⟨?_, h5, by rw [List.map_append, J.dat]; show _ ++ [datX x] = _; rw [hx], ?_, ?_, ?_, ?_, by omega⟩
  · have M4 := hS.mem
    exact ⟨M4.box.frmM F5 (hnb gm hgm), (F5.block gc M4.row.lt (hnb gc hgc)).trans M4.row, M4.ne, M4.code, M4.one, M4.most, M4.next⟩
  · refine (J.fr.trans F04 (fun k hk h => ?_)).trans F5 (fun k hk h => ?_)
    · rcases h with rfl | rfl <;> omega
    · exact (hnb k (by omega) h).elim
  · obtain ⟨Es, rfl, hn, hE⟩ := hS.nd
    refine List.nodup_append.2 ⟨hn, J.nd, fun x hx y hy e => ?_⟩
    subst e
    have h1 := (hE x hx).1
    have h2 : x < W.heap.size := (Array.getElem?_eq_some_iff.1 (J.de x hy)).1
    omega
  · obtain ⟨Es, rfl, hn, hE⟩ := hS.nd
    have de4 : ∀ D, D ∈ Es ++ Ds → W4.heap[D]? = some (.deferred (some [])) ∧ D ≠ gx := fun D hD => by
      rcases List.mem_append.1 hD with hD | hD
      · exact ⟨(hE D hD).2, by have := (hE D hD).1; omega⟩
      · have h2 : D < W.heap.size := (Array.getElem?_eq_some_iff.1 (J.de D hD)).1
        refine ⟨(F04.block D h2 (fun h => ?_)).trans (J.de D hD), by omega⟩
        have hd := J.de D hD
        rcases h with rfl | rfl
        · have hb : W.heap[D]? = some (.cells _ _) := J.mem.box
          rw [hb] at hd
          cases hd
        · have hb : W.heap[D]? = some (.cells _ _) := J.mem.row
          rw [hb] at hd
          cases hd
    intro D hD
    obtain ⟨h1, h2⟩ := de4 D hD
    have h3 : D < W4.heap.size := (Array.getElem?_eq_some_iff.1 h1).1
    refine (F5.block D h3 (fun h => ?_)).trans h1
    rcases h with h | h
    · exact h2 h
    · have hO4 := J.own.frm F04 (fun k h1 _ h => by rcases h with rfl | rfl <;> omega)
      obtain ⟨_, cs, hcs⟩ := row_lt hO4.row h
      rw [hcs] at h1
      cases h1
  · obtain ⟨Es, rfl, hn, hE⟩ := hS.nd
    intro D hD
    rcases List.mem_append.1 hD with hD | hD
    · have := (hE D hD).1
      have := J.fr.size
      omega
    · exact J.dg D hD
set_option maxHeartbeats 16000000 in
theorem rm_9 {u0 u1 u2 u3 u4 u5 u7 u9 u10 u11 u12 u13 u14 u15 u16 u17 u18 u19 u20 u21 u22 u23 u24 u25 u26 u27 u31 u32 u33 u34 u35 u36 u37 u38 u39 u40 u41 u42 u43 u44 u45 u46 u47 u48 u49 u50 u51 u52 u53 u54 u55 u56 u57 u58 u59 u60 u61 u62 u63 u64 u65 u66 u67 u68 u69 u70 u71 u72 u73 u74 u75 u76 u77 u78 u79 u80 u81 u82 u83 u84 u85 u86 u87 u88 u89 u90 u91 u92 u93 u94 u95 u96 u97 u98 u99 u100 u101 u102 u103 u104 u105 u106 u107 : Value} {Q : Exit → Act → World → Prop} (w0 W : World) (lo gm gc b off m cap i co : Nat) (ao : Option Addr) (s : List Nat × Nat) (F : Nat → Int × Int × Int) (xs : List Px) (L : List (Int × List Int × Int × Int)) (Ds : List Nat) (J : RmI w0 lo gm gc s i ao co xs L Ds W)
    (hc : W.cell? ⟨b, off + i * 3, none⟩ = some (.int .i64 (F i).1) ∧ W.cell? ⟨b, off + i * 3 + 1, none⟩ = some (.int .i64 (F i).2.1) ∧ W.cell? ⟨b, off + i * 3 + 2, none⟩ = some (.int .i64 (F i).2.2)) (hi : i < m) (hm : m ≤ 1000000000000) (hH : HdE W) (hgm : gm < lo) (hgc : gc < lo) (hgm0 : w0.heap.size ≤ gm) (hgc0 : w0.heap.size ≤ gc) (h00 : 0 < w0.heap.size)
    (hQ : ∀ W' gy cy x Ds' {z10 z11 z12 z13 z14 z15 z16 z32 z33 z34 z35 z36 z37 z38 z39 z40 z41 z42 z43 z44 z45 z46 z47 z48 z49 z50 z51 z52 z53 z54 z55 z56 z57 z58 z59 z60 z61 z62 z63 z64 z65 z66 z67 z68 z69 z70 z71 z72 z73 z74 z75 z76 z77 z78 z79 z80 z81 z82 z83 z84 z85 z86 z87 z88 z89 z90 z91 z92 z93 z94 z95 z96 z97 z98 z99 z100 z101 z102 z103 z104 z105 z106 : Value}, RmI w0 lo gm gc (pkS s (F i)) (i + 1) (some ⟨gy, 0, none⟩) cy (xs ++ [x]) (L ++ [pkO s (F i)]) Ds' W' → HdE W' → Q .normal (Act.mk (List.toArray (u0 :: u1 :: u2 :: u3 :: u4 :: u5 :: (.pointer (some ⟨gm, 0, none⟩)) :: u7 :: (.slice (some ⟨gy, 0, none⟩) (i + 1) cy) :: u9 :: z10 :: z11 :: z12 :: z13 :: z14 :: z15 :: z16 :: u17 :: u18 :: u19 :: u20 :: u21 :: u22 :: u23 :: u24 :: u25 :: u26 :: u27 :: (.slice (some ⟨b, off, none⟩) m cap) :: (.int .i64 (m : Nat)) :: (.int .i64 ((i + 1 : Nat) : Int)) :: u31 :: z32 :: z33 :: z34 :: z35 :: z36 :: z37 :: z38 :: z39 :: z40 :: z41 :: z42 :: z43 :: z44 :: z45 :: z46 :: z47 :: z48 :: z49 :: z50 :: z51 :: z52 :: z53 :: z54 :: z55 :: z56 :: z57 :: z58 :: z59 :: z60 :: z61 :: z62 :: z63 :: z64 :: z65 :: z66 :: z67 :: z68 :: z69 :: z70 :: z71 :: z72 :: z73 :: z74 :: z75 :: z76 :: z77 :: z78 :: z79 :: z80 :: z81 :: z82 :: z83 :: z84 :: z85 :: z86 :: z87 :: z88 :: z89 :: z90 :: z91 :: z92 :: z93 :: z94 :: z95 :: z96 :: z97 :: z98 :: z99 :: z100 :: z101 :: z102 :: z103 :: z104 :: z105 :: z106 :: u107 :: [])) (Ds'.map mark)) W') :
    Code.wp Tryd.prog (tailR 9 (Tryd.f5.body.getD .skip)) Q (Act.mk (List.toArray (u0 :: u1 :: u2 :: u3 :: u4 :: u5 :: (.pointer (some ⟨gm, 0, none⟩)) :: u7 :: (.slice ao i co) :: u9 :: u10 :: u11 :: u12 :: u13 :: u14 :: u15 :: u16 :: u17 :: u18 :: u19 :: u20 :: u21 :: u22 :: u23 :: u24 :: u25 :: u26 :: u27 :: (.slice (some ⟨b, off, none⟩) m cap) :: (.int .i64 (m : Nat)) :: (.int .i64 (i : Nat)) :: u31 :: u32 :: u33 :: u34 :: u35 :: u36 :: u37 :: u38 :: u39 :: u40 :: u41 :: u42 :: u43 :: u44 :: u45 :: u46 :: u47 :: u48 :: u49 :: u50 :: u51 :: u52 :: u53 :: u54 :: u55 :: u56 :: u57 :: u58 :: u59 :: u60 :: u61 :: u62 :: u63 :: u64 :: u65 :: u66 :: u67 :: u68 :: u69 :: u70 :: u71 :: u72 :: u73 :: u74 :: u75 :: u76 :: u77 :: u78 :: u79 :: u80 :: u81 :: u82 :: u83 :: u84 :: u85 :: u86 :: u87 :: u88 :: u89 :: u90 :: u91 :: u92 :: u93 :: u94 :: u95 :: u96 :: u97 :: u98 :: u99 :: u100 :: u101 :: u102 :: u103 :: u104 :: u105 :: u106 :: u107 :: [])) (Ds.map mark)) W := by
  have HQ : Hid _ := @hQ
  clear hQ
  obtain ⟨C, nx⟩ := s
  obtain ⟨c0, c1, c2⟩ := hc
  obtain ⟨⟨d, at', z⟩, hF⟩ : ∃ p, F i = p := ⟨_, rfl⟩
  rw [hF] at c0 c1 c2 HQ
  dsimp only at c0 c1 c2
  clear hF
  have HJ : Hid _ := J
  have hi' : (i : Int) < (m : Int) := by omega
  have b2 := BxS.new W 33 #[.int .i64 d, .int .i64 at', .int .i64 z]
  have g2 := World.grownBy_alloc W (.cells #[.int .i64 d, .int .i64 at', .int .i64 z] 33) none
  have b3 := BxS.new (W.alloc (.cells #[.int .i64 d, .int .i64 at', .int .i64 z] 33)) 29 #[.int .i64 0, .slice none 0 0, .int .i64 0, .int .i64 0]
  have g3 := World.grownBy_alloc (W.alloc (.cells #[.int .i64 d, .int .i64 at', .int .i64 z] 33)) (.cells #[.int .i64 0, .slice none 0 0, .int .i64 0, .int .i64 0] 29) none
  have b2' := b2.keep g3 (by simp)
  have hM3 : Mem _ gm gc nx C := (J.mem.grown g2 (by simp) (by simp)).grown g3 (by simp) (by simp)
  have hsz : ((W.alloc (.cells #[.int .i64 d, .int .i64 at', .int .i64 z] 33)).alloc (.cells #[.int .i64 0, .slice none 0 0, .int .i64 0, .int .i64 0] 29)).heap.size = W.heap.size + 2 := by simp
  rw [World.size_alloc] at b3
  have g23 := grown_trans g2 g3
  have hlo := J.lo1
  clear b2 J
  conv => enter [2]; whnf
  refine wp_seq_k fun K33 hK33 => ?_
  have HK33 : Hid _ := hK33
  clear hK33
  refine wp_block ?_
  refine wp_seq_k fun K9 hK9 => ?_
  have HK9 : Hid _ := hK9
  clear hK9
  go_wp2
  (try simp only [Exit.inBlock, Exit.then])
  refine HK9.out _ _ ?_
  clear HK9
  refine wp_seq_k fun K10 hK10 => ?_
  have HK10 : Hid _ := hK10
  clear hK10
  go_wp2
  (try simp only [Exit.inBlock, Exit.then])
  refine HK10.out _ _ ?_
  clear HK10
  refine wp_seq_k fun K11 hK11 => ?_
  have HK11 : Hid _ := hK11
  clear hK11
  go_wp2
  (try simp only [Exit.inBlock, Exit.then])
  refine HK11.out _ _ ?_
  clear HK11
  refine wp_seq_k fun K12 hK12 => ?_
  have HK12 : Hid _ := hK12
  clear hK12
  generalize (W.alloc (.cells #[.int .i64 d, .int .i64 at', .int .i64 z] 33)).alloc (.cells #[.int .i64 0, .slice none 0 0, .int .i64 0, .int .i64 0] 29) = W3 at *
  refine rm_12 W3 gm gc W.heap.size (W.heap.size + 1) C nx d at' z Ds hM3 b2' b3 ⟨by omega, by omega⟩ (by omega) ?_
  intro W4 ev a n c Ds' z13 z14 z15 z34 z35 z36 z37 z38 z39 z40 z41 z42 z43 z44 z45 z46 z47 z48 z49 z50 z51 z52 z53 z54 z55 z56 z57 z58 z59 z60 z61 z62 z63 z64 z65 z66 z67 z68 z69 z70 z71 z72 z73 z74 z75 z76 z77 z78 z79 z80 z81 z82 z83 z84 z85 z86 z87 z88 z89 z90 hS
  (try simp only [Exit.inBlock, Exit.then])
  refine HK12.out _ _ ?_
  clear HK12
  have J := HJ.out
  have F04 := hS.frmW g23 (by omega)
  have hz4 := F04.size
  have hO4 := J.own.frm F04 (fun k h1 _ h => by rcases h with rfl | rfl <;> omega)
  have hA4 : AnsZ W4 lo a n c (pkO (C, nx) (d, at', z)).2.1 := ⟨hS.own.own, fun g h => by have := hS.own.new g h; omega⟩
  have hH4 : HdE W4 := hH.frm F04 (fun h => by rcases h with h | h <;> omega)
  have hap : (Value.slice ao i co).ownBlock ≠ some (W.heap.size + 1) := fun e => by have := (row_lt J.own.row e).1; omega
  have HF : ∀ W5 gy cy x {z10 z11 z12 z13 z14 z15 z16 z32 z33 z34 z35 z36 z37 z38 z39 z40 z41 z42 z43 z44 z45 z46 z47 z48 z49 z50 z51 z52 z53 z54 z55 z56 z57 z58 z59 z60 z61 z62 z63 z64 z65 z66 z67 z68 z69 z70 z71 z72 z73 z74 z75 z76 z77 z78 z79 z80 z81 z82 z83 z84 z85 z86 z87 z88 z89 z90 z91 z92 z93 z94 z95 z96 z97 z98 z99 z100 z101 z102 z103 z104 z105 z106 : Value}, OwX W5 lo (some ⟨gy, 0, none⟩) (i + 1) cy (xs ++ [x]) → datX x = pkO (C, nx) (d, at', z) → Frm (fun k => k = W.heap.size + 1 ∨ (Value.slice ao i co).ownBlock = some k) W4 W5 → Q .normal (Act.mk (List.toArray (u0 :: u1 :: u2 :: u3 :: u4 :: u5 :: (.pointer (some ⟨gm, 0, none⟩)) :: u7 :: (.slice (some ⟨gy, 0, none⟩) (i + 1) cy) :: u9 :: z10 :: z11 :: z12 :: z13 :: z14 :: z15 :: z16 :: u17 :: u18 :: u19 :: u20 :: u21 :: u22 :: u23 :: u24 :: u25 :: u26 :: u27 :: (.slice (some ⟨b, off, none⟩) m cap) :: (.int .i64 (m : Nat)) :: (.int .i64 ((i + 1 : Nat) : Int)) :: u31 :: z32 :: z33 :: z34 :: z35 :: z36 :: z37 :: z38 :: z39 :: z40 :: z41 :: z42 :: z43 :: z44 :: z45 :: z46 :: z47 :: z48 :: z49 :: z50 :: z51 :: z52 :: z53 :: z54 :: z55 :: z56 :: z57 :: z58 :: z59 :: z60 :: z61 :: z62 :: z63 :: z64 :: z65 :: z66 :: z67 :: z68 :: z69 :: z70 :: z71 :: z72 :: z73 :: z74 :: z75 :: z76 :: z77 :: z78 :: z79 :: z80 :: z81 :: z82 :: z83 :: z84 :: z85 :: z86 :: z87 :: z88 :: z89 :: z90 :: z91 :: z92 :: z93 :: z94 :: z95 :: z96 :: z97 :: z98 :: z99 :: z100 :: z101 :: z102 :: z103 :: z104 :: z105 :: z106 :: u107 :: [])) (Ds'.map mark)) W5 := by
    intro W5 gy cy x
    intros
    rename_i h5 hx F5
    refine HQ.out W5 gy cy x Ds' (J.next g23 hS (by omega) (by omega) h5 F5 hx hgm hgc hgm0 hgc0) (hH4.frm F5 (fun h => ?_))
    rcases h with h | h
    · omega
    · have := J.own.new 0 h
      omega
  have hE := hS.err
  clear HJ
  rcases hE with ⟨rfl, k1, k2⟩ | ⟨rfl, k1, k2⟩ | ⟨gl, rfl, k1, k2⟩
  · refine rm_28n W4 lo (W.heap.size + 1) i co n c (pkO (C, nx) (d, at', z)).1 ao a (pkO (C, nx) (d, at', z)).2.1 xs hO4 hA4 hS.box hH4 (by omega) (by omega) (by omega) hap ?_
    intro W5 gy cy z16 z91 z92 z93 z94 z95 z96 z97 z98 z99 z100 z101 z102 z103 z104 z105 h5 F5
    (try simp only [Exit.inBlock, Exit.then])
    refine HK33.out _ _ ?_
    clear HK33
    go_wp2
    (try simp only [Exit.inBlock, Exit.then])
    exact HF W5 gy cy _ h5 (dat_eq _ a n c k1 k2) F5
  · refine rm_28e W4 lo (W.heap.size + 1) i co n c (pkO (C, nx) (d, at', z)).1 ao a (pkO (C, nx) (d, at', z)).2.1 xs hO4 hA4 hS.box hH4 (by omega) (by omega) (by omega) hap ?_
    intro W5 gy cy z16 z91 z92 z93 z94 z95 z96 z97 z98 z99 z100 z101 z102 z103 z104 z105 h5 F5
    (try simp only [Exit.inBlock, Exit.then])
    refine HK33.out _ _ ?_
    clear HK33
    go_wp2
    (try simp only [Exit.inBlock, Exit.then])
    exact HF W5 gy cy _ h5 (dat_eq _ a n c k1 k2) F5
  · refine rm_28l W4 lo (W.heap.size + 1) i co n c (pkO (C, nx) (d, at', z)).1 ao a (pkO (C, nx) (d, at', z)).2.1 xs hO4 hA4 hS.box hH4 (by omega) (by omega) (by omega) hap gl (pkO (C, nx) (d, at', z)).2.2.2 k1 ?_
    intro W5 gy cy z16 z91 z92 z93 z94 z95 z96 z97 z98 z99 z100 z101 z102 z103 z104 z105 h5 F5
    (try simp only [Exit.inBlock, Exit.then])
    refine HK33.out _ _ ?_
    clear HK33
    go_wp2
    (try simp only [Exit.inBlock, Exit.then])
    exact HF W5 gy cy _ h5 (dat_eq _ a n c k2 rfl) F5
end
end Go.Proofs.YtgnicopijocnjaaDoor
