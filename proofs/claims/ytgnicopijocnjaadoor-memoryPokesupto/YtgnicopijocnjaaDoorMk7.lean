import Derived.Test.YtgnicopijocnjaaDoorMk6
import Derived.Deep.DeepCutAuto
import Derived.Test.YtgnicopijocnjaaDoorRows
import Derived.OpenShut
import Derived.SizedLaws
import Derived.Deep.Slices
namespace Go.Proofs.YtgnicopijocnjaaDoor
open Go.RowKit
set_option maxRecDepth 100000
set_option linter.unusedVariables false
set_option linter.unusedSimpArgs false

section
open Go.RowKit Go.Shelf

attribute [local go_sem] Oper.semAt_some

theorem mall_any (gm : Nat) (w : World) : Calls Tryd.prog 15 #[.pointer (some ⟨gm, 0, none⟩)] w fun e w' => e = .returned (.func (.func 24) #[] #[.pointer (some ⟨w.heap.size, 0, none⟩)]) ∧ BxS w' w.heap.size 38 #[.pointer (some ⟨gm, 0, none⟩)] ∧ w.grownBy w' none := by
  have gA := World.grownBy_alloc w (.cells #[.pointer (some ⟨gm, 0, none⟩)] 38) none
  have bA := BxS.new w 38 #[.pointer (some ⟨gm, 0, none⟩)]
  go_enter Tryd.func15, Tryd.ntmps15
  go_wp2
  go_ret
  exact ⟨rfl, bA, gA⟩
theorem own_from_row {W W' : World} {row : Option Nat} {lo n c k : Nat} {a : Option Addr} {L : List Int} (h : AnsZ W lo a n c L) (hg : W.grownBy W' row) (hr : ∀ r, row = some r → k ≤ r ∧ ∃ o : Obj, W.heap[r]? = some o ∧ o.isCells = false) : AnsZ W' lo a n c L :=
  ⟨row_from h.own hg hr, h.new⟩
theorem box_fromM {W W' : World} {row : Option Nat} {g k : Nat} {t : TypeId} {cs : Array Value} (h : BxS W g t cs) (hg : W.grownBy W' row) (hr : ∀ r, row = some r → k ≤ r ∧ ∃ o : Obj, W.heap[r]? = some o ∧ o.isCells = false) : BxS W' g t cs := by
  refine (hg.block g h.lt (fun e => ?_)).trans h
  obtain ⟨_, o, ho, hc⟩ := hr g e.symm
  have h' : W.heap[g]? = some (.cells cs t) := h
  rw [h'] at ho
  cases ho
  cases hc
theorem frm_fromM {p : Nat → Prop} {w W W' : World} {row : Option Nat} {k : Nat} (h : Frm p w W) (hg : W.grownBy W' row) (hk : w.heap.size ≤ k) (hr : ∀ r, row = some r → k ≤ r ∧ ∃ o : Obj, W.heap[r]? = some o ∧ o.isCells = false) : Frm p w W' :=
  h.trans (Frm.of (p := fun i => w.heap.size ≤ i) hg (fun i e _ => by have := (hr i e).1; omega)) (fun i hi h => absurd h (by omega))
/-- what a range has collected so far, in the field More of the box gx -/
structure CoM (w : World) (gx : Nat) (ys : List (Nat × Nat)) (W : World) : Prop where
  box : ∃ a n c, BxS W gx 29 #[.int .i64 0, .slice a n c, .int .i64 0, .int .i64 0] ∧ AnsZ W w.heap.size a n c (flP ys)
  frm : Frm (fun k => k = gx) w W
theorem CoM.own (w : World) (gx k : Nat) (hk : w.heap.size ≤ k) : OwnFrom k (CoM w gx) := by
  rintro s X Y row ⟨⟨a, n, c, hb, hA⟩, hf⟩ hg hr
  exact ⟨⟨a, n, c, box_fromM hb hg hr, own_from_row hA hg hr⟩, frm_fromM hf hg hk hr⟩
theorem flP_add (ys : List (Nat × Nat)) (y : Nat × Nat) : flP (ys ++ [y]) = flP ys ++ [(y.1 : Int), (y.2 : Int)] := by simp [flP]
theorem flP_len (ys : List (Nat × Nat)) : (flP ys).length = ys.length * 2 := by
  induction ys with
  | nil => rfl
  | cons y ys ih =>
    show ([(y.1 : Int), (y.2 : Int)] ++ flP ys).length = (ys.length + 1) * 2
    rw [List.length_append, ih]
    show 2 + _ = _
    omega
theorem cells_twoI (w : World) (a b : Value) (j : Nat) (u : Value) (h : [a, b][j]? = some u) : (w.alloc (.cells #[a, b] 3)).cell? ((⟨w.heap.size, 0, none⟩ : Addr).add j) = some u := by
  rw [addr_add, cell_of_row _ _ _ _ _ _ (heap_alloc_new w _)]
  simpa using h
theorem AnsZ.ownB {w : World} {lo : Nat} {a : Option Addr} {n cap : Nat} {L : List Int} (h : AnsZ w lo a n cap L) : w.ownsRow lo 3 1 (.slice a n cap) n (zys L) := by
  refine ⟨h.own.1, ?_⟩
  rcases h.own.2 with h2 | ⟨g, cp, cur, e, h4, h5, h6⟩
  · exact .inl h2
  · exact .inr ⟨g, cp, cur, e, h.new g (by rw [e]; rfl), h5, h6⟩
theorem AnsZ.ofB {w : World} {lo : Nat} {a : Option Addr} {n cap : Nat} {L : List Int} (h : w.ownsRow lo 3 1 (.slice a n cap) n (zys L)) : AnsZ w lo a n cap L := by
  refine ⟨own_baseI h, fun g hg => ?_⟩
  rcases h.2 with ⟨e, _⟩ | ⟨g', cp, cur, e, h4, _, _⟩
  · rw [e] at hg; cases hg
  · rw [e] at hg
    have e2 : g' = g := Option.some.inj hg
    omega
theorem KeepS.putM (gm gc gb nx : Nat) (C : List Nat) (w : World) (hM : Mem w gm gc nx C) (hb : BxS w gb 38 #[.pointer (some ⟨gm, 0, none⟩)]) :
    ∀ (W : World) (l : Nat) (o o' : Obj), w.heap.size ≤ l → W.heap[l]? = some o → o.isCells = false → o.isWalk = false → KeepS (memB gm gc gb) W (W.putObj l o') :=
  KeepS.put (p := memB gm gc gb) (w := w) (fun k hk => by
    rcases hk with rfl | rfl | rfl
    · exact hM.box.lt
    · exact hM.row.lt
    · exact hb.lt)

set_option maxHeartbeats 8000000 in
theorem rm_23 {ds : List Deferred} {u0 u1 u2 u3 u4 u5 u6 u7 u8 u9 u10 u11 u12 u14 u15 u16 u17 u18 u19 u20 u21 u22 u23 u24 u25 u26 u27 u28 u29 u30 u31 u32 u33 u34 u35 u36 u37 u38 u39 u40 u41 u42 u43 u44 u45 u46 u47 u48 u49 u50 u51 u52 u53 u54 u55 u56 u57 u58 u59 u60 u61 u62 u63 u64 u65 u66 u67 u68 u69 u70 u71 u72 u73 u74 u75 u76 u77 u78 u79 u80 u81 u82 u83 u84 u85 u86 u87 u88 u89 u90 u91 u92 u93 u94 u95 u96 u97 u98 u99 u100 u101 u102 u103 u104 u105 u106 u107 : Value} {Q : Exit → Act → World → Prop} (gm gc gb nx : Nat) (C : List Nat) (w : World) (hM : Mem w gm gc nx C) (hb : BxS w gb 38 #[.pointer (some ⟨gm, 0, none⟩)])
    (hQ : ∀ D W, w.heap.size ≤ D → Frm (fun _ => False) w W → W.heap[D]? = some (.deferred (some [])) → Q .normal (Act.mk (List.toArray (u0 :: u1 :: u2 :: u3 :: u4 :: u5 :: u6 :: u7 :: u8 :: u9 :: u10 :: u11 :: u12 :: (.func (.func 24) #[] #[.pointer (some ⟨gb, 0, none⟩)]) :: u14 :: u15 :: u16 :: u17 :: u18 :: u19 :: u20 :: u21 :: u22 :: u23 :: u24 :: u25 :: u26 :: u27 :: u28 :: u29 :: u30 :: u31 :: u32 :: u33 :: u34 :: u35 :: u36 :: u37 :: u38 :: u39 :: u40 :: u41 :: u42 :: u43 :: u44 :: u45 :: u46 :: u47 :: u48 :: u49 :: u50 :: u51 :: u52 :: u53 :: u54 :: u55 :: u56 :: u57 :: u58 :: u59 :: u60 :: u61 :: u62 :: u63 :: u64 :: u65 :: u66 :: u67 :: u68 :: u69 :: u70 :: u71 :: u72 :: u73 :: u74 :: u75 :: u76 :: u77 :: (.func (.func 24) #[] #[.pointer (some ⟨gb, 0, none⟩)]) :: u79 :: u80 :: u81 :: u82 :: u83 :: u84 :: u85 :: u86 :: u87 :: u88 :: u89 :: u90 :: u91 :: u92 :: u93 :: u94 :: u95 :: u96 :: u97 :: u98 :: u99 :: u100 :: u101 :: u102 :: u103 :: u104 :: u105 :: u106 :: u107 :: [])) (mark D :: ds)) W) :
    Code.wp Tryd.prog (headM (tailR 23 (Tryd.f5.body.getD .skip))) Q (Act.mk (List.toArray (u0 :: u1 :: u2 :: u3 :: u4 :: u5 :: u6 :: u7 :: u8 :: u9 :: u10 :: u11 :: u12 :: (.func (.func 24) #[] #[.pointer (some ⟨gb, 0, none⟩)]) :: u14 :: u15 :: u16 :: u17 :: u18 :: u19 :: u20 :: u21 :: u22 :: u23 :: u24 :: u25 :: u26 :: u27 :: u28 :: u29 :: u30 :: u31 :: u32 :: u33 :: u34 :: u35 :: u36 :: u37 :: u38 :: u39 :: u40 :: u41 :: u42 :: u43 :: u44 :: u45 :: u46 :: u47 :: u48 :: u49 :: u50 :: u51 :: u52 :: u53 :: u54 :: u55 :: u56 :: u57 :: u58 :: u59 :: u60 :: u61 :: u62 :: u63 :: u64 :: u65 :: u66 :: u67 :: u68 :: u69 :: u70 :: u71 :: u72 :: u73 :: u74 :: u75 :: u76 :: u77 :: u78 :: u79 :: u80 :: u81 :: u82 :: u83 :: u84 :: u85 :: u86 :: u87 :: u88 :: u89 :: u90 :: u91 :: u92 :: u93 :: u94 :: u95 :: u96 :: u97 :: u98 :: u99 :: u100 :: u101 :: u102 :: u103 :: u104 :: u105 :: u106 :: u107 :: [])) ds) w := by
  have hst := all_stops 7 gm gc nx gb C w (by decide) hM hb
  have hput := KeepS.putM gm gc gb nx C w hM hb
  have hent := enters_of Tryd.func24 (by kernel_rfl) rfl
  have hown : ∀ k, w.heap.size ≤ k → OwnFrom k (fun (_ : List (Nat × Nat)) W => Frm (fun _ => False) w W) := fun k hk => by rintro s X Y row h hg hr; exact frm_fromM h hg hk hr
  conv => enter [2]; whnf
  refine wp_seq_k fun K1 hK1 => ?_
  have HK1 : Hid _ := hK1
  clear hK1
  go_wp2
  (try simp only [Exit.inBlock, Exit.then])
  refine HK1.out _ _ ?_
  clear HK1
  refine wp_block ?_
  refine wpIn_wide.1 (range_E (n := 8) (F := Fence.wide) rfl (by decide) (gf := 24) (lb := #[.pointer (some ⟨gb, 0, none⟩)]) rfl trivial hent hst KeepS.trans hput (Below.refl _ _) (fun _ => rfl)
    (fun _ W => Frm (fun _ => False) w W) (fun c _ W => c = .exit 3 ∧ Frm (fun _ => False) w W) (hown _ (Nat.le_refl _)) (fun c => by rintro s X Y row ⟨h0, h⟩ hg hr; exact ⟨h0, frm_fromM h hg (Nat.le_refl _) hr⟩) (Frm.refl _ _) (fun _ _ _ => True) (fun _ _ => by rintro s X Y row h _ _; trivial) ?assign ?body ?done ?stop)
  case assign =>
    intro l pre x W K hI hE hK
    gi_wp2
    exact hK _ _ ((KeepsOthers.refl W).from _) ⟨KeepB.refl _ _, Nat.le_refl _⟩ hI trivial
  case body =>
    intro l pre x a' W hI _ _
    refine wpIn_block (wpIn_exit ?_)
    exact ⟨(KeepsOthers.refl W).from _, rfl, hI⟩
  case done =>
    intro D xs W hD hS hI hk
    exact hQ D W hD hI hk
  case stop =>
    rintro D c pre W hD _ ⟨rfl, hI⟩ hk
    refine wpIn_exit ?_
    exact hQ D W hD hI hk

set_option maxHeartbeats 8000000 in
theorem rm_24 {ds : List Deferred} {u0 u1 u2 u3 u4 u5 u6 u7 u8 u9 u10 u12 u14 u15 u16 u17 u18 u19 u20 u21 u22 u23 u24 u25 u26 u27 u28 u29 u30 u31 u32 u33 u34 u35 u36 u37 u38 u39 u40 u41 u42 u43 u44 u45 u46 u47 u48 u49 u50 u51 u52 u53 u54 u55 u56 u57 u58 u59 u60 u61 u62 u63 u64 u65 u66 u67 u68 u69 u70 u71 u72 u73 u74 u75 u76 u77 u78 u79 u80 u81 u82 u83 u84 u85 u86 u87 u88 u89 u90 u91 u92 u93 u94 u95 u96 u97 u98 u99 u100 u101 u102 u103 u104 u105 u106 u107 : Value} {Q : Exit → Act → World → Prop} (gm gc gb gx nx : Nat) (C : List Nat) (w : World) (hM : Mem w gm gc nx C) (hb : BxS w gb 38 #[.pointer (some ⟨gm, 0, none⟩)]) (bx : BxS w gx 29 #[.int .i64 0, .slice none 0 0, .int .i64 0, .int .i64 0]) (hne : gx ≠ gm ∧ gx ≠ gc ∧ gx ≠ gb)
    (hQ : ∀ D W, w.heap.size ≤ D → CoM w gx (alL C C.length) W → W.heap[D]? = some (.deferred (some [])) → Q .normal (Act.mk (List.toArray (u0 :: u1 :: u2 :: u3 :: u4 :: u5 :: u6 :: u7 :: u8 :: u9 :: u10 :: (.pointer (some ⟨gx, 0, none⟩)) :: u12 :: (.func (.func 24) #[] #[.pointer (some ⟨gb, 0, none⟩)]) :: u14 :: u15 :: u16 :: u17 :: u18 :: u19 :: u20 :: u21 :: u22 :: u23 :: u24 :: u25 :: u26 :: u27 :: u28 :: u29 :: u30 :: u31 :: u32 :: u33 :: u34 :: u35 :: u36 :: u37 :: u38 :: u39 :: u40 :: u41 :: u42 :: u43 :: u44 :: u45 :: u46 :: u47 :: u48 :: u49 :: u50 :: u51 :: u52 :: u53 :: u54 :: u55 :: u56 :: u57 :: u58 :: u59 :: u60 :: u61 :: u62 :: u63 :: u64 :: u65 :: u66 :: u67 :: u68 :: u69 :: u70 :: u71 :: u72 :: u73 :: u74 :: u75 :: u76 :: u77 :: u78 :: u79 :: u80 :: (.func (.func 24) #[] #[.pointer (some ⟨gb, 0, none⟩)]) :: u82 :: u83 :: u84 :: u85 :: u86 :: u87 :: u88 :: u89 :: u90 :: u91 :: u92 :: u93 :: u94 :: u95 :: u96 :: u97 :: u98 :: u99 :: u100 :: u101 :: u102 :: u103 :: u104 :: u105 :: u106 :: u107 :: [])) (mark D :: ds)) W) :
    Code.wp Tryd.prog (tailR 24 (Tryd.f5.body.getD .skip)) Q (Act.mk (List.toArray (u0 :: u1 :: u2 :: u3 :: u4 :: u5 :: u6 :: u7 :: u8 :: u9 :: u10 :: (.pointer (some ⟨gx, 0, none⟩)) :: u12 :: (.func (.func 24) #[] #[.pointer (some ⟨gb, 0, none⟩)]) :: u14 :: u15 :: u16 :: u17 :: u18 :: u19 :: u20 :: u21 :: u22 :: u23 :: u24 :: u25 :: u26 :: u27 :: u28 :: u29 :: u30 :: u31 :: u32 :: u33 :: u34 :: u35 :: u36 :: u37 :: u38 :: u39 :: u40 :: u41 :: u42 :: u43 :: u44 :: u45 :: u46 :: u47 :: u48 :: u49 :: u50 :: u51 :: u52 :: u53 :: u54 :: u55 :: u56 :: u57 :: u58 :: u59 :: u60 :: u61 :: u62 :: u63 :: u64 :: u65 :: u66 :: u67 :: u68 :: u69 :: u70 :: u71 :: u72 :: u73 :: u74 :: u75 :: u76 :: u77 :: u78 :: u79 :: u80 :: u81 :: u82 :: u83 :: u84 :: u85 :: u86 :: u87 :: u88 :: u89 :: u90 :: u91 :: u92 :: u93 :: u94 :: u95 :: u96 :: u97 :: u98 :: u99 :: u100 :: u101 :: u102 :: u103 :: u104 :: u105 :: u106 :: u107 :: [])) ds) w := by
  have hst := all_stops 7 gm gc nx gb C w (by decide) hM hb
  have hput := KeepS.putM gm gc gb nx C w hM hb
  have hent := enters_of Tryd.func24 (by kernel_rfl) rfl
  have hI0 : CoM w gx [] w := ⟨⟨none, 0, 0, bx, ansZ_nil _ _⟩, Frm.refl _ _⟩
  have hlt : ∀ k, memB gm gc gb k → k < w.heap.size := fun k hk => by
    rcases hk with rfl | rfl | rfl
    · exact hM.box.lt
    · exact hM.row.lt
    · exact hb.lt
  have hmo := hM.most
  obtain ⟨i0, hi, hz0, hz1, hz2⟩ := info_parts Tryd.info_int
  obtain ⟨FF, hFF⟩ : ∃ FF : Nat × Nat → Act, FF = fun y => (Act.mk (List.toArray (u0 :: u1 :: u2 :: u3 :: u4 :: u5 :: u6 :: u7 :: u8 :: u9 :: u10 :: (.pointer (some ⟨gx, 0, none⟩)) :: u12 :: (.func (.func 24) #[] #[.pointer (some ⟨gb, 0, none⟩)]) :: (.int .i64 (y.1 : Int)) :: (.int .i64 (y.2 : Int)) :: u16 :: u17 :: u18 :: u19 :: u20 :: u21 :: u22 :: u23 :: u24 :: u25 :: u26 :: u27 :: u28 :: u29 :: u30 :: u31 :: u32 :: u33 :: u34 :: u35 :: u36 :: u37 :: u38 :: u39 :: u40 :: u41 :: u42 :: u43 :: u44 :: u45 :: u46 :: u47 :: u48 :: u49 :: u50 :: u51 :: u52 :: u53 :: u54 :: u55 :: u56 :: u57 :: u58 :: u59 :: u60 :: u61 :: u62 :: u63 :: u64 :: u65 :: u66 :: u67 :: u68 :: u69 :: u70 :: u71 :: u72 :: u73 :: u74 :: u75 :: u76 :: u77 :: u78 :: u79 :: u80 :: (.func (.func 24) #[] #[.pointer (some ⟨gb, 0, none⟩)]) :: (.int .i64 (y.1 : Int)) :: (.int .i64 (y.2 : Int)) :: u84 :: u85 :: u86 :: u87 :: u88 :: u89 :: u90 :: u91 :: u92 :: u93 :: u94 :: u95 :: u96 :: u97 :: u98 :: u99 :: u100 :: u101 :: u102 :: u103 :: u104 :: u105 :: u106 :: u107 :: [])) []) := ⟨_, rfl⟩
  conv => enter [2]; whnf
  refine wp_seq_k fun K1 hK1 => ?_
  have HK1 : Hid _ := hK1
  clear hK1
  go_wp2
  (try simp only [Exit.inBlock, Exit.then])
  refine HK1.out _ _ ?_
  clear HK1
  refine wp_block ?_
  refine wpIn_wide.1 (range_E (n := 8) (F := Fence.wide) rfl (by decide) (gf := 24) (lb := #[.pointer (some ⟨gb, 0, none⟩)]) rfl trivial hent hst KeepS.trans hput (Below.refl _ _) (fun _ => rfl)
    (CoM w gx) (fun _ _ _ => False) (CoM.own w gx _ (Nat.le_refl _)) (fun _ => by rintro s X Y row h _ _; exact h) hI0 (fun y a _ => a = FF y) (fun _ _ => by rintro s X Y row h _ _; exact h) ?assign ?body ?done ?stop)
  case assign =>
    rintro l pre ⟨y1, y2⟩ W K hI hE hK
    unfold encPM
    simp only [List.zip_toArray, List.zip_cons_cons, List.zip_nil_left, List.zip_nil_right, List.size_toArray, List.length_cons, List.length_nil, List.foldl_toArray', List.foldl_toArray, List.foldl_cons, List.foldl_nil, List.setIfInBounds_toArray, List.set_cons_succ, List.set_cons_zero]
    have HK : Hid _ := hK
    clear hK
    gi_wp2
    refine HK.out _ _ ((KeepsOthers.refl W).from _) ⟨KeepB.refl _ _, Nat.le_refl _⟩ hI ?_
    rw [hFF]
  case body =>
    rintro l pre ⟨y1, y2⟩ a' W ⟨⟨av, nv, cv, hv, hA⟩, hf⟩ ha hl
    rw [hFF] at ha
    subst ha
    clear hFF
    have hsz : w.heap.size ≤ W.heap.size := hf.size
    have hnl := hA.len
    have hfl := flP_len pre
    have c1 : W.cell? ⟨gx, 1, none⟩ = some (.slice av nv cv) := hv.cell 1 (by simp)
    have HH : Hid (gx ≠ gm ∧ gx ≠ gc ∧ gx ≠ gb) := hne
    have HL : Hid (∀ k, memB gm gc gb k → k < w.heap.size) := hlt
    have HX : Hid _ := hent
    have HS : Hid _ := hst
    have HP : Hid _ := hput
    clear hne hlt hent hst hput
    refine wpIn_block ?_
    have gA := World.grownBy_alloc W (.cells #[.int .i64 (y1 : Int), .int .i64 (y2 : Int)] 3) none
    gi_wp2_with (gi_at_builtin; refine wpListIn_append_own _ rfl _ _ 27 rfl w.heap.size 3 i0 _ 1 8 Tryd.underlying27 hi hz0 hz1 hz2 rfl (by decide) (.slice av nv cv) nv (zys (flP pre)) rfl (hA.ownB.alloc _) ⟨W.heap.size, 0, none⟩ 2 2 [.int .i64 (y1 : Int), .int .i64 (y2 : Int)] rfl rfl (cells_twoI W _ _) (by simp [Value.oneCell']) (by unfold maxLen; omega) (by omega) (by simp; omega) ?_; intro v' w1 hown' hgrow _; obtain ⟨g', cap', rfl⟩ := ownsRow_succ hown'; have hgrow2 := grown_trans (World.grownBy_alloc W _ _) hgrow; have bx1 := hv.keep hgrow2 (fun e => by have := hA.new gx e.symm; have := hf.size; have := hI0.box; obtain ⟨_, _, _, hb0, _⟩ := this; have := hb0.lt; omega); have x1 := bx1.cell 1 (by simp); have xf := bx1.free 1; simp at x1)
    have bx2 := bx1.set 1 (.slice (some ⟨g', 0, none⟩) (nv + 2) cap')
    have hZ : AnsZ w1 w.heap.size (some ⟨g', 0, none⟩) (nv + 2) cap' (flP (pre ++ [(y1, y2)])) := AnsZ.ofB (by rw [flP_add]; simpa [zys] using hown')
    have hlt := hI0.box
    obtain ⟨_, _, _, hb0, _⟩ := hlt
    have hgx := hb0.lt
    have hZ2 := hZ.kept (grown_set w1 gx 1 (.slice (some ⟨g', 0, none⟩) (nv + 2) cap')) (.inr (fun e => by have := hZ.new gx e; omega))
    have F2 : Frm (fun k => k = gx ∨ (Value.slice av nv cv).ownBlock = some k) W (w1.setCell ⟨gx, 1, none⟩ (.slice (some ⟨g', 0, none⟩) (nv + 2) cap')) :=
      (Frm.of (p := fun k => k = gx ∨ (Value.slice av nv cv).ownBlock = some k) hgrow2 (fun k e _ => .inr e)).trans (Frm.of (p := fun k => k = gx) (grown_set w1 gx 1 (.slice (some ⟨g', 0, none⟩) (nv + 2) cap')) (fun k e _ => (Option.some.inj e).symm)) (fun i _ h => .inl h)
    have hnw := fun k (h : (Value.slice av nv cv).ownBlock = some k) => hA.new k h
    refine ⟨(((KeepsOthers.alloc W _).trans (KeepsOthers.of_grownBy hgrow (fun j o ej hj => ?_))).trans (KeepsOthers.setCell _ _ _)).from _, ⟨fun k hk => F2.block k (by have := HL.out k hk; omega) (fun hp => ?_), F2.size⟩, ⟨⟨_, _, _, bx2, hZ2⟩, hf.trans F2 (fun i hi hp => ?_)⟩⟩
    · obtain ⟨_, cur, hcur⟩ := row_lt (hA.own.alloc (.cells #[.int .i64 (y1 : Int), .int .i64 (y2 : Int)] 3)) ej
      rw [hcur] at hj; cases hj; rfl
    · rcases hp with rfl | hp
      · rcases hk with e | e | e
        · exact HH.out.1 e
        · exact HH.out.2.1 e
        · exact HH.out.2.2 e
      · have := HL.out k hk; have := hnw k hp; omega
    · rcases hp with rfl | hp
      · rfl
      · have := hnw i hp; omega
  case done =>
    rintro D xs W hD rfl hI hk
    exact hQ D W hD hI hk
  case stop =>
    intro D c pre W _ _ h _
    exact h.elim
end

section
open Go.RowKit Go.Shelf

attribute [local go_sem] Oper.semAt_some
set_option maxHeartbeats 16000000 in
theorem rm_5 {u0 u1 u2 u3 u4 u5 u7 u8 u9 u13 u14 u15 u16 u17 u18 u19 u20 u21 u22 u23 u24 u25 u26 u27 u28 u29 u30 u31 u32 u33 u34 u35 u36 u37 u38 u39 u40 u41 u42 u43 u44 u45 u46 u47 u48 u49 u50 u51 u52 u53 u54 u55 u56 u57 u58 u59 u60 u61 u62 u63 u64 u65 u66 u67 u68 u69 u70 u71 u72 u73 u74 u75 u76 u77 u78 u79 u80 u81 u82 u83 u84 u85 u86 u87 u88 u89 u90 u91 u92 u93 u94 u95 u96 u97 u98 u99 u100 u101 u102 u103 u104 u105 u106 u107 : Value} {Q : Exit → Act → World → Prop} (W : World) (gm gc gp gx : Nat) (C : List Nat) (nx : Nat) (d at' z : Int) (Ds : List Nat) (hM : Mem W gm gc nx C) (bp : BxS W gp 33 #[.int .i64 d, .int .i64 at', .int .i64 z]) (bx : BxS W gx 29 #[.int .i64 0, .slice none 0 0, .int .i64 0, .int .i64 0]) (hne : gx ≠ gm ∧ gx ≠ gc) (hd : d = 5) (hxl : gx < W.heap.size)
    (hQ : ∀ W' ev a n c Ds' {z13 z14 z15 z34 z35 z36 z37 z38 z39 z40 z41 z42 z43 z44 z45 z46 z47 z48 z49 z50 z51 z52 z53 z54 z55 z56 z57 z58 z59 z60 z61 z62 z63 z64 z65 z66 z67 z68 z69 z70 z71 z72 z73 z74 z75 z76 z77 z78 z79 z80 z81 z82 z83 z84 z85 z86 z87 z88 z89 z90 : Value}, StA W W' gm gc gx (pkS (C, nx) (d, at', z)) ev a n c (pkO (C, nx) (d, at', z)) Ds Ds' → Q .normal (Act.mk (List.toArray (u0 :: u1 :: u2 :: u3 :: u4 :: u5 :: (.pointer (some ⟨gm, 0, none⟩)) :: u7 :: u8 :: u9 :: (.pointer (some ⟨gp, 0, none⟩)) :: (.pointer (some ⟨gx, 0, none⟩)) :: (ev) :: z13 :: z14 :: z15 :: u16 :: u17 :: u18 :: u19 :: u20 :: u21 :: u22 :: u23 :: u24 :: u25 :: u26 :: u27 :: u28 :: u29 :: u30 :: u31 :: u32 :: u33 :: z34 :: z35 :: z36 :: z37 :: z38 :: z39 :: z40 :: z41 :: z42 :: z43 :: z44 :: z45 :: z46 :: z47 :: z48 :: z49 :: z50 :: z51 :: z52 :: z53 :: z54 :: z55 :: z56 :: z57 :: z58 :: z59 :: z60 :: z61 :: z62 :: z63 :: z64 :: z65 :: z66 :: z67 :: z68 :: z69 :: z70 :: z71 :: z72 :: z73 :: z74 :: z75 :: z76 :: z77 :: z78 :: z79 :: z80 :: z81 :: z82 :: z83 :: z84 :: z85 :: z86 :: z87 :: z88 :: z89 :: z90 :: u91 :: u92 :: u93 :: u94 :: u95 :: u96 :: u97 :: u98 :: u99 :: u100 :: u101 :: u102 :: u103 :: u104 :: u105 :: u106 :: u107 :: [])) (Ds'.map mark)) W') :
    Code.wp Tryd.prog (headM (tailR 12 (Tryd.f5.body.getD .skip))) Q (Act.mk (List.toArray (u0 :: u1 :: u2 :: u3 :: u4 :: u5 :: (.pointer (some ⟨gm, 0, none⟩)) :: u7 :: u8 :: u9 :: (.pointer (some ⟨gp, 0, none⟩)) :: (.pointer (some ⟨gx, 0, none⟩)) :: (.nilIface) :: u13 :: u14 :: u15 :: u16 :: u17 :: u18 :: u19 :: u20 :: u21 :: u22 :: u23 :: u24 :: u25 :: u26 :: u27 :: u28 :: u29 :: u30 :: u31 :: u32 :: u33 :: u34 :: u35 :: u36 :: u37 :: u38 :: u39 :: u40 :: u41 :: u42 :: u43 :: u44 :: u45 :: u46 :: u47 :: u48 :: u49 :: u50 :: u51 :: u52 :: u53 :: u54 :: u55 :: u56 :: u57 :: u58 :: u59 :: u60 :: u61 :: u62 :: u63 :: u64 :: u65 :: u66 :: u67 :: u68 :: u69 :: u70 :: u71 :: u72 :: u73 :: u74 :: u75 :: u76 :: u77 :: u78 :: u79 :: u80 :: u81 :: u82 :: u83 :: u84 :: u85 :: u86 :: u87 :: u88 :: u89 :: u90 :: u91 :: u92 :: u93 :: u94 :: u95 :: u96 :: u97 :: u98 :: u99 :: u100 :: u101 :: u102 :: u103 :: u104 :: u105 :: u106 :: u107 :: [])) (Ds.map mark)) W := by
  have HQ : Hid _ := @hQ
  clear hQ
  have c0 : W.cell? ⟨gp, 0, none⟩ = some (.int .i64 d) := bp.cell 0 (by simp)
  have c1 : W.cell? ⟨gp, 1, none⟩ = some (.int .i64 at') := bp.cell 1 (by simp)
  have c2 : W.cell? ⟨gp, 2, none⟩ = some (.int .i64 z) := bp.cell 2 (by simp)
  have hmo := hM.most
  have HE : Hid (pkS (C, nx) (d, at', z) = (C, nx) ∧ pkO (C, nx) (d, at', z) = (0, flP (alL C C.length), 0, 0)) := by
    subst hd
    refine ⟨?_, ?_⟩
    · unfold pkS
      dsimp only
      rw [if_neg (by decide), if_neg (by decide), if_neg (by decide), if_neg (by decide)]
    · unfold pkO
      dsimp only
      rw [if_neg (by decide), if_neg (by decide), if_neg (by decide), if_neg (by decide), if_pos rfl]
  rw [HE.out.1, HE.out.2] at HQ
  clear HE
  subst hd
  have HC := mall_any gm W
  conv => enter [2]; whnf
  go_upto_region 22 with fail
  rename_i K2 hK2
  have HK2 : Hid _ := hK2
  clear hK2
  go_wp2_with (go_at_call 15; refine HC.mono ?_; rintro e W1 ⟨rfl, hb, g1⟩)
  (try simp only [Exit.inBlock, Exit.then])
  refine HK2.out _ _ ?_
  clear HK2
  refine wp_seq_k fun K23 hK23 => ?_
  have HK23 : Hid _ := hK23
  clear hK23
  have hM1 := hM.grown g1 (by simp) (by simp)
  have hgm := hM.box.lt
  have hgc := hM.row.lt
  have hg1 := g1.size
  refine rm_23 gm gc W.heap.size nx C W1 hM1 hb ?_
  intro D1 W2 hD1 F2 hk1
  have g2 : W1.grownBy W2 none := ⟨F2.os, F2.tape, F2.output, F2.size, fun k hk _ => F2.block k hk (fun h => h)⟩
  (try simp only [Exit.inBlock, Exit.then])
  refine HK23.out _ _ ?_
  clear HK23
  refine rm_24 gm gc W.heap.size gx nx C W2 (hM1.grown g2 (by simp) (by simp)) (hb.keep g2 (by simp)) ((bx.keep g1 (by simp)).keep g2 (by simp)) ⟨hne.1, hne.2, by omega⟩ ?_
  intro D2 W3 hD2 ⟨⟨a, n, c, hb3, hA3⟩, hF3⟩ hk2
  (try simp only [Exit.inBlock, Exit.then])
  have hs2 := g2.size
  have hl1 : D1 < W2.heap.size := (Array.getElem?_eq_some_iff.1 hk1).1
  have F13 : Frm (fun k => k = gx) W W3 := (Frm.of (p := fun k => k = gx) (grown_trans g1 g2) (fun k e _ => by cases e)).trans hF3 (fun i _ h => h)
  refine HQ.out W3 .nilIface a n c (D2 :: D1 :: Ds) ⟨?_, hb3, ⟨hA3.own, fun g h => by have := hA3.new g h; omega⟩, .inl ⟨rfl, rfl, rfl⟩, F13.weak (fun i _ h => .inr h), [D2, D1], rfl, ?_, ?_⟩
  · have hb1 := hM.box.frmM F13 (fun e => hne.1 e.symm)
    have hr1 : BlZ W3 gc C := (F13.block gc hgc (fun e => hne.2 e.symm)).trans hM.row
    exact ⟨hb1, hr1, hM.ne, hM.code, hM.one, hM.most, hM.next⟩
  · refine List.nodup_cons.2 ⟨fun h => ?_, List.nodup_cons.2 ⟨(fun h => by cases h), List.nodup_nil⟩⟩
    have e := List.mem_singleton.1 h
    omega
  · intro D hD
    rcases List.mem_cons.1 hD with rfl | hD
    · exact ⟨by omega, hk2⟩
    · obtain rfl := List.mem_singleton.1 hD
      exact ⟨by omega, (hF3.block D hl1 (by omega)).trans hk1⟩
set_option maxHeartbeats 16000000 in
theorem rm_12 {u0 u1 u2 u3 u4 u5 u7 u8 u9 u13 u14 u15 u16 u17 u18 u19 u20 u21 u22 u23 u24 u25 u26 u27 u28 u29 u30 u31 u32 u33 u34 u35 u36 u37 u38 u39 u40 u41 u42 u43 u44 u45 u46 u47 u48 u49 u50 u51 u52 u53 u54 u55 u56 u57 u58 u59 u60 u61 u62 u63 u64 u65 u66 u67 u68 u69 u70 u71 u72 u73 u74 u75 u76 u77 u78 u79 u80 u81 u82 u83 u84 u85 u86 u87 u88 u89 u90 u91 u92 u93 u94 u95 u96 u97 u98 u99 u100 u101 u102 u103 u104 u105 u106 u107 : Value} {Q : Exit → Act → World → Prop} (W : World) (gm gc gp gx : Nat) (C : List Nat) (nx : Nat) (d at' z : Int) (Ds : List Nat) (hM : Mem W gm gc nx C) (bp : BxS W gp 33 #[.int .i64 d, .int .i64 at', .int .i64 z]) (bx : BxS W gx 29 #[.int .i64 0, .slice none 0 0, .int .i64 0, .int .i64 0]) (hne : gx ≠ gm ∧ gx ≠ gc) (hxl : gx < W.heap.size)
    (hQ : ∀ W' ev a n c Ds' {z13 z14 z15 z34 z35 z36 z37 z38 z39 z40 z41 z42 z43 z44 z45 z46 z47 z48 z49 z50 z51 z52 z53 z54 z55 z56 z57 z58 z59 z60 z61 z62 z63 z64 z65 z66 z67 z68 z69 z70 z71 z72 z73 z74 z75 z76 z77 z78 z79 z80 z81 z82 z83 z84 z85 z86 z87 z88 z89 z90 : Value}, StA W W' gm gc gx (pkS (C, nx) (d, at', z)) ev a n c (pkO (C, nx) (d, at', z)) Ds Ds' → Q .normal (Act.mk (List.toArray (u0 :: u1 :: u2 :: u3 :: u4 :: u5 :: (.pointer (some ⟨gm, 0, none⟩)) :: u7 :: u8 :: u9 :: (.pointer (some ⟨gp, 0, none⟩)) :: (.pointer (some ⟨gx, 0, none⟩)) :: (ev) :: z13 :: z14 :: z15 :: u16 :: u17 :: u18 :: u19 :: u20 :: u21 :: u22 :: u23 :: u24 :: u25 :: u26 :: u27 :: u28 :: u29 :: u30 :: u31 :: u32 :: u33 :: z34 :: z35 :: z36 :: z37 :: z38 :: z39 :: z40 :: z41 :: z42 :: z43 :: z44 :: z45 :: z46 :: z47 :: z48 :: z49 :: z50 :: z51 :: z52 :: z53 :: z54 :: z55 :: z56 :: z57 :: z58 :: z59 :: z60 :: z61 :: z62 :: z63 :: z64 :: z65 :: z66 :: z67 :: z68 :: z69 :: z70 :: z71 :: z72 :: z73 :: z74 :: z75 :: z76 :: z77 :: z78 :: z79 :: z80 :: z81 :: z82 :: z83 :: z84 :: z85 :: z86 :: z87 :: z88 :: z89 :: z90 :: u91 :: u92 :: u93 :: u94 :: u95 :: u96 :: u97 :: u98 :: u99 :: u100 :: u101 :: u102 :: u103 :: u104 :: u105 :: u106 :: u107 :: [])) (Ds'.map mark)) W') :
    Code.wp Tryd.prog (headM (tailR 12 (Tryd.f5.body.getD .skip))) Q (Act.mk (List.toArray (u0 :: u1 :: u2 :: u3 :: u4 :: u5 :: (.pointer (some ⟨gm, 0, none⟩)) :: u7 :: u8 :: u9 :: (.pointer (some ⟨gp, 0, none⟩)) :: (.pointer (some ⟨gx, 0, none⟩)) :: (.nilIface) :: u13 :: u14 :: u15 :: u16 :: u17 :: u18 :: u19 :: u20 :: u21 :: u22 :: u23 :: u24 :: u25 :: u26 :: u27 :: u28 :: u29 :: u30 :: u31 :: u32 :: u33 :: u34 :: u35 :: u36 :: u37 :: u38 :: u39 :: u40 :: u41 :: u42 :: u43 :: u44 :: u45 :: u46 :: u47 :: u48 :: u49 :: u50 :: u51 :: u52 :: u53 :: u54 :: u55 :: u56 :: u57 :: u58 :: u59 :: u60 :: u61 :: u62 :: u63 :: u64 :: u65 :: u66 :: u67 :: u68 :: u69 :: u70 :: u71 :: u72 :: u73 :: u74 :: u75 :: u76 :: u77 :: u78 :: u79 :: u80 :: u81 :: u82 :: u83 :: u84 :: u85 :: u86 :: u87 :: u88 :: u89 :: u90 :: u91 :: u92 :: u93 :: u94 :: u95 :: u96 :: u97 :: u98 :: u99 :: u100 :: u101 :: u102 :: u103 :: u104 :: u105 :: u106 :: u107 :: [])) (Ds.map mark)) W := by
  by_cases d1 : d = 1
  · by_cases hc : 0 ≤ at' ∧ at' ≤ (C.length : Int) - 1
    · by_cases hw : wrW (nth C at'.toNat) = 2
      · exact rm_1l W gm gc gp gx C nx d at' z Ds hM bp bx hne d1 hc hw @hQ
      · exact rm_1g W gm gc gp gx C nx d at' z Ds hM bp bx hne d1 hc hw @hQ
    · exact rm_1b W gm gc gp gx C nx d at' z Ds hM bp bx hne d1 hc @hQ
  by_cases d2 : d = 2
  · by_cases hc : (0 ≤ at' ∧ at' ≤ (C.length : Int) - 1) ∧ (0 ≤ z ∧ z ≤ 4294967295)
    · exact rm_2g W gm gc gp gx C nx d at' z Ds hM bp bx hne d2 hc @hQ
    · exact rm_2b W gm gc gp gx C nx d at' z Ds hM bp bx hne d2 hc @hQ
  by_cases d3 : d = 3
  · by_cases hc : (0 ≤ at' ∧ at' ≤ (C.length : Int) - 1) ∧ (0 ≤ z ∧ z ≤ 38)
    · exact rm_3g W gm gc gp gx C nx d at' z Ds hM bp bx hne d3 hc @hQ
    · exact rm_3b W gm gc gp gx C nx d at' z Ds hM bp bx hne d3 hc @hQ
  by_cases d4 : d = 4
  · by_cases hc : 0 ≤ z ∧ z ≤ (C.length : Int)
    · exact rm_4g W gm gc gp gx C nx d at' z Ds hM bp bx hne d4 hc @hQ
    · exact rm_4b W gm gc gp gx C nx d at' z Ds hM bp bx hne d4 hc @hQ
  by_cases d5 : d = 5
  · exact rm_5 W gm gc gp gx C nx d at' z Ds hM bp bx hne d5 hxl @hQ
  exact rm_0 W gm gc gp gx C nx d at' z Ds hM bp bx hne ⟨d1, d2, d3, d4, d5⟩ @hQ
end

section
open Go.ChangeShapes Go.WideShapes

/-- a type's shape, as a reading goes through it: fields in a row (a struct, an array), slices, numbers; mt: what a reading tells of cells; n: how much is read -/
structure Sh where
  agg : Bool
  mt : World → Bool → List Value → Nat → Prop
def sumN (F : Nat → Nat) : Nat → Nat
  | 0 => 0
  | n + 1 => sumN F n + F n
def Sh.met (w : World) (full : Bool) (s : Sh) (cs : List Value) (n : Nat) : Prop := s.mt w full cs n
def Sh.bool : Sh := ⟨false, fun w full cs n => n = 1 ∧ ∃ b, cs = [.bool b]⟩
def Sh.int (k : IntKind) : Sh := ⟨false, fun w full cs n => n = 1 ∧ ∃ z, cs = [.int k z] ∧ (Lit.int k z).wf = true⟩
def Sh.str : Sh := ⟨false, fun w full cs n => ∃ s : ByteArray, cs = [.string s] ∧ n = s.size + 1 ∧ s.size ≤ maxLen ∧ (full = true → s.size ≤ reachBytes)⟩
def Sh.slice (c b : Nat) (e : Sh) : Sh := ⟨false, fun w full cs n => (n = 1 ∧ cs = [.slice none 0 0]) ∨
      ∃ (a : Addr) (len cap : Nat) (F : Nat → Nat) (C : Nat → List Value), cs = [.slice (some a) len cap] ∧ n = sumN F cap + 1 ∧ len ≤ cap ∧ cap ≤ maxLen ∧ (full = true → cap * b ≤ reachBytes) ∧
        ∀ i, i < cap → (C i).length = c ∧ (∀ j, j < c → w.cell? (a.add (i * c + j)) = (C i)[j]?) ∧ e.mt w full (C i) (F i)⟩
def Sh.fend : Sh := ⟨true, fun w full cs n => cs = [] ∧ n = 1⟩
def Sh.fcons (c : Nat) (s r : Sh) : Sh := ⟨true, fun w full cs n => ∃ n1 n2, n = n1 + n2 ∧ s.mt w full (cs.take c) n1 ∧ r.mt w full (cs.drop c) n2⟩
def Sh.rep (c : Nat) (s : Sh) : Nat → Sh
  | 0 => .fend
  | n + 1 => .fcons c s (Sh.rep c s n)
def fieldsOf (P : Program) (g : TypeId → Option Sh) (top : Nat) : Nat → List Field → Option Sh
  | off, [] => if off = top then some .fend else none
  | off, f :: r => if f.offset = off then (g f.type).bind fun s => (fieldsOf P g top (off + P.cellsOf f.type) r).map fun q => .fcons (P.cellsOf f.type) s q else none
def shapeOf (P : Program) : Nat → TypeId → Option Sh
  | 0, _ => none
  | f + 1, t => match P.underlying t with
    | some .bool => some .bool
    | some (.int k) => some (.int k)
    | some .string => some .str
    | some (.slice e) => (shapeOf P f e).map fun s => .slice (P.cellsOf e) (P.bytesOf e) s
    | some (.struct fs) => fieldsOf P (shapeOf P f) (P.cellsOf t) 0 fs.toList
    | some (.array n e) => if P.cellsOf t = n * P.cellsOf e then (shapeOf P f e).map fun s => Sh.rep (P.cellsOf e) s n else none
    | _ => none
section
variable {H : Type} {enc : TypeId × Value → H} {P : Program} {w : World} {full : Bool}
theorem bulkAll_append (l r : List (DataW H)) : Rows.uptoBulkAll (l ++ r) = Rows.uptoBulkAll l + Rows.uptoBulkAll r := by
  induction l with
  | nil => simp [Rows.uptoBulkAll]
  | cons d l ih => simp only [List.cons_append, Rows.uptoBulkAll, ih]; omega
theorem bulkAll_range (D : Nat → DataW H) (n : Nat) : Rows.uptoBulkAll ((List.range n).map D) = sumN (fun i => Rows.uptoBulk (D i)) n := by
  induction n with
  | zero => rfl
  | succ n ih => rw [List.range_succ, List.map_append, bulkAll_append, ih]; simp [sumN, Rows.uptoBulkAll]
theorem weights_all {e : TypeId} {n : Nat} {d : DataW H} (hn : n ∈ d.weights P e) : ∀ {l : List (DataW H)}, d ∈ l → n ∈ DataW.weightsAll P e l
  | [], h => by cases h
  | x :: l, h => by
    simp only [DataW.weightsAll, List.mem_append]
    rcases List.mem_cons.1 h with rfl | h
    · exact .inl hn
    · exact .inr (weights_all hn h)
theorem fields_met {g : TypeId → Option Sh} {cs : List Value} {m : Nat}
    (hg : ∀ t s, g t = some s → ∀ cs' d ps, DataW.trod enc P w 0 (fun _ => true) true m t cs' = some (d, ps) → (full = true → ∀ n ∈ d.weights P t, n ≤ reachBytes) → s.met w full cs' (Rows.uptoBulk d)) :
    ∀ (fl : List Field) (off : Nat) (s : Sh) (xs : List (DataW H × List MemPlace)), fieldsOf P g cs.length off fl = some s → xs.length = fl.length →
      (∀ (i : Nat) (f : Field), fl[i]? = some f → DataW.trod enc P w 0 (fun _ => true) true m f.type ((cs.drop f.offset).take (P.cellsOf f.type)) = xs[i]?) →
      (full = true → ∀ n ∈ DataW.weightsEach P (fl.map (·.type)) (xs.map (·.1)), n ≤ reachBytes) → s.met w full (cs.drop off) (Rows.uptoBulkAll (xs.map (·.1)) + 1)
  | [], off, s, xs, hs, hl, hx, hw => by
    unfold fieldsOf at hs
    split at hs
    · rename_i ho
      obtain rfl : xs = [] := List.eq_nil_of_length_eq_zero hl
      cases hs
      exact ⟨by simp [ho], rfl⟩
    · cases hs
  | f :: r, off, s, [], hs, hl, hx, hw => by simp at hl
  | f :: r, off, s, x :: xs, hs, hl, hx, hw => by
    unfold fieldsOf at hs
    split at hs
    case isFalse => cases hs
    rename_i ho
    obtain ⟨s1, h1, h2⟩ := Option.bind_eq_some_iff.1 hs
    obtain ⟨q, h3, rfl⟩ := Option.map_eq_some_iff.1 h2
    have k0 := hx 0 f rfl
    refine ⟨Rows.uptoBulk x.1, Rows.uptoBulkAll (xs.map (·.1)) + 1, ?_, ?_, ?_⟩
    · simp only [List.map_cons, Rows.uptoBulkAll]; omega
    · rw [ho] at k0
      refine hg f.type s1 h1 _ x.1 x.2 k0 fun hf n hn => hw hf n ?_
      simp only [List.map_cons, DataW.weightsEach, List.mem_append]
      exact .inl hn
    · have := fields_met hg r (off + P.cellsOf f.type) q xs h3 (by simpa using hl) (fun i f' hf => hx (i + 1) f' hf) (fun hf n hn => hw hf n (by
        simp only [List.map_cons, DataW.weightsEach, List.mem_append]; exact .inr hn))
      rw [List.drop_drop]
      exact this
theorem rep_met {c : Nat} {s : Sh} {cs : List Value} {m : Nat} {e : TypeId}
    (hg : ∀ cs' d ps, DataW.trod enc P w 0 (fun _ => true) true m e cs' = some (d, ps) → (full = true → ∀ n ∈ d.weights P e, n ≤ reachBytes) → s.met w full cs' (Rows.uptoBulk d)) :
    ∀ (k i0 : Nat) (xs : List (DataW H × List MemPlace)), cs.length = (i0 + k) * c → xs.length = k →
      (∀ i, i < k → DataW.trod enc P w 0 (fun _ => true) true m e ((cs.drop ((i0 + i) * c)).take c) = xs[i]?) →
      (full = true → ∀ n ∈ DataW.weightsAll P e (xs.map (·.1)), n ≤ reachBytes) → (Sh.rep c s k).met w full (cs.drop (i0 * c)) (Rows.uptoBulkAll (xs.map (·.1)) + 1)
  | 0, i0, xs, hc, hl, hx, hw => by
    obtain rfl : xs = [] := List.eq_nil_of_length_eq_zero hl
    exact ⟨by simp [hc], rfl⟩
  | k + 1, i0, [], hc, hl, hx, hw => by simp at hl
  | k + 1, i0, x :: xs, hc, hl, hx, hw => by
    refine ⟨Rows.uptoBulk x.1, Rows.uptoBulkAll (xs.map (·.1)) + 1, ?_, ?_, ?_⟩
    · simp only [List.map_cons, Rows.uptoBulkAll]; omega
    · refine hg _ x.1 x.2 (hx 0 (by omega)) fun hf n hn => hw hf n ?_
      simp only [List.map_cons, DataW.weightsAll, List.mem_append]
      exact .inl hn
    · have := rep_met hg k (i0 + 1) xs (by rw [hc]; congr 1; omega) (by simpa using hl) (fun i hi => by
        have := hx (i + 1) (by omega)
        rw [show i0 + (i + 1) = i0 + 1 + i by omega] at this
        simpa using this) (fun hf n hn => hw hf n (by
        simp only [List.map_cons, DataW.weightsAll, List.mem_append]; exact .inr hn))
      rw [List.drop_drop]
      rw [show i0 * c + c = (i0 + 1) * c by rw [Nat.add_mul]; omega]
      exact this
theorem met_of_trod : ∀ (f : Nat) (t : TypeId) (s : Sh), shapeOf P f t = some s → ∀ (fuel : Nat) (cs : List Value) (d : DataW H) (ps : List MemPlace),
    DataW.trod enc P w 0 (fun _ => true) true fuel t cs = some (d, ps) → (full = true → ∀ n ∈ d.weights P t, n ≤ reachBytes) → s.met w full cs (Rows.uptoBulk d)
  | 0, t, s, hs, _, _, _, _, _, _ => by cases hs
  | f + 1, t, s, hs, fuel, cs, d, ps, h, hw => by
    unfold shapeOf at hs
    split at hs
    · rename_i hu
      cases hs
      obtain ⟨b, rfl, hx⟩ := DataW.trod_bool hu h
      cases hx
      exact ⟨rfl, b, rfl⟩
    · rename_i k hu
      cases hs
      obtain ⟨z, rfl, hx, hz⟩ := DataW.trod_int hu h
      cases hx
      exact ⟨rfl, z, rfl, hz⟩
    · rename_i hu
      cases hs
      obtain ⟨b, rfl, hx, hz⟩ := DataW.trod_string hu h
      cases hx
      have hb : b.data.toList.length = b.size := Array.length_toList
      refine ⟨b, rfl, by simp only [Rows.uptoBulk]; rw [hb], hz, fun hf => ?_⟩
      have := hw hf b.data.toList.length (by simp only [DataW.weights]; exact List.mem_singleton.2 rfl)
      rw [hb] at this
      exact this
    · rename_i e hu
      obtain ⟨s1, h1, rfl⟩ := Option.map_eq_some_iff.1 hs
      rcases Go.Deep.open_slice hu h with ⟨rfl, hx⟩ | ⟨a, len, cap, m, n, D, Pl, rfl, _, hl, hm, hmm, hx, hel⟩
      · cases hx
        exact .inl ⟨by simp [Rows.uptoBulk], rfl⟩
      · simp only [if_true] at hmm
        subst hmm
        cases hx
        have hall : (List.range len).map D ++ (List.range (m - len)).map (fun j => D (len + j)) = (List.range m).map D := by
          have e1 : m = len + (m - len) := by omega
          conv => rhs; rw [e1, List.range_add]
          simp [List.map_append, Function.comp_def]
        have hD : ∀ i, i < m → D i ∈ (List.range len).map D ∨ D i ∈ (List.range (m - len)).map (fun j => D (len + j)) := by
          intro i hi
          have : D i ∈ (List.range m).map D := List.mem_map.2 ⟨i, List.mem_range.2 hi, rfl⟩
          rw [← hall] at this
          exact List.mem_append.1 this
        have each : ∀ i, i < m → ∃ c : List Value, c.length = P.cellsOf e ∧ (∀ j, j < P.cellsOf e → w.cell? (a.add (i * P.cellsOf e + j)) = c[j]?) ∧ s1.met w full c (Rows.uptoBulk (D i)) := by
          intro i hi
          obtain ⟨c, g1, g2⟩ := hel i hi
          obtain ⟨_, g3, g4⟩ := World.cells?_some g1
          refine ⟨c, g3, fun j hj => ?_, met_of_trod f e s1 h1 n c (D i) (Pl i) g2 fun hf k hk => hw hf k ?_⟩
          · rw [← g4 j hj, Go.Deep.add_add]
          · simp only [DataW.weights, hu, List.mem_cons, List.mem_append]
            rcases hD i hi with q | q
            · exact .inr (.inl (weights_all hk q))
            · exact .inr (.inr (weights_all hk q))
        obtain ⟨C, hC⟩ := Go.Deep.choose_lt each
        refine .inr ⟨a, len, m, fun i => Rows.uptoBulk (D i), C, rfl, ?_, hl, hm, fun hf => ?_, hC⟩
        · simp only [Rows.uptoBulk]
          rw [← bulkAll_append, hall, bulkAll_range]
        · have := hw hf ((((List.range len).map D).length + ((List.range (m - len)).map (fun j => D (len + j))).length) * P.bytesOf e) (by
            simp only [DataW.weights, hu]; exact List.mem_cons_self)
          simp only [List.length_map, List.length_range] at this
          rw [show len + (m - len) = m by omega] at this
          exact this
    · rename_i fs hu
      obtain ⟨xs, n, hn, hx, hcl, hxl, hf⟩ := DataW.trod_struct hu h
      cases hx
      rw [← hcl] at hs
      have := fields_met (enc := enc) (P := P) (w := w) (full := full) (cs := cs) (m := n) (fun t' s' h' cs' d' ps' => met_of_trod f t' s' h' n cs' d' ps') fs.toList 0 s xs hs (by simpa using hxl) (fun i f' hf' => hf i f' (by simpa using hf')) (fun hfu k hk => hw hfu k (by simp only [DataW.weights, hu]; exact hk))
      simpa [Rows.uptoBulk] using this
    · rename_i n e hu
      split at hs
      case isFalse => cases hs
      rename_i hc
      obtain ⟨s1, h1, rfl⟩ := Option.map_eq_some_iff.1 hs
      obtain ⟨xs, m, hm, hx, hcl, hxl, hf⟩ := DataW.trod_array hu h
      cases hx
      have := rep_met (enc := enc) (P := P) (w := w) (full := full) (c := P.cellsOf e) (s := s1) (cs := cs) (m := m) (e := e) (fun cs' d' ps' => met_of_trod f e s1 h1 m cs' d' ps') n 0 xs (by rw [hcl, hc]; simp) hxl (fun i hi => by simpa using hf i hi) (fun hfu k hk => hw hfu k (by simp only [DataW.weights, hu]; exact hk))
      simpa [Rows.uptoBulk] using this
    · cases hs
/-- an argument -/
def Sh.shown (w : World) (full : Bool) (s : Sh) (v : Value) (n : Nat) : Prop := match s.agg with
  | true => ∃ cs, v = .agg cs ∧ s.met w full cs.toList n
  | false => s.met w full [v] n
theorem fields_agg {g : TypeId → Option Sh} {top : Nat} : ∀ {fl : List Field} {off : Nat} {s : Sh}, fieldsOf P g top off fl = some s → s.agg = true
  | [], off, s, h => by
    unfold fieldsOf at h
    split at h
    · cases h; rfl
    · cases h
  | f :: r, off, s, h => by
    unfold fieldsOf at h
    split at h
    · obtain ⟨s1, h1, h2⟩ := Option.bind_eq_some_iff.1 h
      obtain ⟨q, h3, rfl⟩ := Option.map_eq_some_iff.1 h2
      rfl
    · cases h
theorem rep_agg (c : Nat) (s : Sh) (n : Nat) : (Sh.rep c s n).agg = true := by
  cases n with
  | zero => rfl
  | succ n => rfl
theorem shown_agg {s : Sh} {cs : Array Value} {n : Nat} (hs : s.agg = true) (h : s.met w full cs.toList n) : s.shown w full (.agg cs) n := by
  unfold Sh.shown
  rw [hs]
  exact ⟨cs, rfl, h⟩
theorem shown_of {f : Nat} {t : TypeId} {s : Sh} (hs : shapeOf P f t = some s) {r : Reach} {base : Nat} {v : Value} {d : DataW H} {ps : List MemPlace} (hv : Value.okWide P w r base t v)
    (h : DataW.Trod enc P w 0 (fun _ => true) true t v d ps) (hw : full = true → ∀ n ∈ d.weights P t, n ≤ reachBytes) : s.shown w full v (Rows.uptoBulk d) := by
  obtain ⟨fuel, hf⟩ := h
  have hm := met_of_trod (full := full) f t s hs fuel _ d ps hf hw
  cases f with
  | zero => cases hs
  | succ f =>
    unfold shapeOf at hs
    split at hs
    · rename_i hu
      cases hs
      obtain ⟨b, rfl⟩ := okWide_bool hu hv
      exact hm
    · rename_i k hu
      cases hs
      obtain ⟨z, rfl⟩ := okWide_int hu hv
      exact hm
    · rename_i hu
      cases hs
      obtain ⟨z, rfl⟩ := okWide_string hu hv
      exact hm
    · rename_i e hu
      obtain ⟨s1, h1, rfl⟩ := Option.map_eq_some_iff.1 hs
      obtain ⟨a, l, c, rfl⟩ := okWide_slice hu hv
      exact hm
    · rename_i fs hu
      obtain ⟨cs, rfl, _⟩ := okWide_struct hu hv
      exact shown_agg (fields_agg hs) hm
    · rename_i n e hu
      split at hs
      case isFalse => cases hs
      obtain ⟨s1, h1, rfl⟩ := Option.map_eq_some_iff.1 hs
      have hv2 := hv
      simp only [Value.okWide, hu] at hv2
      obtain ⟨cs, rfl, _⟩ := hv2
      exact shown_agg (rep_agg _ _ _) hm
    · cases hs
end
end
end Go.Proofs.YtgnicopijocnjaaDoor
