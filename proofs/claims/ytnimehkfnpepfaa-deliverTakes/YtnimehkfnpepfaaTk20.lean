import Derived.Lib.MinMax
import Derived.Test.YtnimehkfnpepfaaTk19
import Derived.Test.YtnimehkfnpepfaaTk9
import Derived.Test.YtnimehkfnpepfaaTk4
import Derived.Test.YtnimehkfnpepfaaTk7
import Derived.Test.YtnimehkfnpepfaaTk6
import Derived.Lib.AppendZerosOnto
import Derived.Laws.CopyOwn
import Derived.Test.YtnimehkfnpepfaaTk15
import Derived.Test.YtnimehkfnpepfaaTk8
namespace Go.Proofs.Ytnimehkfnpepfaa
open Go.RowKit
set_option maxRecDepth 100000
set_option linter.unusedVariables false
set_option linter.unusedSimpArgs false

section
def xDone (id co : Int) : Nx := ⟨5, id, ⟨#[]⟩, 0, 0, 0, [], [], 0, co, none, 0, none, 0⟩
def xSeE (id : Int) : Nx := ⟨6, id, ⟨#[]⟩, 0, 0, 0, [], [], 3, 0, none, 0, none, 0⟩
def xGaps (id : Int) (M : List (Int × Int)) (q : Option Addr) (d : Nat) : Nx := ⟨4, id, ⟨#[]⟩, 0, 0, 0, [], M, 0, 0, none, 0, q, d⟩
/-- what is shown of an operation in a row serves in a region that draws, too -/
theorem step_of_listV {ops : Array Oper} {o : Oper} {a : Act} {w : World} {K : Act → World → Prop} {Q : Exit → Act → World → Prop} {E : Prop} (hg : o.guard = none) (h : wpList Try.prog ops (Exit.then K (fun _ _ _ => False)) [o] a w) :
    if Region.wanted o (yielded ops a.tmps) = true then Oper.wp Try.prog o a w K Q else E := by
  have hw : Region.wanted o (yielded ops a.tmps) = true := by simp [Region.wanted, hg]
  rw [if_pos hw]
  unfold wpList at h
  rw [if_pos hw] at h
  rcases h with h | ⟨_, a', w', h⟩
  · unfold Oper.wp at *
    generalize (execOp a.eval o).run Try.prog w = r at *
    cases r with
    | ok n w' =>
      cases n <;> simp only [Oper.upon] at h ⊢ <;>
        first
          | exact h
          | exact Calls.mono h (fun e w'' he => by
              cases e with
              | returned v => exact he
              | panicked c => exact he.elim
              | outgrown => obtain ⟨a', w', he⟩ := he; exact he.elim)
          | exact Rows.mono h (fun _ _ he => he)
    | halt x w' =>
      cases x <;> simp only [Oper.upon] at h ⊢ <;> first | exact h | exact h.elim
  · exact h.elim
/-- the first of a row -/
theorem OwGi.cut {w : World} {lo g n cap : Nat} {ks : List (Int × Int)} (h : OwGi w lo (some ⟨g, 0, none⟩) n cap ks) (m : Nat) (hm : m ≤ n) : OwGi w lo (some ⟨g, 0, none⟩) m cap (ks.take m) :=
  ⟨by rw [← flP_flG _ _ (by rw [List.length_take, h.len]; omega)]; exact own_takeP h.ownP h.len m hm, by rw [List.length_take, h.len]; omega, h.new⟩
theorem OwGi.cases {w : World} {lo : Nat} {q : Option Addr} {m d : Nat} {G : List (Int × Int)} (h : OwGi w lo q m d G) : (q = none ∧ m = 0 ∧ d = 0) ∨ ∃ g, q = some ⟨g, 0, none⟩ ∧ m ≤ d := by
  rcases h.own.2 with ⟨h1, h2⟩ | ⟨g', cap', cur, h1, h2, h3, h4, h5, h6, h7⟩
  · simp only [Value.slice.injEq] at h1
    exact .inl h1
  · simp only [Value.slice.injEq] at h1
    obtain ⟨rfl, _, rfl⟩ := h1
    exact .inr ⟨g', rfl, h4⟩

set_option maxHeartbeats 8000000 in
theorem sendDone_any (wB w : World) (gw : Nat) (id : Int) (kn : Bool) (nm : ByteArray) (si : Int) (en : Bool) (la su : Int) (st ti pa tr li : Int) (a : Option Addr) (n c : Nat) (L : List Nat) (q : Option Addr) (m d : Nat) (G : List (Int × Int)) (na : Option Addr) (nn nc : Nat) (xs : List Nx) (co : Int) (h : TKW wB w gw id kn nm si en la su st ti pa tr li a n c L q m d G na nn nc xs) (hn : nn ≤ 100000) : Calls Try.prog 105 #[.pointer (some ⟨gw, 0, none⟩), .int .i64 co] w fun e w' => e = .returned (.tuple #[]) ∧ (∃ na' nc', TKW wB w' gw id kn nm si en la su st ti pa tr li a n c L q m d G na' (nn + 1) nc' (xs ++ [xDone id co])) ∧ FrK gw na nn nc w w' := by
  go_enter Try.func105, Try.ntmps105
  go_wp2_with (go_at_call 121; refine (tsend_any wB w gw id kn nm si en la su st ti pa tr li a n c L q m d G na nn nc xs h (xDone 0 co) (Ans.nil _ _) (OwGi.nil _ _) hn (fun z e => by rcases e with e | e <;> cases e)).mono ?_; rintro e w3 ⟨rfl, ⟨na3, nc3, h3⟩, hfr⟩)
  first | go_end0 | refine bodyPost_ret (results_none rfl _ _ _) rfl ?_
  exact ⟨rfl, ⟨na3, nc3, h3⟩, hfr⟩

set_option maxHeartbeats 8000000 in
theorem sendSeen_any (wB w : World) (gw : Nat) (id : Int) (kn : Bool) (nm : ByteArray) (si : Int) (en : Bool) (la su : Int) (st ti pa tr li : Int) (a : Option Addr) (n c : Nat) (L : List Nat) (q : Option Addr) (m d : Nat) (G : List (Int × Int)) (na : Option Addr) (nn nc : Nat) (xs : List Nx) (h : TKW wB w gw id kn nm si en la su st ti pa tr li a n c L q m d G na nn nc xs) (hn : nn ≤ 100000) : Calls Try.prog 104 #[.pointer (some ⟨gw, 0, none⟩)] w fun e w' => e = .returned (.tuple #[]) ∧ (∃ na' nc', TKW wB w' gw id kn nm si en la su st ti pa tr li a n c L q m d G na' (nn + 1) nc' (xs ++ [xSeE id])) ∧ FrK gw na nn nc w w' := by
  go_enter Try.func104, Try.ntmps104
  go_wp2_with (go_at_call 121; refine (tsend_any wB w gw id kn nm si en la su st ti pa tr li a n c L q m d G na nn nc xs h (xSeE 0) (Ans.nil _ _) (OwGi.nil _ _) hn (fun z e => by rcases e with e | e <;> cases e)).mono ?_; rintro e w3 ⟨rfl, ⟨na3, nc3, h3⟩, hfr⟩)
  first | go_end0 | refine bodyPost_ret (results_none rfl _ _ _) rfl ?_
  exact ⟨rfl, ⟨na3, nc3, h3⟩, hfr⟩

set_option maxHeartbeats 16000000 in
theorem ms_t4 {u1 u2 u4 u5 u6 u7 u8 u9 u10 u11 u12 u13 u14 u15 u16 u17 u18 u19 u20 u21 u22 u23 u24 u25 u26 u27 u28 u29 u30 u31 u32 u33 : Value} (P : Ending → World → Prop) (w0 : World) (wB w : World) (gw : Nat) (id : Int) (kn : Bool) (nm : ByteArray) (si : Int) (en : Bool) (la su : Int) (st ti pa tr li : Int) (a : Option Addr) (n c : Nat) (L : List Nat) (q : Option Addr) (m d : Nat) (G : List (Int × Int)) (na : Option Addr) (nn nc : Nat) (xs : List Nx) (h : TKW wB w gw id kn nm si en la su st ti pa tr li a n c L q m d G na nn nc xs) (g0 : w0.grownBy w none) (hm : m ≤ 65536) (q1 : Option Addr) (m1 d1 : Nat) (U : List (Int × Int)) (hO : OwGi w w0.heap.size q1 m1 d1 U) (hm1 : m1 ≤ 1) (hs : ∀ z, (Value.slice q1 m1 d1).ownBlock = some z → w0.heap.size ≤ z)
    (hP : ∀ w' q' d', OwGi w' w0.heap.size q' ((U ++ uqF (giF G) 0 la m).take 20).length d' ((U ++ uqF (giF G) 0 la m).take 20) → w0.grownBy w' none → P (.returned (.slice q' ((U ++ uqF (giF G) 0 la m).take 20).length d')) w') :
    Code.wp Try.prog (tailR 4 (Try.f124.body.getD .skip)) (bodyPost Try.prog Try.f124 P) (Act.mk (List.toArray ((.pointer (some ⟨gw, 0, none⟩)) :: u1 :: u2 :: (.slice q1 m1 d1) :: u4 :: u5 :: u6 :: u7 :: u8 :: u9 :: u10 :: u11 :: u12 :: u13 :: u14 :: u15 :: u16 :: u17 :: u18 :: u19 :: u20 :: u21 :: u22 :: u23 :: u24 :: u25 :: u26 :: u27 :: u28 :: u29 :: u30 :: u31 :: u32 :: u33 :: [])) []) w := by
  conv => enter [2]; whnf
  have HP : Hid _ := hP
  clear hP
  have hul : (uqF (giF G) 0 la m).length ≤ m + 1 := uqF_len
  refine wp_seq_k fun K1 hK1 => ?_
  have HK1 : Hid _ := hK1
  clear hK1
  have Gd := grown_drew w none
  have SS : BxS w.drew gw 112 #[.int .i64 id, .bool kn, .string nm, .int .i64 si, .bool en, .int .i64 la, .int .i64 su, .slice q m d, .slice a n c, .int .i64 st, .int .i64 ti, .int .i64 pa, .int .i64 tr, .int .i64 li, .slice na nn nc] := h.bx.keep Gd (by simp)
  refine wp_regionL (fun wz => BxS wz gw 112 #[.int .i64 id, .bool kn, .string nm, .int .i64 si, .bool en, .int .i64 la, .int .i64 su, .slice q m d, .slice a n c, .int .i64 st, .int .i64 ti, .int .i64 pa, .int .i64 tr, .int .i64 li, .slice na nn nc]) [] #[false, false, false, false, false, false, false, false, false, false, false, false, false, false, false] rfl (by kernel_rfl) ?_
  refine wpAnyZ_take [] 0 (.slice q1 m1 d1) rfl (by kernel_rfl) (fun _ _ _ h => h) SS rfl (by intro wz hz; go_simp) ?_
  try simp only [List.getElem_toArray, List.getElem_cons_succ, List.getElem_cons_zero, Act.put, List.setIfInBounds_toArray, List.set_cons_zero, List.set_cons_succ]
  refine wpAnyZ_take [] 1 (.pointer (some ⟨gw, 0, none⟩)) rfl (by kernel_rfl) (fun _ _ _ h => h) SS rfl (by intro wz hz; go_simp) ?_
  try simp only [List.getElem_toArray, List.getElem_cons_succ, List.getElem_cons_zero, Act.put, List.setIfInBounds_toArray, List.set_cons_zero, List.set_cons_succ]
  refine wpAnyZ_take [] 2 (.pointer (some ⟨gw, 0, none⟩)) rfl (by kernel_rfl) (fun _ _ _ h => h) SS rfl (by intro wz hz; go_simp) ?_
  try simp only [List.getElem_toArray, List.getElem_cons_succ, List.getElem_cons_zero, Act.put, List.setIfInBounds_toArray, List.set_cons_zero, List.set_cons_succ]
  refine wpAnyZ_take [] 3 (.pointer (some ⟨gw, 0, none⟩)) rfl (by kernel_rfl) (fun _ _ _ h => h) SS rfl (by intro wz hz; go_simp) ?_
  try simp only [List.getElem_toArray, List.getElem_cons_succ, List.getElem_cons_zero, Act.put, List.setIfInBounds_toArray, List.set_cons_zero, List.set_cons_succ]
  refine wpAnyZ_take [] 4 (.pointer (some ⟨gw, 7, none⟩)) rfl (by kernel_rfl) (fun _ _ _ h => h) SS rfl (by intro wz hz; go_simp) ?_
  try simp only [List.getElem_toArray, List.getElem_cons_succ, List.getElem_cons_zero, Act.put, List.setIfInBounds_toArray, List.set_cons_zero, List.set_cons_succ]
  refine wpAnyZ_take [] 5 (.slice q m d) rfl (by kernel_rfl) (fun _ _ _ h => h) SS rfl (by intro wz hz; have z : wz.cell? ⟨gw, 7, none⟩ = some (.slice q m d) := hz.cell 7 (by show 7 < 15; decide); go_simp) ?_
  try simp only [List.getElem_toArray, List.getElem_cons_succ, List.getElem_cons_zero, Act.put, List.setIfInBounds_toArray, List.set_cons_zero, List.set_cons_succ]
  refine wpAnyZ_take [] 6 (.pointer (some ⟨gw, 0, none⟩)) rfl (by kernel_rfl) (fun _ _ _ h => h) SS rfl (by intro wz hz; go_simp) ?_
  try simp only [List.getElem_toArray, List.getElem_cons_succ, List.getElem_cons_zero, Act.put, List.setIfInBounds_toArray, List.set_cons_zero, List.set_cons_succ]
  refine wpAnyZ_take [] 7 (.pointer (some ⟨gw, 0, none⟩)) rfl (by kernel_rfl) (fun _ _ _ h => h) SS rfl (by intro wz hz; go_simp) ?_
  try simp only [List.getElem_toArray, List.getElem_cons_succ, List.getElem_cons_zero, Act.put, List.setIfInBounds_toArray, List.set_cons_zero, List.set_cons_succ]
  refine wpAnyZ_take [] 8 (.pointer (some ⟨gw, 0, none⟩)) rfl (by kernel_rfl) (fun _ _ _ h => h) SS rfl (by intro wz hz; go_simp) ?_
  try simp only [List.getElem_toArray, List.getElem_cons_succ, List.getElem_cons_zero, Act.put, List.setIfInBounds_toArray, List.set_cons_zero, List.set_cons_succ]
  refine wpAnyZ_take [] 9 (.pointer (some ⟨gw, 5, none⟩)) rfl (by kernel_rfl) (fun _ _ _ h => h) SS rfl (by intro wz hz; go_simp) ?_
  try simp only [List.getElem_toArray, List.getElem_cons_succ, List.getElem_cons_zero, Act.put, List.setIfInBounds_toArray, List.set_cons_zero, List.set_cons_succ]
  refine wpAnyZ_take [] 10 (.int .i64 la) rfl (by kernel_rfl) (fun _ _ _ h => h) SS rfl (by intro wz hz; have z : wz.cell? ⟨gw, 5, none⟩ = some (.int .i64 la) := hz.cell 5 (by show 5 < 15; decide); go_simp) ?_
  try simp only [List.getElem_toArray, List.getElem_cons_succ, List.getElem_cons_zero, Act.put, List.setIfInBounds_toArray, List.set_cons_zero, List.set_cons_succ]
  refine wpAnyZ_take [] 11 (.agg #[.int .i64 0, .int .i64 la]) rfl (by kernel_rfl) (fun _ _ _ h => h) SS rfl (by intro wz hz; go_simp) ?_
  try simp only [List.getElem_toArray, List.getElem_cons_succ, List.getElem_cons_zero, Act.put, List.setIfInBounds_toArray, List.set_cons_zero, List.set_cons_succ]
  generalize w.drew = w2 at *
  refine wpAnyZ_oneB 12 rfl (by kernel_rfl) (fun KK hKK => ?_)
  go_simp
  go_at_call 119
  refine (untold_any q m d (giF G) 0 la w2 ((h.O.keep Gd).rd) (by omega)).mono ?_
  rintro e w3 ⟨q3, d3, rfl, hO3, y3⟩
  dsimp only
  have S3 := SS.keep y3 (by simp)
  have hO3' := (hO.keep Gd).keep y3
  have G3 := grown_trans (grown_trans g0 Gd) y3
  refine hKK _ _ (fun _ => S3) ?_
  try simp only [List.getElem_toArray, List.getElem_cons_succ, List.getElem_cons_zero, Act.put, List.setIfInBounds_toArray, List.set_cons_zero, List.set_cons_succ]
  generalize uqF (giF G) 0 la m = X at *
  have z3 := G3.size
  have hR3 := hO3.rd
  refine wpAnyZ_oneB 13 rfl (by kernel_rfl) (fun KK hKK => ?_)
  refine step_of_listV rfl ?_
  refine wpList_joinG rfl _ _ rfl q1 m1 d1 w0.heap.size U rfl hO3' (by omega) q3 X.length d3 (giF X) rfl hR3 (by omega) ?_
  intro q5 d5 w5 hO5 y5
  rw [tab_giF] at hO5
  have S5 := S3.keep y5 (fun e => own_ty hO3'.own S3 (by decide) e.symm)
  have G5 := grown_far G3 y5 hs
  show KK _ w5
  refine hKK _ _ (fun _ => S5) ?_
  try simp only [List.getElem_toArray, List.getElem_cons_succ, List.getElem_cons_zero, Act.put, List.setIfInBounds_toArray, List.set_cons_zero, List.set_cons_succ]
  refine wpAnyZ_oneB 14 rfl (by kernel_rfl) (fun KK hKK => ?_)
  go_simp
  refine hKK _ _ (fun _ => S5) ?_
  try simp only [List.getElem_toArray, List.getElem_cons_succ, List.getElem_cons_zero, Act.put, List.setIfInBounds_toArray, List.set_cons_zero, List.set_cons_succ]
  refine wpAnyZ_doneB (by kernel_rfl) ?_ _
  refine HK1.out _ _ ?_
  clear HK1
  have hl5 := hO5.len
  have z5 := G5.size
  generalize hUX : U ++ X = Y at *
  generalize hmx : m1 + X.length = k at *
  have hmn : min (k : Int) 20 = ((min k 20 : Nat) : Int) := by omega
  have htl : (Y.take 20).length = min k 20 := by rw [List.length_take, hl5]; omega
  have htk : Y.take (min k 20) = Y.take 20 := by rw [← hl5, List.take_eq_take_iff]; omega
  rw [htl] at HP
  have HTK : Hid _ := htk
  clear htk htl
  rcases hO5.cases with ⟨rfl, hk, rfl⟩ | ⟨g5, rfl, hkd⟩
  · subst hk
    have hY : Y = [] := List.eq_nil_of_length_eq_zero hl5
    subst hY
    go_wp2_with (go_at_call 93; refine (gclone_any none 0 0 (giF []) w5 hO5.rd (by omega)).mono ?_; rintro e w6 ⟨q6, d6, rfl, hO6, y6⟩)
    try go_ret
    exact HP.out w6 q6 d6 (hO6.wide z5) (grown_trans G5 y6)
  · obtain ⟨j, hj⟩ : ∃ j, min k 20 = j := ⟨_, rfl⟩
    rw [hj] at HP HTK hmn
    have hjk : j ≤ k := by omega
    have k1 : (0 : Int) ≤ (j : Int) := by omega
    have k2 : (j : Int) ≤ (d5 : Int) := by omega
    have k3 : j ≤ d5 := by omega
    have hC5 := hO5.cut j hjk
    rw [HTK.out] at hC5
    have hlj : (Y.take 20).length = j := hC5.len
    go_wp2_with (go_at_call 93; refine (gclone_any (some ⟨g5, 0, none⟩) j d5 (giF (Y.take 20)) w5 hC5.rd (by omega)).mono ?_; rintro e w6 ⟨q6, d6, rfl, hO6, y6⟩)
    try go_ret
    have e6 : tabG (giF (Y.take 20)) j = Y.take 20 := by rw [← hlj]; exact tab_giF _
    rw [e6] at hO6
    exact HP.out w6 q6 d6 (hO6.wide z5) (grown_trans G5 y6)

set_option maxHeartbeats 16000000 in
theorem missing_any (wB w : World) (gw : Nat) (id : Int) (kn : Bool) (nm : ByteArray) (si : Int) (en : Bool) (la su : Int) (st ti pa tr li : Int) (a : Option Addr) (n c : Nat) (L : List Nat) (q : Option Addr) (m d : Nat) (G : List (Int × Int)) (na : Option Addr) (nn nc : Nat) (xs : List Nx) (h : TKW wB w gw id kn nm si en la su st ti pa tr li a n c L q m d G na nn nc xs) (hm : m ≤ 65536) : Calls Try.prog 124 #[.pointer (some ⟨gw, 0, none⟩)] w fun e w' => ∃ q' d', e = .returned (.slice q' (misL kn la G).length d') ∧ OwGi w' w.heap.size q' (misL kn la G).length d' (misL kn la G) ∧ w.grownBy w' none := by
  obtain ⟨i0, hi, hz0, hz1, hz2⟩ := info_parts Try.info_pr
  have hGl := h.O.len
  have x1 : w.cell? ⟨gw, 1, none⟩ = some (.bool kn) := h.bx.cell 1 (by show 1 < 15; decide)
  have hmis : misL kn la G = ((if kn = true then [] else [((0 : Int), (0 : Int))]) ++ uqF (giF G) 0 la m).take 20 := by unfold misL; rw [hGl]
  rw [hmis]
  clear hmis
  go_enter Try.func124, Try.ntmps124
  refine wp_seq_k fun K1 hK1 => ?_
  have HK1 : Hid _ := hK1
  clear hK1
  go_wp2
  refine HK1.out _ _ ?_
  clear HK1
  refine wp_seq_k fun K1 hK1 => ?_
  have HK1 : Hid _ := hK1
  clear hK1
  go_wp2
  refine HK1.out _ _ ?_
  clear HK1
  cases kn with
  | true =>
    refine wp_seq_k fun K1 hK1 => ?_
    have HK1 : Hid _ := hK1
    clear hK1
    go_wp2
    try simp only [Exit.then]
    refine HK1.out _ _ ?_
    clear HK1
    refine ms_t4 _ w wB w gw id true nm si en la su st ti pa tr li a n c L q m d G na nn nc xs h (World.grownBy.refl _ _) hm none 0 0 [] (OwGi.nil _ _) (by omega) (fun z e => by cases e) ?_
    intro w' q' d' h1 h2
    exact ⟨q', d', rfl, h1, h2⟩
  | false =>
    refine wp_seq_k fun K1 hK1 => ?_
    have HK1 : Hid _ := hK1
    clear hK1
    have bA := BxS.new w 82 #[.int .i64 0, .int .i64 0]
    have yA := World.grownBy_alloc w (.cells #[.int .i64 0, .int .i64 0] 82) none
    generalize hwA : w.alloc (.cells #[.int .i64 0, .int .i64 0] 82) = wA at bA yA
    have s0 : True := trivial
    go_wp2_with (at_builtin; have _t := s0; clear s0; refine wpList_apS wA rfl _ _ 24 82 i0 (.agg #[.int .i64 0, .int .i64 0]) 2 16 Try.underlying24 hi hz0 hz1 hz2 rfl (by decide) rfl (.slice none 0 0) 0 (flG (giF []) 0) rfl (OwGi.nil wA 0).own ⟨w.heap.size, 0, none⟩ 1 1 [.int .i64 0, .int .i64 0] rfl rfl bA.newsA (by intro u hu; simp only [List.mem_cons, List.not_mem_nil, or_false] at hu; rcases hu with rfl | rfl <;> rfl) (by decide) (by unfold maxLen; omega) (by omega) ?_; intro gx cx w8 hor u8 hO8)
    try simp only [Exit.then]
    refine HK1.out _ _ ?_
    clear HK1
    rw [← giF_push [] (0, 0) 0 rfl] at hO8
    have zA := yA.size
    have hgx : w.heap.size ≤ gx := by
      rcases hor with e | e
      · cases e
      · omega
    have hO9 : OwGi w8 w.heap.size (some ⟨gx, 0, none⟩) 1 cx [(0, 0)] := ⟨hO8, rfl, fun g e => by
      have e : gx = g := Option.some.inj e
      omega⟩
    have u8 : wA.grownBy w8 none := u8
    have G8 := grown_trans yA u8
    refine ms_t4 _ w wB w8 gw id false nm si en la su st ti pa tr li a n c L q m d G na nn nc xs (h.keepN G8) G8 hm (some ⟨gx, 0, none⟩) 1 cx [(0, 0)] hO9 (by omega) (fun z e => by have e : gx = z := Option.some.inj e; omega) ?_
    intro w' q' d' h1 h2
    exact ⟨q', d', rfl, h1, h2⟩

set_option maxHeartbeats 16000000 in
theorem sendGaps_any (wB w : World) (gw : Nat) (id : Int) (kn : Bool) (nm : ByteArray) (si : Int) (en : Bool) (la su : Int) (st ti pa tr li : Int) (a : Option Addr) (n c : Nat) (L : List Nat) (q : Option Addr) (m d : Nat) (G : List (Int × Int)) (na : Option Addr) (nn nc : Nat) (xs : List Nx) (h : TKW wB w gw id kn nm si en la su st ti pa tr li a n c L q m d G na nn nc xs) (hm : m ≤ 65536) (hn : nn ≤ 100000) : Calls Try.prog 109 #[.pointer (some ⟨gw, 0, none⟩)] w fun e w' => e = .returned (.tuple #[]) ∧ (∃ na' nc' ys, TKW wB w' gw id kn nm si en la su st ti pa tr li a n c L q m d G na' (nn + ys.length) nc' (xs ++ ys) ∧ ys.map Nx.dt = sgL id (misL kn la G)) ∧ FrK gw na nn nc w w' := by
  have kM := missing_any wB w gw id kn nm si en la su st ti pa tr li a n c L q m d G na nn nc xs h hm
  have hl20 := misL_len kn la G
  generalize misL kn la G = M at kM hl20
  go_enter Try.func109, Try.ntmps109
  refine wp_seq_k fun K1 hK1 => ?_
  have HK1 : Hid _ := hK1
  clear hK1
  go_wp2_with (go_at_call 124; refine kM.mono ?_; rintro e w2 ⟨q2, d2, rfl, hO2, y2⟩)
  refine HK1.out _ _ ?_
  clear HK1
  have h2 := h.keepN y2
  have fr2 : FrK gw na nn nc w w2 := fun g9 t9 cs9 hb _ _ => hb.keep y2 (by simp)
  clear kM
  by_cases hM : M.length = 0
  · have hMM : M = [] := List.eq_nil_of_length_eq_zero hM
    subst hMM
    go_wp2
    first | go_end0 | refine bodyPost_ret (results_none rfl _ _ _) rfl ?_
    exact ⟨rfl, ⟨na, nc, [], by rw [List.append_nil]; exact h2, rfl⟩, fr2⟩
  · have k1 : (0 : Int) < (M.length : Int) := by omega
    go_wp2_with (go_at_call 121; refine (tsend_any wB w2 gw id kn nm si en la su st ti pa tr li a n c L q m d G na nn nc xs h2 (xGaps 0 M q2 d2) (Ans.nil _ _) (hO2.wide h.g.size) hn (fun z e => by rcases e with e | e; cases e; exact ⟨fun e2 => (by have h1 := hO2.new z e; have h3 := h.N.lt e2; omega), fun e2 => (by have h1 := hO2.new z e; have h3 := own_ltN h.A.own e2; omega), fun e2 => (by have h1 := hO2.new z e; have h3 := h.O.lt e2; omega)⟩)).mono ?_; rintro e w3 ⟨rfl, ⟨na3, nc3, h3⟩, hfr⟩)
    first | go_end0 | refine bodyPost_ret (results_none rfl _ _ _) rfl ?_
    exact ⟨rfl, ⟨na3, nc3, [xGaps id M q2 d2], h3, by unfold sgL; rw [if_neg hM]; rfl⟩, fun g9 t9 cs9 hb e1 e2 => hfr g9 t9 cs9 (fr2 g9 t9 cs9 hb e1 e2) e1 e2⟩
end

section
theorem zeros_d8 (k : Nat) : (Builtin.zeroCells (Value.int .u8 0).cells k).toList = bys (List.replicate k 0) := by
  rw [← bys_zero]
  have e : (Value.int .u8 0).cells = #[Value.int .u8 0] := rfl
  rw [e]
  unfold Builtin.zeroCells
  simp [Nat.mod_one]
  exact List.eq_replicate_iff.2 ⟨by simp, fun b hb => by simp at hb; exact hb.2.symm⟩
/-- 'append(v, make([]byte, k)...)', v the call's own -/
theorem run_apZd (w : World) (ty : TypeId) (v : Value) (n k : Nat) (L : List Nat) (hown : w.ownsRow 0 5 1 v n (bys L)) (hk : 0 < k) (hb : n + k ≤ 100000) :
    ∃ g cap w', (Builtin.append_ #[23, 3] ty #[v, .int .i64 (k : Int)]).run Try.prog w = .ok (.slice (some ⟨g, 0, none⟩) (n + k) cap) w' ∧
      (v.ownBlock = some g ∨ w.heap.size ≤ g) ∧ w.grownBy w' v.ownBlock ∧ w'.ownsRow 0 5 1 (.slice (some ⟨g, 0, none⟩) (n + k) cap) (n + k) (bys (L ++ List.replicate k 0)) := by
  obtain ⟨i0, hi, hz, hsz, hby⟩ := info_parts Try.info_u8
  have hLn : L.length = n := by have := hown.1; rw [bys_length] at this; omega
  have hw : IntKind.i64.wrap (k : Int) = k := by rw [IntKind.wrap_i64]; omega
  have hneg : ¬ ((k : Int) < 0) := by omega
  have h48i : ¬ (281474976710656 < (k : Int) * (i0.bytes : Int)) := by rw [hby]; omega
  have hns : ¬ (k * i0.size = 0) := by rw [hsz]; omega
  have hlen : (bys (L ++ List.replicate k 0)).length = (n + k) * 1 := by rw [bys_length, List.length_append, List.length_replicate, hLn]; omega
  have hap : bys (L ++ List.replicate k 0) = bys L ++ bys (List.replicate k 0) := by simp [bys]
  rcases hown.2 with ⟨rfl, h0⟩ | ⟨g, cap, cur, rfl, hbg, hg, hnc, hcm, hcs, htake⟩
  · subst h0
    have hL0 : L = [] := List.eq_nil_of_length_eq_zero hLn
    subst hL0
    have hr := Lib.run_append_nil_zeros (P := Try.prog) w 23 3 ty 5 i0 (.int .u8 0) .i64 .i64 Try.underlying23 Try.underlying3 hi hz k hk (by omega) (by omega) (by rw [hby]; omega)
    have hge := grownCap_ge w k 0 5
    rw [Nat.zero_add]
    rw [Nat.zero_add] at hlen
    refine ⟨_, _, _, hr, .inr (Nat.le_refl _), ⟨rfl, rfl, rfl, by simp, fun j hj _ => (World.grownBy_alloc w.drew _ none).block j hj (by simp)⟩, ⟨hlen, .inr ⟨w.heap.size, _, _, rfl, Nat.zero_le _, heap_alloc_new w.drew _, hge, grownCap_le_maxLen w k 0 5 (by unfold maxLen; omega), ?_, ?_⟩⟩⟩
    · simp only [Array.size_append, size_zeroCells]
      show k * 1 + _ * 1 = _
      omega
    · simp only [Array.toList_append, zeros_d8]
      rw [← hlen, List.nil_append]
      exact List.take_left
  · by_cases hroom : n + k ≤ cap
    · have hfit : n * i0.size + (bys (List.replicate k 0)).length ≤ cur.size := by rw [bys_length, List.length_replicate, hsz, hcs]; omega
      have hst := run_storeCells_at Try.prog g (n * i0.size) 5 (bys (List.replicate k 0)) 0 cur w hg (by simpa using hfit) (bys_one _)
      simp only [Nat.add_zero] at hst
      have hr : (Builtin.append_ #[23, 3] ty #[.slice (some ⟨g, 0, none⟩) n cap, .int .i64 (k : Int)]).run Try.prog w = .ok (.slice (some ⟨g, 0, none⟩) (n + k) cap) (w.setRow g (cur.toList.take (n * i0.size) ++ bys (List.replicate k 0) ++ cur.toList.drop (n * i0.size + (bys (List.replicate k 0)).length)).toArray) := by
        simp [Builtin.append_, run_underlying Try.underlying23, run_underlying Try.underlying3, sizeOf, typeInfo, zeroValue, hi, hz, asInt, asIntOf, hw, hneg, h48i, hns, hroom, Addr.add_lit, zeros_d8, hst]
      refine ⟨g, cap, _, hr, .inl rfl, ⟨rfl, rfl, rfl, by simp, fun j _ hj => setRow_other w g j _ (fun e => hj (by simp [Value.ownBlock, e]))⟩, ⟨hlen, .inr ⟨g, cap, _, rfl, hbg, setRow_heap w g cur _ 5 _ hg, hroom, hcm, ?_, ?_⟩⟩⟩
      · simp only [List.size_toArray, List.length_append, List.length_take, List.length_drop, Array.length_toList, bys_length, List.length_replicate]
        rw [hsz]
        omega
      · rw [hsz, htake, ← hap, ← hlen]
        exact List.take_left
    · have holds : ∀ j u, (bys L)[j]? = some u → w.drew.cell? ((⟨g, 0, none⟩ : Addr).add j) = some u := fun j u h => hown.cells (g := g) rfl j u h
      have hf := run_firstCells_some (P := Try.prog) w.drew i0.size n ⟨g, 0, none⟩ n cap (bys L) (by rw [bys_length, hLn, hsz]; omega) holds
      have hfits : Builtin.nextslicecap (n + k) cap * i0.bytes ≤ 281474976710656 := growslice_fits (by omega) (by rw [hby]; omega)
      have hr := Lib.run_append_grow_zeros (P := Try.prog) w 23 3 ty 5 i0 (.int .u8 0) .i64 .i64 Try.underlying23 Try.underlying3 hi hz (some ⟨g, 0, none⟩) n cap (bys L) hf k hk (by omega) (by omega) (by omega) (by rw [hby]; omega) hfits
      have hge := grownCap_ge w (n + k) cap 5
      refine ⟨_, _, _, hr, .inr (Nat.le_refl _), ⟨rfl, rfl, rfl, by simp, fun j hj _ => (World.grownBy_alloc w.drew _ none).block j hj (by simp)⟩, ⟨hlen, .inr ⟨w.heap.size, _, _, rfl, Nat.zero_le _, heap_alloc_new w.drew _, hge, grownCap_le_maxLen w (n + k) cap 5 (by unfold maxLen; omega), ?_, ?_⟩⟩⟩
      · simp only [Array.size_append, List.size_toArray, size_zeroCells, bys_length, hLn]
        show n + k * 1 + _ * 1 = _
        omega
      · simp only [Array.toList_append, zeros_d8]
        rw [← hap, ← hlen]
        exact List.take_left
theorem isB_zerD {L : List Nat} (h : IsB L) (k : Nat) : IsB (L ++ List.replicate k 0) := by
  intro x hx
  rcases List.mem_append.1 hx with hx | hx
  · exact h x hx
  · rw [(List.mem_replicate.1 hx).2]; decide
theorem wpList_apZd (w : World) {ops : Array Oper} {rest : List Oper} {o : Oper} {a : Act} {Q : Exit → Act → World → Prop} (hg : o.guard = none) (s x : Operand)
    (hop : o.op = Op.call { callee := .builtin .append, args := #[s, x], argTypes := #[23, 3] }) (ad : Option Addr) (n c k lo : Nat) (L : List Nat) (hs : a.eval s = .slice ad n c) (hx : a.eval x = .int .i64 (k : Int))
    (hA : Ans w lo ad n c L) (hlo : lo ≤ w.heap.size) (hk : 0 < k) (hb : n + k ≤ 100000)
    (hK : ∀ a' c' w', Ans w' lo a' (n + k) c' (L ++ List.replicate k 0) → w.grownBy w' (Value.slice ad n c).ownBlock → (∀ z, (Value.slice a' (n + k) c').ownBlock = some z → (Value.slice ad n c).ownBlock = some z ∨ w.heap.size ≤ z) → wpList Try.prog ops Q rest (a.put o.dst (.slice a' (n + k) c')) w') :
    wpList Try.prog ops Q (o :: rest) a w := by
  obtain ⟨g, cap, w', hr, h1, h2, h3⟩ := run_apZd w o.type (.slice ad n c) n k L hA.own hk hb
  refine Lib.wpList_append_run w hg s x 23 3 hop _ _ hs hx _ w' hr (hK (some ⟨g, 0, none⟩) cap w' ⟨h3, isB_zerD hA.byte k, fun z e => ?_⟩ h2 (fun z e => ?_))
  · have e : g = z := Option.some.inj e
    subst e
    rcases h1 with h1 | h1
    · exact hA.new _ h1
    · omega
  · have e : g = z := Option.some.inj e
    subst e
    exact h1
/-- bytes laid over others -/
def splN (L : List Nat) (off : Nat) (D : List Nat) : List Nat := L.take off ++ (D ++ L.drop (off + D.length))
theorem splN_len {L : List Nat} {off : Nat} {D : List Nat} (h : off + D.length ≤ L.length) : (splN L off D).length = L.length := by
  unfold splN
  rw [List.length_append, List.length_append, List.length_take, List.length_drop]
  omega
theorem splN_nth {L : List Nat} {off : Nat} {D : List Nat} (h : off + D.length ≤ L.length) (i : Nat) : nth (splN L off D) i = if off ≤ i ∧ i < off + D.length then nth D (i - off) else nth L i := by
  unfold nth splN
  simp only [List.getD_eq_getElem?_getD]
  have hl : (L.take off).length = off := by rw [List.length_take]; omega
  by_cases h1 : i < off
  · rw [if_neg (by omega), List.getElem?_append_left (by omega), List.getElem?_take_of_lt h1]
  · rw [List.getElem?_append_right (by omega), hl]
    by_cases h2 : i < off + D.length
    · rw [if_pos (by omega), List.getElem?_append_left (by omega)]
    · rw [if_neg (by omega), List.getElem?_append_right (by omega), List.getElem?_drop]
      congr 2
      omega
theorem rd_news2 {w : World} {b off n cap : Nat} {L : List Nat} (h : Rd w (some ⟨b, off, none⟩) n cap L) (j : Nat) (u : Value) (hu : (bys L)[j]? = some u) : w.cell? ((⟨b, off, none⟩ : Addr).add j) = some u := by
  have hj : j < L.length := by have := (List.getElem?_eq_some_iff.1 hu).1; rwa [bys_length] at this
  have hl := h.len
  obtain ⟨b', off', e, hb, hc⟩ := h.at' (by omega)
  cases e
  rw [addr_add, hc j (by omega), ← hu, nth_bys L j hj]
theorem wpList_cpA {w : World} {ops : Array Oper} {rest : List Oper} {o : Oper} {a : Act} {Q : Exit → Act → World → Prop} (hgd : o.guard = none) (d s : Operand)
    (hop : o.op = Op.call { callee := .builtin .copy, args := #[d, s], argTypes := #[23, 23] }) (g n c lo : Nat) (L : List Nat) (hA : Ans w lo (some ⟨g, 0, none⟩) n c L)
    (dp : Option Addr) (dl dc : Nat) (hd : a.eval d = .slice dp dl dc) (sp : Option Addr) (sl sc : Nat) (D : List Nat) (hs : a.eval s = .slice sp sl sc) (hS : Rd w sp sl sc D)
    (off k : Nat) (hk : k = min sl dl) (hpos : 0 < k → dp = some ⟨g, off, none⟩) (hfit : off + k ≤ n)
    (hK : ∀ w', Ans w' lo (some ⟨g, 0, none⟩) n c (splN L off (D.take k)) → w.grownBy w' (some g) → wpList Try.prog ops Q rest (a.put o.dst (.int .i64 (k : Int))) w') :
    wpList Try.prog ops Q (o :: rest) a w := by
  have hi1 : (Try.prog.info? 5).map (·.size) = some 1 := by
    obtain ⟨i0, hi, hz, hsz, hby⟩ := info_parts Try.info_u8
    rw [hi, Option.map_some, hsz]
  have hDl := hS.len
  have hLl := hA.len
  have hlk : (D.take k).length = k := by rw [List.length_take]; omega
  by_cases h0 : k = 0
  · subst h0
    refine wpList_copy_nothing hgd d s _ _ hop 5 Try.underlying23 hi1 dp sp dl dc sl sc hd hs (by show min sl dl = 0; omega) ?_
    refine hK w ?_ (World.grownBy.refl _ _)
    have e : splN L off (D.take 0) = L := by unfold splN; rw [List.take_zero]; simp
    rw [e]
    exact hA
  · have hdp := hpos (by omega)
    subst hdp
    have hS2 := hS.cut (m := k) (by omega)
    obtain ⟨b, o2, e2, hb, hc⟩ := hS2.at' (by omega)
    subst e2
    rcases hA.own.2 with ⟨h1, _⟩ | ⟨g', cap', cur, h1, h2, h3, h4, h5, h6, h7⟩
    · simp at h1
    · simp only [Value.slice.injEq, Option.some.injEq, Addr.mk.injEq] at h1
      obtain ⟨⟨rfl, _⟩, _, rfl⟩ := h1
      have hcl : cur.size = c := by omega
      have hbl : (bys (D.take k)).length = k := by rw [bys_length, hlk]
      refine wpList_copy_own hgd d s _ _ hop 5 Try.underlying23 hi1 g off dl dc ⟨b, o2, none⟩ sl sc hd hs cur 5 h3 (bys (D.take k)) (by rw [hbl]; exact hk) (rd_news2 hS2) (by rw [hbl]; omega) (bys_one _) ?_
      have hR : cur.toList = bys L ++ cur.toList.drop n := by
        have := (List.take_append_drop n cur.toList).symm
        rw [Nat.mul_one] at h7
        rw [h7] at this
        exact this
      have hX : (cur.toList.take off ++ (bys (D.take k) ++ cur.toList.drop (off + (bys (D.take k)).length))) = bys (splN L off (D.take k)) ++ cur.toList.drop n := by
        rw [hbl]
        conv => lhs; rw [hR]
        rw [List.take_append_of_le_length (by rw [bys_length]; omega), List.drop_append_of_le_length (by rw [bys_length]; omega)]
        unfold splN bys
        rw [List.map_append, List.map_append, List.map_take, List.map_drop, hlk]
        simp only [List.map_take, List.map_drop, List.append_assoc]
      have hsl : (splN L off (D.take k)).length = n := by rw [splN_len (by rw [hlk]; omega)]; exact hLl
      rw [hbl]
      refine hK _ ⟨⟨by rw [bys_length, hsl]; omega, .inr ⟨g, c, _, rfl, h2, setRow_heap w g cur _ 5 _ h3, h4, h5, ?_, ?_⟩⟩, ?_, hA.new⟩ ⟨rfl, rfl, rfl, by simp, fun j _ hj => setRow_other w g j _ (fun e => hj (by simp [e]))⟩
      · rw [← hcl, List.size_toArray]
        rw [hbl] at hX
        rw [hX, List.length_append, bys_length, hsl, List.length_drop, Array.length_toList]
        omega
      · rw [hbl] at hX
        show List.take (n * 1) _ = _
        rw [Nat.mul_one, hX]
        exact List.take_left' (by rw [bys_length, hsl])
      · intro x hx
        unfold splN at hx
        rcases List.mem_append.1 hx with hx | hx
        · exact hA.byte x (List.mem_of_mem_take hx)
        · rcases List.mem_append.1 hx with hx | hx
          · exact hS.byte x (List.mem_of_mem_take hx)
          · exact hA.byte x (List.mem_of_mem_drop hx)
/-- rows of a piece laid over a file, one by one -/
def cpL (L D : List Nat) (x : Nat) (R : List (Int × Int)) : Nat → List Nat
  | 0 => L
  | k + 1 => splN (cpL L D x R k) (giF R k).1.toNat ((D.drop ((giF R k).1.toNat - x)).take ((giF R k).2.toNat - (giF R k).1.toNat))
theorem nth_dt (D : List Nat) (a b i : Nat) (h : i < b) : nth ((D.drop a).take b) i = nth D (a + i) := by
  unfold nth
  rw [List.getD_eq_getElem?_getD, List.getD_eq_getElem?_getD, List.getElem?_take_of_lt h, List.getElem?_drop]
theorem cpL_all {L D : List Nat} {x : Nat} {R : List (Int × Int)} (hR : ∀ p, p ∈ R → (x : Int) ≤ p.1 ∧ p.1 < p.2 ∧ p.2 ≤ ((x + D.length : Nat) : Int)) (hL : x + D.length ≤ L.length) : ∀ k, k ≤ R.length → (cpL L D x R k).length = L.length ∧ ∀ i, nth (cpL L D x R k) i = if cvL (R.take k) i = true then nth D (i - x) else nth L i := by
  intro k
  induction k with
  | zero => intro _; refine ⟨rfl, fun i => ?_⟩; rw [List.take_zero, cvL_no (fun a ha => by cases ha), if_neg (by decide)]; rfl
  | succ k ih =>
    intro hk
    obtain ⟨h1, h2⟩ := ih (by omega)
    have hp := hR _ (List.getElem_mem (show k < R.length by omega))
    have hgi := giF_at (K := R) (m := k) (by omega)
    rw [← hgi] at hp
    have hlen : ((D.drop ((giF R k).1.toNat - x)).take ((giF R k).2.toNat - (giF R k).1.toNat)).length = (giF R k).2.toNat - (giF R k).1.toNat := by
      rw [List.length_take, List.length_drop]; omega
    have hfit : (giF R k).1.toNat + ((D.drop ((giF R k).1.toNat - x)).take ((giF R k).2.toNat - (giF R k).1.toNat)).length ≤ (cpL L D x R k).length := by rw [hlen, h1]; omega
    refine ⟨by show (splN _ _ _).length = _; rw [splN_len hfit, h1], fun i => ?_⟩
    show nth (splN _ _ _) i = _
    rw [splN_nth hfit, hlen, h2, List.take_add_one, cvL_app, List.getElem?_eq_getElem (by omega)]
    show _ = if (cvL (R.take k) i || cvL [R[k]] i) = true then _ else _
    rw [cvL_one, ← hgi]
    by_cases e : (giF R k).1.toNat ≤ i ∧ i < (giF R k).1.toNat + ((giF R k).2.toNat - (giF R k).1.toNat)
    · rw [if_pos e, decide_eq_true (by omega), Bool.or_true, if_pos rfl, nth_dt _ _ _ _ (by omega)]
      congr 1
      omega
    · rw [if_neg e, decide_eq_false (by omega), Bool.or_false]
/-- a piece laid into a file: those bytes stay that came first -/
def laL (L D : List Nat) (F : Nat → Int × Int) (m x : Nat) : List Nat := (List.range (max L.length (x + D.length))).map (fun i => if (cvB F i m = false ∧ x ≤ i ∧ i < x + D.length) then nth D (i - x) else nth L i)
theorem laL_len (L D : List Nat) (F : Nat → Int × Int) (m x : Nat) : (laL L D F m x).length = max L.length (x + D.length) := by unfold laL; simp
theorem ext_nth {A B : List Nat} (h : A.length = B.length) (hn : ∀ i, i < A.length → nth A i = nth B i) : A = B := by
  refine List.ext_getElem h (fun i h1 h2 => ?_)
  have := hn i h1
  unfold nth at this
  rw [List.getD_eq_getElem?_getD, List.getD_eq_getElem?_getD, List.getElem?_eq_getElem h1, List.getElem?_eq_getElem h2] at this
  exact this
theorem nth_zer (A : List Nat) (z i : Nat) : nth (A ++ List.replicate z 0) i = nth A i := by
  by_cases h : i < A.length
  · exact nth_append_left A _ i h
  · rw [nth_out A i (by omega)]
    unfold nth
    rw [List.getD_eq_getElem?_getD, List.getElem?_append_right (by omega), List.getElem?_replicate]
    by_cases e : i - A.length < z
    · rw [if_pos e]; rfl
    · rw [if_neg e]; rfl
theorem cp_la {L D : List Nat} {F : Nat → Int × Int} {m x z : Nat} (hR : Rise F m) (hz : L.length + z = max L.length (x + D.length)) :
    cpL (L ++ List.replicate z 0) D x (uqF F (x : Int) ((x + D.length : Nat) : Int) m) (uqF F (x : Int) ((x + D.length : Nat) : Int) m).length = laL L D F m x := by
  have hl : (L ++ List.replicate z 0).length = max L.length (x + D.length) := by rw [List.length_append, List.length_replicate]; exact hz
  obtain ⟨h1, h2⟩ := cpL_all (L := L ++ List.replicate z 0) (D := D) (x := x) (R := uqF F (x : Int) ((x + D.length : Nat) : Int) m) (fun p hp => unF_in p hp) (by rw [hl]; omega) _ (Nat.le_refl _)
  refine ext_nth (by rw [h1, hl, laL_len]) (fun i hi => ?_)
  rw [h2, List.take_length, unF_cov hR, nth_zer]
  rw [h1, hl] at hi
  unfold laL
  rw [nth_map_range _ _ _ hi]
  have e : ((decide ((x : Int) ≤ (i : Int) ∧ (i : Int) < ((x + D.length : Nat) : Int)) && !cvB F i m) = true) ↔ (cvB F i m = false ∧ x ≤ i ∧ i < x + D.length) := by
    rw [Bool.and_eq_true, decide_eq_true_eq, Bool.not_eq_true']
    constructor
    · rintro ⟨a1, a2⟩; exact ⟨a2, by omega, by omega⟩
    · rintro ⟨a1, a2, a3⟩; exact ⟨by omega, a1⟩
  by_cases c : (cvB F i m = false ∧ x ≤ i ∧ i < x + D.length)
  · rw [if_pos (e.2 c), if_pos c]
  · rw [if_neg (fun h => c (e.1 h)), if_neg c]
end
end Go.Proofs.Ytnimehkfnpepfaa
