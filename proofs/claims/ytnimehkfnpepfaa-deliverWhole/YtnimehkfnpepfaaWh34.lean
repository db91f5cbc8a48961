import Derived.Test.YtnimehkfnpepfaaWh33
import Derived.Test.YtnimehkfnpepfaaWh31
import Derived.Test.YtnimehkfnpepfaaWh24
import Derived.Test.YtnimehkfnpepfaaWh25
namespace Go.Proofs.Ytnimehkfnpepfaa
open Go.RowKit
set_option maxRecDepth 100000
set_option linter.unusedVariables false
set_option linter.unusedSimpArgs false

section
/-- a taker as data -/
structure Tv where
  id : Int
  kn : Bool
  nm : ByteArray
  si : Int
  en : Bool
  la : Int
  su : Int
  st : Int
  ti : Int
  pa : Int
  tr : Int
  li : Int
  L : List Nat
  G : List (Int × Int)
def zTv : Tv := ⟨0, false, ⟨#[]⟩, 0, false, 0, 0, 0, 0, 0, 0, 0, [], []⟩
/-- an answer of a taker, what goes as data -/
def RK (w : World) (V : Tv) (T : List Nt) (E : Nat) (e : Ending) (w' : World) : Prop :=
  ∃ a c q d na nc xs, e = .returned (.tuple #[.agg (tkA V.id V.kn V.nm V.si V.en V.la V.su (.slice q V.G.length d) (.slice a V.L.length c) V.st V.ti V.pa V.tr V.li), .slice na T.length nc, .int .i64 (E : Nat)]) ∧ xs.map Nx.dt = T ∧ Ans w' w.heap.size a V.L.length c V.L ∧ OwGi w' w.heap.size q V.G.length d V.G ∧ OwN w' w.heap.size na T.length nc xs ∧ (∀ z, (Value.slice a V.L.length c).ownBlock = some z → ¬ Nbl na T.length nc xs z) ∧ (∀ z, (Value.slice q V.G.length d).ownBlock = some z → ¬ Nbl na T.length nc xs z) ∧ w.grownBy w' none
/-- a taker at work, as data -/
def KA (wB w : World) (gw : Nat) (V : Tv) (T : List Nt) : Prop :=
  ∃ a c q d na nc xs, xs.map Nx.dt = T ∧ TKW wB w gw V.id V.kn V.nm V.si V.en V.la V.su V.st V.ti V.pa V.tr V.li a V.L.length c V.L q V.G.length d V.G na xs.length nc xs
theorem KA.of {wB w : World} {gw : Nat} {V : Tv} {a : Option Addr} {n c : Nat} {q : Option Addr} {m d : Nat} {na : Option Addr} {nn nc : Nat} {xs : List Nx} {T : List Nt} (hT : xs.map Nx.dt = T) (h : TKW wB w gw V.id V.kn V.nm V.si V.en V.la V.su V.st V.ti V.pa V.tr V.li a n c V.L q m d V.G na nn nc xs) : KA wB w gw V T := by
  have e1 := h.A.len
  have e2 := h.O.len
  have e3 := h.N.len
  subst e1 e2 e3
  exact ⟨a, c, q, d, na, nc, xs, hT, h⟩
/-- what is missing -/
def misL (kn : Bool) (la : Int) (G : List (Int × Int)) : List (Int × Int) := ((if kn = true then [] else [((0 : Int), (0 : Int))]) ++ uqF (giF G) 0 la G.length).take 20
def ntGaps (id : Int) (M : List (Int × Int)) : Nt := ⟨4, id, ⟨#[]⟩, 0, 0, 0, [], M, 0, 0⟩
def ntDone (id : Int) (co : Int) : Nt := ⟨5, id, ⟨#[]⟩, 0, 0, 0, [], [], 0, co⟩
def ntSeen (id : Int) : Nt := ⟨6, id, ⟨#[]⟩, 0, 0, 0, [], [], 3, 0⟩
def sgL (id : Int) (M : List (Int × Int)) : List Nt := if M.length = 0 then [] else [ntGaps id M]
/-- a tick -/
def tiT (V : Tv) : Tv × List Nt :=
  if V.st = 0 ∧ V.en = true then
    (if wtN V.ti V.pa = 0 then (if V.tr = V.li then ({ V with ti := 0, st := 4 }, []) else ({ V with ti := 0, tr := V.tr + 1 }, sgL V.id (misL V.kn V.la V.G)))
     else ({ V with ti := wtN V.ti V.pa }, []))
  else if V.st = 3 ∧ V.tr < V.li then
    (if wtN V.ti V.pa = 0 then ({ V with ti := 0, tr := V.tr + 1 }, [ntDone V.id 0]) else ({ V with ti := wtN V.ti V.pa }, []))
  else (V, [])
/-- what Wait answers -/
def waV (tB : Bool) (V : Tv) : Tv × List Nt × Nat := if tB = false then (zTv, [], 11) else ((tiT V).1, (tiT V).2, 0)
/-- what holds of a taker that may be -/
structure TvO (V : Tv) : Prop where
  ri : Rise (giF V.G) V.G.length
  gl : V.G.length ≤ 65536
  gm : ∀ j, j < V.G.length → (giF V.G j).2 ≤ 65536
  n9 : V.L.length ≤ 65536
  rc : (V.L.length : Int) = rcN (giF V.G) V.G.length
  si : 0 ≤ V.si ∧ V.si ≤ 65536
  la : 0 ≤ V.la ∧ V.la ≤ 65536
  ti : 0 ≤ V.ti ∧ V.ti ≤ V.pa - 1 ∧ V.pa ≤ 1000
  tr : 0 ≤ V.tr ∧ V.tr ≤ V.li ∧ V.li ≤ 1000000
  st : V.st = 0 ∨ V.st = 3 ∨ V.st = 4
  ov : V.st = 3 → haB (giF V.G) V.si V.G.length = true
theorem tmB_go {V : Tv} (h : (tmB V.id V.kn V.nm V.si V.en V.la V.su (giF V.G) V.G.length V.L V.st V.ti V.pa V.tr V.li) = true) : TvO V := by
  unfold tmB at h
  simp only [Bool.and_eq_true, decide_eq_true_eq] at h
  obtain ⟨h1, h2, h3, h4, h5, h6, h7⟩ := h
  have hr := rsB_rise _ h3
  have hd : dsB V.id V.pa V.li = true := by
    unfold dsE at h1
    by_cases e : dsB V.id V.pa V.li = true
    · exact e
    · rw [if_neg e] at h1; cases h1
  unfold dsB at hd
  unfold toB toC at h2
  unfold fiB at h4
  unfold kwB at hd h6 h7
  simp only [Bool.and_eq_true, decide_eq_true_eq] at hd h2 h4 h6 h7
  unfold kwB at h2
  simp only [Bool.and_eq_true, decide_eq_true_eq] at h2
  have hgl := rise_len (s := 65536) hr.1 hr.2
  have hrc : rcN (giF V.G) V.G.length ≤ 65536 := by
    unfold rcN
    by_cases e : V.G.length = 0
    · rw [if_pos e]; omega
    · rw [if_neg e]; exact hr.2 _ (by omega)
  have hst : (V.st = 0 ∨ V.st = 3 ∨ V.st = 4) ∧ (V.st = 3 → haB (giF V.G) V.si V.G.length = true) := by
    unfold tsB at h5
    by_cases e : V.st = 0 ∨ V.st = 4
    · exact ⟨by omega, fun e2 => by omega⟩
    · rw [if_neg e] at h5
      by_cases e2 : V.st = 3
      · rw [if_pos e2, Bool.and_eq_true] at h5
        exact ⟨by omega, fun _ => h5.2⟩
      · rw [if_neg e2] at h5; cases h5
  exact ⟨hr.1, hgl, hr.2, by omega, h4.1, by omega, by omega, by omega, by omega, hst.1, hst.2⟩
theorem misL_len (kn : Bool) (la : Int) (G : List (Int × Int)) : (misL kn la G).length ≤ 20 := by
  unfold misL
  rw [List.length_take]
  omega
end

section
def xDone (id co : Int) : Nx := ⟨5, id, ⟨#[]⟩, 0, 0, 0, [], [], 0, co, none, 0, none, 0⟩
def xSeE (id : Int) : Nx := ⟨6, id, ⟨#[]⟩, 0, 0, 0, [], [], 3, 0, none, 0, none, 0⟩
def xGaps (id : Int) (M : List (Int × Int)) (q : Option Addr) (d : Nat) : Nx := ⟨4, id, ⟨#[]⟩, 0, 0, 0, [], M, 0, 0, none, 0, q, d⟩
/-- what is shown of an operation in a row serves in a region that draws, too -/
theorem step_of_listV {ops : Array Oper} {o : Oper} {a : Act} {w : World} {K : Act → World → Prop} {Q : Exit → Act → World → Prop} {E : Prop} (hg : o.guard = none) (h : wpList Try.prog ops (Exit.then K (fun _ _ _ => False)) [o] a w) :
    if Region.wanted o (yielded ops a.tmps) = true then Oper.wp Try.prog o a w K Q else E := by
  have hw : Region.wanted o (yielded ops a.tmps) = true := by simp [Region.wanted, hg]
  rw [if_pos hw]
  unfold wpList at h
  rw [if_pos hw] at h
  rcases h with h | ⟨_, a', w', h⟩
  · unfold Oper.wp at *
    generalize (execOp a.eval o).run Try.prog w = r at *
    cases r with
    | ok n w' =>
      cases n <;> simp only [Oper.upon] at h ⊢ <;>
        first
          | exact h
          | exact Calls.mono h (fun e w'' he => by
              cases e with
              | returned v => exact he
              | panicked c => exact he.elim
              | outgrown => obtain ⟨a', w', he⟩ := he; exact he.elim)
          | exact Rows.mono h (fun _ _ he => he)
    | halt x w' =>
      cases x <;> simp only [Oper.upon] at h ⊢ <;> first | exact h | exact h.elim
  · exact h.elim
/-- the first of a row -/
theorem OwGi.cut {w : World} {lo g n cap : Nat} {ks : List (Int × Int)} (h : OwGi w lo (some ⟨g, 0, none⟩) n cap ks) (m : Nat) (hm : m ≤ n) : OwGi w lo (some ⟨g, 0, none⟩) m cap (ks.take m) :=
  ⟨by rw [← flP_flG _ _ (by rw [List.length_take, h.len]; omega)]; exact own_takeP h.ownP h.len m hm, by rw [List.length_take, h.len]; omega, h.new⟩
theorem OwGi.cases {w : World} {lo : Nat} {q : Option Addr} {m d : Nat} {G : List (Int × Int)} (h : OwGi w lo q m d G) : (q = none ∧ m = 0 ∧ d = 0) ∨ ∃ g, q = some ⟨g, 0, none⟩ ∧ m ≤ d := by
  rcases h.own.2 with ⟨h1, h2⟩ | ⟨g', cap', cur, h1, h2, h3, h4, h5, h6, h7⟩
  · simp only [Value.slice.injEq] at h1
    exact .inl h1
  · simp only [Value.slice.injEq] at h1
    obtain ⟨rfl, _, rfl⟩ := h1
    exact .inr ⟨g', rfl, h4⟩

set_option maxHeartbeats 8000000 in
theorem sendDone_any (wB w : World) (gw : Nat) (id : Int) (kn : Bool) (nm : ByteArray) (si : Int) (en : Bool) (la su : Int) (st ti pa tr li : Int) (a : Option Addr) (n c : Nat) (L : List Nat) (q : Option Addr) (m d : Nat) (G : List (Int × Int)) (na : Option Addr) (nn nc : Nat) (xs : List Nx) (co : Int) (h : TKW wB w gw id kn nm si en la su st ti pa tr li a n c L q m d G na nn nc xs) (hn : nn ≤ 100000) : Calls Try.prog 105 #[.pointer (some ⟨gw, 0, none⟩), .int .i64 co] w fun e w' => e = .returned (.tuple #[]) ∧ (∃ na' nc', TKW wB w' gw id kn nm si en la su st ti pa tr li a n c L q m d G na' (nn + 1) nc' (xs ++ [xDone id co])) ∧ FrK gw na nn nc w w' := by
  go_enter Try.func105, Try.ntmps105
  go_wp2_with (go_at_call 121; refine (tsend_any wB w gw id kn nm si en la su st ti pa tr li a n c L q m d G na nn nc xs h (xDone 0 co) (Ans.nil _ _) (OwGi.nil _ _) hn (fun z e => by rcases e with e | e <;> cases e)).mono ?_; rintro e w3 ⟨rfl, ⟨na3, nc3, h3⟩, hfr⟩)
  first | go_end0 | refine bodyPost_ret (results_none rfl _ _ _) rfl ?_
  exact ⟨rfl, ⟨na3, nc3, h3⟩, hfr⟩

set_option maxHeartbeats 8000000 in
theorem sendSeen_any (wB w : World) (gw : Nat) (id : Int) (kn : Bool) (nm : ByteArray) (si : Int) (en : Bool) (la su : Int) (st ti pa tr li : Int) (a : Option Addr) (n c : Nat) (L : List Nat) (q : Option Addr) (m d : Nat) (G : List (Int × Int)) (na : Option Addr) (nn nc : Nat) (xs : List Nx) (h : TKW wB w gw id kn nm si en la su st ti pa tr li a n c L q m d G na nn nc xs) (hn : nn ≤ 100000) : Calls Try.prog 104 #[.pointer (some ⟨gw, 0, none⟩)] w fun e w' => e = .returned (.tuple #[]) ∧ (∃ na' nc', TKW wB w' gw id kn nm si en la su st ti pa tr li a n c L q m d G na' (nn + 1) nc' (xs ++ [xSeE id])) ∧ FrK gw na nn nc w w' := by
  go_enter Try.func104, Try.ntmps104
  go_wp2_with (go_at_call 121; refine (tsend_any wB w gw id kn nm si en la su st ti pa tr li a n c L q m d G na nn nc xs h (xSeE 0) (Ans.nil _ _) (OwGi.nil _ _) hn (fun z e => by rcases e with e | e <;> cases e)).mono ?_; rintro e w3 ⟨rfl, ⟨na3, nc3, h3⟩, hfr⟩)
  first | go_end0 | refine bodyPost_ret (results_none rfl _ _ _) rfl ?_
  exact ⟨rfl, ⟨na3, nc3, h3⟩, hfr⟩

set_option maxHeartbeats 16000000 in
theorem ms_t4 {u1 u2 u4 u5 u6 u7 u8 u9 u10 u11 u12 u13 u14 u15 u16 u17 u18 u19 u20 u21 u22 u23 u24 u25 u26 u27 u28 u29 u30 u31 u32 u33 : Value} (P : Ending → World → Prop) (w0 : World) (wB w : World) (gw : Nat) (id : Int) (kn : Bool) (nm : ByteArray) (si : Int) (en : Bool) (la su : Int) (st ti pa tr li : Int) (a : Option Addr) (n c : Nat) (L : List Nat) (q : Option Addr) (m d : Nat) (G : List (Int × Int)) (na : Option Addr) (nn nc : Nat) (xs : List Nx) (h : TKW wB w gw id kn nm si en la su st ti pa tr li a n c L q m d G na nn nc xs) (g0 : w0.grownBy w none) (hm : m ≤ 65536) (q1 : Option Addr) (m1 d1 : Nat) (U : List (Int × Int)) (hO : OwGi w w0.heap.size q1 m1 d1 U) (hm1 : m1 ≤ 1) (hs : ∀ z, (Value.slice q1 m1 d1).ownBlock = some z → w0.heap.size ≤ z)
    (hP : ∀ w' q' d', OwGi w' w0.heap.size q' ((U ++ uqF (giF G) 0 la m).take 20).length d' ((U ++ uqF (giF G) 0 la m).take 20) → w0.grownBy w' none → P (.returned (.slice q' ((U ++ uqF (giF G) 0 la m).take 20).length d')) w') :
    Code.wp Try.prog (tailR 4 (Try.f124.body.getD .skip)) (bodyPost Try.prog Try.f124 P) (Act.mk (List.toArray ((.pointer (some ⟨gw, 0, none⟩)) :: u1 :: u2 :: (.slice q1 m1 d1) :: u4 :: u5 :: u6 :: u7 :: u8 :: u9 :: u10 :: u11 :: u12 :: u13 :: u14 :: u15 :: u16 :: u17 :: u18 :: u19 :: u20 :: u21 :: u22 :: u23 :: u24 :: u25 :: u26 :: u27 :: u28 :: u29 :: u30 :: u31 :: u32 :: u33 :: [])) []) w := by
  conv => enter [2]; whnf
  have HP : Hid _ := hP
  clear hP
  have hul : (uqF (giF G) 0 la m).length ≤ m + 1 := uqF_len
  refine wp_seq_k fun K1 hK1 => ?_
  have HK1 : Hid _ := hK1
  clear hK1
  have Gd := grown_drew w none
  have SS : BxS w.drew gw 112 #[.int .i64 id, .bool kn, .string nm, .int .i64 si, .bool en, .int .i64 la, .int .i64 su, .slice q m d, .slice a n c, .int .i64 st, .int .i64 ti, .int .i64 pa, .int .i64 tr, .int .i64 li, .slice na nn nc] := h.bx.keep Gd (by simp)
  refine wp_regionL (fun wz => BxS wz gw 112 #[.int .i64 id, .bool kn, .string nm, .int .i64 si, .bool en, .int .i64 la, .int .i64 su, .slice q m d, .slice a n c, .int .i64 st, .int .i64 ti, .int .i64 pa, .int .i64 tr, .int .i64 li, .slice na nn nc]) [] #[false, false, false, false, false, false, false, false, false, false, false, false, false, false, false] rfl (by kernel_rfl) ?_
  refine wpAnyZ_take [] 0 (.slice q1 m1 d1) rfl (by kernel_rfl) (fun _ _ _ h => h) SS rfl (by intro wz hz; go_simp) ?_
  try simp only [zc1, zc2, zc3, Act.put, zc4, zc5, zc6]
  refine wpAnyZ_take [] 1 (.pointer (some ⟨gw, 0, none⟩)) rfl (by kernel_rfl) (fun _ _ _ h => h) SS rfl (by intro wz hz; go_simp) ?_
  try simp only [zc1, zc2, zc3, Act.put, zc4, zc5, zc6]
  refine wpAnyZ_take [] 2 (.pointer (some ⟨gw, 0, none⟩)) rfl (by kernel_rfl) (fun _ _ _ h => h) SS rfl (by intro wz hz; go_simp) ?_
  try simp only [zc1, zc2, zc3, Act.put, zc4, zc5, zc6]
  refine wpAnyZ_take [] 3 (.pointer (some ⟨gw, 0, none⟩)) rfl (by kernel_rfl) (fun _ _ _ h => h) SS rfl (by intro wz hz; go_simp) ?_
  try simp only [zc1, zc2, zc3, Act.put, zc4, zc5, zc6]
  refine wpAnyZ_take [] 4 (.pointer (some ⟨gw, 7, none⟩)) rfl (by kernel_rfl) (fun _ _ _ h => h) SS rfl (by intro wz hz; go_simp) ?_
  try simp only [zc1, zc2, zc3, Act.put, zc4, zc5, zc6]
  refine wpAnyZ_take [] 5 (.slice q m d) rfl (by kernel_rfl) (fun _ _ _ h => h) SS rfl (by intro wz hz; have z : wz.cell? ⟨gw, 7, none⟩ = some (.slice q m d) := hz.cell 7 (by show 7 < 15; decide); go_simp) ?_
  try simp only [zc1, zc2, zc3, Act.put, zc4, zc5, zc6]
  refine wpAnyZ_take [] 6 (.pointer (some ⟨gw, 0, none⟩)) rfl (by kernel_rfl) (fun _ _ _ h => h) SS rfl (by intro wz hz; go_simp) ?_
  try simp only [zc1, zc2, zc3, Act.put, zc4, zc5, zc6]
  refine wpAnyZ_take [] 7 (.pointer (some ⟨gw, 0, none⟩)) rfl (by kernel_rfl) (fun _ _ _ h => h) SS rfl (by intro wz hz; go_simp) ?_
  try simp only [zc1, zc2, zc3, Act.put, zc4, zc5, zc6]
  refine wpAnyZ_take [] 8 (.pointer (some ⟨gw, 0, none⟩)) rfl (by kernel_rfl) (fun _ _ _ h => h) SS rfl (by intro wz hz; go_simp) ?_
  try simp only [zc1, zc2, zc3, Act.put, zc4, zc5, zc6]
  refine wpAnyZ_take [] 9 (.pointer (some ⟨gw, 5, none⟩)) rfl (by kernel_rfl) (fun _ _ _ h => h) SS rfl (by intro wz hz; go_simp) ?_
  try simp only [zc1, zc2, zc3, Act.put, zc4, zc5, zc6]
  refine wpAnyZ_take [] 10 (.int .i64 la) rfl (by kernel_rfl) (fun _ _ _ h => h) SS rfl (by intro wz hz; have z : wz.cell? ⟨gw, 5, none⟩ = some (.int .i64 la) := hz.cell 5 (by show 5 < 15; decide); go_simp) ?_
  try simp only [zc1, zc2, zc3, Act.put, zc4, zc5, zc6]
  refine wpAnyZ_take [] 11 (.agg #[.int .i64 0, .int .i64 la]) rfl (by kernel_rfl) (fun _ _ _ h => h) SS rfl (by intro wz hz; go_simp) ?_
  try simp only [zc1, zc2, zc3, Act.put, zc4, zc5, zc6]
  generalize w.drew = w2 at *
  refine wpAnyZ_oneB 12 rfl (by kernel_rfl) (fun KK hKK => ?_)
  go_simp
  go_at_call 119
  refine (untold_any q m d (giF G) 0 la w2 ((h.O.keep Gd).rd) (by omega)).mono ?_
  rintro e w3 ⟨q3, d3, rfl, hO3, y3⟩
  dsimp only
  have S3 := SS.keep y3 (by simp)
  have hO3' := (hO.keep Gd).keep y3
  have G3 := grown_trans (grown_trans g0 Gd) y3
  refine hKK _ _ (fun _ => S3) ?_
  try simp only [zc1, zc2, zc3, Act.put, zc4, zc5, zc6]
  generalize uqF (giF G) 0 la m = X at *
  have z3 := G3.size
  have hR3 := hO3.rd
  refine wpAnyZ_oneB 13 rfl (by kernel_rfl) (fun KK hKK => ?_)
  refine step_of_listV rfl ?_
  refine wpList_joinG rfl _ _ rfl q1 m1 d1 w0.heap.size U rfl hO3' (by omega) q3 X.length d3 (giF X) rfl hR3 (by omega) ?_
  intro q5 d5 w5 hO5 y5
  rw [tab_giF] at hO5
  have S5 := S3.keep y5 (fun e => own_ty hO3'.own S3 (by decide) e.symm)
  have G5 := grown_far G3 y5 hs
  show KK _ w5
  refine hKK _ _ (fun _ => S5) ?_
  try simp only [zc1, zc2, zc3, Act.put, zc4, zc5, zc6]
  refine wpAnyZ_oneB 14 rfl (by kernel_rfl) (fun KK hKK => ?_)
  go_simp
  refine hKK _ _ (fun _ => S5) ?_
  try simp only [zc1, zc2, zc3, Act.put, zc4, zc5, zc6]
  refine wpAnyZ_doneB (by kernel_rfl) ?_ _
  refine HK1.out _ _ ?_
  clear HK1
  have hl5 := hO5.len
  have z5 := G5.size
  generalize hUX : U ++ X = Y at *
  generalize hmx : m1 + X.length = k at *
  have hmn : min (k : Int) 20 = ((min k 20 : Nat) : Int) := by omega
  have htl : (Y.take 20).length = min k 20 := by rw [List.length_take, hl5]; omega
  have htk : Y.take (min k 20) = Y.take 20 := by rw [← hl5, List.take_eq_take_iff]; omega
  rw [htl] at HP
  have HTK : Hid _ := htk
  clear htk htl
  rcases hO5.cases with ⟨rfl, hk, rfl⟩ | ⟨g5, rfl, hkd⟩
  · subst hk
    have hY : Y = [] := List.eq_nil_of_length_eq_zero hl5
    subst hY
    go_wp2_with (go_at_call 93; refine (gclone_any none 0 0 (giF []) w5 hO5.rd (by omega)).mono ?_; rintro e w6 ⟨q6, d6, rfl, hO6, y6⟩)
    try go_ret
    exact HP.out w6 q6 d6 (hO6.wide z5) (grown_trans G5 y6)
  · obtain ⟨j, hj⟩ : ∃ j, min k 20 = j := ⟨_, rfl⟩
    rw [hj] at HP HTK hmn
    have hjk : j ≤ k := by omega
    have k1 : (0 : Int) ≤ (j : Int) := by omega
    have k2 : (j : Int) ≤ (d5 : Int) := by omega
    have k3 : j ≤ d5 := by omega
    have hC5 := hO5.cut j hjk
    rw [HTK.out] at hC5
    have hlj : (Y.take 20).length = j := hC5.len
    go_wp2_with (go_at_call 93; refine (gclone_any (some ⟨g5, 0, none⟩) j d5 (giF (Y.take 20)) w5 hC5.rd (by omega)).mono ?_; rintro e w6 ⟨q6, d6, rfl, hO6, y6⟩)
    try go_ret
    have e6 : tabG (giF (Y.take 20)) j = Y.take 20 := by rw [← hlj]; exact tab_giF _
    rw [e6] at hO6
    exact HP.out w6 q6 d6 (hO6.wide z5) (grown_trans G5 y6)

set_option maxHeartbeats 16000000 in
theorem missing_any (wB w : World) (gw : Nat) (id : Int) (kn : Bool) (nm : ByteArray) (si : Int) (en : Bool) (la su : Int) (st ti pa tr li : Int) (a : Option Addr) (n c : Nat) (L : List Nat) (q : Option Addr) (m d : Nat) (G : List (Int × Int)) (na : Option Addr) (nn nc : Nat) (xs : List Nx) (h : TKW wB w gw id kn nm si en la su st ti pa tr li a n c L q m d G na nn nc xs) (hm : m ≤ 65536) : Calls Try.prog 124 #[.pointer (some ⟨gw, 0, none⟩)] w fun e w' => ∃ q' d', e = .returned (.slice q' (misL kn la G).length d') ∧ OwGi w' w.heap.size q' (misL kn la G).length d' (misL kn la G) ∧ w.grownBy w' none := by
  obtain ⟨i0, hi, hz0, hz1, hz2⟩ := info_parts Try.info_pr
  have hGl := h.O.len
  have x1 : w.cell? ⟨gw, 1, none⟩ = some (.bool kn) := h.bx.cell 1 (by show 1 < 15; decide)
  have hmis : misL kn la G = ((if kn = true then [] else [((0 : Int), (0 : Int))]) ++ uqF (giF G) 0 la m).take 20 := by unfold misL; rw [hGl]
  rw [hmis]
  clear hmis
  go_enter Try.func124, Try.ntmps124
  refine wp_seq_k fun K1 hK1 => ?_
  have HK1 : Hid _ := hK1
  clear hK1
  go_wp2
  refine HK1.out _ _ ?_
  clear HK1
  refine wp_seq_k fun K1 hK1 => ?_
  have HK1 : Hid _ := hK1
  clear hK1
  go_wp2
  refine HK1.out _ _ ?_
  clear HK1
  cases kn with
  | true =>
    refine wp_seq_k fun K1 hK1 => ?_
    have HK1 : Hid _ := hK1
    clear hK1
    go_wp2
    try simp only [Exit.then]
    refine HK1.out _ _ ?_
    clear HK1
    refine ms_t4 _ w wB w gw id true nm si en la su st ti pa tr li a n c L q m d G na nn nc xs h (World.grownBy.refl _ _) hm none 0 0 [] (OwGi.nil _ _) (by omega) (fun z e => by cases e) ?_
    intro w' q' d' h1 h2
    exact ⟨q', d', rfl, h1, h2⟩
  | false =>
    refine wp_seq_k fun K1 hK1 => ?_
    have HK1 : Hid _ := hK1
    clear hK1
    have bA := BxS.new w 82 #[.int .i64 0, .int .i64 0]
    have yA := World.grownBy_alloc w (.cells #[.int .i64 0, .int .i64 0] 82) none
    generalize hwA : w.alloc (.cells #[.int .i64 0, .int .i64 0] 82) = wA at bA yA
    have s0 : True := trivial
    go_wp2_with (at_builtin; have _t := s0; clear s0; refine wpList_apS wA rfl _ _ 24 82 i0 (.agg #[.int .i64 0, .int .i64 0]) 2 16 Try.underlying24 hi hz0 hz1 hz2 rfl (by decide) rfl (.slice none 0 0) 0 (flG (giF []) 0) rfl (OwGi.nil wA 0).own ⟨w.heap.size, 0, none⟩ 1 1 [.int .i64 0, .int .i64 0] rfl rfl bA.newsA (by intro u hu; simp only [List.mem_cons, List.not_mem_nil, or_false] at hu; rcases hu with rfl | rfl <;> rfl) (by decide) (by unfold maxLen; omega) (by omega) ?_; intro gx cx w8 hor u8 hO8)
    try simp only [Exit.then]
    refine HK1.out _ _ ?_
    clear HK1
    rw [← giF_push [] (0, 0) 0 rfl] at hO8
    have zA := yA.size
    have hgx : w.heap.size ≤ gx := by
      rcases hor with e | e
      · cases e
      · omega
    have hO9 : OwGi w8 w.heap.size (some ⟨gx, 0, none⟩) 1 cx [(0, 0)] := ⟨hO8, rfl, fun g e => by
      have e : gx = g := Option.some.inj e
      omega⟩
    have u8 : wA.grownBy w8 none := u8
    have G8 := grown_trans yA u8
    refine ms_t4 _ w wB w8 gw id false nm si en la su st ti pa tr li a n c L q m d G na nn nc xs (h.keepN G8) G8 hm (some ⟨gx, 0, none⟩) 1 cx [(0, 0)] hO9 (by omega) (fun z e => by have e : gx = z := Option.some.inj e; omega) ?_
    intro w' q' d' h1 h2
    exact ⟨q', d', rfl, h1, h2⟩

set_option maxHeartbeats 16000000 in
theorem sendGaps_any (wB w : World) (gw : Nat) (id : Int) (kn : Bool) (nm : ByteArray) (si : Int) (en : Bool) (la su : Int) (st ti pa tr li : Int) (a : Option Addr) (n c : Nat) (L : List Nat) (q : Option Addr) (m d : Nat) (G : List (Int × Int)) (na : Option Addr) (nn nc : Nat) (xs : List Nx) (h : TKW wB w gw id kn nm si en la su st ti pa tr li a n c L q m d G na nn nc xs) (hm : m ≤ 65536) (hn : nn ≤ 100000) : Calls Try.prog 109 #[.pointer (some ⟨gw, 0, none⟩)] w fun e w' => e = .returned (.tuple #[]) ∧ (∃ na' nc' ys, TKW wB w' gw id kn nm si en la su st ti pa tr li a n c L q m d G na' (nn + ys.length) nc' (xs ++ ys) ∧ ys.map Nx.dt = sgL id (misL kn la G)) ∧ FrK gw na nn nc w w' := by
  have kM := missing_any wB w gw id kn nm si en la su st ti pa tr li a n c L q m d G na nn nc xs h hm
  have hl20 := misL_len kn la G
  generalize misL kn la G = M at kM hl20
  go_enter Try.func109, Try.ntmps109
  refine wp_seq_k fun K1 hK1 => ?_
  have HK1 : Hid _ := hK1
  clear hK1
  go_wp2_with (go_at_call 124; refine kM.mono ?_; rintro e w2 ⟨q2, d2, rfl, hO2, y2⟩)
  refine HK1.out _ _ ?_
  clear HK1
  have h2 := h.keepN y2
  have fr2 : FrK gw na nn nc w w2 := fun g9 t9 cs9 hb _ _ => hb.keep y2 (by simp)
  clear kM
  by_cases hM : M.length = 0
  · have hMM : M = [] := List.eq_nil_of_length_eq_zero hM
    subst hMM
    go_wp2
    first | go_end0 | refine bodyPost_ret (results_none rfl _ _ _) rfl ?_
    exact ⟨rfl, ⟨na, nc, [], by rw [List.append_nil]; exact h2, rfl⟩, fr2⟩
  · have k1 : (0 : Int) < (M.length : Int) := by omega
    go_wp2_with (go_at_call 121; refine (tsend_any wB w2 gw id kn nm si en la su st ti pa tr li a n c L q m d G na nn nc xs h2 (xGaps 0 M q2 d2) (Ans.nil _ _) (hO2.wide h.g.size) hn (fun z e => by rcases e with e | e; cases e; exact ⟨fun e2 => (by have h1 := hO2.new z e; have h3 := h.N.lt e2; omega), fun e2 => (by have h1 := hO2.new z e; have h3 := own_ltN h.A.own e2; omega), fun e2 => (by have h1 := hO2.new z e; have h3 := h.O.lt e2; omega)⟩)).mono ?_; rintro e w3 ⟨rfl, ⟨na3, nc3, h3⟩, hfr⟩)
    first | go_end0 | refine bodyPost_ret (results_none rfl _ _ _) rfl ?_
    exact ⟨rfl, ⟨na3, nc3, [xGaps id M q2 d2], h3, by unfold sgL; rw [if_neg hM]; rfl⟩, fun g9 t9 cs9 hb e1 e2 => hfr g9 t9 cs9 (fr2 g9 t9 cs9 hb e1 e2) e1 e2⟩
end
end Go.Proofs.Ytnimehkfnpepfaa
