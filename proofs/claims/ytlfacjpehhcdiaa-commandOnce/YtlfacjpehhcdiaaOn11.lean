import Derived.Test.YtlfacjpehhcdiaaOn9
import Derived.Test.YtlfacjpehhcdiaaOn10
import Derived.Test.YtlfacjpehhcdiaaOn5
import Derived.Test.YtlfacjpehhcdiaaOn2
namespace Go.Proofs.Ytlfacjpehhcdiaa
open Go.RowKit
set_option maxRecDepth 100000
set_option linter.unusedVariables false
set_option linter.unusedSimpArgs false

section
/-- commands from x on, a byte each -/
def nuL (x n : Nat) : List (List Nat) := (List.range' x n).map (fun k => [k])
/-- the frame of command k -/
def frm (k : Nat) : List Nat := orL 3 false false k [k]
theorem nuL_len (x n : Nat) : (nuL x n).length = n := by unfold nuL; rw [List.length_map, List.length_range']
theorem nuL_cons (x n : Nat) : nuL x (n + 1) = [x] :: nuL (x + 1) n := by unfold nuL; rw [List.range'_succ]; rfl
theorem nuL_app (x n m : Nat) : nuL x n ++ nuL (x + n) m = nuL x (n + m) := by
  unfold nuL
  rw [← List.map_append, List.range'_append_1]
theorem nuL_drop (x : Nat) : ∀ (n m : Nat), (nuL x n).drop m = nuL (x + m) (n - m) := by
  intro n m
  unfold nuL
  rw [← List.map_drop, List.drop_range']
  simp
theorem nuL_take (x n m : Nat) (h : m ≤ n) : (nuL x n).take m = nuL x m := by
  have e := nuL_app x m (n - m)
  rw [show m + (n - m) = n by omega] at e
  rw [← e, List.take_left' (nuL_len x m)]
theorem up_nuL : ∀ (n x : Nat), x + n ≤ 256 → upL 3 (x : Int) (nuL x n) = (List.range' x n).map frm := by
  intro n
  induction n with
  | zero => intro x _; rfl
  | succ n ih =>
    intro x h
    rw [nuL_cons, List.range'_succ, List.map_cons]
    show orL 3 false false ((x : Int) % 256).toNat [x] :: upL 3 ((x : Int) + 1) (nuL (x + 1) n) = _
    rw [show ((x : Int) % 256).toNat = x by omega, show (x : Int) + 1 = ((x + 1 : Nat) : Int) by omega, ih (x + 1) (by omega)]
    rfl
/-- a hand that has sent the commands f to s - 1, with s to a - 1 still to be sent -/
structure HI (d : Hd) (s f a : Nat) : Prop where
  cr : d.cr = 3
  nx : d.nx = (s : Int)
  S : d.S = nuL f (s - f)
  Q : d.Q = nuL s (a - s)
  fs : f ≤ s
  sa : s ≤ a
  a1 : a ≤ 100
  ah : 1 ≤ d.ah ∧ d.ah ≤ 40
  sl : ((s - f : Nat) : Int) ≤ d.ah
  pa : 1 ≤ d.pa ∧ d.pa ≤ 12
  pu : 0 ≤ d.pu ∧ d.pu ≤ 11
  li : d.li = 100
  ti : 0 ≤ d.ti ∧ d.ti < d.pa
  tr : 0 ≤ d.tr ∧ d.tr ≤ 100
  si : 0 ≤ d.si ∧ d.si ≤ d.pu
  hl : d.hl = 0 ∨ d.hl = 19
theorem HI.sn {d : Hd} {s f a : Nat} (h : HI d s f a) : d.S.length = s - f := by rw [h.S, nuL_len]
theorem HI.qn {d : Hd} {s f a : Nat} (h : HI d s f a) : d.Q.length = a - s := by rw [h.Q, nuL_len]
/-- what a gate reports -/
theorem st_rp (D : Nat) (hD : D ≤ 100) (wa ag : Bool) : stE (rpN D false wa ag 0 : Nat) = 0 ∧ stN (rpN D false wa ag 0 : Nat) = D ∧ stB (rpN D false wa ag 0 : Nat) 13 = false ∧ stB (rpN D false wa ag 0 : Nat) 12 = wa ∧ stB (rpN D false wa ag 0 : Nat) 11 = ag := by
  have hn : ∀ x : Nat, ((x : Int)).toNat = x := fun x => by omega
  have e : ∃ z : Nat, rpN D false wa ag 0 = z ∧ z = 16777216 + wa.toNat * 4096 + ag.toNat * 2048 + D := ⟨_, rfl, by unfold rpN; simp⟩
  obtain ⟨z, e1, e2⟩ := e
  rw [e1]
  have hw : wa.toNat ≤ 1 := by cases wa <;> decide
  have hg : ag.toNat ≤ 1 := by cases ag <;> decide
  have hE : stE (z : Nat) = 0 := by
    unfold stE kwB
    rw [if_pos (decide_eq_true (by omega)), hn, if_pos (by omega)]
  refine ⟨hE, ?_, ?_, ?_, ?_⟩
  · unfold stN
    rw [if_pos hE, hn]; omega
  · unfold stB
    rw [hE, hn]
    simp; omega
  · unfold stB
    rw [hE, hn]
    cases wa <;> simp at e2 ⊢ <;> omega
  · unfold stB
    rw [hE, hn]
    cases ag <;> cases wa <;> simp at e2 ⊢ <;> omega
theorem hi_A {d : Hd} {s f a : Nat} (h : HI d s f a) : HI (tkA d) s f a := by
  have h1 := h.si
  exact ⟨h.cr, h.nx, h.S, h.Q, h.fs, h.sa, h.a1, h.ah, h.sl, h.pa, h.pu, h.li, h.ti, h.tr, by show 0 ≤ (if d.pu < d.si + 1 then d.pu else d.si + 1) ∧ (if d.pu < d.si + 1 then d.pu else d.si + 1) ≤ d.pu; split <;> omega, h.hl⟩
/-- what was heard -/
theorem hi_B {d : Hd} {s f a D : Nat} (h : HI d s f a) (h1 : f ≤ D) (h2 : D ≤ s) (wa ag b : Bool) :
    HI (tkB d (rpN D false wa ag 0 : Nat) b) s (if b = true then D else f) a ∧ (tkB d (rpN D false wa ag 0 : Nat) b).hl = d.hl ∧ (tkB d (rpN D false wa ag 0 : Nat) b).pa = d.pa ∧ (tkB d (rpN D false wa ag 0 : Nat) b).ah = d.ah ∧ (tkB d (rpN D false wa ag 0 : Nat) b).ti = (if b = true ∧ f < D then 0 else d.ti) := by
  have hs := h.sa
  have ha := h.a1
  obtain ⟨e1, e2, e3, e4, e5⟩ := st_rp D (by omega) wa ag
  have hA := hi_A h
  cases b with
  | false =>
    have e : tkB d (rpN D false wa ag 0 : Nat) false = tkA d := by unfold tkB tkH; simp
    rw [e]
    exact ⟨hA, rfl, rfl, rfl, by simp; rfl⟩
  | true =>
    have hm : stM (tkA d) D = D - f := by
      unfold stM
      rw [hA.nx, hA.sn]
      have := h.fs
      omega
    have e : tkB d (rpN D false wa ag 0 : Nat) true = seD (tkA d) (D - f) false := by
      unfold tkB tkH
      rw [e1, e2, e3, hm]
      simp
    rw [e]
    unfold seD
    rw [hA.sn, if_neg (by omega)]
    by_cases hD : f < D
    · rw [if_pos (by omega), if_neg (by simp)]
      refine ⟨⟨hA.cr, hA.nx, ?_, hA.Q, h2, hA.sa, hA.a1, hA.ah, ?_, hA.pa, hA.pu, hA.li, ⟨Int.le_refl _, by have := hA.pa; show (0 : Int) < (tkA d).pa; omega⟩, ⟨Int.le_refl _, by show (0 : Int) ≤ 100; omega⟩, hA.si, hA.hl⟩, rfl, rfl, rfl, by simp [hD]⟩
      · show (tkA d).S.drop (D - f) = _
        rw [hA.S, nuL_drop, show f + (D - f) = D by omega, show s - f - (D - f) = s - D by omega]
        rfl
      · have := hA.sl
        show ((s - (if true = true then D else f) : Nat) : Int) ≤ (tkA d).ah
        simp only [if_true]
        omega
    · obtain rfl : f = D := by omega
      rw [if_neg (by omega), if_neg (by simp)]
      refine ⟨?_, rfl, rfl, rfl, by simp; rfl⟩
      simpa using hA
/-- once more -/
theorem hi_C {d : Hd} {s f a : Nat} (h : HI d s f a) (h0 : d.hl = 0) (wt ag : Bool) :
    HI (saD d wt ag) s f a ∧ (saD d wt ag).pa = d.pa ∧ (saD d wt ag).ah = d.ah ∧
    (((saD d wt ag).hl = 0 ∧ saU d wt ag = [] ∧ (f = s ∨ (saD d wt ag).ti = d.ti + 1)) ∨ ((saD d wt ag).hl = 0 ∧ saU d wt ag = (List.range' f (s - f)).map frm ∧ (saD d wt ag).ti = 0 ∧ f < s) ∨ ((saD d wt ag).hl = 19 ∧ saU d wt ag = [] ∧ f < s)) := by
  have hs := h.sn
  have hfs := h.fs
  have hti := h.ti
  have htr := h.tr
  have hli := h.li
  have hpu := h.pu
  unfold saD saU
  rw [hs]
  by_cases c1 : s - f = 0
  · rw [if_pos c1, if_pos c1]
    exact ⟨⟨h.cr, h.nx, h.S, h.Q, h.fs, h.sa, h.a1, h.ah, h.sl, h.pa, h.pu, h.li, ⟨Int.le_refl _, by have := h.pa; show (0 : Int) < d.pa; omega⟩, h.tr, h.si, h.hl⟩, rfl, rfl, .inl ⟨h0, rfl, .inl (by omega)⟩⟩
  · rw [if_neg c1, if_neg c1]
    by_cases c2 : (!saW d wt ag) = true ∧ d.ti + 1 < d.pa
    · rw [if_pos c2, if_pos c2]
      exact ⟨⟨h.cr, h.nx, h.S, h.Q, h.fs, h.sa, h.a1, h.ah, h.sl, h.pa, h.pu, h.li, ⟨by show 0 ≤ d.ti + 1; omega, c2.2⟩, h.tr, h.si, h.hl⟩, rfl, rfl, .inl ⟨h0, rfl, .inr rfl⟩⟩
    · rw [if_neg c2, if_neg c2]
      have hp := h.pa
      by_cases c3 : d.tr = d.li
      · rw [if_pos c3, if_pos c3]
        exact ⟨⟨h.cr, h.nx, h.S, h.Q, h.fs, h.sa, h.a1, h.ah, h.sl, h.pa, h.pu, h.li, ⟨Int.le_refl _, by show (0 : Int) < d.pa; omega⟩, h.tr, ⟨Int.le_refl _, h.pu.1⟩, .inr rfl⟩, rfl, rfl, .inr (.inr ⟨rfl, rfl, by omega⟩)⟩
      · rw [if_neg c3, if_neg c3]
        refine ⟨⟨h.cr, h.nx, h.S, h.Q, h.fs, h.sa, h.a1, h.ah, h.sl, h.pa, h.pu, h.li, ⟨Int.le_refl _, by show (0 : Int) < d.pa; omega⟩, ⟨by show 0 ≤ d.tr + 1; omega, by show d.tr + 1 ≤ 100; omega⟩, ⟨Int.le_refl _, h.pu.1⟩, h.hl⟩, rfl, rfl, .inr (.inl ⟨h0, ?_, rfl, by omega⟩)⟩
        have := h.sa
        have := h.a1
        rw [h.cr, h.nx, h.S, show (s : Int) - ((s - f : Nat) : Int) = (f : Int) by omega]
        exact up_nuL (s - f) f (by omega)
/-- new ones -/
theorem hi_D {d : Hd} {s f a : Nat} (h : HI d s f a) :
    ∃ k, s + k ≤ a ∧ HI (snD d) (s + k) f a ∧ snU d = (List.range' s k).map frm ∧ (snD d).hl = d.hl ∧ (snD d).pa = d.pa ∧ (snD d).ah = d.ah ∧ (snD d).ti = d.ti ∧ (((s - f : Nat) : Int) < d.ah → s < a → 1 ≤ k) := by
  have hs := h.sn
  have hq := h.qn
  have hsl := h.sl
  have hfs := h.fs
  have hsa := h.sa
  have ha1 := h.a1
  have hk : snK d = min (d.ah - ((s - f : Nat) : Int)).toNat (a - s) := by unfold snK; rw [hs, hq]
  have hle : snK d ≤ a - s := by rw [hk]; exact Nat.min_le_right _ _
  have hle2 : snK d ≤ (d.ah - ((s - f : Nat) : Int)).toNat := by rw [hk]; exact Nat.min_le_left _ _
  refine ⟨snK d, by omega, ⟨h.cr, ?_, ?_, ?_, by omega, by omega, h.a1, h.ah, ?_, h.pa, h.pu, h.li, h.ti, h.tr, h.si, h.hl⟩, ?_, rfl, rfl, rfl, rfl, fun c1 c2 => ?_⟩
  · show (d.nx + (snK d : Int)) % 256 = _
    rw [h.nx]; omega
  · show d.S ++ d.Q.take (snK d) = _
    rw [h.S, h.Q, nuL_take _ _ _ hle]
    have e := nuL_app f (s - f) (snK d)
    rw [show f + (s - f) = s by omega] at e
    rw [e, show s - f + snK d = s + snK d - f by omega]
  · show d.Q.drop (snK d) = _
    rw [h.Q, nuL_drop, show a - s - snK d = a - (s + snK d) by omega]
  · show ((s + snK d - f : Nat) : Int) ≤ d.ah
    omega
  · show upL d.cr.toNat d.nx (d.Q.take (snK d)) = _
    rw [h.cr, h.nx, h.Q, nuL_take _ _ _ hle]
    exact up_nuL (snK d) s (by omega)
  · rw [hk, Nat.le_min]
    omega
/-- A TICK OF A HAND that does not stand still: f behind it is D where the gate was heard; what goes up is all that is sent, or nothing, and new ones -/
structure HS (d d' : Hd) (U : List (List Nat)) (s f a D : Nat) (wa b : Bool) (s' : Nat) (X : List Nat) : Prop where
  le : s ≤ s'
  hi : HI d' s' (if b = true then D else f) a
  pa : d'.pa = d.pa
  up : U = (X ++ List.range' s (s' - s)).map frm
  x : X = [] ∨ X = List.range' (if b = true then D else f) (s - (if b = true then D else f))
  tm : b = true → d'.hl = 0 → D < s → X = List.range' D (s - D) ∨ (X = [] ∧ d'.ti = (if f < D then 0 else d.ti) + 1)
  nw : b = true → d'.hl = 0 → D = s → wa = false → s < a → s < s'
  no : d'.hl = 19 → s' = s ∧ X = [] ∧ 0 < a
theorem hi_step {d : Hd} {s f a D : Nat} (h : HI d s f a) (h0 : d.hl = 0) (h1 : f ≤ D) (h2 : D ≤ s) (wa ag b : Bool) :
    ∃ s' X, HS d (tkD d (rpN D false wa ag 0 : Nat) b) (tkU d (rpN D false wa ag 0 : Nat) b) s f a D wa b s' X := by
  have hsa := h.sa
  have ha1 := h.a1
  obtain ⟨e1, e2, e3, e4, e5⟩ := st_rp D (by omega) wa ag
  obtain ⟨b1, b2, b3, b4, b5⟩ := hi_B h h1 h2 wa ag b
  have g12 : tkG (rpN D false wa ag 0 : Nat) b 12 = (b && wa) := by unfold tkG tkH; rw [e1, e4]; simp
  have hB0 : (tkB d (rpN D false wa ag 0 : Nat) b).hl = 0 := by rw [b2]; exact h0
  obtain ⟨c1, c2, c3, c4⟩ := hi_C b1 hB0 (tkG (rpN D false wa ag 0 : Nat) b 12) (tkG (rpN D false wa ag 0 : Nat) b 11)
  have hC : tkC d (rpN D false wa ag 0 : Nat) b = saD (tkB d (rpN D false wa ag 0 : Nat) b) (tkG (rpN D false wa ag 0 : Nat) b 12) (tkG (rpN D false wa ag 0 : Nat) b 11) := by unfold tkC; rw [if_pos hB0]
  have hCU : tkCU d (rpN D false wa ag 0 : Nat) b = saU (tkB d (rpN D false wa ag 0 : Nat) b) (tkG (rpN D false wa ag 0 : Nat) b 12) (tkG (rpN D false wa ag 0 : Nat) b 11) := by unfold tkCU; rw [if_pos hB0]
  unfold tkD tkU tkO
  rw [hC, hCU, g12]
  rw [g12] at c1 c2 c3 c4
  generalize saD (tkB d (rpN D false wa ag 0 : Nat) b) (b && wa) (tkG (rpN D false wa ag 0 : Nat) b 11) = d2 at c1 c2 c3 c4 ⊢
  generalize saU (tkB d (rpN D false wa ag 0 : Nat) b) (b && wa) (tkG (rpN D false wa ag 0 : Nat) b 11) = U2 at c4 ⊢
  generalize hf1 : (if b = true then D else f) = f1 at b1 c1 c4
  have hf1' : b = true → f1 = D := fun e => by rw [← hf1, if_pos e]
  rw [b5] at c4
  have hpa : d2.pa = d.pa := by rw [c2, b3]
  -- the numbers that go up once more
  have hx : ∃ X : List Nat, U2 = X.map frm ∧ (X = [] ∨ X = List.range' f1 (s - f1)) ∧ (d2.hl = 0 → f1 < s → X = List.range' f1 (s - f1) ∨ (X = [] ∧ d2.ti = (if b = true ∧ f < D then 0 else d.ti) + 1)) ∧ (d2.hl = 19 → X = [] ∧ 0 < a) := by
    rcases c4 with ⟨k1, k2, k3⟩ | ⟨k1, k2, k3, k4⟩ | ⟨k1, k2, k3⟩
    · exact ⟨[], by rw [k2]; rfl, .inl rfl, fun _ hl => .inr ⟨rfl, k3.resolve_left (by omega)⟩, fun e => by omega⟩
    · exact ⟨_, k2, .inr rfl, fun _ _ => .inl rfl, fun e => by omega⟩
    · exact ⟨[], by rw [k2]; rfl, .inl rfl, fun e => by omega, fun _ => ⟨rfl, by omega⟩⟩
  obtain ⟨X, x1, x2, x3, x4⟩ := hx
  have htm : ∀ {d' : Hd}, d'.ti = d2.ti → d'.hl = d2.hl → b = true → d'.hl = 0 → D < s → X = List.range' D (s - D) ∨ (X = [] ∧ d'.ti = (if f < D then 0 else d.ti) + 1) := fun q1 q2 eb e0 hD => by
    have hf := hf1' eb
    subst hf
    rcases x3 (by omega) hD with r | ⟨r1, r2⟩
    · exact .inl r
    · refine .inr ⟨r1, ?_⟩
      rw [q1, r2]
      simp [eb]
  by_cases hO : (decide (d2.hl = 0) && !(b && wa)) = true
  · rw [if_pos hO, if_pos hO]
    have h20 : d2.hl = 0 := by
      have := (Bool.and_eq_true_iff.1 hO).1
      exact of_decide_eq_true this
    obtain ⟨k, k1, k2, k3, k4, k5, k6, k7, k8⟩ := hi_D c1
    refine ⟨s + k, X, ⟨by omega, ?_, by rw [k5, hpa], ?_, ?_, htm k7 k4, fun eb e0 hD hw hs => ?_, fun e => by rw [k4] at e; omega⟩⟩
    · rw [hf1]; exact k2
    · rw [x1, k3, List.map_append, show s + k - s = k by omega]
    · rw [hf1]; exact x2
    · have hf := hf1' eb
      have := k8 (by have := c1.ah; rw [hf, ← hD]; simp; omega) hs
      omega
  · rw [if_neg hO, if_neg hO]
    refine ⟨s, X, ⟨Nat.le_refl _, by rw [hf1]; exact c1, hpa, ?_, by rw [hf1]; exact x2, htm rfl rfl, fun eb e0 hD hw hs => ?_, fun e => ⟨rfl, x4 e⟩⟩⟩
    · rw [x1, Nat.sub_self]; simp
    · exact absurd (by rw [eb, hw, e0]; rfl) hO
/-- a frame comes to a gate: the number of the next one, Wait, Again -/
def ga (room : Bool) (x : Nat × Bool × Bool) (k : Nat) : Nat × Bool × Bool := if k = x.1 then (if room = true then (x.1 + 1, false, false) else (x.1, true, true)) else if x.1 < k then (x.1, x.2.1, true) else x
def gT (x : Nat × Bool × Bool) : Gt := ⟨3, (x.1 : Int), 127, false, x.2.1, x.2.2, 0⟩
theorem que_ga (x : Nat × Bool × Bool) (k : Nat) (room : Bool) (hx : x.1 ≤ 100) (hk : k ≤ 99) :
    ((gT x).que (k : Int) room).1 = gT (ga room x k) ∧ (((gT x).que (k : Int) room).2 = 0 ∨ ((gT x).que (k : Int) room).2 = 12 ∨ ((gT x).que (k : Int) room).2 = 7 ∨ ((gT x).que (k : Int) room).2 = 13) ∧ (((gT x).que (k : Int) room).2 = 0 ↔ k = x.1 ∧ room = true) := by
  obtain ⟨D, wa, ag⟩ := x
  have hx : D ≤ 100 := hx
  unfold Gt.que ga gT
  dsimp only
  rw [if_neg (by simp)]
  by_cases c1 : k = D
  · subst c1
    rw [if_pos (by omega), if_pos rfl]
    cases room with
    | true =>
      simp only [if_true]
      exact ⟨by rw [show ((k : Int) + 1) % 256 = ((k + 1 : Nat) : Int) by omega], .inl trivial, by simp⟩
    | false => simp
  · rw [if_neg (by omega), if_neg c1]
    by_cases c2 : D < k
    · rw [if_pos (by omega), if_pos c2]
      exact ⟨rfl, .inr (.inr (.inl rfl)), by simp; omega⟩
    · rw [if_neg (by omega), if_pos (by omega), if_neg c2]
      exact ⟨rfl, .inr (.inr (.inr rfl)), by simp; omega⟩
def gaF (room : Bool) (x : Nat × Bool × Bool) (L : List Nat) : Nat × Bool × Bool := L.foldl (ga room) x
theorem ga_in {room : Bool} {x : Nat × Bool × Bool} {k s : Nat} (h1 : x.1 ≤ s) (h2 : k < s) (h3 : x.2.1 = true → x.1 < s) : x.1 ≤ (ga room x k).1 ∧ (ga room x k).1 ≤ s ∧ ((ga room x k).2.1 = true → (ga room x k).1 < s) := by
  unfold ga
  by_cases c1 : k = x.1
  · rw [if_pos c1]
    cases room with
    | true => simp; omega
    | false => simp; omega
  · rw [if_neg c1]
    by_cases c2 : x.1 < k
    · rw [if_pos c2]; exact ⟨Nat.le_refl _, h1, h3⟩
    · rw [if_neg c2]; exact ⟨Nat.le_refl _, h1, h3⟩
theorem gaF_in {room : Bool} {s : Nat} : ∀ (L : List Nat) (x : Nat × Bool × Bool), x.1 ≤ s → (∀ k, k ∈ L → k < s) → (x.2.1 = true → x.1 < s) → x.1 ≤ (gaF room x L).1 ∧ (gaF room x L).1 ≤ s ∧ ((gaF room x L).2.1 = true → (gaF room x L).1 < s) := by
  intro L
  induction L with
  | nil => intro x h1 _ h3; exact ⟨Nat.le_refl _, h1, h3⟩
  | cons k L ih =>
    intro x h1 h2 h3
    obtain ⟨a1, a2, a3⟩ := ga_in (room := room) h1 (h2 k (List.mem_cons_self ..)) h3
    obtain ⟨b1, b2, b3⟩ := ih (ga room x k) a2 (fun j hj => h2 j (List.mem_cons_of_mem _ hj)) a3
    exact ⟨Nat.le_trans a1 b1, b2, b3⟩
theorem ga_range : ∀ (n f : Nat) (x : Nat × Bool × Bool), f ≤ x.1 → x.1 ≤ f + n → (gaF true x (List.range' f n)).1 = f + n := by
  intro n
  induction n with
  | zero => intro f x h1 h2; show x.1 = f + 0; omega
  | succ n ih =>
    intro f x h1 h2
    rw [List.range'_succ]
    show (gaF true (ga true x f) (List.range' (f + 1) n)).1 = _
    have e : f + 1 ≤ (ga true x f).1 ∧ (ga true x f).1 ≤ f + 1 + n := by
      unfold ga
      by_cases c : f = x.1
      · rw [if_pos c]; simp; omega
      · rw [if_neg c, if_neg (by omega)]; omega
    rw [ih (f + 1) _ e.1 e.2]; omega
theorem gaF_app (room : Bool) (x : Nat × Bool × Bool) (L M : List Nat) : gaF room x (L ++ M) = gaF room (gaF room x L) M := List.foldl_append ..
/-- a link: hand, gate (the number of the next one, Wait, Again), what is on its way, all that ever went, how many were asked for, is there a report? -/
structure Lk where
  d : Hd
  x : Nat × Bool × Bool
  way : List Nat
  old : List Nat
  a : Nat
  he : Bool
structure LI (l : Lk) (s f : Nat) : Prop where
  hi : HI l.d s f l.a
  fx : f ≤ l.x.1
  xs : l.x.1 ≤ s
  wy : ∀ k, k ∈ l.way → k < s
  od : ∀ k, k ∈ l.old → k < s
  wa : l.x.2.1 = true → l.x.1 < s
  za : l.d.hl = 19 → 0 < l.a
/-- what the gate reports -/
def Lk.z (l : Lk) : Int := (rpN l.x.1 false l.x.2.1 l.x.2.2 0 : Nat)
theorem LI.x1 {l : Lk} {s f : Nat} (h : LI l s f) : l.x.1 ≤ 100 ∧ s ≤ 100 := by
  have := h.hi.sa; have := h.hi.a1; have := h.xs; omega
/-- a command is asked for -/
theorem li_ask {l : Lk} {s f : Nat} (h : LI l s f) (ha : l.a < 100) : axE l.d [l.a] = 0 ∧ LI { l with d := axV l.d [l.a], a := l.a + 1 } s f := by
  have hq := h.hi.qn
  have hsa := h.hi.sa
  have e1 : kwB (([l.a] : List Nat).length : Nat) 1 1017 = true := by show kwB (1 : Int) 1 1017 = true; decide
  have e2 : axO l.d [l.a] = true := by unfold axO; rw [e1, decide_eq_true (by omega)]; rfl
  refine ⟨by unfold axE; rw [if_pos e1, if_pos (by omega)], ⟨?_, h.fx, h.xs, h.wy, h.od, h.wa, fun _ => by show 0 < l.a + 1; omega⟩⟩
  show HI (axV l.d [l.a]) s f (l.a + 1)
  unfold axV
  rw [if_pos e2]
  refine ⟨h.hi.cr, h.hi.nx, h.hi.S, ?_, h.hi.fs, by omega, by omega, h.hi.ah, h.hi.sl, h.hi.pa, h.hi.pu, h.hi.li, h.hi.ti, h.hi.tr, h.hi.si, h.hi.hl⟩
  show l.d.Q ++ [[l.a]] = _
  have e := nuL_app s (l.a - s) 1
  rw [show s + (l.a - s) = l.a by omega, show l.a - s + 1 = l.a + 1 - s by omega] at e
  rw [h.hi.Q, ← e]
  rfl
/-- a tick of the hand -/
structure LS (l : Lk) (s f : Nat) (s' : Nat) (N : List Nat) : Prop where
  le : s ≤ s'
  li : LI ⟨tsV l.d l.z l.he, l.x, l.way ++ N, l.old ++ N, l.a, false⟩ s' (if l.d.hl = 0 ∧ l.he = true then l.x.1 else f)
  up : tsR l.d l.z l.he = N.map frm
  n : N.length ≤ 80
  st : l.d.hl = 0 → ∃ X, HS l.d (tsV l.d l.z l.he) (tsR l.d l.z l.he) s f l.a l.x.1 l.x.2.1 l.he s' X ∧ N = X ++ List.range' s (s' - s)
  hl : l.d.hl ≠ 0 → tsV l.d l.z l.he = l.d
theorem li_step {l : Lk} {s f : Nat} (h : LI l s f) : ∃ s' N, LS l s f s' N := by
  by_cases h0 : l.d.hl = 0
  · obtain ⟨s', X, hS⟩ := hi_step h.hi h0 h.fx h.xs l.x.2.1 l.x.2.2 l.he
    have e1 : tsV l.d l.z l.he = tkD l.d (rpN l.x.1 false l.x.2.1 l.x.2.2 0 : Nat) l.he := by unfold tsV; rw [if_pos h0]; rfl
    have e2 : tsR l.d l.z l.he = tkU l.d (rpN l.x.1 false l.x.2.1 l.x.2.2 0 : Nat) l.he := by unfold tsR; rw [if_pos h0]; rfl
    have hle := hS.le
    have hf1 : f ≤ (if l.he = true then l.x.1 else f) ∧ (if l.he = true then l.x.1 else f) ≤ l.x.1 := by
      have := h.fx
      split <;> omega
    generalize hq : (if l.he = true then l.x.1 else f) = f1 at hf1
    have hi' := hS.hi
    rw [hq] at hi'
    have hsl := hi'.sl
    have hah := hi'.ah
    have hsl0 := h.hi.sl
    have hah0 := h.hi.ah
    have hxs := h.xs
    have hXn : X.length ≤ s - f1 := by
      rcases hS.x with e | e
      · rw [e]; exact Nat.zero_le _
      · rw [e, List.length_range', hq]; exact Nat.le_refl _
    have hXs : ∀ k, k ∈ X → k < s := fun k hk => by
      rcases hS.x with e | e
      · rw [e] at hk; cases hk
      · rw [e, hq] at hk
        have := List.mem_range'_1.1 hk
        omega
    have hNs : ∀ k, k ∈ X ++ List.range' s (s' - s) → k < s' := fun k hk => by
      rcases List.mem_append.1 hk with hk | hk
      · have := hXs k hk; omega
      · have := List.mem_range'_1.1 hk; omega
    refine ⟨s', X ++ List.range' s (s' - s), ⟨hle, ⟨?_, ?_, by show l.x.1 ≤ s'; omega, fun k hk => ?_, fun k hk => ?_, fun e => by have := h.wa e; show l.x.1 < s'; omega, fun e => (hS.no (by rw [← e1]; exact e)).2.2⟩, by rw [e2]; exact hS.up, ?_, fun _ => ⟨X, by rw [e1, e2]; exact hS, rfl⟩, fun hn => absurd h0 hn⟩⟩
    · show HI (tsV l.d l.z l.he) s' _ l.a
      rw [e1]
      simp only [h0, true_and]
      rw [hq]
      exact hi'
    · simp only [h0, true_and]
      rw [hq]
      exact hf1.2
    · rcases List.mem_append.1 hk with hk | hk
      · have := h.wy k hk; omega
      · exact hNs k hk
    · rcases List.mem_append.1 hk with hk | hk
      · have := h.od k hk; omega
      · exact hNs k hk
    · rw [List.length_append, List.length_range']
      have := hi'.fs
      omega
  · have e1 : tsV l.d l.z l.he = l.d := by unfold tsV; rw [if_neg h0]
    have e2 : tsR l.d l.z l.he = [] := by unfold tsR; rw [if_neg h0]
    refine ⟨s, [], ⟨Nat.le_refl _, ⟨?_, ?_, h.xs, ?_, ?_, h.wa, fun e => h.za (by rw [← e1]; exact e)⟩, e2, Nat.zero_le _, fun k => absurd k h0, fun _ => e1⟩⟩
    · show HI (tsV l.d l.z l.he) s _ l.a
      rw [e1]
      simp only [h0, false_and, if_false]
      exact h.hi
    · simp only [h0, false_and, if_false]
      exact h.fx
    · show ∀ k, k ∈ l.way ++ [] → k < s
      rw [List.append_nil]; exact h.wy
    · show ∀ k, k ∈ l.old ++ [] → k < s
      rw [List.append_nil]; exact h.od
/-- a frame comes -/
theorem li_come {l : Lk} {s f k : Nat} (h : LI l s f) (hk : k < s) (room : Bool) : LI { l with x := ga room l.x k } s f := by
  obtain ⟨a1, a2, a3⟩ := ga_in (room := room) h.xs hk h.wa
  exact ⟨h.hi, by have := h.fx; show f ≤ (ga room l.x k).1; omega, a2, h.wy, h.od, a3, h.za⟩
theorem li_way {l : Lk} {s f : Nat} (h : LI l s f) (W : List Nat) (hW : ∀ k, k ∈ W → k ∈ l.way) (b : Bool) : LI { l with way := W, he := b } s f := ⟨h.hi, h.fx, h.xs, fun k hk => h.wy k (hW k hk), h.od, h.wa, h.za⟩
/-- a quiet tick -/
def Lk.qk (l : Lk) (N : List Nat) : Lk := ⟨tsV l.d l.z l.he, gaF true l.x ((l.way ++ N).take 1000), (l.way ++ N).drop 1000, l.old ++ N, l.a, true⟩
theorem li_qk {l : Lk} {s f s' : Nat} {N : List Nat} (h : LI l s f) (hS : LS l s f s' N) : LI (l.qk N) s' (if l.d.hl = 0 ∧ l.he = true then l.x.1 else f) := by
  obtain ⟨a1, a2, a3⟩ := gaF_in (room := true) (s := s') ((l.way ++ N).take 1000) l.x hS.li.xs (fun k hk => hS.li.wy k (List.mem_of_mem_take hk)) hS.li.wa
  exact ⟨hS.li.hi, Nat.le_trans hS.li.fx a1, a2, fun k hk => hS.li.wy k (List.mem_of_mem_drop hk), hS.li.od, a3, hS.li.za⟩
/-- how many quiet ticks are left -/
def Lk.mu (l : Lk) : Nat := (l.a - l.x.1) * (l.d.pa.toNat + 1) + (l.d.pa.toNat - (if (l.d.nx - (l.d.S.length : Int)).toNat < l.x.1 then 0 else l.d.ti.toNat))
theorem HI.fst {d : Hd} {s f a : Nat} (h : HI d s f a) : (d.nx - (d.S.length : Int)).toNat = f := by
  rw [h.nx, h.sn]; have := h.fs; omega
theorem mu_max {l : Lk} {s f : Nat} (h : LI l s f) : l.mu ≤ 1312 := by
  unfold Lk.mu
  have h1 := h.hi.a1
  have h2 := h.hi.pa
  have h3 : (l.a - l.x.1) * (l.d.pa.toNat + 1) ≤ 100 * 13 := Nat.mul_le_mul (by omega) (by omega)
  omega
theorem ga_far : ∀ (L : List Nat) (x : Nat × Bool × Bool), (∀ k, k ∈ L → x.1 < k) → (gaF true x L).1 = x.1 := by
  intro L
  induction L with
  | nil => intro x _; rfl
  | cons k L ih =>
    intro x h
    have e : ga true x k = (x.1, x.2.1, true) := by
      have := h k (List.mem_cons_self ..)
      unfold ga
      rw [if_neg (by omega), if_pos this]
    show (gaF true (ga true x k) L).1 = _
    rw [ih (ga true x k) (fun j hj => by rw [e]; exact h j (List.mem_cons_of_mem _ hj)), e]
/-- EACH QUIET TICK BRINGS IT NEARER -/
theorem qk_mu {l : Lk} {s f s' : Nat} {N : List Nat} (h : LI l s f) (hS : LS l s f s' N) (he : l.he = true) (hw : l.way = []) (h0 : l.d.hl = 0) :
    (l.qk N).way = [] ∧ ((l.qk N).d.hl = 0 → (l.x.1 = l.a ∧ (l.qk N).x.1 = l.a ∧ (l.qk N).d.S = [] ∧ (l.qk N).d.Q = []) ∨ (l.qk N).mu + 1 ≤ l.mu) := by
  have hn := hS.n
  have hW : (l.way ++ N) = N := by rw [hw]; rfl
  have e1 : (l.way ++ N).take 1000 = N := by rw [hW]; exact List.take_of_length_le (by omega)
  refine ⟨by show (l.way ++ N).drop 1000 = []; rw [hW]; exact List.drop_eq_nil_of_le (by omega), fun hl' => ?_⟩
  have hl' : (tsV l.d l.z l.he).hl = 0 := hl'
  obtain ⟨X, hX, hN⟩ := hS.st h0
  have hq := li_qk h hS
  rw [if_pos ⟨h0, he⟩] at hq
  have hx' : (l.qk N).x = gaF true l.x N := by show gaF true l.x ((l.way ++ N).take 1000) = _; rw [e1]
  have hpa : (l.qk N).d.pa = l.d.pa := hX.pa
  have hp := h.hi.pa
  have hti := h.hi.ti
  have hfx := h.fx
  have hxs := h.xs
  have hle := hX.le
  have hsa' := hq.hi.sa
  have hsa := h.hi.sa
  have ha : (l.qk N).a = l.a := rfl
  have hfst := h.hi.fst
  have hfst' := hq.hi.fst
  -- a frame more is in
  have prog : l.x.1 < (l.qk N).x.1 → (l.qk N).mu + 1 ≤ l.mu := fun hlt => by
    unfold Lk.mu
    rw [hfst, hfst', if_pos hlt, hpa, ha]
    have h9 := hq.xs
    have h8 : (l.a - (l.qk N).x.1) * (l.d.pa.toNat + 1) ≤ (l.a - l.x.1 - 1) * (l.d.pa.toNat + 1) := Nat.mul_le_mul (by omega) (Nat.le_refl _)
    have h7 : (l.a - l.x.1) * (l.d.pa.toNat + 1) = (l.a - l.x.1 - 1) * (l.d.pa.toNat + 1) + (l.d.pa.toNat + 1) := by
      rw [← Nat.succ_mul]
      congr 1
      have := hq.hi.sa
      have h9 : (l.qk N).x.1 ≤ s' := hq.xs
      have ha' : s' ≤ l.a := hsa'
      omega
    have h6 : (if f < l.x.1 then 0 else l.d.ti.toNat) < l.d.pa.toNat := by split <;> omega
    omega
  by_cases hD : l.x.1 < s
  · rcases hX.tm he hl' hD with hx | ⟨hx, htm⟩
    · refine .inr (prog ?_)
      rw [hx', hN, hx, gaF_app, ga_range (s' - s) s _ (by rw [ga_range (s - l.x.1) l.x.1 l.x (Nat.le_refl _) (by omega)]; omega) (by rw [ga_range (s - l.x.1) l.x.1 l.x (Nat.le_refl _) (by omega)]; omega)]
      omega
    · refine .inr ?_
      have hsame : (l.qk N).x.1 = l.x.1 := by
        rw [hx', hN, hx, List.nil_append]
        exact ga_far _ _ (fun k hk => by have := List.mem_range'_1.1 hk; omega)
      have hti' := hq.hi.ti
      have ht : (l.qk N).d.ti = (if f < l.x.1 then 0 else l.d.ti) + 1 := htm
      unfold Lk.mu
      rw [hfst, hfst', hsame, if_neg (Nat.lt_irrefl _), hpa, ha, ht]
      rw [hpa, ht] at hti'
      have h6 : (if f < l.x.1 then 0 else l.d.ti.toNat) = (if f < l.x.1 then 0 else l.d.ti).toNat := by split <;> rfl
      rw [h6]
      have h5 : 0 ≤ (if f < l.x.1 then 0 else l.d.ti) := by split <;> omega
      generalize (if f < l.x.1 then 0 else l.d.ti) = tt at *
      omega
  · have hDs : l.x.1 = s := by omega
    have hX0 : X = [] := by
      rcases hX.x with e | e
      · exact e
      · rw [e, if_pos he, hDs, Nat.sub_self]; rfl
    have hx1 : (l.qk N).x.1 = s' := by
      rw [hx', hN, hX0, List.nil_append, ga_range (s' - s) s l.x (by omega) (by omega)]; omega
    by_cases hss : s < s'
    · exact .inr (prog (by omega))
    · have hs' : s' = s := by omega
      have hwf : l.x.2.1 = false := by
        cases hw9 : l.x.2.1 with
        | false => rfl
        | true => have := h.wa hw9; omega
      have hsA : s = l.a := by
        by_cases hsA : s < l.a
        · have := hX.nw he hl' hDs hwf hsA; omega
        · omega
      refine .inl ⟨by omega, by omega, ?_, ?_⟩
      · rw [hq.hi.S, show s' - l.x.1 = 0 by omega]; rfl
      · rw [hq.hi.Q, ha, show l.a - s' = 0 by omega]; rfl
/-- all is in: it stays so -/
theorem qk_fin {l : Lk} {s f s' : Nat} {N : List Nat} (h : LI l s f) (hS : LS l s f s' N) (he : l.he = true) (h0 : l.d.hl = 0) (hx : l.x.1 = l.a) : (l.qk N).x.1 = l.a ∧ (l.qk N).d.S = [] ∧ (l.qk N).d.Q = [] := by
  have hq := li_qk h hS
  rw [if_pos ⟨h0, he⟩] at hq
  have h1 := hq.xs
  have h2 := hq.hi.sa
  have h3 := hq.fx
  have h4 := hS.le
  have h5 := h.xs
  have ha : (l.qk N).a = l.a := rfl
  refine ⟨by omega, ?_, ?_⟩
  · rw [hq.hi.S, show s' - l.x.1 = 0 by omega]; rfl
  · rw [hq.hi.Q, show (l.qk N).a - s' = 0 by omega]; rfl
/-- between two quiet ticks -/
structure QI (l : Lk) (q : Nat) : Prop where
  li : ∃ s f, LI l s f
  ol : l.old.length ≤ 24000 + 80 * q
  wl : l.way.length ≤ 24000
  p : l.d.hl = 19 ∨ l.way.length + 920 * q ≤ 24000 ∨ (1 ≤ q ∧ l.he = true ∧ l.way = [] ∧ l.d.hl = 0 ∧ (l.mu + q ≤ 1400 ∨ (l.x.1 = l.a ∧ l.d.S = [] ∧ l.d.Q = [])))
theorem qi_end {l : Lk} (h : QI l 1800) : l.d.hl = 19 ∨ (l.d.hl = 0 ∧ l.x.1 = l.a ∧ l.d.S = [] ∧ l.d.Q = []) := by
  rcases h.p with e | e | ⟨_, _, _, e4, e5⟩
  · exact .inl e
  · omega
  · rcases e5 with e5 | e5
    · omega
    · exact .inr ⟨e4, e5⟩
end

section
theorem knum_any (h l : Nat) (w : World) (hh : h < 256) (hl : l < 256) : Calls Try.prog 35 #[.int .u8 h, .int .u8 l] w fun e w' => e = .returned (.int .i64 (h * 256 + l : Nat)) ∧ w' = w := by
  have hA : bits .or .i64 ((h : Int) * 256) (l : Int) = ((h * 256 + l : Nat) : Int) := by
    rw [show ((h : Int) * 256) = ((h * 2 ^ 8 : Nat) : Int) by omega, or_put _ _ 8 (by omega) (by omega) (by omega)]
  generalize h * 256 + l = x at hA ⊢
  go_enter Try.func35, Try.ntmps35
  go_wp2
  go_ret
  exact ⟨rfl, rfl⟩
/-- how many bytes are told -/
def toN (B : List Nat) : Nat := (nth B 2 * 256 + nth B 3) % 1024 + 1
set_option maxHeartbeats 2000000 in
theorem told_any (a : Option Addr) (n c : Nat) (B : List Nat) (w : World) (hR : Rd w a n c B) (hn : 8 ≤ n) : Calls Try.prog 33 #[.slice a n c] w fun e w' => e = .returned (.int .i64 (toN B : Nat)) ∧ w.grownBy w' none := by
  obtain ⟨b, off, rfl, hbw, hcc⟩ := hR.at' (by omega)
  have x2 := hcc 2 (by omega)
  have x3 := hcc 3 (by omega)
  have b2 := hR.byte.nth 2
  have b3 := hR.byte.nth 3
  unfold toN
  have hle := hR.le
  have hmx := hR.max
  unfold maxLen at hmx
  clear hcc hR
  generalize nth B 2 = x at x2 b2 ⊢
  generalize nth B 3 = y at x3 b3 ⊢
  have hN := fun wz => knum_any x y wz b2 b3
  have hl : x * 256 + y < 65536 := by omega
  generalize x * 256 + y = N at hN hl ⊢
  have hA : bits .and .i64 (N : Int) 1023 = ((N % 1024 : Nat) : Int) := i64_low N 10 (by omega) (by decide)
  have hlt : N % 1024 < 1024 := Nat.mod_lt _ (by decide)
  generalize N % 1024 = z at hA hlt ⊢
  have i2 : (2 : Int) < (n : Int) := by omega
  have i3 : (3 : Int) < (n : Int) := by omega
  go_enter Try.func33, Try.ntmps33
  go_wp2
  go_quiet ((go_at_call 35; exact Calls.quiet_of_same (hN _)))
  go_wp2
  go_ret
  exact ⟨rfl, grown_drewN w _ none⟩
/-- the name that is told -/
def nmN (B : List Nat) : Nat := nth B 0 * 256 + nth B 1
set_option maxHeartbeats 4000000 in
theorem rhead_any (a : Option Addr) (n c : Nat) (B : List Nat) (w : World) (hR : Rd w a n c B) (hn : 8 ≤ n) : Calls Try.prog 36 #[.slice a n c] w fun e w' => e = .returned (.agg (orA (nmN B % 1024 : Nat) (decide (nmN B / 8192 % 2 = 1)) (decide (nmN B / 4096 % 2 = 1)) (nth B 4 : Nat) none 0 0)) ∧ w.grownBy w' none := by
  obtain ⟨b, off, rfl, hbw, hcc⟩ := hR.at' (by omega)
  have x0 := hcc 0 (by omega)
  have x1 := hcc 1 (by omega)
  have x4 := hcc 4 (by omega)
  rw [Nat.add_zero] at x0
  have b0 := hR.byte.nth 0
  have b1 := hR.byte.nth 1
  have b4 := hR.byte.nth 4
  unfold nmN
  have hle := hR.le
  have hmx := hR.max
  unfold maxLen at hmx
  clear hcc hR
  generalize nth B 0 = x at x0 b0 ⊢
  generalize nth B 1 = y at x1 b1 ⊢
  generalize nth B 4 = z at x4 b4 ⊢
  have hN := fun wz => knum_any x y wz b0 b1
  have hl : x * 256 + y < 65536 := by omega
  generalize x * 256 + y = N at hN hl ⊢
  have hA : bits .and .i64 (N : Int) 1023 = ((N % 1024 : Nat) : Int) := i64_low N 10 (by omega) (by decide)
  have fb : ∀ k, k < 32 → (bits .and .i64 (N : Int) ((2 ^ k : Nat) : Int) != 0) = decide (N / 2 ^ k % 2 = 1) := fun k hk => by
    rw [i64_and_p2 N k (by omega) (by omega)]
    rcases (show N / 2 ^ k % 2 = 0 ∨ N / 2 ^ k % 2 = 1 by omega) with e | e
    · rw [e, Nat.zero_mul]; rfl
    · rw [e, Nat.one_mul]
      have := Nat.two_pow_pos k
      exact bne_iff_ne.2 (fun h => by have h2 := Int.ofNat_eq_zero.1 h; omega)
  have F13 : Hid ((bits .and .i64 (N : Int) 8192 != 0) = decide (N / 8192 % 2 = 1)) := fb 13 (by decide)
  have F12 : Hid ((bits .and .i64 (N : Int) 4096 != 0) = decide (N / 4096 % 2 = 1)) := fb 12 (by decide)
  clear fb
  have hm : N % 1024 < 1024 := Nat.mod_lt _ (by decide)
  generalize N % 1024 = m at hA hm ⊢
  have B0 := BxS.new w 62 (orA 0 false false 0 none 0 0)
  have g0 := World.grownBy_alloc w (.cells (orA 0 false false 0 none 0 0) 62) none
  unfold orA at B0 g0 ⊢
  have y0 := cell_grown x0 g0 hbw (by simp)
  have y1 := cell_grown x1 g0 hbw (by simp)
  have y4 := cell_grown x4 g0 hbw (by simp)
  generalize hw0 : w.alloc (.cells #[.int .i64 0, .bool false, .bool false, .int .i64 0, .slice none 0 0] 62) = w0 at B0 g0 y0 y1 y4
  have i0 : (0 : Int) < (n : Int) := by omega
  have i1 : (1 : Int) < (n : Int) := by omega
  have i4 : (4 : Int) < (n : Int) := by omega
  have i5 := Try.info_or
  have z4 := cell_grown y4 (grown_drewN w0 0 none) (Nat.lt_of_lt_of_le hbw g0.size) (by simp)
  go_enter Try.func36, Try.ntmps36
  go_wp2
  go_quiet ((go_at_call 35; exact Calls.quiet_of_same (hN _)))
  have g2 := grown_drewN w0 nq none
  have B2 := B0.keep g2 (by simp)
  have u4 := cell_grown y4 g2 (Nat.lt_of_lt_of_le hbw g0.size) (by simp)
  generalize w0.drewN nq = w2 at g2 B2 u4 ⊢
  clear y0 y1 y4 x0 x1 x4 z4
  have t1 : True := trivial
  go_wp2_with (first
    | (have _t := t1; refine wpList_stX _ rfl _ (.tmp 2) (.tmp 23) rfl w.heap.size _ _ rfl rfl B2 i5 rfl (by simp [Value.oneCell']) ?_; clear t1; intro w9 b9 g9))
  refine bodyPost_ret (kres_cell1 rfl _ _ _ ⟨w.heap.size, 0, none⟩ _ rfl (BxS.load (t := 62) b9 Try.underlying62 Try.info_or)) rfl ?_
  exact ⟨by rw [← F13.out, ← F12.out], grown_far (grown_trans g0 g2) g9 (fun q e => by cases e; exact Nat.le_refl _)⟩
end
end Go.Proofs.Ytlfacjpehhcdiaa
