import Derived.Test.YtnnohgllnfmoeaaPCb
import Derived.Test.YtnnohgllnfmoeaaPJoB
import Derived.Test.YtnnohgllnfmoeaaPCc
namespace Go.Proofs.Ytnnohgllnfmoeaa
open Go.RowKit
set_option maxRecDepth 100000
set_option linter.unusedVariables false
set_option linter.unusedSimpArgs false

/-- who joins, ahead of packet k of the unit u, packet n of all: m: one behind the last packet that came -/
structure Ub (M : Nat) (u : List Nat) (cc m n k : Nat) (wh : Bool) (nx : Int) (op : Bool) (U : List Nat) : Prop where
  first : k = 0 → wh = true
  le : m ≤ n
  nx : nx = -1 ∧ op = false ∨ nx = (((cc + m) % 16384 : Nat) : Int)
  some : op = true → 0 < U.length
  none : op = false → U = []
  len : U.length ≤ 301
  good : wh = true → 1 ≤ k → k < pcN u.length M → op = true ∧ m = n ∧ U = u.take (k * M)
  bad : wh = false → op = true → m < n
theorem Ub.start {M : Nat} {u : List Nat} {cc m n k : Nat} {wh : Bool} {nx : Int} {op : Bool} {U : List Nat} (h : Ub M u cc m n k wh nx op U) (v : List Nat) : Ub M v cc m n 0 true nx op U :=
  ⟨fun _ => rfl, h.le, h.nx, h.some, h.none, h.len, fun _ h => by omega, fun h => by cases h⟩
theorem Ub.lose {M : Nat} {u : List Nat} {cc m n k : Nat} {wh : Bool} {nx : Int} {op : Bool} {U : List Nat} (h : Ub M u cc m n k wh nx op U) : Ub M u cc m (n + 1) (k + 1) false nx op U :=
  ⟨fun h => by omega, by have := h.le; omega, h.nx, h.some, h.none, h.len, (fun h => by cases h), fun _ _ => by have := h.le; omega⟩
theorem Ub.could {M : Nat} {u : List Nat} {cc m n k : Nat} {wh : Bool} {nx : Int} {op : Bool} {U : List Nat} (h : Ub M u cc m n k wh nx op U) : couldJ 9 nx op U.length = true := by
  have h1 : -1 ≤ nx ∧ nx ≤ 16383 := by
    rcases h.nx with ⟨e, _⟩ | e <;> rw [e] <;> omega
  have h2 := h.len
  unfold couldJ
  rw [decide_eq_true h1, decide_eq_true (show U.length ≤ 1048576 by omega)]
  cases hop : op with
  | true =>
    have h3 : nx ≠ -1 := by
      rcases h.nx with ⟨_, e⟩ | e
      · rw [hop] at e; cases e
      · rw [e]; omega
    simp [h3, h.some hop]
  | false => simp [h.none hop]
theorem ub_arrive {M : Nat} {u : List Nat} {cc m n k : Nat} {wh : Bool} {nx : Int} {op : Bool} {U : List Nat} (h : Ub M u cc m n k wh nx op U) (hM : 1 ≤ M) (hM4 : M ≤ 40) (hu : u.length ≤ 301) (hk : k * M < u.length) (hn : n ≤ 12040) (D : List Nat) (hD : D = (u.drop (k * M)).take M)
    (ct : Int) (hct : ct = (((cc + n) % 16384 : Nat) : Int)) :
    Ub M u cc (n + 1) (n + 1) (k + 1) wh ((ct + 1) % 16384) (jOp nx op U (ptN k (pcN u.length M)) ct D) (jRe nx op U (ptN k (pcN u.length M)) ct D) ∧
    jUn nx op U (ptN k (pcN u.length M)) ct D = (if k + 1 = pcN u.length M ∧ wh = true then u else []) ∧ 1 ≤ D.length ∧ D.length ≤ 40 := by
  have hkl := pcN_lt u.length M k hM hk
  have hDl : D.length = min M (u.length - k * M) := by rw [hD, List.length_take, List.length_drop]
  have d1 : 1 ≤ D.length := by omega
  have d2 : D.length ≤ 40 := by omega
  have hnx : (ct + 1) % 16384 = (((cc + (n + 1)) % 16384 : Nat) : Int) := by rw [hct]; omega
  have hjl : op = true → m < n → jl nx ct = true := by
    intro ho hmn
    rcases h.nx with ⟨_, e⟩ | e
    · rw [ho] at e; cases e
    · unfold jl
      rw [e, hct]
      have : (cc + m) % 16384 ≠ (cc + n) % 16384 := by omega
      simp; omega
  have hjl0 : op = true → m = n → jl nx ct = false := by
    intro ho hmn
    rcases h.nx with ⟨_, e⟩ | e
    · rw [ho] at e; cases e
    · unfold jl
      rw [e, hct, hmn]
      simp
  have hul := h.len
  have htk : u.take (k * M) ++ D = u.take ((k + 1) * M) := by rw [hD, Nat.add_mul, Nat.one_mul, List.take_add]
  have mk : ∀ (o : Bool) (V : List Nat), (o = true → 0 < V.length) → (o = false → V = []) → V.length ≤ 301 → (wh = true → k + 1 < pcN u.length M → o = true ∧ V = u.take ((k + 1) * M)) → (wh = false → o = false) → Ub M u cc (n + 1) (n + 1) (k + 1) wh ((ct + 1) % 16384) o V := by
    intro o V a1 a2 a3 a4 a5
    exact ⟨fun e => by omega, Nat.le_refl _, .inr hnx, a1, a2, a3, fun e1 _ e3 => ⟨(a4 e1 e3).1, rfl, (a4 e1 e3).2⟩, fun e1 e2 => by rw [a5 e1] at e2; cases e2⟩
  by_cases hk0 : k = 0
  · have hwh := h.first hk0
    subst hk0
    simp only [Nat.zero_mul, List.drop_zero] at hD
    by_cases hp1 : pcN u.length M = 1
    · have ept : ptN 0 (pcN u.length M) = 3 := by unfold ptN; rw [if_pos hp1]
      have hfull : D = u := by
        have := pcN_le u.length M hM
        rw [hp1, Nat.one_mul] at this
        rw [hD, List.take_of_length_le this.1]
      rw [ept]
      refine ⟨mk _ _ ?_ ?_ ?_ ?_ ?_, ?_, d1, d2⟩
      · unfold jOp; simp
      · unfold jRe; simp
      · unfold jRe; simp
      · intro _ h2; omega
      · unfold jOp; simp
      · unfold jUn; rw [if_pos (by rfl), if_pos ⟨by omega, hwh⟩, hfull]
    · have ept : ptN 0 (pcN u.length M) = 1 := by unfold ptN; rw [if_neg hp1, if_pos rfl]
      rw [ept]
      have e1 : jOp nx op U ((1 : Nat) : Int) ct D = true := by unfold jOp; rw [if_pos (by rfl)]
      have e2 : jRe nx op U ((1 : Nat) : Int) ct D = D := by unfold jRe; rw [if_pos (by rfl)]
      have e3 : jUn nx op U ((1 : Nat) : Int) ct D = [] := by unfold jUn; rw [if_neg (by decide), if_neg (fun h => by simp at h)]
      rw [e1, e2, e3]
      refine ⟨mk _ _ (fun _ => by omega) (fun h => by cases h) (by omega) (fun _ _ => ⟨rfl, ?_⟩) (fun e => by rw [hwh] at e; cases e), ?_, d1, d2⟩
      · rw [hD]; simp
      · rw [if_neg (by omega)]
  · have hp1 : pcN u.length M ≠ 1 := by omega
    by_cases hl : k + 1 = pcN u.length M
    · have ept : ptN k (pcN u.length M) = 2 := by unfold ptN; rw [if_neg hp1, if_neg hk0, if_pos hl]
      rw [ept]
      have e1 : jOp nx op U ((2 : Nat) : Int) ct D = false := by unfold jOp; rw [if_neg (by decide), if_neg (fun h => by simp at h)]
      have e2 : jRe nx op U ((2 : Nat) : Int) ct D = [] := by unfold jRe; rw [if_neg (by decide), if_neg (fun h => by simp at h)]
      rw [e1, e2]
      refine ⟨mk _ _ (fun h => by cases h) (fun _ => rfl) (by simp) (fun _ h2 => by omega) (fun _ => rfl), ?_, d1, d2⟩
      cases hw : wh with
      | true =>
        obtain ⟨g1, g2, g3⟩ := h.good hw (by omega) (by omega)
        unfold jUn
        rw [if_neg (by decide), if_pos ⟨by rfl, g1, hjl0 g1 g2, by omega⟩, if_pos ⟨hl, rfl⟩, g3, htk, hl, List.take_of_length_le (pcN_le u.length M hM).1]
      | false =>
        rw [if_neg (by simp)]
        unfold jUn
        rw [if_neg (by decide), if_neg]
        rintro ⟨_, g1, g2, _⟩
        rw [hjl g1 (h.bad hw g1)] at g2
        cases g2
    · have ept : ptN k (pcN u.length M) = 0 := by unfold ptN; rw [if_neg hp1, if_neg hk0, if_neg hl]
      rw [ept]
      have e3 : jUn nx op U ((0 : Nat) : Int) ct D = [] := by unfold jUn; rw [if_neg (by decide), if_neg (fun h => by simp at h)]
      rw [e3, if_neg (fun h => hl h.1)]
      refine ⟨?_, rfl, d1, d2⟩
      cases hw : wh with
      | true =>
        obtain ⟨g1, g2, g3⟩ := h.good hw (by omega) (by omega)
        have e1 : jOp nx op U ((0 : Nat) : Int) ct D = true := by unfold jOp; rw [if_neg (by decide), if_pos ⟨by rfl, g1, hjl0 g1 g2, by omega⟩]
        have e2 : jRe nx op U ((0 : Nat) : Int) ct D = U ++ D := by unfold jRe; rw [if_neg (by decide), if_pos ⟨by rfl, g1, hjl0 g1 g2, by omega⟩]
        rw [e1, e2]
        rw [hw] at mk
        refine mk _ _ (fun _ => by rw [List.length_append]; omega) (fun h => by cases h) ?_ (fun _ _ => ⟨rfl, by rw [g3, htk]⟩) (fun e => by cases e)
        rw [g3, htk, List.length_take]; omega
      | false =>
        have no : ¬ (((0 : Nat) : Int) = 0 ∧ op = true ∧ jl nx ct = false ∧ U.length + D.length ≤ 1048576) := by
          rintro ⟨_, g1, g2, _⟩
          rw [hjl g1 (h.bad hw g1)] at g2
          cases g2
        have e1 : jOp nx op U ((0 : Nat) : Int) ct D = false := by unfold jOp; rw [if_neg (by decide), if_neg no]
        have e2 : jRe nx op U ((0 : Nat) : Int) ct D = [] := by unfold jRe; rw [if_neg (by decide), if_neg no]
        rw [e1, e2]
        rw [hw] at mk
        exact mk _ _ (fun h => by cases h) (fun _ => rfl) (by simp) (fun e => by cases e) (fun _ => rfl)
theorem ub_may {M : Nat} {u : List Nat} {cc m n k pc : Nat} {wh : Bool} {nx : Int} {op : Bool} {U : List Nat} (h : Ub M u cc m n k wh nx op U) (q : Nat) (hq : q < 16384) (d : Nat) (h1 : 1 ≤ d) (h2 : d ≤ 40) : jnE 9 nx op U.length 9 (ptN k pc : Nat) (q : Nat) d = 0 := by
  have hp : ptN k pc ≤ 3 := by unfold ptN; repeat' split
                               all_goals omega
  unfold jnE
  rw [h.could]
  have : mayE 9 (ptN k pc : Nat) (q : Nat) d = 0 := by
    unfold mayE
    rw [if_pos ⟨by omega, by omega, by omega⟩, if_neg (by omega)]
  simp [this]

structure Uw where
  a : Option Addr
  n : Nat
  c : Nat
  D : List Nat
def uw0 : Uw := ⟨none, 0, 0, []⟩
def Uw.v (r : Uw) : Value := .slice r.a r.n r.c
/-- rows of bytes as they are read -/
structure RdU (w : World) (a : Option Addr) (n cap : Nat) (F : Nat → Uw) : Prop where
  le : n ≤ cap
  max : cap ≤ maxLen
  at' : 0 < n → ∃ b off, a = some ⟨b, off, none⟩ ∧ b < w.heap.size ∧ ∀ i, i < n → w.cell? ⟨b, off + i, none⟩ = some (.slice (F i).a (F i).n (F i).c)
  data : ∀ i, i < n → Rd w (F i).a (F i).n (F i).c (F i).D
theorem cell_keepU {w w' : World} {g j : Nat} {v : Value} (h : w.cell? ⟨g, j, none⟩ = some v) (hg : w.grownBy w' none) (hlt : g < w.heap.size) : w'.cell? ⟨g, j, none⟩ = some v := by
  have hb := hg.block g hlt (by simp)
  simp only [World.cell?, hb] at h ⊢
  exact h
theorem RdU.keep {w w' : World} {a : Option Addr} {n cap : Nat} {F : Nat → Uw} (h : RdU w a n cap F) (hg : w.grownBy w' none) : RdU w' a n cap F :=
  ⟨h.le, h.max, fun h0 => by
    obtain ⟨b, off, e, hb, hc⟩ := h.at' h0
    exact ⟨b, off, e, Nat.lt_of_lt_of_le hb hg.size, fun i hi => cell_keepU (hc i hi) hg hb⟩, fun i hi => (h.data i hi).keep hg⟩
/-- a row of numbers as it is read -/
structure RdL (w : World) (a : Option Addr) (n cap : Nat) (G : Nat → Int) : Prop where
  le : n ≤ cap
  max : cap ≤ maxLen
  at' : 0 < n → ∃ b off, a = some ⟨b, off, none⟩ ∧ b < w.heap.size ∧ ∀ i, i < n → w.cell? ⟨b, off + i, none⟩ = some (.int .i64 (G i))
theorem RdL.keep {w w' : World} {a : Option Addr} {n cap : Nat} {G : Nat → Int} (h : RdL w a n cap G) (hg : w.grownBy w' none) : RdL w' a n cap G :=
  ⟨h.le, h.max, fun h0 => by
    obtain ⟨b, off, e, hb, hc⟩ := h.at' h0
    exact ⟨b, off, e, Nat.lt_of_lt_of_le hb hg.size, fun i hi => cell_keepU (hc i hi) hg hb⟩⟩
/-- what is written is of a type -/
def TyR (w : World) (r : Option Nat) (t : TypeId) : Prop := ∀ g, r = some g → ∃ B, BxS w g t B
theorem TyR.box {w : World} {g : Nat} {t : TypeId} {B : Array Value} (h : BxS w g t B) : TyR w (some g) t := fun x e => by cases e; exact ⟨B, h⟩
theorem TyR.row {w : World} {b : Nat} {e : TypeId} {s n : Nat} {v : Value} {xs : List Value} (h : w.ownsRow b e s v n xs) : TyR w v.ownBlock e := fun g hg => by
  rcases h.2 with ⟨rfl, _⟩ | ⟨x, c, cur, rfl, _, hh, _⟩
  · simp [Value.ownBlock] at hg
  · have : x = g := Option.some.inj hg
    subst this
    exact ⟨cur, hh⟩
theorem TyR.keep {w w' : World} {r : Option Nat} {t : TypeId} (h : TyR w r t) (hg : w.grownBy w' none) : TyR w' r t := fun g e => by
  obtain ⟨B, hB⟩ := h g e
  exact ⟨B, hB.keep hg (by simp)⟩
theorem own_ty {w : World} {b : Nat} {e t : TypeId} {s n : Nat} {v : Value} {xs : List Value} {r : Option Nat} (h : w.ownsRow b e s v n xs) (hr : TyR w r t) (hne : e ≠ t) : v.ownBlock = none ∨ v.ownBlock ≠ r := by
  cases hv : v.ownBlock with
  | none => exact .inl rfl
  | some g =>
    refine .inr fun er => ?_
    obtain ⟨B, hB⟩ := hr g er.symm
    obtain ⟨C, hC⟩ := TyR.row h g hv
    exact hB.apart hC (fun e => hne e.symm) rfl
theorem Ans.ty {w w' : World} {lo : Nat} {a : Option Addr} {n c : Nat} {L : List Nat} {r : Option Nat} {t : TypeId} (h : Ans w lo a n c L) (hg : w.grownBy w' r) (hr : TyR w r t) (hne : 5 ≠ t) : Ans w' lo a n c L := h.kept hg (own_ty h.own hr hne)
theorem OwD.ty {w w' : World} {lo : Nat} {a : Option Addr} {n c : Nat} {ps : List Pk} {r : Option Nat} {t : TypeId} (h : OwD w lo a n c ps) (hg : w.grownBy w' r) (hr : TyR w r t) (h1 : 5 ≠ t) (h2 : 33 ≠ t) : OwD w' lo a n c ps :=
  ⟨h.own.kept hg (own_ty h.own.own hr h2), fun i hi => (h.data i hi).ty hg hr h1, h.apart⟩
def flatW (rs : List Uw) : List Value := rs.map Uw.v
/-- rows of bytes in memory of the call's own -/
structure OwW (w : World) (lo : Nat) (a : Option Addr) (n c : Nat) (rs : List Uw) : Prop where
  own : w.ownsRow 0 22 1 (.slice a n c) n (flatW rs)
  len : rs.length = n
  new : ∀ g, (Value.slice a n c).ownBlock = some g → lo ≤ g
  each : ∀ i (h : i < rs.length), Ans w lo rs[i].a rs[i].n rs[i].c rs[i].D
theorem OwW.nil (w : World) (lo : Nat) : OwW w lo none 0 0 [] := ⟨World.ownsRow_nil _ _ _ _, rfl, fun g h => by simp [Value.ownBlock] at h, fun i h => by simp at h⟩
theorem OwW.keep {w w' : World} {lo : Nat} {a : Option Addr} {n c : Nat} {rs : List Uw} (h : OwW w lo a n c rs) (hg : w.grownBy w' none) : OwW w' lo a n c rs :=
  ⟨h.own.kept hg (by cases (Value.slice a n c).ownBlock <;> simp), h.len, h.new, fun i hi => (h.each i hi).keep hg⟩
theorem OwW.ty {w w' : World} {lo : Nat} {a : Option Addr} {n c : Nat} {rs : List Uw} {r : Option Nat} {t : TypeId} (h : OwW w lo a n c rs) (hg : w.grownBy w' r) (hr : TyR w r t) (h1 : 5 ≠ t) (h2 : 22 ≠ t) : OwW w' lo a n c rs :=
  ⟨h.own.kept hg (own_ty h.own hr h2), h.len, h.new, fun i hi => (h.each i hi).ty hg hr h1⟩
/-- beside another such row -/
theorem OwW.by {w w' : World} {lo lo' : Nat} {a b : Option Addr} {n c m d : Nat} {rs qs : List Uw} (h : OwW w lo a n c rs) (k : OwW w lo' b m d qs) (hg : w.grownBy w' (Value.slice b m d).ownBlock) (hne : (Value.slice a n c).ownBlock = none ∨ (Value.slice a n c).ownBlock ≠ (Value.slice b m d).ownBlock) : OwW w' lo a n c rs :=
  ⟨h.own.kept hg hne, h.len, h.new, fun i hi => (h.each i hi).ty hg (TyR.row k.own) (by decide)⟩
theorem OwW.lt {w : World} {lo : Nat} {a : Option Addr} {n c : Nat} {rs : List Uw} (h : OwW w lo a n c rs) (g : Nat) (hg : (Value.slice a n c).ownBlock = some g) : g < w.heap.size := by
  obtain ⟨B, hB⟩ := TyR.row h.own g hg
  exact hB.lt
theorem OwW.cell {w : World} {lo g n c : Nat} {rs : List Uw} (h : OwW w lo (some ⟨g, 0, none⟩) n c rs) (i : Nat) (hi : i < rs.length) : w.cell? ⟨g, i, none⟩ = some (.slice rs[i].a rs[i].n rs[i].c) := by
  have hu : (flatW rs)[i]? = some (rs[i]).v := by
    unfold flatW
    rw [List.getElem?_map, List.getElem?_eq_getElem hi]
    rfl
  have := h.own.cells (g := g) rfl i _ hu
  rw [addr_add', Nat.zero_add] at this
  exact this
theorem OwW.some {w : World} {lo : Nat} {a : Option Addr} {n c : Nat} {rs : List Uw} (h : OwW w lo a n c rs) (hn : 0 < n) : ∃ g, a = some ⟨g, 0, none⟩ ∧ g < w.heap.size := by
  rcases h.own.2 with ⟨h1, h2⟩ | ⟨g, cap, cur, h1, _, hh, _⟩
  · omega
  · simp only [Value.slice.injEq] at h1
    exact ⟨g, h1.1, (Array.getElem?_eq_some_iff.1 hh).1⟩
def zw : Value := .slice none 0 0
theorem Try.info_uw : (Try.prog.info? 22).map (fun i => (i.zero, i.size, i.bytes)) = some (some zw, 1, 24) := by kernel_rfl
theorem one_rowU (w : World) (v : Value) : ∀ j u, [v][j]? = some u → (w.alloc (.cells #[v] 22)).cell? ((⟨w.heap.size, 0, none⟩ : Addr).add j) = some u := by
  intro j u h
  rw [addr_add', Nat.zero_add]
  match j with
  | 0 => rw [← h]; exact (BxS.new w 22 #[v]).cell 0 (by show 0 < 1; decide)
  | j + 1 => simp at h
/-- 'append(v, r)' -/
theorem wpList_psW (w : World) (r : Uw) {ops : Array Oper} {rest : List Oper} {o : Oper} {a : Act} {Q : Exit → Act → World → Prop} (hg : o.guard = none) (s x : Operand)
    (hop : o.op = Op.call { callee := .builtin .append, args := #[s, x], argTypes := #[35, 35] }) (ao : Option Addr) (m co lo : Nat) (rs : List Uw) (hs : a.eval s = .slice ao m co)
    (hA : OwW w lo ao m co rs) (hr : Ans w lo r.a r.n r.c r.D) (hlo : lo ≤ w.heap.size) (hx : a.eval x = .slice (some ⟨w.heap.size, 0, none⟩) 1 1) (hb : m + 1 ≤ 1000000)
    (hK : ∀ gx cx w', OwW w' lo (some ⟨gx, 0, none⟩) (m + 1) cx (rs ++ [r]) → w.grownBy w' (Value.slice ao m co).ownBlock → ((Value.slice ao m co).ownBlock = some gx ∨ w.heap.size ≤ gx) → wpList Try.prog ops Q rest (a.put o.dst (.slice (some ⟨gx, 0, none⟩) (m + 1) cx)) w') :
    wpList Try.prog ops Q (o :: rest) a (w.alloc (.cells #[.slice r.a r.n r.c] 22)) := by
  obtain ⟨i0, hi, hz0, hz1, hz2⟩ := info_parts Try.info_uw
  have gA := World.grownBy_alloc w (.cells #[.slice r.a r.n r.c] 22) none
  have hAA := hA.keep gA
  refine wpList_apS _ hg s x 35 22 i0 zw 1 24 Try.underlying35 hi hz0 hz1 hz2 rfl (by decide) hop (.slice ao m co) m (flatW rs) hs hAA.own ⟨w.heap.size, 0, none⟩ 1 1 [r.v] hx rfl (one_rowU w _) (by simp [Value.oneCell', Uw.v]) (by decide) (by unfold maxLen; omega) (by omega) ?_
  intro g cap w' hgx hgr hown
  have hor : (Value.slice ao m co).ownBlock = some g ∨ w.heap.size ≤ g := by
    rcases hgx with h | h
    · exact .inl h
    · simp at h; exact .inr (by omega)
  have hrow := TyR.row hAA.own
  refine hK g cap w' ⟨by unfold flatW at hown ⊢; rw [List.map_append]; exact hown, by rw [List.length_append, hA.len]; rfl, fun y hy => ?_, fun i hi => ?_⟩ (grown_trans (grown_weak gA _) hgr) hor
  · have e : g = y := Option.some.inj hy
    subst e
    rcases hor with h | h
    · exact hA.new g h
    · omega
  · rw [List.length_append, List.length_singleton] at hi
    by_cases hlt : i < rs.length
    · rw [List.getElem_append_left hlt]
      exact (hAA.each i hlt).ty hgr hrow (by decide)
    · have : i = rs.length := by omega
      subst this
      rw [List.getElem_append_right (Nat.le_refl _)]
      simp only [Nat.sub_self, List.getElem_cons_zero]
      exact (hr.keep gA).ty hgr hrow (by decide)
theorem pickU_any (n of : Int) (w : World) (h1 : -9223372036854775808 ≤ n) (h2 : n ≤ 9223372036854775807) (ho : 0 < of) (ho2 : of ≤ 9223372036854775807) :
    Calls Try.prog 11 #[.int .i64 n, .int .i64 of] w fun e w' => ∃ v : Nat, (v : Int) < of ∧ e = .returned (.int .i64 v) ∧ w' = w := by
  by_cases hn : n < 0
  · have hnz : ¬ of = 0 := by omega
    go_enter Try.func11, Try.ntmps11
    go_wp2
    go_ret
    have p1 := Int.emod_nonneg (-(n + 1)) (show of ≠ 0 by omega)
    have p2 := Int.emod_lt_of_pos (-(n + 1)) ho
    have e : -((n + 1).tmod of) = (-(n + 1)) % of := by rw [← Int.neg_tmod, Int.tmod_eq_emod_of_nonneg (by omega)]
    refine ⟨((-(n + 1)) % of).toNat, by omega, ?_, rfl⟩
    refine congrArg (fun z => Ending.returned (Value.int .i64 z)) (?_ : -((n + 1).tmod of) = _)
    rw [e]; omega
  · have hnz : ¬ of = 0 := by omega
    go_enter Try.func11, Try.ntmps11
    go_wp2
    go_ret
    have p1 := Int.emod_nonneg n (show of ≠ 0 by omega)
    have p2 := Int.emod_lt_of_pos n ho
    refine ⟨(n % of).toNat, by omega, ?_, rfl⟩
    refine congrArg (fun z => Ending.returned (Value.int .i64 z)) (?_ : n % of = _)
    omega
set_option maxHeartbeats 2000000 in
theorem beginU_any (w : World) : Calls Try.prog 12 #[.int .i64 9] w fun e w' => e = .returned (.tuple #[.agg #[.int .i64 9, .int .i64 (-1), .bool false, .slice none 0 0], .int .i64 0]) ∧ w.grownBy w' none := by
  have i4 := Try.info_jn
  have hs := fun wz => someones_any 9 wz
  rw [decide_eq_true (by decide)] at hs
  have b0 := BxJ.new w 9 (-1) false none 0 0
  go_enter Try.func12, Try.ntmps12
  go_wp2_with (go_at_call 14; refine (hs _).mono ?_; rintro e wx ⟨rfl, hw⟩; have hw := hw.symm; subst hw)
  refine bodyPost_ret (results_cell1t rfl _ _ _ ⟨w.heap.size, 0, none⟩ _ (.int .i64 0) rfl (BxS.load b0 Try.underlying39 i4) rfl) rfl ?_
  exact ⟨rfl, World.grownBy_alloc _ _ _⟩
end Go.Proofs.Ytnnohgllnfmoeaa
