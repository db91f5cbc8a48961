import Derived.Test.YtnimehkfnpepfaaTk4
import Derived.Test.YtnimehkfnpepfaaTk5
import Derived.Test.YtnimehkfnpepfaaTk3
import Derived.Test.YtnimehkfnpepfaaTk1
import Derived.Test.YtnimehkfnpepfaaProg
import Derived.WalkKit
import Derived.Test.YtnimehkfnpepfaaTk2
import Derived.Deep.RegionHeld3
import Derived.Lib.AppendZerosOnto
import Derived.ArgAppend
import Derived.Deep.DeepAppendWide
import Derived.Deep.RegionLawGrows
import Derived.Test.YtnimehkfnpepfaaTk0
namespace Go.Proofs.Ytnimehkfnpepfaa
open Go.RowKit
set_option maxRecDepth 100000
set_option linter.unusedVariables false
set_option linter.unusedSimpArgs false

section
theorem Rd.far {w0 w w' : World} {a : Option Addr} {n cap : Nat} {L : List Nat} {r : Option Nat} (h0 : Rd w0 a n cap L) (h : Rd w a n cap L) (hg : w.grownBy w' r) (hr : ∀ x, r = some x → w0.heap.size ≤ x) : Rd w' a n cap L := by
  refine ⟨h.len, h.le, h.max, h.nil, h.byte, fun hn => ?_⟩
  obtain ⟨b, off, e, hb, hc⟩ := h.at' hn
  obtain ⟨b', off', e', hb', _⟩ := h0.at' hn
  rw [e] at e'
  cases e'
  refine ⟨b, off, e, Nat.lt_of_lt_of_le hb hg.size, fun i hi => ?_⟩
  rw [← hc i hi]
  exact World.cell?_of_block (hg.block b hb (fun e => by have := hr b e.symm; omega))
theorem RdG.far {w0 w w' : World} {a : Option Addr} {n cap : Nat} {F : Nat → Int × Int} {r : Option Nat} (h0 : RdG w0 a n cap F) (h : RdG w a n cap F) (hg : w.grownBy w' r) (hr : ∀ x, r = some x → w0.heap.size ≤ x) : RdG w' a n cap F := by
  refine ⟨h.le, h.max, h.nil, fun hn => ?_⟩
  obtain ⟨b, off, e, hb, hc⟩ := h.at' hn
  obtain ⟨b', off', e', hb', _⟩ := h0.at' hn
  rw [e] at e'
  cases e'
  have hk : ∀ j, w'.cell? ⟨b, j, none⟩ = w.cell? ⟨b, j, none⟩ := fun j => World.cell?_of_block (hg.block b hb (fun e => by have := hr b e.symm; omega))
  refine ⟨b, off, e, Nat.lt_of_lt_of_le hb hg.size, fun i hi => ?_⟩
  rw [hk, hk]
  exact hc i hi
end

section
open Go.ChangeShapes Go.WideShapes

/-- a slice of pairs of numbers -/
theorem met_pairs {w : World} {full : Bool} {N : Nat} {cs : List Value} (h : (Sh.slice 2 16 (Sh.rep 1 (.int .i64) 2)).met w full cs N) :
    ∃ a len cap F, cs = [.slice a len cap] ∧ RdG w a len cap F ∧ (full = true → cap * 16 ≤ reachBytes) ∧ cap + 1 ≤ N := by
  rcases h with ⟨rfl, rfl⟩ | ⟨x, len, cap, G, C, rfl, rfl, hl, hm, hf, hc⟩
  · exact ⟨none, 0, 0, fun _ => (0, 0), rfl, RdG.nil0 _ _, fun _ => by rw [Nat.zero_mul]; exact Nat.zero_le _, Nat.le_refl _⟩
  · have each : ∀ i, i < cap → ∃ p : Int × Int, (w.cell? (x.add (i * 2)) = some (.int .i64 p.1) ∧ w.cell? (x.add (i * 2 + 1)) = some (.int .i64 p.2)) ∧ 1 ≤ G i := by
      intro i hi
      obtain ⟨h1, h2, n1, n2, e1, ⟨m1, z1, c1, _⟩, n3, n4, e2, ⟨m2, z2, c2, _⟩, _, m3⟩ := hc i hi
      match hC : C i, h1 with
      | [u, v], _ =>
        rw [hC] at h2 c1 c2
        have d1 := h2 0 (by decide)
        have d2 := h2 1 (by decide)
        simp at c1 c2 d1 d2
        subst c1 c2
        exact ⟨(z1, z2), ⟨d1, d2⟩, by omega⟩
    have hI : Inhabited (Int × Int) := ⟨(0, 0)⟩
    obtain ⟨F, hF⟩ := Go.Deep.choose_lt each
    have hG : ∀ i, i < cap → 1 ≤ G i := fun i hi => (hF i hi).2
    refine ⟨some x, len, cap, F, rfl, ⟨hl, hm, (fun e => by cases e), fun h0 => ?_⟩, hf, ?_⟩
    · obtain ⟨b, off, spot⟩ := x
      have hc0 := (hF 0 (by omega)).1.1
      have h0' : w.cell? (⟨b, off, spot⟩ : Addr) = some (.int .i64 (F 0).1) := by simpa [Addr.add] using hc0
      have hspot : spot = none := by simpa using World.cell?_spot h0'
      subst hspot
      refine ⟨b, off, rfl, World.block_lt_of_cell? w _ h0', fun i hi => ?_⟩
      obtain ⟨k1, k2⟩ := (hF i (by omega)).1
      rw [addr_add] at k1 k2
      exact ⟨k1, by rw [Nat.add_assoc]; exact k2⟩
    · have := sumN_le (F := G) (n := cap) hG
      omega
theorem shown_note {w : World} {full : Bool} {k : Nat} {v : Value} (h : (Sh.fcons 1 (.int .i64) (.fcons 1 (.int .i64) (.fcons 1 .str (.fcons 1 (.int .i64) (.fcons 1 (.int .i64) (.fcons 1 (.int .i64) (.fcons 1 (.slice 1 1 (.int .u8)) (.fcons 1 (.slice 2 16 (Sh.rep 1 (.int .i64) 2)) (.fcons 1 (.int .i64) (.fcons 1 (.int .i64) .fend)))))))))).shown w full v k) :
    ∃ kd id nm si su at' a n c q m d o co L F, v = .agg (ntA kd id nm si su at' (.slice a n c) (.slice q m d) o co) ∧ Rd w a n c L ∧ RdG w q m d F ∧ (full = true → c ≤ 140737488351232) ∧ (full = true → d * 16 ≤ reachBytes) := by
  obtain ⟨cs, rfl, hm⟩ := h
  obtain ⟨_, _, rfl, ⟨_, kd, e0, _⟩, _, _, rfl, ⟨_, id, e1, _⟩, _, _, rfl, ⟨nm, e2, _⟩, _, _, rfl, ⟨_, si, e3, _⟩, _, _, rfl, ⟨_, su, e4, _⟩, _, _, rfl, ⟨_, at', e5, _⟩, _, _, rfl, h6, _, _, rfl, h7, _, _, rfl, ⟨_, o, e8, _⟩, _, _, rfl, ⟨_, co, e9, _⟩, e10, _⟩ := hm
  obtain ⟨a, n, c, L, e6, hR, hf, _⟩ := met_bytes h6
  obtain ⟨q, m, d, F, e7, hG, hg, _⟩ := met_pairs h7
  refine ⟨kd, id, nm, si, su, at', a, n, c, q, m, d, o, co, L, F, ?_, hR, hG, hf, hg⟩
  unfold ntA
  congr 1
  apply Array.toList_inj.1
  generalize cs.toList = l at *
  match l with
  | [] => simp at e0
  | [_] => simp at e1
  | [_, _] => simp at e2
  | [_, _, _] => simp at e3
  | [_, _, _, _] => simp at e4
  | [_, _, _, _, _] => simp at e5
  | [_, _, _, _, _, _] => simp at e6
  | [_, _, _, _, _, _, _] => simp at e7
  | [_, _, _, _, _, _, _, _] => simp at e8
  | [_, _, _, _, _, _, _, _, _] => simp at e9
  | [x0, x1, x2, x3, x4, x5, x6, x7, x8, x9] => simp_all
  | x0 :: x1 :: x2 :: x3 :: x4 :: x5 :: x6 :: x7 :: x8 :: x9 :: x10 :: r => simp at e10
end

section
/-- bytes that are not yet read -/
structure Rdr (w0 w : World) (gr : Nat) (D : List Nat) : Prop where
  lo : w0.heap.size ≤ gr
  ex : ∃ a n c, BxS w gr 123 #[.slice a n c] ∧ Rd w0 a n c D
  g : w0.grownBy w none
theorem Rd.beh {w : World} {b off n cap k : Nat} {L : List Nat} (h : Rd w (some ⟨b, off, none⟩) n cap L) (hk : k ≤ n) : Rd w (some ⟨b, if cap = k then off else off + k, none⟩) (n - k) (cap - k) (L.drop k) := by
  have h1 := h.le
  have hl := h.len
  have hB : IsB (L.drop k) := fun x hx => h.byte x (List.mem_of_mem_drop hx)
  by_cases e : cap = k
  · rw [if_pos e]
    refine ⟨by rw [List.length_drop, hl], by omega, by have := h.max; omega, (fun e => by cases e), hB, fun h0 => by omega⟩
  · rw [if_neg e]
    refine ⟨by rw [List.length_drop, hl], by omega, by have := h.max; omega, (fun e => by cases e), hB, fun h0 => ?_⟩
    obtain ⟨b', off', e', hb, hc⟩ := h.at' (by omega)
    cases e'
    refine ⟨b, off + k, rfl, hb, fun i hi => ?_⟩
    have := hc (k + i) (by omega)
    rw [← Nat.add_assoc] at this
    rw [this]
    congr 3
    unfold nth
    simp [List.getD_eq_getElem?_getD, List.getElem?_drop]
end

section
/-- the number of the first region of a piece of code (0: none; n + 1: region n) -/
def fstR : Code → Nat
  | .region id _ _ => id + 1
  | .seq a _ => fstR a
  | .block _ b => fstR b
  | .loop b => fstR b
  | _ => 0
/-- the piece of code that begins with region n, as long as can be -/
def tailR (n : Nat) : Code → Code
  | .seq a b => if fstR a = n + 1 then .seq a b else match tailR n a with
    | .skip => tailR n b
    | c => c
  | .cond _ t e => match tailR n t with
    | .skip => tailR n e
    | c => c
  | .block _ b => tailR n b
  | .loop b => tailR n b
  | .region id o d => if id = n then .region id o d else .skip
  | _ => .skip
end

section
theorem Roomy.ans {w : World} {g n lo : Nat} {L D : List Nat} (h : Roomy w g n L D) (hL : IsB L) (hl : L.length = n) (hn : n ≤ 140737488351232) (hlo : lo ≤ g) : Ans w lo (some ⟨g, 0, none⟩) n (n + 5) L := by
  refine ⟨⟨by rw [bys_length, hl, Nat.mul_one], .inr ⟨g, n + 5, (bys D).toArray, rfl, Nat.zero_le _, h.blk, by omega, by unfold maxLen; omega, by simp [bys_length, h.len], ?_⟩⟩, hL, fun x hx => ?_⟩
  · simp only [Nat.mul_one, List.toList_toArray]
    apply List.ext_getElem?
    intro i
    by_cases hi : i < n
    · rw [List.getElem?_take, if_pos hi, nth_bys D i (by rw [h.len]; omega), nth_bys L i (by omega), h.own i hi]
    · rw [List.getElem?_eq_none (by simp [bys_length]; omega), List.getElem?_eq_none (by rw [bys_length]; omega)]
  · have e : g = x := Option.some.inj hx
    omega
end

section
theorem cell_grown {w w' : World} {b i : Nat} {r : Option Nat} {v : Value} (h : w.cell? ⟨b, i, none⟩ = some v) (hg : w.grownBy w' r) (hb : b < w.heap.size) (hne : some b ≠ r) : w'.cell? ⟨b, i, none⟩ = some v := by
  rw [← h]
  unfold World.cell?
  rw [hg.block b hb hne]
end

section
/-- bytes as they lie in memory, and what they are -/
structure Rw where
  a : Option Addr
  n : Nat
  c : Nat
  D : List Nat
/-- rows of bytes as they are read -/
structure RdR (w : World) (a : Option Addr) (n cap : Nat) (F : Nat → Rw) : Prop where
  le : n ≤ cap
  max : cap ≤ maxLen
  at' : 0 < n → ∃ b off, a = some ⟨b, off, none⟩ ∧ b < w.heap.size ∧ ∀ i, i < n → w.cell? ⟨b, off + i, none⟩ = some (.slice (F i).a (F i).n (F i).c)
  data : ∀ i, i < n → Rd w (F i).a (F i).n (F i).c (F i).D
theorem RdR.keep {w w' : World} {a : Option Addr} {n cap : Nat} {F : Nat → Rw} (h : RdR w a n cap F) (hg : w.grownBy w' none) : RdR w' a n cap F :=
  ⟨h.le, h.max, fun h0 => by
    obtain ⟨b, off, e, hb, hc⟩ := h.at' h0
    exact ⟨b, off, e, Nat.lt_of_lt_of_le hb hg.size, fun i hi => cell_grown (hc i hi) hg hb (by simp)⟩, fun i hi => (h.data i hi).keep hg⟩
/-- an ear as it lies in memory -/
structure Er where
  x : Int
  r : Rw
structure RdE (w : World) (a : Option Addr) (n cap : Nat) (F : Nat → Er) : Prop where
  le : n ≤ cap
  max : cap ≤ maxLen
  at' : 0 < n → ∃ b off, a = some ⟨b, off, none⟩ ∧ b < w.heap.size ∧ ∀ i, i < n → w.cell? ⟨b, off + i * 2, none⟩ = some (.int .i64 (F i).x) ∧ w.cell? ⟨b, off + i * 2 + 1, none⟩ = some (.slice (F i).r.a (F i).r.n (F i).r.c)
  data : ∀ i, i < n → Rd w (F i).r.a (F i).r.n (F i).r.c (F i).r.D
theorem RdE.keep {w w' : World} {a : Option Addr} {n cap : Nat} {F : Nat → Er} (h : RdE w a n cap F) (hg : w.grownBy w' none) : RdE w' a n cap F :=
  ⟨h.le, h.max, fun h0 => by
    obtain ⟨b, off, e, hb, hc⟩ := h.at' h0
    exact ⟨b, off, e, Nat.lt_of_lt_of_le hb hg.size, fun i hi => ⟨cell_grown (hc i hi).1 hg hb (by simp), cell_grown (hc i hi).2 hg hb (by simp)⟩⟩, fun i hi => (h.data i hi).keep hg⟩
end

section
/-- a packet as it lies in memory, and what its data are -/
structure Pk where
  up : Bool
  se : Bool
  ap : Int
  pt : Int
  ct : Int
  a : Option Addr
  n : Nat
  c : Nat
  D : List Nat
def Pk.cells (p : Pk) : List Value := [.bool p.up, .bool p.se, .int .i64 p.ap, .int .i64 p.pt, .int .i64 p.ct, .slice p.a p.n p.c]
/-- a slice of packets as it is read -/
structure RdP (w : World) (a : Option Addr) (n cap : Nat) (F : Nat → Pk) : Prop where
  le : n ≤ cap
  max : cap ≤ maxLen
  at' : 0 < n → ∃ b off, a = some ⟨b, off, none⟩ ∧ b < w.heap.size ∧ ∀ i, i < n → ∀ j, j < 6 → w.cell? ⟨b, off + (i * 6 + j), none⟩ = (F i).cells[j]?
  data : ∀ i, i < n → Rd w (F i).a (F i).n (F i).c (F i).D
theorem addr_add' (b off j : Nat) : (⟨b, off, none⟩ : Addr).add j = ⟨b, off + j, none⟩ := by unfold Addr.add; split <;> simp_all
theorem own_baseG {w : World} {base : Nat} {e : TypeId} {sz : Nat} {v : Value} {n : Nat} {xs : List Value} (h : w.ownsRow base e sz v n xs) : w.ownsRow 0 e sz v n xs := by
  refine ⟨h.1, ?_⟩
  rcases h.2 with h2 | ⟨g, cap, cur, h3, h4, h5⟩
  · exact .inl h2
  · exact .inr ⟨g, cap, cur, h3, Nat.zero_le _, h5⟩
/-- 'append(v, x...)', v the call's own, x not empty, whatever the elements are -/
theorem wpList_apS (w : World) {ops : Array Oper} {rest : List Oper} {o : Oper} {a : Act} {Q : Exit → Act → World → Prop} (hg : o.guard = none) (s x : Operand) (t e : TypeId) (i0 : TypeInfo) (z : Value) (sz by' : Nat) (hu : Try.prog.underlying t = some (.slice e)) (hi : Try.prog.info? e = some i0) (hz0 : i0.zero = some z) (hz1 : i0.size = sz) (hz2 : i0.bytes = by') (hzs : z.cells.size = sz) (hsz : 0 < sz)
    (hop : o.op = Op.call { callee := .builtin .append, args := #[s, x], argTypes := #[t, t] }) (v : Value) (n : Nat) (xs : List Value) (hs : a.eval s = v)
    (hown : w.ownsRow 0 e sz v n xs) (ad : Addr) (m c : Nat) (news : List Value) (hx : a.eval x = .slice (some ad) m c) (hn : news.length = m * sz)
    (hc : ∀ j u, news[j]? = some u → w.cell? (ad.add j) = some u) (h1 : ∀ u, u ∈ news → u.oneCell' = true) (hm : 0 < m) (hb1 : n + m ≤ maxLen) (hb2 : (n + m) * by' ≤ 140737488355328)
    (hK : ∀ g cap w', (v.ownBlock = some g ∨ w.heap.size ≤ g) → w.grownBy w' v.ownBlock → w'.ownsRow 0 e sz (.slice (some ⟨g, 0, none⟩) (n + m) cap) (n + m) (xs ++ news) →
      wpList Try.prog ops Q rest (a.put o.dst (.slice (some ⟨g, 0, none⟩) (n + m) cap)) w') :
    wpList Try.prog ops Q (o :: rest) a w := by
  have grow : ∀ (ao : Option Addr) (cap : Nat), v = .slice ao n cap → (ao = none → n = 0 ∧ cap = 0) → (∀ b, ao = some b → ∀ j u, xs[j]? = some u → w.cell? (b.add j) = some u) → cap < n + m → wpList Try.prog ops Q (o :: rest) a w := by
    intro ao cap hv hnone hcells hfull
    refine wpList_append_grows w hg s x t hop e i0 z sz by' hu hi hz0 hz1 hz2 hzs hsz ao n cap xs (by rw [hs, hv]) hnone (by rw [hown.1]) hcells ad m c news hx hn hc h1 hfull hb1 hb2 ?_
    intro v' w' hown' hgr
    rcases hown'.2 with ⟨_, h0⟩ | ⟨g, cap', cur, rfl, hge, hrest⟩
    · omega
    · exact hK g cap' w' (.inr hge) (grown_weak hgr _) (own_baseG hown')
  rcases hown.2 with ⟨rfl, h0⟩ | ⟨g, cap, cur, rfl, hbase, hh, hle, hmax, hsz', htake⟩
  · subst h0
    exact grow none 0 rfl (fun _ => ⟨rfl, rfl⟩) (fun b hb => by cases hb) (by omega)
  · by_cases hroom : n + m ≤ cap
    · refine wpList_append_fits w hg s x t hop 0 e i0 sz hu hi hz1 g n cap xs hs hown ad m c news hx hn hc h1 hroom ?_
      intro w' hown' hgr
      exact hK g cap w' (.inl rfl) hgr hown'
    · refine grow (some ⟨g, 0, none⟩) cap rfl (fun h => by cases h) ?_ (by omega)
      intro b hb j u hu
      cases hb
      exact hown.cells (g := g) rfl j u hu

/-- packets in a row of the call's own -/
def flatP (ps : List Pk) : List Value := ps.flatMap Pk.cells
theorem flatP_len (ps : List Pk) : (flatP ps).length = ps.length * 6 := by
  induction ps with
  | nil => rfl
  | cons p ps ih => simp only [flatP, List.flatMap_cons, List.length_append, List.length_cons] at *; rw [ih]; simp [Pk.cells]; omega
theorem flatP_get (ps : List Pk) (i j : Nat) (hi : i < ps.length) (hj : j < 6) : (flatP ps)[i * 6 + j]? = (ps[i]).cells[j]? := by
  induction ps generalizing i with
  | nil => simp at hi
  | cons p ps ih =>
    have hc : p.cells.length = 6 := rfl
    simp only [flatP, List.flatMap_cons]
    cases i with
    | zero =>
      rw [List.getElem?_append_left (by rw [hc]; omega)]
      simp
    | succ i =>
      rw [List.getElem?_append_right (by rw [hc]; omega), hc, show (i + 1) * 6 + j - 6 = i * 6 + j by omega]
      exact ih i (by simpa using hi)
def Rw.v (r : Rw) : Value := .slice r.a r.n r.c
def flatR (rs : List Rw) : List Value := rs.map Rw.v
/-- rows of bytes, all of them in memory of the call's own -/
structure OwR (w : World) (lo : Nat) (a : Option Addr) (n c : Nat) (rs : List Rw) : Prop where
  own : w.ownsRow 0 23 1 (.slice a n c) n (flatR rs)
  len : rs.length = n
  new : ∀ g, (Value.slice a n c).ownBlock = some g → lo ≤ g
  each : ∀ r, r ∈ rs → Ans w lo r.a r.n r.c r.D
  apart : rs.Pairwise fun r s => ∀ g, r.v.ownBlock = some g → s.v.ownBlock ≠ some g
theorem OwR.keep {w w' : World} {lo : Nat} {a : Option Addr} {n c : Nat} {rs : List Rw} (h : OwR w lo a n c rs) (hg : w.grownBy w' none) : OwR w' lo a n c rs :=
  ⟨h.own.kept hg (by cases (Value.slice a n c).ownBlock <;> simp), h.len, h.new, fun r hr => (h.each r hr).keep hg, h.apart⟩
theorem OwR.wide {w : World} {lo lo' : Nat} {a : Option Addr} {n c : Nat} {rs : List Rw} (h : OwR w lo a n c rs) (hl : lo' ≤ lo) : OwR w lo' a n c rs :=
  ⟨h.own, h.len, fun g hg => Nat.le_trans hl (h.new g hg), fun r hr => (h.each r hr).wide hl, h.apart⟩
theorem OwR.nil (w : World) (lo : Nat) : OwR w lo none 0 0 [] := ⟨World.ownsRow_nil _ _ _ _, rfl, fun g h => by simp [Value.ownBlock] at h, fun r h => by simp at h, List.Pairwise.nil⟩
def zr : Value := .slice none 0 0
/-! packets one behind the other -/
theorem RdP.keep {w w' : World} {a : Option Addr} {n cap : Nat} {F : Nat → Pk} (h : RdP w a n cap F) (hg : w.grownBy w' none) : RdP w' a n cap F :=
  ⟨h.le, h.max, fun h0 => by
    obtain ⟨b, off, e, hb, hc⟩ := h.at' h0
    refine ⟨b, off, e, Nat.lt_of_lt_of_le hb hg.size, fun i hi j hj => ?_⟩
    rw [← hc i hi j hj]
    unfold World.cell?
    rw [hg.block b hb (by simp)], fun i hi => (h.data i hi).keep hg⟩
theorem own_apart {w : World} {b b' : Nat} {e e' : TypeId} {s s' : Nat} {v v' : Value} {n n' : Nat} {xs xs' : List Value} (h : w.ownsRow b e s v n xs) (k : w.ownsRow b' e' s' v' n' xs') (hne : e ≠ e') (g : Nat) (hg : v.ownBlock = some g) : v'.ownBlock ≠ some g := by
  intro hg'
  rcases h.2 with ⟨rfl, _⟩ | ⟨x, c, cur, rfl, _, hh, _⟩
  · simp [Value.ownBlock] at hg
  · rcases k.2 with ⟨rfl, _⟩ | ⟨x', c', cur', rfl, _, hh', _⟩
    · simp [Value.ownBlock] at hg'
    · have e1 : x = g := Option.some.inj hg
      have e2 : x' = g := Option.some.inj hg'
      subst e1 e2
      rw [hh] at hh'
      cases hh'
      exact hne rfl
theorem ne_u8 : (23 : TypeId) ≠ 5 := by decide
/-- a row more -/
theorem OwR.push {w w' : World} {lo : Nat} {a : Option Addr} {n c : Nat} {rs : List Rw} {r : Rw} {g c' : Nat} (h : OwR w lo a n c rs) (hr : Ans w lo r.a r.n r.c r.D) (hap : ∀ q, q ∈ rs → ∀ g, q.v.ownBlock = some g → r.v.ownBlock ≠ some g)
    (hg : w.grownBy w' (Value.slice a n c).ownBlock) (ho : w'.ownsRow 0 23 1 (.slice (some ⟨g, 0, none⟩) (n + 1) c') (n + 1) (flatR rs ++ [r.v])) (hn : (Value.slice a n c).ownBlock = some g ∨ lo ≤ g) : OwR w' lo (some ⟨g, 0, none⟩) (n + 1) c' (rs ++ [r]) := by
  have keep : ∀ q : Rw, Ans w lo q.a q.n q.c q.D → Ans w' lo q.a q.n q.c q.D := fun q hq => by
    refine hq.kept hg ?_
    cases e : (Value.slice q.a q.n q.c).ownBlock with
    | none => exact .inl rfl
    | some y =>
      refine .inr (fun e2 => ?_)
      exact own_apart hq.own h.own (fun e => ne_u8 e.symm) y e e2.symm
  refine ⟨by unfold flatR; rw [List.map_append]; exact ho, by rw [List.length_append, h.len]; rfl, fun y hy => ?_, fun q hq => ?_, ?_⟩
  · have e : g = y := Option.some.inj hy
    subst e
    rcases hn with h1 | h1
    · exact h.new g h1
    · exact h1
  · rcases List.mem_append.1 hq with h1 | h1
    · exact keep q (h.each q h1)
    · have e := List.mem_singleton.1 h1
      subst e
      exact keep _ hr
  · refine List.pairwise_append.2 ⟨h.apart, List.pairwise_singleton _ _, fun q hq s hs y hy => ?_⟩
    have e := List.mem_singleton.1 hs
    subst e
    exact hap q hq y hy
theorem OwR.kept {w w' : World} {lo : Nat} {a : Option Addr} {n c : Nat} {rs : List Rw} {g : Nat} (h : OwR w lo a n c rs) (hg : w.grownBy w' (some g)) (hlt : g < lo) : OwR w' lo a n c rs := by
  have ne : ∀ v : Value, (∀ y, v.ownBlock = some y → lo ≤ y) → v.ownBlock = none ∨ v.ownBlock ≠ some g := fun v hv => by
    cases e : v.ownBlock with
    | none => exact .inl rfl
    | some y => exact .inr (fun e2 => by have e3 := Option.some.inj e2; have := hv y e; omega)
  exact ⟨h.own.kept hg (ne _ h.new), h.len, h.new, fun r hr => (h.each r hr).kept hg (ne _ (h.each r hr).new), h.apart⟩
/-- all blocks but those of p lie as they lay -/
structure Fz (p : Nat → Prop) (w w' : World) : Prop where
  os : w'.os = w.os
  tape : w'.tape = w.tape
  output : w'.output = w.output
  size : w.heap.size ≤ w'.heap.size
  block : ∀ k, k < w.heap.size → ¬ p k → w'.heap[k]? = w.heap[k]?
theorem Fz.refl (p : Nat → Prop) (w : World) : Fz p w w := ⟨rfl, rfl, rfl, Nat.le_refl _, fun _ _ _ => rfl⟩
theorem Fz.step {p : Nat → Prop} {a w w' : World} {r : Option Nat} (f : Fz p a w) (h : w.grownBy w' r) (hr : ∀ k, r = some k → k < a.heap.size → p k) : Fz p a w' :=
  ⟨h.os.trans f.os, h.tape.trans f.tape, h.output.trans f.output, Nat.le_trans f.size h.size, fun k hk hn => (h.block k (Nat.lt_of_lt_of_le hk f.size) (fun e => hn (hr k e.symm hk))).trans (f.block k hk hn)⟩
theorem Fz.trans {p q : Nat → Prop} {a b c : World} (h : Fz p a b) (k : Fz q b c) (hq : ∀ i, i < a.heap.size → q i → p i) : Fz p a c :=
  ⟨k.os.trans h.os, k.tape.trans h.tape, k.output.trans h.output, Nat.le_trans h.size k.size, fun i hi hn => (k.block i (Nat.lt_of_lt_of_le hi h.size) (fun e => hn (hq i hi e))).trans (h.block i hi hn)⟩
theorem Fz.grown {p : Nat → Prop} {a b c : World} (h : a.grownBy b none) (k : Fz p b c) (hp : ∀ i, p i → a.heap.size ≤ i) : a.grownBy c none :=
  ⟨k.os.trans h.os, k.tape.trans h.tape, k.output.trans h.output, Nat.le_trans h.size k.size, fun i hi hn => (k.block i (Nat.lt_of_lt_of_le hi h.size) (fun e => by have := hp i e; omega)).trans (h.block i hi hn)⟩
theorem step_apS (w : World) {ops : Array Oper} {o : Oper} {a : Act} {K : Act → World → Prop} {Q : Exit → Act → World → Prop} {E : Prop} (hg : o.guard = none) (s x : Operand) (t e : TypeId) (i0 : TypeInfo) (z : Value) (sz by' : Nat) (hu : Try.prog.underlying t = some (.slice e)) (hi : Try.prog.info? e = some i0) (hz0 : i0.zero = some z) (hz1 : i0.size = sz) (hz2 : i0.bytes = by') (hzs : z.cells.size = sz) (hsz : 0 < sz)
    (hop : o.op = Op.call { callee := .builtin .append, args := #[s, x], argTypes := #[t, t] }) (v : Value) (n : Nat) (xs : List Value) (hs : a.eval s = v)
    (hown : w.ownsRow 0 e sz v n xs) (ad : Addr) (m c : Nat) (news : List Value) (hx : a.eval x = .slice (some ad) m c) (hn : news.length = m * sz)
    (hc : ∀ j u, news[j]? = some u → w.cell? (ad.add j) = some u) (h1 : ∀ u, u ∈ news → u.oneCell' = true) (hm : 0 < m) (hb1 : n + m ≤ maxLen) (hb2 : (n + m) * by' ≤ 140737488355328)
    (hK : ∀ g cap w', (v.ownBlock = some g ∨ w.heap.size ≤ g) → w.grownBy w' v.ownBlock → w'.ownsRow 0 e sz (.slice (some ⟨g, 0, none⟩) (n + m) cap) (n + m) (xs ++ news) →
      K (a.put o.dst (.slice (some ⟨g, 0, none⟩) (n + m) cap)) w') :
    if Region.wanted o (yielded ops a.tmps) = true then Oper.wp Try.prog o a w K Q else E := by
  have grow : ∀ (ao : Option Addr) (cap : Nat), v = .slice ao n cap → (ao = none → n = 0 ∧ cap = 0) → (∀ b, ao = some b → ∀ j u, xs[j]? = some u → w.cell? (b.add j) = some u) → cap < n + m → if Region.wanted o (yielded ops a.tmps) = true then Oper.wp Try.prog o a w K Q else E := by
    intro ao cap hv hnone hcells hfull
    refine step_append_grows hg s x t hop e i0 z sz by' hu hi hz0 hz1 hz2 hzs hsz ao n cap xs (by rw [hs, hv]) hnone (by rw [hown.1]) hcells ad m c news hx hn hc h1 hfull hb1 hb2 ?_
    intro v' w' hown' hgr
    rcases hown'.2 with ⟨_, h0⟩ | ⟨g, cap', cur, rfl, hge, hrest⟩
    · omega
    · exact hK g cap' w' (.inr hge) (grown_weak hgr _) (own_baseG hown')
  rcases hown.2 with ⟨rfl, h0⟩ | ⟨g, cap, cur, rfl, hbase, hh, hle, hmax, hsz', htake⟩
  · subst h0
    exact grow none 0 rfl (fun _ => ⟨rfl, rfl⟩) (fun b hb => by cases hb) (by omega)
  · by_cases hroom : n + m ≤ cap
    · refine step_append_fits hg s x t hop 0 e i0 sz hu hi hz1 g n cap xs hs hown ad m c news hx hn hc h1 hroom ?_
      intro w' hown' hgr
      exact hK g cap w' (.inl rfl) hgr hown'
    · refine grow (some ⟨g, 0, none⟩) cap rfl (fun h => by cases h) ?_ (by omega)
      intro b hb j u hu
      cases hb
      exact hown.cells (g := g) rfl j u hu
/-- blocks of different types are different -/
theorem BxS.apart {w : World} {g h : Nat} {t u : TypeId} {A B : Array Value} (x : BxS w g t A) (y : BxS w h u B) (hne : t ≠ u) : g ≠ h := by
  intro e
  subst e
  have : some (Obj.cells A t) = some (.cells B u) := (show w.heap[g]? = _ from x).symm.trans y
  injection this with this
  injection this with _ ht
  exact hne ht
theorem Ans.apart {w : World} {lo g n cap : Nat} {a : Option Addr} {L : List Nat} {u : TypeId} {B : Array Value} (h : Ans w lo a n cap L) (y : BxS w g u B) (hne : 5 ≠ u) : (Value.slice a n cap).ownBlock ≠ some g := by
  intro e
  rcases h.own.2 with ⟨h1, h2⟩ | ⟨q, c1, cur, h1, _, h3, _⟩
  · simp only [Value.slice.injEq] at h1
    obtain ⟨rfl, rfl, rfl⟩ := h1
    simp [Value.ownBlock] at e
  · simp only [Value.slice.injEq] at h1
    obtain ⟨rfl, _, _⟩ := h1
    have e' : q = g := Option.some.inj e
    subst e'
    exact BxS.apart (show BxS w q 5 cur from h3) y hne rfl
end
end Go.Proofs.Ytnimehkfnpepfaa
