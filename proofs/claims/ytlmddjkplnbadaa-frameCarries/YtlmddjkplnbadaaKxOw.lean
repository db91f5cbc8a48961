import Derived.ArgAppend
import Derived.Deep.DeepAppendWide
import Derived.Deep.RegionLawGrows
import Derived.Test.YtlmddjkplnbadaaPOp
import Derived.Test.YtlmddjkplnbadaaPDec
import Derived.Test.YtlmddjkplnbadaaFSums
import Derived.Test.YtlmddjkplnbadaaZBx
import Derived.Test.YtlmddjkplnbadaaKxTm
import Derived.Test.YtlmddjkplnbadaaKHm1
import Derived.Test.YtlmddjkplnbadaaFB2
import Derived.Test.YtlmddjkplnbadaaKxNs
import Derived.Test.YtlmddjkplnbadaaPSam
namespace Go.Proofs.Ytlmddjkplnbadaa
open Go.RowKit
set_option maxRecDepth 100000
set_option linter.unusedVariables false
set_option linter.unusedSimpArgs false

/-- a packet as it lies in memory, and what its data are -/
structure Pk where
  up : Bool
  se : Bool
  ap : Int
  pt : Int
  ct : Int
  a : Option Addr
  n : Nat
  c : Nat
  D : List Nat
def pk0 : Pk := ⟨false, false, 0, 0, 0, none, 0, 0, []⟩
def Pk.cells (p : Pk) : List Value := [.bool p.up, .bool p.se, .int .i64 p.ap, .int .i64 p.pt, .int .i64 p.ct, .slice p.a p.n p.c]
/-- a slice of packets as it is read -/
structure RdP (w : World) (a : Option Addr) (n cap : Nat) (F : Nat → Pk) : Prop where
  le : n ≤ cap
  max : cap ≤ maxLen
  at' : 0 < n → ∃ b off, a = some ⟨b, off, none⟩ ∧ b < w.heap.size ∧ ∀ i, i < n → ∀ j, j < 6 → w.cell? ⟨b, off + (i * 6 + j), none⟩ = (F i).cells[j]?
  data : ∀ i, i < n → Rd w (F i).a (F i).n (F i).c (F i).D
theorem addr_add' (b off j : Nat) : (⟨b, off, none⟩ : Addr).add j = ⟨b, off + j, none⟩ := by unfold Addr.add; split <;> simp_all
theorem nth_app_left (A B : List Nat) (i : Nat) (h : i < A.length) : nth (A ++ B) i = nth A i := nth_append_left A B i h
theorem nth_hdL (u s ap pt ct n k : Nat) (hk : k < 6) (R : List Nat) : nth (hdL u s ap pt ct n ++ R) k = hdB (hdN u s ap pt ct n) k := by
  rw [nth_app_left _ _ _ (by rw [hdL_len]; exact hk)]
  unfold hdL
  rw [tab_nth _ _ _ hk]
theorem hdN_lt (u s ap pt ct n : Nat) (hu : u < 2) (hs : s < 2) (hap : ap < 2048) (hpt : pt < 4) (hct : ct < 16384) (hn : n ≤ 65536) (h1 : 1 ≤ n) : hdN u s ap pt ct n < 35184372088832 := by
  unfold hdN hd1; omega
theorem hdV_hdL (u s ap pt ct n : Nat) (R : List Nat) (hu : u < 2) (hs : s < 2) (hap : ap < 2048) (hpt : pt < 4) (hct : ct < 16384) (hn : n ≤ 65536) (h1 : 1 ≤ n) : hdV (hdL u s ap pt ct n ++ R) 6 = hdN u s ap pt ct n := by
  have hl := hdN_lt u s ap pt ct n hu hs hap hpt hct hn h1
  have e : ∀ k, k < 6 → nth (hdL u s ap pt ct n ++ R) k = hdB (hdN u s ap pt ct n) k := fun k hk => nth_hdL u s ap pt ct n k hk R
  simp only [hdV]
  rw [e 0 (by decide), e 1 (by decide), e 2 (by decide), e 3 (by decide), e 4 (by decide), e 5 (by decide)]
  generalize hdN u s ap pt ct n = H at hl
  unfold hdB
  simp only [Nat.reduceMul, Nat.reduceSub, Nat.reducePow, Nat.div_one]
  omega
/-- what was encoded is decoded, whatever lies behind it -/
theorem dc_enc (up se : Bool) (ap pt ct : Int) (D R : List Nat) (h : mayE ap pt ct D.length = 0) :
    dcE (encP up se ap pt ct D ++ R) = 0 ∧ dcU (encP up se ap pt ct D ++ R) = up ∧ dcS (encP up se ap pt ct D ++ R) = se ∧ (dcA (encP up se ap pt ct D ++ R) : Int) = ap ∧ (dcP (encP up se ap pt ct D ++ R) : Int) = pt ∧ (dcC (encP up se ap pt ct D ++ R) : Int) = ct ∧
      dcK (encP up se ap pt ct D ++ R) = D.length + 6 ∧ dcD (encP up se ap pt ct D ++ R) = D := by
  obtain ⟨⟨⟨a1, a2⟩, ⟨p1, p2⟩, c1, c2⟩, n1, n2⟩ := mayE_ok h
  obtain ⟨ap', rfl⟩ := Int.eq_ofNat_of_zero_le a1
  obtain ⟨pt', rfl⟩ := Int.eq_ofNat_of_zero_le p1
  obtain ⟨ct', rfl⟩ := Int.eq_ofNat_of_zero_le c1
  have hu := toNat_le up
  have hs := toNat_le se
  have eB : encP up se (ap' : Int) (pt' : Int) (ct' : Int) D ++ R = hdL up.toNat se.toNat ap' pt' ct' D.length ++ (D ++ R) := by
    unfold encP; rw [if_pos h, List.append_assoc]; rfl
  rw [eB]
  have eH := hdV_hdL up.toNat se.toNat ap' pt' ct' D.length (D ++ R) hu hs (by omega) (by omega) (by omega) n2 n1
  have hL : (hdL up.toNat se.toNat ap' pt' ct' D.length ++ (D ++ R)).length = 6 + (D.length + R.length) := by rw [List.length_append, hdL_len, List.length_append]
  have hd : (hdL up.toNat se.toNat ap' pt' ct' D.length ++ (D ++ R)).drop 6 = D ++ R := by
    have := List.drop_left (l₁ := hdL up.toNat se.toNat ap' pt' ct' D.length) (l₂ := D ++ R)
    rw [hdL_len] at this
    exact this
  have eN : hdN up.toNat se.toNat ap' pt' ct' D.length = ((((up.toNat * 2 + se.toNat) * 2048 + ap') * 4 + pt') * 16384 + ct') * 65536 + (D.length - 1) := rfl
  have hE : dcE (hdL up.toNat se.toNat ap' pt' ct' D.length ++ (D ++ R)) = 0 := by
    unfold dcE
    rw [hL, eH, eN, if_neg (by omega), if_neg (by omega), if_neg (by omega)]
  refine ⟨hE, ?_, ?_, ?_, ?_, ?_, ?_, ?_⟩
  · unfold dcU
    rw [if_pos hE, eH, eN]
    have : (((((up.toNat * 2 + se.toNat) * 2048 + ap') * 4 + pt') * 16384 + ct') * 65536 + (D.length - 1)) / 2 ^ 44 % 2 = up.toNat := by omega
    rw [this]
    cases up <;> rfl
  · unfold dcS
    rw [if_pos hE, eH, eN]
    have : (((((up.toNat * 2 + se.toNat) * 2048 + ap') * 4 + pt') * 16384 + ct') * 65536 + (D.length - 1)) / 2 ^ 43 % 2 = se.toNat := by omega
    rw [this]
    cases se <;> rfl
  · unfold dcA
    rw [if_pos hE, eH, eN]
    omega
  · unfold dcP
    rw [if_pos hE, eH, eN]
    omega
  · unfold dcC
    rw [if_pos hE, eH, eN]
    omega
  · unfold dcK
    rw [if_pos hE, eH, eN]
    omega
  · unfold dcD
    rw [if_pos hE, eH, eN, hd]
    have : (((((up.toNat * 2 + se.toNat) * 2048 + ap') * 4 + pt') * 16384 + ct') * 65536 + (D.length - 1)) % 65536 + 1 = D.length := by omega
    rw [this]
    exact List.take_left

theorem own_baseG {w : World} {base : Nat} {e : TypeId} {sz : Nat} {v : Value} {n : Nat} {xs : List Value} (h : w.ownsRow base e sz v n xs) : w.ownsRow 0 e sz v n xs := by
  refine ⟨h.1, ?_⟩
  rcases h.2 with h2 | ⟨g, cap, cur, h3, h4, h5⟩
  · exact .inl h2
  · exact .inr ⟨g, cap, cur, h3, Nat.zero_le _, h5⟩
/-- 'append(v, x...)', v the call's own, x not empty, whatever the elements are -/
theorem wpList_apS (w : World) {ops : Array Oper} {rest : List Oper} {o : Oper} {a : Act} {Q : Exit → Act → World → Prop} (hg : o.guard = none) (s x : Operand) (t e : TypeId) (i0 : TypeInfo) (z : Value) (sz by' : Nat) (hu : Try.prog.underlying t = some (.slice e)) (hi : Try.prog.info? e = some i0) (hz0 : i0.zero = some z) (hz1 : i0.size = sz) (hz2 : i0.bytes = by') (hzs : z.cells.size = sz) (hsz : 0 < sz)
    (hop : o.op = Op.call { callee := .builtin .append, args := #[s, x], argTypes := #[t, t] }) (v : Value) (n : Nat) (xs : List Value) (hs : a.eval s = v)
    (hown : w.ownsRow 0 e sz v n xs) (ad : Addr) (m c : Nat) (news : List Value) (hx : a.eval x = .slice (some ad) m c) (hn : news.length = m * sz)
    (hc : ∀ j u, news[j]? = some u → w.cell? (ad.add j) = some u) (h1 : ∀ u, u ∈ news → u.oneCell' = true) (hm : 0 < m) (hb1 : n + m ≤ maxLen) (hb2 : (n + m) * by' ≤ 140737488355328)
    (hK : ∀ g cap w', (v.ownBlock = some g ∨ w.heap.size ≤ g) → w.grownBy w' v.ownBlock → w'.ownsRow 0 e sz (.slice (some ⟨g, 0, none⟩) (n + m) cap) (n + m) (xs ++ news) →
      wpList Try.prog ops Q rest (a.put o.dst (.slice (some ⟨g, 0, none⟩) (n + m) cap)) w') :
    wpList Try.prog ops Q (o :: rest) a w := by
  have grow : ∀ (ao : Option Addr) (cap : Nat), v = .slice ao n cap → (ao = none → n = 0 ∧ cap = 0) → (∀ b, ao = some b → ∀ j u, xs[j]? = some u → w.cell? (b.add j) = some u) → cap < n + m → wpList Try.prog ops Q (o :: rest) a w := by
    intro ao cap hv hnone hcells hfull
    refine wpList_append_grows w hg s x t hop e i0 z sz by' hu hi hz0 hz1 hz2 hzs hsz ao n cap xs (by rw [hs, hv]) hnone (by rw [hown.1]) hcells ad m c news hx hn hc h1 hfull hb1 hb2 ?_
    intro v' w' hown' hgr
    rcases hown'.2 with ⟨_, h0⟩ | ⟨g, cap', cur, rfl, hge, hrest⟩
    · omega
    · exact hK g cap' w' (.inr hge) (grown_weak hgr _) (own_baseG hown')
  rcases hown.2 with ⟨rfl, h0⟩ | ⟨g, cap, cur, rfl, hbase, hh, hle, hmax, hsz', htake⟩
  · subst h0
    exact grow none 0 rfl (fun _ => ⟨rfl, rfl⟩) (fun b hb => by cases hb) (by omega)
  · by_cases hroom : n + m ≤ cap
    · refine wpList_append_fits w hg s x t hop 0 e i0 sz hu hi hz1 g n cap xs hs hown ad m c news hx hn hc h1 hroom ?_
      intro w' hown' hgr
      exact hK g cap w' (.inl rfl) hgr hown'
    · refine grow (some ⟨g, 0, none⟩) cap rfl (fun h => by cases h) ?_ (by omega)
      intro b hb j u hu
      cases hb
      exact hown.cells (g := g) rfl j u hu

/-- packets in a row of the call's own -/
def flatP (ps : List Pk) : List Value := ps.flatMap Pk.cells
theorem flatP_len (ps : List Pk) : (flatP ps).length = ps.length * 6 := by
  induction ps with
  | nil => rfl
  | cons p ps ih => simp only [flatP, List.flatMap_cons, List.length_append, List.length_cons] at *; rw [ih]; simp [Pk.cells]; omega
theorem flatP_get (ps : List Pk) (i j : Nat) (hi : i < ps.length) (hj : j < 6) : (flatP ps)[i * 6 + j]? = (ps[i]).cells[j]? := by
  induction ps generalizing i with
  | nil => simp at hi
  | cons p ps ih =>
    have hc : p.cells.length = 6 := rfl
    simp only [flatP, List.flatMap_cons]
    cases i with
    | zero =>
      rw [List.getElem?_append_left (by rw [hc]; omega)]
      simp
    | succ i =>
      rw [List.getElem?_append_right (by rw [hc]; omega), hc, show (i + 1) * 6 + j - 6 = i * 6 + j by omega]
      exact ih i (by simpa using hi)
structure OwP (w : World) (lo : Nat) (a : Option Addr) (n cap : Nat) (ps : List Pk) : Prop where
  own : w.ownsRow 0 64 6 (.slice a n cap) n (flatP ps)
  len : ps.length = n
  new : ∀ g, (Value.slice a n cap).ownBlock = some g → lo ≤ g
theorem OwP.nil (w : World) (lo : Nat) : OwP w lo none 0 0 [] := ⟨World.ownsRow_nil _ _ _ _, rfl, fun g h => by simp [Value.ownBlock] at h⟩
theorem OwP.kept {w w' : World} {lo : Nat} {a : Option Addr} {n cap : Nat} {ps : List Pk} {r : Option Nat} (h : OwP w lo a n cap ps) (hg : w.grownBy w' r) (hne : (Value.slice a n cap).ownBlock = none ∨ (Value.slice a n cap).ownBlock ≠ r) : OwP w' lo a n cap ps := ⟨h.own.kept hg hne, h.len, h.new⟩
theorem OwP.keep {w w' : World} {lo : Nat} {a : Option Addr} {n cap : Nat} {ps : List Pk} (h : OwP w lo a n cap ps) (hg : w.grownBy w' none) : OwP w' lo a n cap ps := h.kept hg (by cases (Value.slice a n cap).ownBlock <;> simp)
theorem OwP.cases {w : World} {lo : Nat} {a : Option Addr} {n cap : Nat} {ps : List Pk} (h : OwP w lo a n cap ps) : (a = none ∧ n = 0 ∧ cap = 0) ∨ ∃ g, a = some ⟨g, 0, none⟩ ∧ lo ≤ g ∧ g < w.heap.size := by
  rcases h.own.2 with ⟨h1, h2⟩ | ⟨g, cap', cur, h1, _, h3, _⟩
  · simp only [Value.slice.injEq] at h1; exact .inl h1
  · simp only [Value.slice.injEq] at h1
    obtain ⟨rfl, _, _⟩ := h1
    exact .inr ⟨g, rfl, h.new g rfl, (Array.getElem?_eq_some_iff.1 h3).1⟩
theorem OwP.cell {w : World} {lo g n cap : Nat} {ps : List Pk} (h : OwP w lo (some ⟨g, 0, none⟩) n cap ps) (i j : Nat) (hi : i < ps.length) (hj : j < 6) : w.cell? ⟨g, i * 6 + j, none⟩ = (ps[i]).cells[j]? := by
  have hk : i * 6 + j < (flatP ps).length := by rw [flatP_len]; omega
  obtain ⟨u, hu⟩ : ∃ u, (flatP ps)[i * 6 + j]? = some u := ⟨_, List.getElem?_eq_getElem hk⟩
  have := h.own.cells (g := g) rfl (i * 6 + j) u hu
  rw [addr_add', Nat.zero_add] at this
  rw [this, ← hu, flatP_get ps i j hi hj]
theorem Try.info_pk3 : (Try.prog.info? 64).map (fun i => (i.zero, i.size, i.bytes)) = some (some (.agg #[.bool false, .bool false, .int .i64 0, .int .i64 0, .int .i64 0, .slice none 0 0]), 6, 56) := by kernel_rfl
def kr0 : Rw := ⟨none, 0, 0, []⟩
def Rw.v (r : Rw) : Value := .slice r.a r.n r.c
def flatR (rs : List Rw) : List Value := rs.map Rw.v
/-- rows of bytes, all of them in memory of the call's own -/
structure OwR (w : World) (lo : Nat) (a : Option Addr) (n c : Nat) (rs : List Rw) : Prop where
  own : w.ownsRow 0 22 1 (.slice a n c) n (flatR rs)
  len : rs.length = n
  new : ∀ g, (Value.slice a n c).ownBlock = some g → lo ≤ g
  each : ∀ r, r ∈ rs → Ans w lo r.a r.n r.c r.D
  apart : rs.Pairwise fun r s => ∀ g, r.v.ownBlock = some g → s.v.ownBlock ≠ some g
theorem OwR.keep {w w' : World} {lo : Nat} {a : Option Addr} {n c : Nat} {rs : List Rw} (h : OwR w lo a n c rs) (hg : w.grownBy w' none) : OwR w' lo a n c rs :=
  ⟨h.own.kept hg (by cases (Value.slice a n c).ownBlock <;> simp), h.len, h.new, fun r hr => (h.each r hr).keep hg, h.apart⟩
theorem OwR.wide {w : World} {lo lo' : Nat} {a : Option Addr} {n c : Nat} {rs : List Rw} (h : OwR w lo a n c rs) (hl : lo' ≤ lo) : OwR w lo' a n c rs :=
  ⟨h.own, h.len, fun g hg => Nat.le_trans hl (h.new g hg), fun r hr => (h.each r hr).wide hl, h.apart⟩
theorem OwR.nil (w : World) (lo : Nat) : OwR w lo none 0 0 [] := ⟨World.ownsRow_nil _ _ _ _, rfl, fun g h => by simp [Value.ownBlock] at h, fun r h => by simp at h, List.Pairwise.nil⟩
theorem OwR.rdr {w : World} {lo : Nat} {a : Option Addr} {n c : Nat} {rs : List Rw} (h : OwR w lo a n c rs) : RdR w a n c (fun i => rs.getD i kr0) := by
  have hl := h.len
  have hd : ∀ i, i < n → Rd w (rs.getD i kr0).a (rs.getD i kr0).n (rs.getD i kr0).c (rs.getD i kr0).D := fun i hi => by
    have hm : rs.getD i kr0 ∈ rs := by rw [List.getD_eq_getElem?_getD, List.getElem?_eq_getElem (by omega)]; exact List.getElem_mem _
    exact (h.each _ hm).rd
  rcases h.own.2 with ⟨h1, h2⟩ | ⟨g, cap, cur, h1, _, hh, hle, hmx, _, _⟩
  · simp only [Value.slice.injEq] at h1
    obtain ⟨_, h3, h4⟩ := h1
    exact ⟨by omega, by unfold maxLen; omega, fun h0 => by omega, hd⟩
  · have h1' := h1
    simp only [Value.slice.injEq] at h1'
    obtain ⟨rfl, _, rfl⟩ := h1'
    refine ⟨hle, hmx, fun h0 => ⟨g, 0, rfl, (Array.getElem?_eq_some_iff.1 hh).1, fun i hi => ?_⟩, hd⟩
    have hu : (flatR rs)[i]? = some (rs.getD i kr0).v := by
      unfold flatR
      rw [List.getElem?_map, List.getElem?_eq_getElem (by omega), List.getD_eq_getElem?_getD, List.getElem?_eq_getElem (by omega)]
      rfl
    have := h.own.cells (g := g) rfl i _ hu
    rw [addr_add', Nat.zero_add] at this
    rw [Nat.zero_add]
    exact this
def zr : Value := .slice none 0 0
theorem Try.info_rw : (Try.prog.info? 22).map (fun i => (i.zero, i.size, i.bytes)) = some (some zr, 1, 24) := by kernel_rfl
/-! packets one behind the other -/
theorem RdP.keep {w w' : World} {a : Option Addr} {n cap : Nat} {F : Nat → Pk} (h : RdP w a n cap F) (hg : w.grownBy w' none) : RdP w' a n cap F :=
  ⟨h.le, h.max, fun h0 => by
    obtain ⟨b, off, e, hb, hc⟩ := h.at' h0
    refine ⟨b, off, e, Nat.lt_of_lt_of_le hb hg.size, fun i hi j hj => ?_⟩
    rw [← hc i hi j hj]
    unfold World.cell?
    rw [hg.block b hb (by simp)], fun i hi => (h.data i hi).keep hg⟩
theorem Ans.up {w : World} {lo : Nat} {a : Option Addr} {n cap : Nat} {L : List Nat} (h : Ans w lo a n cap L) : w.ownsRow lo 5 1 (.slice a n cap) n (bys L) := by
  refine ⟨h.own.1, ?_⟩
  rcases h.own.2 with h1 | ⟨g, c1, cur, h1, h2, h3⟩
  · exact .inl h1
  · refine .inr ⟨g, c1, cur, h1, ?_, h3⟩
    simp only [Value.slice.injEq] at h1
    obtain ⟨rfl, _, _⟩ := h1
    exact h.new g rfl
/-- 'append(v, x...)', v an answer, x whatever bytes -/
theorem wpList_joinZ {w : World} {ops : Array Oper} {rest : List Oper} {o : Oper} {a : Act} {Q : Exit → Act → World → Prop} (hg : o.guard = none) (s x : Operand)
    (hop : o.op = Op.call { callee := .builtin .append, args := #[s, x], argTypes := #[22, 22] }) (ao : Option Addr) (m co lo : Nat) (D : List Nat) (hs : a.eval s = .slice ao m co)
    (hA : Ans w lo ao m co D) (hlo : lo ≤ w.heap.size) (ax : Option Addr) (nx cx : Nat) (X : List Nat) (hx : a.eval x = .slice ax nx cx) (hR : Rd w ax nx cx X) (hb : m + nx ≤ 200000000000000)
    (hK : ∀ a' c' w', Ans w' lo a' (m + nx) c' (D ++ X) → w.grownBy w' (Value.slice ao m co).ownBlock → wpList Try.prog ops Q rest (a.put o.dst (.slice a' (m + nx) c')) w') :
    wpList Try.prog ops Q (o :: rest) a w := by
  obtain ⟨i0, hi, hz0, hz1, hz2⟩ := info_parts Try.info_u8
  cases ax with
  | none =>
    have hc0 : cx = 0 := hR.nil rfl
    have hn0 : nx = 0 := by have := hR.le; omega
    subst hc0 hn0
    have e : X = [] := List.eq_nil_of_length_eq_zero hR.len
    subst e
    refine wpList_append_own_none hg s x 22 hop 0 5 i0 1 Try.underlying22 hi (.slice ao m co) m (bys D) hs hA.own hx ?_
    exact hK ao co w (by rw [List.append_nil]; exact hA) (World.grownBy.refl _ _)
  | some ad =>
    refine wpList_append_own_wide w hg s x 22 hop lo 5 i0 (.int .u8 0) 1 1 Try.underlying22 hi hz0 hz1 hz2 rfl (by decide) (.slice ao m co) m (bys D) hs hA.up ad nx cx (bys X) hx (by rw [bys_length, hR.len]; omega) ?_ (bys_one _) (by unfold maxLen; omega) (by omega) hlo ?_
    · intro j u hu
      have hj : j < X.length := by
        have := (List.getElem?_eq_some_iff.1 hu).1
        rw [bys_length] at this; exact this
      have h0 : 0 < nx := by rw [hR.len] at hj; omega
      obtain ⟨b, off, e, _, hc⟩ := hR.at' h0
      cases e
      rw [nth_bys X j hj] at hu
      rw [← hu, addr_add]
      exact hc j (by rw [← hR.len]; exact hj)
    · intro v' w' hown hgr _
      rw [bys_app] at hown
      have hown' := hown
      rcases hown.2 with ⟨h1, h2⟩ | ⟨g, c1, cur, h1, h2, h3⟩
      · subst h1
        have e0 : m + nx = 0 := h2
        have hq := hK none 0 w' ⟨by rw [e0]; exact own_base (by rw [e0] at hown'; exact hown'), isB_append hA.byte hR.byte, fun g h => by simp [Value.ownBlock] at h⟩ hgr
        rw [e0] at hq
        exact hq
      · subst h1
        exact hK (some ⟨g, 0, none⟩) c1 w' ⟨own_base hown', isB_append hA.byte hR.byte, fun g' h => by have e : g = g' := Option.some.inj h; omega⟩ hgr
theorem RdP.six {w wz : World} {b off n cap : Nat} {F : Nat → Pk} (h : RdP w (some ⟨b, off, none⟩) n cap F) (hz : w.grownBy wz none) (i : Nat) (hi : i < n) :
    wz.cell? ⟨b, off + i * 6, none⟩ = some (.bool (F i).up) ∧ wz.cell? ⟨b, off + i * 6 + 1, none⟩ = some (.bool (F i).se) ∧ wz.cell? ⟨b, off + i * 6 + 2, none⟩ = some (.int .i64 (F i).ap) ∧ wz.cell? ⟨b, off + i * 6 + 3, none⟩ = some (.int .i64 (F i).pt) ∧ wz.cell? ⟨b, off + i * 6 + 4, none⟩ = some (.int .i64 (F i).ct) ∧ wz.cell? ⟨b, off + i * 6 + 5, none⟩ = some (.slice (F i).a (F i).n (F i).c) := by
  obtain ⟨_, _, e, _, hc⟩ := (h.keep hz).at' (by omega)
  cases e
  exact ⟨hc i hi 0 (by decide), hc i hi 1 (by decide), hc i hi 2 (by decide), hc i hi 3 (by decide), hc i hi 4 (by decide), hc i hi 5 (by decide)⟩
theorem own_apart {w : World} {b b' : Nat} {e e' : TypeId} {s s' : Nat} {v v' : Value} {n n' : Nat} {xs xs' : List Value} (h : w.ownsRow b e s v n xs) (k : w.ownsRow b' e' s' v' n' xs') (hne : e ≠ e') (g : Nat) (hg : v.ownBlock = some g) : v'.ownBlock ≠ some g := by
  intro hg'
  rcases h.2 with ⟨rfl, _⟩ | ⟨x, c, cur, rfl, _, hh, _⟩
  · simp [Value.ownBlock] at hg
  · rcases k.2 with ⟨rfl, _⟩ | ⟨x', c', cur', rfl, _, hh', _⟩
    · simp [Value.ownBlock] at hg'
    · have e1 : x = g := Option.some.inj hg
      have e2 : x' = g := Option.some.inj hg'
      subst e1 e2
      rw [hh] at hh'
      cases hh'
      exact hne rfl
theorem ne_u8 : (22 : TypeId) ≠ 5 := by decide
theorem one_row (w : World) (v : Value) : ∀ j u, [v][j]? = some u → (w.alloc (.cells #[v] 22)).cell? ((⟨w.heap.size, 0, none⟩ : Addr).add j) = some u := by
  intro j u h
  rw [addr_add', Nat.zero_add]
  match j with
  | 0 => rw [← h]; exact (BxS.new w 22 #[v]).cell 0 (by show 0 < 1; decide)
  | j + 1 => simp at h
/-- a row more -/
theorem OwR.push {w w' : World} {lo : Nat} {a : Option Addr} {n c : Nat} {rs : List Rw} {r : Rw} {g c' : Nat} (h : OwR w lo a n c rs) (hr : Ans w lo r.a r.n r.c r.D) (hap : ∀ q, q ∈ rs → ∀ g, q.v.ownBlock = some g → r.v.ownBlock ≠ some g)
    (hg : w.grownBy w' (Value.slice a n c).ownBlock) (ho : w'.ownsRow 0 22 1 (.slice (some ⟨g, 0, none⟩) (n + 1) c') (n + 1) (flatR rs ++ [r.v])) (hn : (Value.slice a n c).ownBlock = some g ∨ lo ≤ g) : OwR w' lo (some ⟨g, 0, none⟩) (n + 1) c' (rs ++ [r]) := by
  have keep : ∀ q : Rw, Ans w lo q.a q.n q.c q.D → Ans w' lo q.a q.n q.c q.D := fun q hq => by
    refine hq.kept hg ?_
    cases e : (Value.slice q.a q.n q.c).ownBlock with
    | none => exact .inl rfl
    | some y =>
      refine .inr (fun e2 => ?_)
      exact own_apart hq.own h.own (fun e => ne_u8 e.symm) y e e2.symm
  refine ⟨by unfold flatR; rw [List.map_append]; exact ho, by rw [List.length_append, h.len]; rfl, fun y hy => ?_, fun q hq => ?_, ?_⟩
  · have e : g = y := Option.some.inj hy
    subst e
    rcases hn with h1 | h1
    · exact h.new g h1
    · exact h1
  · rcases List.mem_append.1 hq with h1 | h1
    · exact keep q (h.each q h1)
    · have e := List.mem_singleton.1 h1
      subst e
      exact keep _ hr
  · refine List.pairwise_append.2 ⟨h.apart, List.pairwise_singleton _ _, fun q hq s hs y hy => ?_⟩
    have e := List.mem_singleton.1 hs
    subst e
    exact hap q hq y hy
theorem kres1 {fn : Func} {p : Tmp} {ty : TypeId} (h : fn.results = #[.cell p ty]) (tmps : Array Value) (P : Program) (w : World) (a : Addr) (v : Value) (ha : tmps.getD p undef = .pointer (some a)) (hl : (loadVar ty a).run P w = .ok v w) :
    (results fn tmps).run P w = .ok v w := by
  simp only [results, h]
  rw [Array.getD_eq_getD_getElem?] at ha
  simp [Sem.run_bind, Result.andThen]
  rw [ha]
  simp [asAddr, hl]
theorem stc_rows (g i : Nat) (p : Option Addr) (l c : Nat) (w : World) (hc : ∃ u, w.cell? ⟨g, i, none⟩ = some u) (hf : w.frozen? ⟨g, i, none⟩ = false) : (Instr.storeAt 81 (.pointer (some ⟨g, i, none⟩)) (.slice p l c)).run Try.prog w = .ok () (w.setCell ⟨g, i, none⟩ (.slice p l c)) := by
  obtain ⟨u, hc⟩ := hc
  simp [go_sem, hc, hf]
/-- all that rows own lies ahead of hi -/
def Bef (hi : Nat) (v : Value) (rs : List Rw) : Prop := (∀ g, v.ownBlock = some g → g < hi) ∧ ∀ r, r ∈ rs → ∀ g, r.v.ownBlock = some g → g < hi
theorem OwR.bef {w : World} {lo : Nat} {a : Option Addr} {n c : Nat} {rs : List Rw} (h : OwR w lo a n c rs) : Bef w.heap.size (.slice a n c) rs := by
  refine ⟨fun g hg => ?_, fun r hr g hg => ?_⟩
  · rcases h.own.2 with ⟨h1, _⟩ | ⟨x, cap, cur, h1, _, hh, _⟩
    · rw [h1] at hg; simp [Value.ownBlock] at hg
    · rw [h1] at hg
      have e : x = g := Option.some.inj hg
      subst e
      exact (Array.getElem?_eq_some_iff.1 hh).1
  · rcases (h.each r hr).cases with ⟨e1, _, _⟩ | ⟨x, e1, _, hx⟩
    · unfold Rw.v at hg; rw [e1] at hg; simp [Value.ownBlock] at hg
    · unfold Rw.v at hg
      rw [e1] at hg
      have e2 : x = g := Option.some.inj hg
      omega
theorem OwR.kept {w w' : World} {lo : Nat} {a : Option Addr} {n c : Nat} {rs : List Rw} {g : Nat} (h : OwR w lo a n c rs) (hg : w.grownBy w' (some g)) (hlt : g < lo) : OwR w' lo a n c rs := by
  have ne : ∀ v : Value, (∀ y, v.ownBlock = some y → lo ≤ y) → v.ownBlock = none ∨ v.ownBlock ≠ some g := fun v hv => by
    cases e : v.ownBlock with
    | none => exact .inl rfl
    | some y => exact .inr (fun e2 => by have e3 := Option.some.inj e2; have := hv y e; omega)
  exact ⟨h.own.kept hg (ne _ h.new), h.len, h.new, fun r hr => (h.each r hr).kept hg (ne _ (h.each r hr).new), h.apart⟩
/-- all blocks but those of p lie as they lay -/
structure Fz (p : Nat → Prop) (w w' : World) : Prop where
  os : w'.os = w.os
  tape : w'.tape = w.tape
  output : w'.output = w.output
  size : w.heap.size ≤ w'.heap.size
  block : ∀ k, k < w.heap.size → ¬ p k → w'.heap[k]? = w.heap[k]?
theorem Fz.refl (p : Nat → Prop) (w : World) : Fz p w w := ⟨rfl, rfl, rfl, Nat.le_refl _, fun _ _ _ => rfl⟩
theorem Fz.step {p : Nat → Prop} {a w w' : World} {r : Option Nat} (f : Fz p a w) (h : w.grownBy w' r) (hr : ∀ k, r = some k → k < a.heap.size → p k) : Fz p a w' :=
  ⟨h.os.trans f.os, h.tape.trans f.tape, h.output.trans f.output, Nat.le_trans f.size h.size, fun k hk hn => (h.block k (Nat.lt_of_lt_of_le hk f.size) (fun e => hn (hr k e.symm hk))).trans (f.block k hk hn)⟩
theorem Fz.trans {p q : Nat → Prop} {a b c : World} (h : Fz p a b) (k : Fz q b c) (hq : ∀ i, i < a.heap.size → q i → p i) : Fz p a c :=
  ⟨k.os.trans h.os, k.tape.trans h.tape, k.output.trans h.output, Nat.le_trans h.size k.size, fun i hi hn => (k.block i (Nat.lt_of_lt_of_le hi h.size) (fun e => hn (hq i hi e))).trans (h.block i hi hn)⟩
theorem Fz.grown {p : Nat → Prop} {a b c : World} (h : a.grownBy b none) (k : Fz p b c) (hp : ∀ i, p i → a.heap.size ≤ i) : a.grownBy c none :=
  ⟨k.os.trans h.os, k.tape.trans h.tape, k.output.trans h.output, Nat.le_trans h.size k.size, fun i hi hn => (k.block i (Nat.lt_of_lt_of_le hi h.size) (fun e => by have := hp i e; omega)).trans (h.block i hi hn)⟩
/-- the blocks that rows own -/
def Ofr (v : Value) (rs : List Rw) (i : Nat) : Prop := v.ownBlock = some i ∨ ∃ r, r ∈ rs ∧ r.v.ownBlock = some i
theorem sumB_lt (L : List Nat) : sumB L < 65536 := crN_lt _ _
theorem step_apS (w : World) {ops : Array Oper} {o : Oper} {a : Act} {K : Act → World → Prop} {Q : Exit → Act → World → Prop} {E : Prop} (hg : o.guard = none) (s x : Operand) (t e : TypeId) (i0 : TypeInfo) (z : Value) (sz by' : Nat) (hu : Try.prog.underlying t = some (.slice e)) (hi : Try.prog.info? e = some i0) (hz0 : i0.zero = some z) (hz1 : i0.size = sz) (hz2 : i0.bytes = by') (hzs : z.cells.size = sz) (hsz : 0 < sz)
    (hop : o.op = Op.call { callee := .builtin .append, args := #[s, x], argTypes := #[t, t] }) (v : Value) (n : Nat) (xs : List Value) (hs : a.eval s = v)
    (hown : w.ownsRow 0 e sz v n xs) (ad : Addr) (m c : Nat) (news : List Value) (hx : a.eval x = .slice (some ad) m c) (hn : news.length = m * sz)
    (hc : ∀ j u, news[j]? = some u → w.cell? (ad.add j) = some u) (h1 : ∀ u, u ∈ news → u.oneCell' = true) (hm : 0 < m) (hb1 : n + m ≤ maxLen) (hb2 : (n + m) * by' ≤ 140737488355328)
    (hK : ∀ g cap w', (v.ownBlock = some g ∨ w.heap.size ≤ g) → w.grownBy w' v.ownBlock → w'.ownsRow 0 e sz (.slice (some ⟨g, 0, none⟩) (n + m) cap) (n + m) (xs ++ news) →
      K (a.put o.dst (.slice (some ⟨g, 0, none⟩) (n + m) cap)) w') :
    if Region.wanted o (yielded ops a.tmps) = true then Oper.wp Try.prog o a w K Q else E := by
  have grow : ∀ (ao : Option Addr) (cap : Nat), v = .slice ao n cap → (ao = none → n = 0 ∧ cap = 0) → (∀ b, ao = some b → ∀ j u, xs[j]? = some u → w.cell? (b.add j) = some u) → cap < n + m → if Region.wanted o (yielded ops a.tmps) = true then Oper.wp Try.prog o a w K Q else E := by
    intro ao cap hv hnone hcells hfull
    refine step_append_grows hg s x t hop e i0 z sz by' hu hi hz0 hz1 hz2 hzs hsz ao n cap xs (by rw [hs, hv]) hnone (by rw [hown.1]) hcells ad m c news hx hn hc h1 hfull hb1 hb2 ?_
    intro v' w' hown' hgr
    rcases hown'.2 with ⟨_, h0⟩ | ⟨g, cap', cur, rfl, hge, hrest⟩
    · omega
    · exact hK g cap' w' (.inr hge) (grown_weak hgr _) (own_baseG hown')
  rcases hown.2 with ⟨rfl, h0⟩ | ⟨g, cap, cur, rfl, hbase, hh, hle, hmax, hsz', htake⟩
  · subst h0
    exact grow none 0 rfl (fun _ => ⟨rfl, rfl⟩) (fun b hb => by cases hb) (by omega)
  · by_cases hroom : n + m ≤ cap
    · refine step_append_fits hg s x t hop 0 e i0 sz hu hi hz1 g n cap xs hs hown ad m c news hx hn hc h1 hroom ?_
      intro w' hown' hgr
      exact hK g cap w' (.inl rfl) hgr hown'
    · refine grow (some ⟨g, 0, none⟩) cap rfl (fun h => by cases h) ?_ (by omega)
      intro b hb j u hu
      cases hb
      exact hown.cells (g := g) rfl j u hu
/-- blocks of different types are different -/
theorem BxS.apart {w : World} {g h : Nat} {t u : TypeId} {A B : Array Value} (x : BxS w g t A) (y : BxS w h u B) (hne : t ≠ u) : g ≠ h := by
  intro e
  subst e
  have : some (Obj.cells A t) = some (.cells B u) := (show w.heap[g]? = _ from x).symm.trans y
  injection this with this
  injection this with _ ht
  exact hne ht
theorem OwP.apart {w : World} {lo g n cap : Nat} {a : Option Addr} {ps : List Pk} {u : TypeId} {B : Array Value} (h : OwP w lo a n cap ps) (y : BxS w g u B) (hne : 64 ≠ u) : (Value.slice a n cap).ownBlock ≠ some g := by
  intro e
  rcases h.own.2 with ⟨h1, h2⟩ | ⟨q, c1, cur, h1, _, h3, _⟩
  · simp only [Value.slice.injEq] at h1
    obtain ⟨rfl, rfl, rfl⟩ := h1
    simp [Value.ownBlock] at e
  · simp only [Value.slice.injEq] at h1
    obtain ⟨rfl, _, _⟩ := h1
    have e' : q = g := Option.some.inj e
    subst e'
    exact BxS.apart (show BxS w q 64 cur from h3) y hne rfl
theorem Ans.apart {w : World} {lo g n cap : Nat} {a : Option Addr} {L : List Nat} {u : TypeId} {B : Array Value} (h : Ans w lo a n cap L) (y : BxS w g u B) (hne : 5 ≠ u) : (Value.slice a n cap).ownBlock ≠ some g := by
  intro e
  rcases h.own.2 with ⟨h1, h2⟩ | ⟨q, c1, cur, h1, _, h3, _⟩
  · simp only [Value.slice.injEq] at h1
    obtain ⟨rfl, rfl, rfl⟩ := h1
    simp [Value.ownBlock] at e
  · simp only [Value.slice.injEq] at h1
    obtain ⟨rfl, _, _⟩ := h1
    have e' : q = g := Option.some.inj e
    subst e'
    exact BxS.apart (show BxS w q 5 cur from h3) y hne rfl
end Go.Proofs.Ytlmddjkplnbadaa
