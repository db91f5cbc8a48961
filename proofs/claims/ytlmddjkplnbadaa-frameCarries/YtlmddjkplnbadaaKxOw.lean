import Derived.Test.YtlmddjkplnbadaaPOp
import Derived.Test.YtlmddjkplnbadaaPDec
import Derived.Test.YtlmddjkplnbadaaFSums
import Derived.ArgAppend
import Derived.Deep.DeepAppendWide
import Derived.Test.YtlmddjkplnbadaaZBx
import Derived.Test.YtlmddjkplnbadaaKxTm
import Derived.Test.YtlmddjkplnbadaaKHm1
import Derived.Test.YtlmddjkplnbadaaFB2
import Derived.Test.YtlmddjkplnbadaaKOr1
import Derived.Deep.RegionLawGrows
namespace Go.Proofs.Ytlmddjkplnbadaa
open Go.RowKit
set_option maxRecDepth 100000
set_option linter.unusedVariables false
set_option linter.unusedSimpArgs false

/-- a packet as it lies in memory, and what its data are -/
structure Pk where
  up : Bool
  se : Bool
  ap : Int
  pt : Int
  ct : Int
  a : Option Addr
  n : Nat
  c : Nat
  D : List Nat
def pk0 : Pk := ⟨false, false, 0, 0, 0, none, 0, 0, []⟩
def Pk.cells (p : Pk) : List Value := [.bool p.up, .bool p.se, .int .i64 p.ap, .int .i64 p.pt, .int .i64 p.ct, .slice p.a p.n p.c]
def Pk.val (p : Pk) : Value := pkV p.up p.se p.ap p.pt p.ct p.a p.n p.c
/-- a slice of packets as it is read -/
structure RdP (w : World) (a : Option Addr) (n cap : Nat) (F : Nat → Pk) : Prop where
  le : n ≤ cap
  max : cap ≤ maxLen
  at' : 0 < n → ∃ b off, a = some ⟨b, off, none⟩ ∧ b < w.heap.size ∧ ∀ i, i < n → ∀ j, j < 6 → w.cell? ⟨b, off + (i * 6 + j), none⟩ = (F i).cells[j]?
  data : ∀ i, i < n → Rd w (F i).a (F i).n (F i).c (F i).D
theorem addr_add' (b off j : Nat) : (⟨b, off, none⟩ : Addr).add j = ⟨b, off + j, none⟩ := by unfold Addr.add; split <;> simp_all
theorem met_packets {w : World} {full : Bool} {N : Nat} {cs : List Value}
    (h : (Sh.slice 6 56 (Sh.fcons 1 .bool (.fcons 1 .bool (.fcons 1 (.int .i64) (.fcons 1 (.int .i64) (.fcons 1 (.int .i64) (.fcons 1 (.slice 1 1 (.int .u8)) .fend))))))).met w full cs N) :
    ∃ a len cap F, cs = [.slice a len cap] ∧ RdP w a len cap F ∧ (∀ i, i < len → (full = true → (F i).c ≤ 140737488351232) ∧ (-9223372036854775808 ≤ (F i).ap ∧ (F i).ap ≤ 9223372036854775807) ∧ (-9223372036854775808 ≤ (F i).pt ∧ (F i).pt ≤ 9223372036854775807) ∧ (-9223372036854775808 ≤ (F i).ct ∧ (F i).ct ≤ 9223372036854775807) ∧ (F i).c + 1 ≤ N) ∧ (full = true → cap * 56 ≤ reachBytes) ∧ cap + 1 ≤ N := by
  rcases h with ⟨rfl, rfl⟩ | ⟨x, len, cap, G, C, rfl, rfl, hl, hm, hf, hc⟩
  · exact ⟨none, 0, 0, fun _ => pk0, rfl, ⟨Nat.le_refl _, Nat.zero_le _, fun h => by omega, fun i h => by omega⟩, fun i h => by omega, fun _ => by rw [Nat.zero_mul]; exact Nat.zero_le _, Nat.le_refl _⟩
  · have each : ∀ i, i < cap → ∃ p : Pk, (∀ j, j < 6 → w.cell? (x.add (i * 6 + j)) = p.cells[j]?) ∧ Rd w p.a p.n p.c p.D ∧ (full = true → p.c ≤ 140737488351232) ∧ (-9223372036854775808 ≤ p.ap ∧ p.ap ≤ 9223372036854775807) ∧ (-9223372036854775808 ≤ p.pt ∧ p.pt ≤ 9223372036854775807) ∧ (-9223372036854775808 ≤ p.ct ∧ p.ct ≤ 9223372036854775807) ∧ p.c + 1 ≤ G i := by
      intro i hi
      obtain ⟨h1, h2, h3⟩ := hc i hi
      obtain ⟨up, se, ap, pt, ct, a, n, c, L, e, hR, hk, hn, b1, b2, b3⟩ := met_packet h3
      refine ⟨⟨up, se, ap, pt, ct, a, n, c, L⟩, fun j hj => ?_, hR, hk, b1, b2, b3, hn⟩
      rw [h2 j hj, e]
      rfl
    have hI : Inhabited Pk := ⟨pk0⟩
    obtain ⟨F, hF⟩ := Go.Deep.choose_lt each
    have hG : ∀ i, i < cap → 1 ≤ G i := fun i hi => by have := (hF i hi).2.2.2.2.2.2; omega
    refine ⟨some x, len, cap, F, rfl, ⟨hl, hm, fun h0 => ?_, fun i hi => (hF i (by omega)).2.1⟩, fun i hi => ?_, hf, ?_⟩
    · obtain ⟨b, off, spot⟩ := x
      have hc0 := (hF 0 (by omega)).1 0 (by decide)
      have hspot : spot = none := by
        have h0' : w.cell? (⟨b, off, spot⟩ : Addr) = some (.bool (F 0).up) := by simpa [Addr.add, Pk.cells] using hc0
        simpa using World.cell?_spot h0'
      subst hspot
      refine ⟨b, off, rfl, ?_, fun i hi j hj => ?_⟩
      · have h0' : w.cell? (⟨b, off, none⟩ : Addr) = some (.bool (F 0).up) := by simpa [Addr.add, Pk.cells] using hc0
        exact World.block_lt_of_cell? w _ h0'
      · rw [← addr_add']
        exact (hF i (by omega)).1 j hj
    · obtain ⟨_, _, k1, k2, k3, k4, k5⟩ := hF i (by omega)
      have := sumN_part (F := G) (n := cap) (i := i) (by omega)
      exact ⟨k1, k2, k3, k4, by omega⟩
    · have := sumN_le (F := G) (n := cap) hG
      omega
theorem shown_packets {w : World} {full : Bool} {N : Nat} {v : Value}
    (h : (Sh.slice 6 56 (Sh.fcons 1 .bool (.fcons 1 .bool (.fcons 1 (.int .i64) (.fcons 1 (.int .i64) (.fcons 1 (.int .i64) (.fcons 1 (.slice 1 1 (.int .u8)) .fend))))))).shown w full v N) :
    ∃ a len cap F, v = .slice a len cap ∧ RdP w a len cap F ∧ (∀ i, i < len → (full = true → (F i).c ≤ 140737488351232) ∧ (-9223372036854775808 ≤ (F i).ap ∧ (F i).ap ≤ 9223372036854775807) ∧ (-9223372036854775808 ≤ (F i).pt ∧ (F i).pt ≤ 9223372036854775807) ∧ (-9223372036854775808 ≤ (F i).ct ∧ (F i).ct ≤ 9223372036854775807) ∧ (F i).c + 1 ≤ N) ∧ (full = true → cap * 56 ≤ reachBytes) ∧ cap + 1 ≤ N := by
  obtain ⟨a, len, cap, F, e, hr⟩ := met_packets h
  cases e
  exact ⟨a, len, cap, F, rfl, hr⟩

theorem nth_app_left (A B : List Nat) (i : Nat) (h : i < A.length) : nth (A ++ B) i = nth A i := nth_append_left A B i h
theorem nth_hdL (u s ap pt ct n k : Nat) (hk : k < 6) (R : List Nat) : nth (hdL u s ap pt ct n ++ R) k = hdB (hdN u s ap pt ct n) k := by
  rw [nth_app_left _ _ _ (by rw [hdL_len]; exact hk)]
  unfold hdL
  rw [tab_nth _ _ _ hk]
theorem hdN_lt (u s ap pt ct n : Nat) (hu : u < 2) (hs : s < 2) (hap : ap < 2048) (hpt : pt < 4) (hct : ct < 16384) (hn : n ≤ 65536) (h1 : 1 ≤ n) : hdN u s ap pt ct n < 35184372088832 := by
  unfold hdN hd1; omega
theorem hdV_hdL (u s ap pt ct n : Nat) (R : List Nat) (hu : u < 2) (hs : s < 2) (hap : ap < 2048) (hpt : pt < 4) (hct : ct < 16384) (hn : n ≤ 65536) (h1 : 1 ≤ n) : hdV (hdL u s ap pt ct n ++ R) 6 = hdN u s ap pt ct n := by
  have hl := hdN_lt u s ap pt ct n hu hs hap hpt hct hn h1
  have e : ∀ k, k < 6 → nth (hdL u s ap pt ct n ++ R) k = hdB (hdN u s ap pt ct n) k := fun k hk => nth_hdL u s ap pt ct n k hk R
  simp only [hdV]
  rw [e 0 (by decide), e 1 (by decide), e 2 (by decide), e 3 (by decide), e 4 (by decide), e 5 (by decide)]
  generalize hdN u s ap pt ct n = H at hl
  unfold hdB
  simp only [Nat.reduceMul, Nat.reduceSub, Nat.reducePow, Nat.div_one]
  omega
/-- what was encoded is decoded, whatever lies behind it -/
theorem dc_enc (up se : Bool) (ap pt ct : Int) (D R : List Nat) (h : mayE ap pt ct D.length = 0) :
    dcE (encP up se ap pt ct D ++ R) = 0 ∧ dcU (encP up se ap pt ct D ++ R) = up ∧ dcS (encP up se ap pt ct D ++ R) = se ∧ (dcA (encP up se ap pt ct D ++ R) : Int) = ap ∧ (dcP (encP up se ap pt ct D ++ R) : Int) = pt ∧ (dcC (encP up se ap pt ct D ++ R) : Int) = ct ∧
      dcK (encP up se ap pt ct D ++ R) = D.length + 6 ∧ dcD (encP up se ap pt ct D ++ R) = D := by
  obtain ⟨⟨⟨a1, a2⟩, ⟨p1, p2⟩, c1, c2⟩, n1, n2⟩ := mayE_ok h
  obtain ⟨ap', rfl⟩ := Int.eq_ofNat_of_zero_le a1
  obtain ⟨pt', rfl⟩ := Int.eq_ofNat_of_zero_le p1
  obtain ⟨ct', rfl⟩ := Int.eq_ofNat_of_zero_le c1
  have hu := toNat_le up
  have hs := toNat_le se
  have eB : encP up se (ap' : Int) (pt' : Int) (ct' : Int) D ++ R = hdL up.toNat se.toNat ap' pt' ct' D.length ++ (D ++ R) := by
    unfold encP; rw [if_pos h, List.append_assoc]; rfl
  rw [eB]
  have eH := hdV_hdL up.toNat se.toNat ap' pt' ct' D.length (D ++ R) hu hs (by omega) (by omega) (by omega) n2 n1
  have hL : (hdL up.toNat se.toNat ap' pt' ct' D.length ++ (D ++ R)).length = 6 + (D.length + R.length) := by rw [List.length_append, hdL_len, List.length_append]
  have hd : (hdL up.toNat se.toNat ap' pt' ct' D.length ++ (D ++ R)).drop 6 = D ++ R := by
    have := List.drop_left (l₁ := hdL up.toNat se.toNat ap' pt' ct' D.length) (l₂ := D ++ R)
    rw [hdL_len] at this
    exact this
  have eN : hdN up.toNat se.toNat ap' pt' ct' D.length = ((((up.toNat * 2 + se.toNat) * 2048 + ap') * 4 + pt') * 16384 + ct') * 65536 + (D.length - 1) := rfl
  have hE : dcE (hdL up.toNat se.toNat ap' pt' ct' D.length ++ (D ++ R)) = 0 := by
    unfold dcE
    rw [hL, eH, eN, if_neg (by omega), if_neg (by omega), if_neg (by omega)]
  refine ⟨hE, ?_, ?_, ?_, ?_, ?_, ?_, ?_⟩
  · unfold dcU
    rw [if_pos hE, eH, eN]
    have : (((((up.toNat * 2 + se.toNat) * 2048 + ap') * 4 + pt') * 16384 + ct') * 65536 + (D.length - 1)) / 2 ^ 44 % 2 = up.toNat := by omega
    rw [this]
    cases up <;> rfl
  · unfold dcS
    rw [if_pos hE, eH, eN]
    have : (((((up.toNat * 2 + se.toNat) * 2048 + ap') * 4 + pt') * 16384 + ct') * 65536 + (D.length - 1)) / 2 ^ 43 % 2 = se.toNat := by omega
    rw [this]
    cases se <;> rfl
  · unfold dcA
    rw [if_pos hE, eH, eN]
    omega
  · unfold dcP
    rw [if_pos hE, eH, eN]
    omega
  · unfold dcC
    rw [if_pos hE, eH, eN]
    omega
  · unfold dcK
    rw [if_pos hE, eH, eN]
    omega
  · unfold dcD
    rw [if_pos hE, eH, eN, hd]
    have : (((((up.toNat * 2 + se.toNat) * 2048 + ap') * 4 + pt') * 16384 + ct') * 65536 + (D.length - 1)) % 65536 + 1 = D.length := by omega
    rw [this]
    exact List.take_left

theorem own_baseG {w : World} {base : Nat} {e : TypeId} {sz : Nat} {v : Value} {n : Nat} {xs : List Value} (h : w.ownsRow base e sz v n xs) : w.ownsRow 0 e sz v n xs := by
  refine ⟨h.1, ?_⟩
  rcases h.2 with h2 | ⟨g, cap, cur, h3, h4, h5⟩
  · exact .inl h2
  · exact .inr ⟨g, cap, cur, h3, Nat.zero_le _, h5⟩
/-- 'append(v, x...)', v the call's own, x not empty, whatever the elements are -/
theorem wpList_apS (w : World) {ops : Array Oper} {rest : List Oper} {o : Oper} {a : Act} {Q : Exit → Act → World → Prop} (hg : o.guard = none) (s x : Operand) (t e : TypeId) (i0 : TypeInfo) (z : Value) (sz by' : Nat) (hu : Try.prog.underlying t = some (.slice e)) (hi : Try.prog.info? e = some i0) (hz0 : i0.zero = some z) (hz1 : i0.size = sz) (hz2 : i0.bytes = by') (hzs : z.cells.size = sz) (hsz : 0 < sz)
    (hop : o.op = Op.call { callee := .builtin .append, args := #[s, x], argTypes := #[t, t] }) (v : Value) (n : Nat) (xs : List Value) (hs : a.eval s = v)
    (hown : w.ownsRow 0 e sz v n xs) (ad : Addr) (m c : Nat) (news : List Value) (hx : a.eval x = .slice (some ad) m c) (hn : news.length = m * sz)
    (hc : ∀ j u, news[j]? = some u → w.cell? (ad.add j) = some u) (h1 : ∀ u, u ∈ news → u.oneCell' = true) (hm : 0 < m) (hb1 : n + m ≤ maxLen) (hb2 : (n + m) * by' ≤ 140737488355328)
    (hK : ∀ g cap w', (v.ownBlock = some g ∨ w.heap.size ≤ g) → w.grownBy w' v.ownBlock → w'.ownsRow 0 e sz (.slice (some ⟨g, 0, none⟩) (n + m) cap) (n + m) (xs ++ news) →
      wpList Try.prog ops Q rest (a.put o.dst (.slice (some ⟨g, 0, none⟩) (n + m) cap)) w') :
    wpList Try.prog ops Q (o :: rest) a w := by
  have grow : ∀ (ao : Option Addr) (cap : Nat), v = .slice ao n cap → (ao = none → n = 0 ∧ cap = 0) → (∀ b, ao = some b → ∀ j u, xs[j]? = some u → w.cell? (b.add j) = some u) → cap < n + m → wpList Try.prog ops Q (o :: rest) a w := by
    intro ao cap hv hnone hcells hfull
    refine wpList_append_grows w hg s x t hop e i0 z sz by' hu hi hz0 hz1 hz2 hzs hsz ao n cap xs (by rw [hs, hv]) hnone (by rw [hown.1]) hcells ad m c news hx hn hc h1 hfull hb1 hb2 ?_
    intro v' w' hown' hgr
    rcases hown'.2 with ⟨_, h0⟩ | ⟨g, cap', cur, rfl, hge, hrest⟩
    · omega
    · exact hK g cap' w' (.inr hge) (grown_weak hgr _) (own_baseG hown')
  rcases hown.2 with ⟨rfl, h0⟩ | ⟨g, cap, cur, rfl, hbase, hh, hle, hmax, hsz', htake⟩
  · subst h0
    exact grow none 0 rfl (fun _ => ⟨rfl, rfl⟩) (fun b hb => by cases hb) (by omega)
  · by_cases hroom : n + m ≤ cap
    · refine wpList_append_fits w hg s x t hop 0 e i0 sz hu hi hz1 g n cap xs hs hown ad m c news hx hn hc h1 hroom ?_
      intro w' hown' hgr
      exact hK g cap w' (.inl rfl) hgr hown'
    · refine grow (some ⟨g, 0, none⟩) cap rfl (fun h => by cases h) ?_ (by omega)
      intro b hb j u hu
      cases hb
      exact hown.cells (g := g) rfl j u hu

/-- packets in a row of the call's own -/
def flatP (ps : List Pk) : List Value := ps.flatMap Pk.cells
theorem flatP_len (ps : List Pk) : (flatP ps).length = ps.length * 6 := by
  induction ps with
  | nil => rfl
  | cons p ps ih => simp only [flatP, List.flatMap_cons, List.length_append, List.length_cons] at *; rw [ih]; simp [Pk.cells]; omega
theorem flatP_add (ps : List Pk) (p : Pk) : flatP ps ++ p.cells = flatP (ps ++ [p]) := by simp [flatP]
theorem flatP_get (ps : List Pk) (i j : Nat) (hi : i < ps.length) (hj : j < 6) : (flatP ps)[i * 6 + j]? = (ps[i]).cells[j]? := by
  induction ps generalizing i with
  | nil => simp at hi
  | cons p ps ih =>
    have hc : p.cells.length = 6 := rfl
    simp only [flatP, List.flatMap_cons]
    cases i with
    | zero =>
      rw [List.getElem?_append_left (by rw [hc]; omega)]
      simp
    | succ i =>
      rw [List.getElem?_append_right (by rw [hc]; omega), hc, show (i + 1) * 6 + j - 6 = i * 6 + j by omega]
      exact ih i (by simpa using hi)
structure OwP (w : World) (lo : Nat) (a : Option Addr) (n cap : Nat) (ps : List Pk) : Prop where
  own : w.ownsRow 0 64 6 (.slice a n cap) n (flatP ps)
  len : ps.length = n
  new : ∀ g, (Value.slice a n cap).ownBlock = some g → lo ≤ g
theorem OwP.nil (w : World) (lo : Nat) : OwP w lo none 0 0 [] := ⟨World.ownsRow_nil _ _ _ _, rfl, fun g h => by simp [Value.ownBlock] at h⟩
theorem OwP.kept {w w' : World} {lo : Nat} {a : Option Addr} {n cap : Nat} {ps : List Pk} {r : Option Nat} (h : OwP w lo a n cap ps) (hg : w.grownBy w' r) (hne : (Value.slice a n cap).ownBlock = none ∨ (Value.slice a n cap).ownBlock ≠ r) : OwP w' lo a n cap ps := ⟨h.own.kept hg hne, h.len, h.new⟩
theorem OwP.keep {w w' : World} {lo : Nat} {a : Option Addr} {n cap : Nat} {ps : List Pk} (h : OwP w lo a n cap ps) (hg : w.grownBy w' none) : OwP w' lo a n cap ps := h.kept hg (by cases (Value.slice a n cap).ownBlock <;> simp)
theorem OwP.cases {w : World} {lo : Nat} {a : Option Addr} {n cap : Nat} {ps : List Pk} (h : OwP w lo a n cap ps) : (a = none ∧ n = 0 ∧ cap = 0) ∨ ∃ g, a = some ⟨g, 0, none⟩ ∧ lo ≤ g ∧ g < w.heap.size := by
  rcases h.own.2 with ⟨h1, h2⟩ | ⟨g, cap', cur, h1, _, h3, _⟩
  · simp only [Value.slice.injEq] at h1; exact .inl h1
  · simp only [Value.slice.injEq] at h1
    obtain ⟨rfl, _, _⟩ := h1
    exact .inr ⟨g, rfl, h.new g rfl, (Array.getElem?_eq_some_iff.1 h3).1⟩
theorem OwP.cell {w : World} {lo g n cap : Nat} {ps : List Pk} (h : OwP w lo (some ⟨g, 0, none⟩) n cap ps) (i j : Nat) (hi : i < ps.length) (hj : j < 6) : w.cell? ⟨g, i * 6 + j, none⟩ = (ps[i]).cells[j]? := by
  have hk : i * 6 + j < (flatP ps).length := by rw [flatP_len]; omega
  obtain ⟨u, hu⟩ : ∃ u, (flatP ps)[i * 6 + j]? = some u := ⟨_, List.getElem?_eq_getElem hk⟩
  have := h.own.cells (g := g) rfl (i * 6 + j) u hu
  rw [addr_add', Nat.zero_add] at this
  rw [this, ← hu, flatP_get ps i j hi hj]
theorem Try.info_pk3 : (Try.prog.info? 64).map (fun i => (i.zero, i.size, i.bytes)) = some (some (.agg #[.bool false, .bool false, .int .i64 0, .int .i64 0, .int .i64 0, .slice none 0 0]), 6, 56) := by kernel_rfl
theorem cells_six (w : World) (p : Pk) (j : Nat) (u : Value) (h : p.cells[j]? = some u) : (w.alloc (.cells p.cells.toArray 64)).cell? ((⟨w.heap.size, 0, none⟩ : Addr).add j) = some u := by
  rw [addr_add', Nat.zero_add]
  have hb := heap_alloc_new w (.cells p.cells.toArray 64)
  rw [cell_of_row _ _ _ _ _ _ hb]
  simpa using h
/-- 'append(v, p)' -/
theorem wpList_psP (w0 w : World) (p : Pk) {ops : Array Oper} {rest : List Oper} {o : Oper} {a : Act} {Q : Exit → Act → World → Prop} (hg : o.guard = none) (s x : Operand)
    (hop : o.op = Op.call { callee := .builtin .append, args := #[s, x], argTypes := #[107, 107] }) (ao : Option Addr) (m co : Nat) (ps : List Pk) (hs : a.eval s = .slice ao m co)
    (hA : OwP w w0.heap.size ao m co ps) (hG : w0.grownBy w none) (hx : a.eval x = .slice (some ⟨w.heap.size, 0, none⟩) 1 1) (hb : m + 1 ≤ 1000000)
    (hK : ∀ gx cx w', OwP w' w0.heap.size (some ⟨gx, 0, none⟩) (m + 1) cx (ps ++ [p]) → w0.grownBy w' none → w.grownBy w' (Value.slice ao m co).ownBlock → wpList Try.prog ops Q rest (a.put o.dst (.slice (some ⟨gx, 0, none⟩) (m + 1) cx)) w') :
    wpList Try.prog ops Q (o :: rest) a (w.alloc (.cells p.cells.toArray 64)) := by
  obtain ⟨i0, hi, hz0, hz1, hz2⟩ : ∃ i0, Try.prog.info? 64 = some i0 ∧ i0.zero = some (.agg #[.bool false, .bool false, .int .i64 0, .int .i64 0, .int .i64 0, .slice none 0 0]) ∧ i0.size = 6 ∧ i0.bytes = 56 := by
    have h := Try.info_pk3
    cases hh : Try.prog.info? 64 with
    | none => rw [hh] at h; simp at h
    | some i0 => rw [hh] at h; simp at h; exact ⟨i0, rfl, h.1, h.2.1, h.2.2⟩
  have gA := World.grownBy_alloc w (.cells p.cells.toArray 64) none
  refine wpList_apS _ hg s x 107 64 i0 _ 6 56 Try.underlying107 hi hz0 hz1 hz2 rfl (by decide) hop (.slice ao m co) m (flatP ps) hs (hA.own.alloc _) ⟨w.heap.size, 0, none⟩ 1 1 p.cells hx rfl (cells_six w p) (by simp [Pk.cells, Value.oneCell']) (by decide) (by unfold maxLen; omega) (by omega) ?_
  intro g cap w' hgx hgr hown
  rw [flatP_add] at hown
  have hsz := hG.size
  refine hK g cap w' ⟨hown, by rw [List.length_append, hA.len]; rfl, fun y hy => ?_⟩ (grown_far (grown_trans hG gA) hgr (fun y hy => hA.new y hy)) (grown_trans (grown_weak gA _) hgr)
  have e : g = y := Option.some.inj hy
  subst e
  rcases hgx with h | h
  · exact hA.new g h
  · simp at h; omega

def kr0 : Rw := ⟨none, 0, 0, []⟩
def Rw.v (r : Rw) : Value := .slice r.a r.n r.c
def flatR (rs : List Rw) : List Value := rs.map Rw.v
/-- rows of bytes, all of them in memory of the call's own -/
structure OwR (w : World) (lo : Nat) (a : Option Addr) (n c : Nat) (rs : List Rw) : Prop where
  own : w.ownsRow 0 22 1 (.slice a n c) n (flatR rs)
  len : rs.length = n
  new : ∀ g, (Value.slice a n c).ownBlock = some g → lo ≤ g
  each : ∀ r, r ∈ rs → Ans w lo r.a r.n r.c r.D
  apart : rs.Pairwise fun r s => ∀ g, r.v.ownBlock = some g → s.v.ownBlock ≠ some g
theorem OwR.keep {w w' : World} {lo : Nat} {a : Option Addr} {n c : Nat} {rs : List Rw} (h : OwR w lo a n c rs) (hg : w.grownBy w' none) : OwR w' lo a n c rs :=
  ⟨h.own.kept hg (by cases (Value.slice a n c).ownBlock <;> simp), h.len, h.new, fun r hr => (h.each r hr).keep hg, h.apart⟩
theorem OwR.wide {w : World} {lo lo' : Nat} {a : Option Addr} {n c : Nat} {rs : List Rw} (h : OwR w lo a n c rs) (hl : lo' ≤ lo) : OwR w lo' a n c rs :=
  ⟨h.own, h.len, fun g hg => Nat.le_trans hl (h.new g hg), fun r hr => (h.each r hr).wide hl, h.apart⟩
theorem OwR.nil (w : World) (lo : Nat) : OwR w lo none 0 0 [] := ⟨World.ownsRow_nil _ _ _ _, rfl, fun g h => by simp [Value.ownBlock] at h, fun r h => by simp at h, List.Pairwise.nil⟩
theorem OwR.rdr {w : World} {lo : Nat} {a : Option Addr} {n c : Nat} {rs : List Rw} (h : OwR w lo a n c rs) : RdR w a n c (fun i => rs.getD i kr0) := by
  have hl := h.len
  have hd : ∀ i, i < n → Rd w (rs.getD i kr0).a (rs.getD i kr0).n (rs.getD i kr0).c (rs.getD i kr0).D := fun i hi => by
    have hm : rs.getD i kr0 ∈ rs := by rw [List.getD_eq_getElem?_getD, List.getElem?_eq_getElem (by omega)]; exact List.getElem_mem _
    exact (h.each _ hm).rd
  rcases h.own.2 with ⟨h1, h2⟩ | ⟨g, cap, cur, h1, _, hh, hle, hmx, _, _⟩
  · simp only [Value.slice.injEq] at h1
    obtain ⟨_, h3, h4⟩ := h1
    exact ⟨by omega, by unfold maxLen; omega, fun h0 => by omega, hd⟩
  · have h1' := h1
    simp only [Value.slice.injEq] at h1'
    obtain ⟨rfl, _, rfl⟩ := h1'
    refine ⟨hle, hmx, fun h0 => ⟨g, 0, rfl, (Array.getElem?_eq_some_iff.1 hh).1, fun i hi => ?_⟩, hd⟩
    have hu : (flatR rs)[i]? = some (rs.getD i kr0).v := by
      unfold flatR
      rw [List.getElem?_map, List.getElem?_eq_getElem (by omega), List.getD_eq_getElem?_getD, List.getElem?_eq_getElem (by omega)]
      rfl
    have := h.own.cells (g := g) rfl i _ hu
    rw [addr_add', Nat.zero_add] at this
    rw [Nat.zero_add]
    exact this
def zr : Value := .slice none 0 0
theorem Try.info_rw : (Try.prog.info? 22).map (fun i => (i.zero, i.size, i.bytes)) = some (some zr, 1, 24) := by kernel_rfl
/-! packets one behind the other -/
def enP (p : Pk) : List Nat := encP p.up p.se p.ap p.pt p.ct p.D
abbrev okP (p : Pk) : Prop := mayE p.ap p.pt p.ct p.D.length = 0
def gdP (F : Nat → Pk) : Nat → List Pk
  | 0 => []
  | k + 1 => if okP (F k) then gdP F k ++ [F k] else gdP F k
def flB (ps : List Pk) : List Nat := ps.flatMap enP
theorem flB_add (ps : List Pk) (p : Pk) : flB (ps ++ [p]) = flB ps ++ enP p := by simp [flB]
theorem flB_cons (p : Pk) (ps : List Pk) : flB (p :: ps) = enP p ++ flB ps := by simp [flB]
theorem enP_len (p : Pk) (h : okP p) : (enP p).length = p.D.length + 6 := by
  unfold enP encP
  rw [if_pos h, List.length_append, hdL_len]; omega
theorem okP_len (p : Pk) (h : okP p) : 1 ≤ p.D.length ∧ p.D.length ≤ 65536 := (mayE_ok h).2
theorem gdP_ok (F : Nat → Pk) (k : Nat) : ∀ p, p ∈ gdP F k → okP p ∧ ∃ i, i < k ∧ p = F i := by
  induction k with
  | zero => intro p h; cases h
  | succ k ih =>
    intro p h
    by_cases ho : okP (F k)
    · rw [show gdP F (k + 1) = gdP F k ++ [F k] from if_pos ho] at h
      rcases List.mem_append.1 h with h | h
      · obtain ⟨h1, i, hi, e⟩ := ih p h
        exact ⟨h1, i, by omega, e⟩
      · have e : p = F k := by simpa using h
        exact ⟨by rw [e]; exact ho, k, by omega, e⟩
    · rw [show gdP F (k + 1) = gdP F k from if_neg ho] at h
      obtain ⟨h1, i, hi, e⟩ := ih p h
      exact ⟨h1, i, by omega, e⟩
theorem gdP_len (F : Nat → Pk) (k : Nat) : (gdP F k).length ≤ k := by
  induction k with
  | zero => exact Nat.le_refl _
  | succ k ih =>
    by_cases ho : okP (F k)
    · rw [show gdP F (k + 1) = gdP F k ++ [F k] from if_pos ho, List.length_append]; simp; exact ih
    · rw [show gdP F (k + 1) = gdP F k from if_neg ho]; omega
theorem flB_le (ps : List Pk) (h : ∀ p, p ∈ ps → okP p) : (flB ps).length ≤ ps.length * 65542 := by
  induction ps with
  | nil => exact Nat.le_refl _
  | cons p ps ih =>
    rw [flB_cons, List.length_append, enP_len p (h p (List.mem_cons_self ..)), List.length_cons]
    have := (okP_len p (h p (List.mem_cons_self ..))).2
    have := ih (fun q hq => h q (List.mem_cons_of_mem _ hq))
    omega
/-- what is left of the row behind k packets -/
def rsP (ps : List Pk) (J : List Nat) (k : Nat) : List Nat := flB (ps.drop k) ++ J
theorem rsP_step (ps : List Pk) (J : List Nat) (k : Nat) (h : k < ps.length) : rsP ps J k = enP ps[k] ++ rsP ps J (k + 1) := by
  unfold rsP
  rw [List.drop_eq_getElem_cons h, flB_cons, List.append_assoc]
theorem rsP_drop (ps : List Pk) (J : List Nat) (k : Nat) (h : k < ps.length) (ho : okP ps[k]) : (rsP ps J k).drop (ps[k].D.length + 6) = rsP ps J (k + 1) := by
  rw [rsP_step ps J k h, ← enP_len _ ho, List.drop_left]
theorem rsP_end (ps : List Pk) (J : List Nat) : rsP ps J ps.length = J := by
  unfold rsP
  rw [List.drop_length]; rfl
theorem rsP_len (ps : List Pk) (J : List Nat) (k : Nat) (h : k < ps.length) (ho : okP ps[k]) : (rsP ps J k).length = ps[k].D.length + 6 + (rsP ps J (k + 1)).length := by
  rw [rsP_step ps J k h, List.length_append, enP_len _ ho]
/-- rows of bytes and of packets never share a block -/
theorem apart_bp {w : World} {lo lo' : Nat} {a b : Option Addr} {n m cap cap' : Nat} {L : List Nat} {ps : List Pk} (h : Ans w lo a n cap L) (k : OwP w lo' b m cap' ps) :
    (Value.slice a n cap).ownBlock = none ∨ (Value.slice a n cap).ownBlock ≠ (Value.slice b m cap').ownBlock := by
  rcases h.own.2 with ⟨h1, h2⟩ | ⟨g, c1, cur, h1, _, h3, _⟩
  · simp only [Value.slice.injEq] at h1
    obtain ⟨rfl, rfl, rfl⟩ := h1
    exact .inl rfl
  · simp only [Value.slice.injEq] at h1
    obtain ⟨rfl, _, _⟩ := h1
    refine .inr fun e => ?_
    rcases k.own.2 with ⟨k1, k2⟩ | ⟨g', c2, cur', k1, _, k3, _⟩
    · simp only [Value.slice.injEq] at k1
      obtain ⟨rfl, rfl, rfl⟩ := k1
      simp [Value.ownBlock] at e
    · simp only [Value.slice.injEq] at k1
      obtain ⟨rfl, _, _⟩ := k1
      have e' : g = g' := Option.some.inj e
      subst e'
      rw [h3] at k3
      have := Option.some.inj k3
      injection this with _ ht
      exact absurd ht (by decide)

theorem RdP.keep {w w' : World} {a : Option Addr} {n cap : Nat} {F : Nat → Pk} (h : RdP w a n cap F) (hg : w.grownBy w' none) : RdP w' a n cap F :=
  ⟨h.le, h.max, fun h0 => by
    obtain ⟨b, off, e, hb, hc⟩ := h.at' h0
    refine ⟨b, off, e, Nat.lt_of_lt_of_le hb hg.size, fun i hi j hj => ?_⟩
    rw [← hc i hi j hj]
    unfold World.cell?
    rw [hg.block b hb (by simp)], fun i hi => (h.data i hi).keep hg⟩
theorem Ans.up {w : World} {lo : Nat} {a : Option Addr} {n cap : Nat} {L : List Nat} (h : Ans w lo a n cap L) : w.ownsRow lo 5 1 (.slice a n cap) n (bys L) := by
  refine ⟨h.own.1, ?_⟩
  rcases h.own.2 with h1 | ⟨g, c1, cur, h1, h2, h3⟩
  · exact .inl h1
  · refine .inr ⟨g, c1, cur, h1, ?_, h3⟩
    simp only [Value.slice.injEq] at h1
    obtain ⟨rfl, _, _⟩ := h1
    exact h.new g rfl
/-- 'append(v, x...)', v an answer, x whatever bytes -/
theorem wpList_joinZ {w : World} {ops : Array Oper} {rest : List Oper} {o : Oper} {a : Act} {Q : Exit → Act → World → Prop} (hg : o.guard = none) (s x : Operand)
    (hop : o.op = Op.call { callee := .builtin .append, args := #[s, x], argTypes := #[22, 22] }) (ao : Option Addr) (m co lo : Nat) (D : List Nat) (hs : a.eval s = .slice ao m co)
    (hA : Ans w lo ao m co D) (hlo : lo ≤ w.heap.size) (ax : Option Addr) (nx cx : Nat) (X : List Nat) (hx : a.eval x = .slice ax nx cx) (hR : Rd w ax nx cx X) (hb : m + nx ≤ 200000000000000)
    (hK : ∀ a' c' w', Ans w' lo a' (m + nx) c' (D ++ X) → w.grownBy w' (Value.slice ao m co).ownBlock → wpList Try.prog ops Q rest (a.put o.dst (.slice a' (m + nx) c')) w') :
    wpList Try.prog ops Q (o :: rest) a w := by
  obtain ⟨i0, hi, hz0, hz1, hz2⟩ := info_parts Try.info_u8
  cases ax with
  | none =>
    have hc0 : cx = 0 := hR.nil rfl
    have hn0 : nx = 0 := by have := hR.le; omega
    subst hc0 hn0
    have e : X = [] := List.eq_nil_of_length_eq_zero hR.len
    subst e
    refine wpList_append_own_none hg s x 22 hop 0 5 i0 1 Try.underlying22 hi (.slice ao m co) m (bys D) hs hA.own hx ?_
    exact hK ao co w (by rw [List.append_nil]; exact hA) (World.grownBy.refl _ _)
  | some ad =>
    refine wpList_append_own_wide w hg s x 22 hop lo 5 i0 (.int .u8 0) 1 1 Try.underlying22 hi hz0 hz1 hz2 rfl (by decide) (.slice ao m co) m (bys D) hs hA.up ad nx cx (bys X) hx (by rw [bys_length, hR.len]; omega) ?_ (bys_one _) (by unfold maxLen; omega) (by omega) hlo ?_
    · intro j u hu
      have hj : j < X.length := by
        have := (List.getElem?_eq_some_iff.1 hu).1
        rw [bys_length] at this; exact this
      have h0 : 0 < nx := by rw [hR.len] at hj; omega
      obtain ⟨b, off, e, _, hc⟩ := hR.at' h0
      cases e
      rw [nth_bys X j hj] at hu
      rw [← hu, addr_add]
      exact hc j (by rw [← hR.len]; exact hj)
    · intro v' w' hown hgr _
      rw [bys_app] at hown
      have hown' := hown
      rcases hown.2 with ⟨h1, h2⟩ | ⟨g, c1, cur, h1, h2, h3⟩
      · subst h1
        have e0 : m + nx = 0 := h2
        have hq := hK none 0 w' ⟨by rw [e0]; exact own_base (by rw [e0] at hown'; exact hown'), isB_append hA.byte hR.byte, fun g h => by simp [Value.ownBlock] at h⟩ hgr
        rw [e0] at hq
        exact hq
      · subst h1
        exact hK (some ⟨g, 0, none⟩) c1 w' ⟨own_base hown', isB_append hA.byte hR.byte, fun g' h => by have e : g = g' := Option.some.inj h; omega⟩ hgr
theorem RdP.six {w wz : World} {b off n cap : Nat} {F : Nat → Pk} (h : RdP w (some ⟨b, off, none⟩) n cap F) (hz : w.grownBy wz none) (i : Nat) (hi : i < n) :
    wz.cell? ⟨b, off + i * 6, none⟩ = some (.bool (F i).up) ∧ wz.cell? ⟨b, off + i * 6 + 1, none⟩ = some (.bool (F i).se) ∧ wz.cell? ⟨b, off + i * 6 + 2, none⟩ = some (.int .i64 (F i).ap) ∧ wz.cell? ⟨b, off + i * 6 + 3, none⟩ = some (.int .i64 (F i).pt) ∧ wz.cell? ⟨b, off + i * 6 + 4, none⟩ = some (.int .i64 (F i).ct) ∧ wz.cell? ⟨b, off + i * 6 + 5, none⟩ = some (.slice (F i).a (F i).n (F i).c) := by
  obtain ⟨_, _, e, _, hc⟩ := (h.keep hz).at' (by omega)
  cases e
  exact ⟨hc i hi 0 (by decide), hc i hi 1 (by decide), hc i hi 2 (by decide), hc i hi 3 (by decide), hc i hi 4 (by decide), hc i hi 5 (by decide)⟩
theorem swap_own {x y : Option Nat} (h : x = none ∨ x ≠ y) : y = none ∨ y ≠ x := by
  cases y with
  | none => exact .inl rfl
  | some q =>
    refine .inr fun e => ?_
    rcases h with h | h
    · rw [h] at e; cases e
    · exact h e.symm
theorem rd_from {w : World} {b of nr cr m : Nat} {L : List Nat} (h : Rd w (some ⟨b, of, none⟩) nr cr L) (hm : m ≤ nr) : Rd w (some ⟨b, of + m, none⟩) (nr - m) (cr - m) (L.drop m) := by
  have := h.part m (nr - m) (by omega)
  rwa [List.take_of_length_le (by rw [List.length_drop, h.len]; omega)] at this
theorem rd_from0 {w : World} {b of nr m : Nat} {L : List Nat} (h : Rd w (some ⟨b, of, none⟩) nr m L) (hm : m ≤ nr) : Rd w (some ⟨b, of, none⟩) 0 0 (L.drop m) := by
  have e : L.drop m = [] := List.drop_eq_nil_of_le (by have := h.le; rw [h.len]; omega)
  rw [e]
  exact ⟨rfl, Nat.le_refl _, Nat.zero_le _, fun h => (by cases h), (fun x hx => by cases hx), fun h => absurd h (by decide)⟩
theorem two_newB (w : World) : Rd (w.alloc (.cells #[.int .u8 170, .int .u8 187] 5)) (some ⟨w.heap.size, 0, none⟩) 2 2 [170, 187] := by
  refine Ans.rd (lo := 0) ⟨⟨rfl, .inr ⟨w.heap.size, 2, #[.int .u8 170, .int .u8 187], rfl, Nat.zero_le _, heap_alloc_new w _, Nat.le_refl _, by decide, rfl, rfl⟩⟩, ?_, fun g hg => Nat.zero_le _⟩
  intro x hx
  simp at hx
  omega
theorem strB_one : strB [0, 5, 192, 7, 0, 1, 170, 187] = ⟨#[0, 5, 192, 7, 0, 1, 170, 187]⟩ := by decide
theorem own_apart {w : World} {b b' : Nat} {e e' : TypeId} {s s' : Nat} {v v' : Value} {n n' : Nat} {xs xs' : List Value} (h : w.ownsRow b e s v n xs) (k : w.ownsRow b' e' s' v' n' xs') (hne : e ≠ e') (g : Nat) (hg : v.ownBlock = some g) : v'.ownBlock ≠ some g := by
  intro hg'
  rcases h.2 with ⟨rfl, _⟩ | ⟨x, c, cur, rfl, _, hh, _⟩
  · simp [Value.ownBlock] at hg
  · rcases k.2 with ⟨rfl, _⟩ | ⟨x', c', cur', rfl, _, hh', _⟩
    · simp [Value.ownBlock] at hg'
    · have e1 : x = g := Option.some.inj hg
      have e2 : x' = g := Option.some.inj hg'
      subst e1 e2
      rw [hh] at hh'
      cases hh'
      exact hne rfl
theorem ne_u8 : (22 : TypeId) ≠ 5 := by decide
theorem one_row (w : World) (v : Value) : ∀ j u, [v][j]? = some u → (w.alloc (.cells #[v] 22)).cell? ((⟨w.heap.size, 0, none⟩ : Addr).add j) = some u := by
  intro j u h
  rw [addr_add', Nat.zero_add]
  match j with
  | 0 => rw [← h]; exact (BxS.new w 22 #[v]).cell 0 (by show 0 < 1; decide)
  | j + 1 => simp at h
/-- a row more -/
theorem OwR.push {w w' : World} {lo : Nat} {a : Option Addr} {n c : Nat} {rs : List Rw} {r : Rw} {g c' : Nat} (h : OwR w lo a n c rs) (hr : Ans w lo r.a r.n r.c r.D) (hap : ∀ q, q ∈ rs → ∀ g, q.v.ownBlock = some g → r.v.ownBlock ≠ some g)
    (hg : w.grownBy w' (Value.slice a n c).ownBlock) (ho : w'.ownsRow 0 22 1 (.slice (some ⟨g, 0, none⟩) (n + 1) c') (n + 1) (flatR rs ++ [r.v])) (hn : (Value.slice a n c).ownBlock = some g ∨ lo ≤ g) : OwR w' lo (some ⟨g, 0, none⟩) (n + 1) c' (rs ++ [r]) := by
  have keep : ∀ q : Rw, Ans w lo q.a q.n q.c q.D → Ans w' lo q.a q.n q.c q.D := fun q hq => by
    refine hq.kept hg ?_
    cases e : (Value.slice q.a q.n q.c).ownBlock with
    | none => exact .inl rfl
    | some y =>
      refine .inr (fun e2 => ?_)
      exact own_apart hq.own h.own (fun e => ne_u8 e.symm) y e e2.symm
  refine ⟨by unfold flatR; rw [List.map_append]; exact ho, by rw [List.length_append, h.len]; rfl, fun y hy => ?_, fun q hq => ?_, ?_⟩
  · have e : g = y := Option.some.inj hy
    subst e
    rcases hn with h1 | h1
    · exact h.new g h1
    · exact h1
  · rcases List.mem_append.1 hq with h1 | h1
    · exact keep q (h.each q h1)
    · have e := List.mem_singleton.1 h1
      subst e
      exact keep _ hr
  · refine List.pairwise_append.2 ⟨h.apart, List.pairwise_singleton _ _, fun q hq s hs y hy => ?_⟩
    have e := List.mem_singleton.1 hs
    subst e
    exact hap q hq y hy
theorem kres1 {fn : Func} {p : Tmp} {ty : TypeId} (h : fn.results = #[.cell p ty]) (tmps : Array Value) (P : Program) (w : World) (a : Addr) (v : Value) (ha : tmps.getD p undef = .pointer (some a)) (hl : (loadVar ty a).run P w = .ok v w) :
    (results fn tmps).run P w = .ok v w := by
  simp only [results, h]
  rw [Array.getD_eq_getD_getElem?] at ha
  simp [Sem.run_bind, Result.andThen]
  rw [ha]
  simp [asAddr, hl]
theorem stc_rows (g i : Nat) (p : Option Addr) (l c : Nat) (w : World) (hc : ∃ u, w.cell? ⟨g, i, none⟩ = some u) (hf : w.frozen? ⟨g, i, none⟩ = false) : (Instr.storeAt 81 (.pointer (some ⟨g, i, none⟩)) (.slice p l c)).run Try.prog w = .ok () (w.setCell ⟨g, i, none⟩ (.slice p l c)) := by
  obtain ⟨u, hc⟩ := hc
  simp [go_sem, hc, hf]
/-- all that rows own lies ahead of hi -/
def Bef (hi : Nat) (v : Value) (rs : List Rw) : Prop := (∀ g, v.ownBlock = some g → g < hi) ∧ ∀ r, r ∈ rs → ∀ g, r.v.ownBlock = some g → g < hi
theorem OwR.bef {w : World} {lo : Nat} {a : Option Addr} {n c : Nat} {rs : List Rw} (h : OwR w lo a n c rs) : Bef w.heap.size (.slice a n c) rs := by
  refine ⟨fun g hg => ?_, fun r hr g hg => ?_⟩
  · rcases h.own.2 with ⟨h1, _⟩ | ⟨x, cap, cur, h1, _, hh, _⟩
    · rw [h1] at hg; simp [Value.ownBlock] at hg
    · rw [h1] at hg
      have e : x = g := Option.some.inj hg
      subst e
      exact (Array.getElem?_eq_some_iff.1 hh).1
  · rcases (h.each r hr).cases with ⟨e1, _, _⟩ | ⟨x, e1, _, hx⟩
    · unfold Rw.v at hg; rw [e1] at hg; simp [Value.ownBlock] at hg
    · unfold Rw.v at hg
      rw [e1] at hg
      have e2 : x = g := Option.some.inj hg
      omega
theorem OwR.kept {w w' : World} {lo : Nat} {a : Option Addr} {n c : Nat} {rs : List Rw} {g : Nat} (h : OwR w lo a n c rs) (hg : w.grownBy w' (some g)) (hlt : g < lo) : OwR w' lo a n c rs := by
  have ne : ∀ v : Value, (∀ y, v.ownBlock = some y → lo ≤ y) → v.ownBlock = none ∨ v.ownBlock ≠ some g := fun v hv => by
    cases e : v.ownBlock with
    | none => exact .inl rfl
    | some y => exact .inr (fun e2 => by have e3 := Option.some.inj e2; have := hv y e; omega)
  exact ⟨h.own.kept hg (ne _ h.new), h.len, h.new, fun r hr => (h.each r hr).kept hg (ne _ (h.each r hr).new), h.apart⟩
/-- all blocks but those of p lie as they lay -/
structure Fz (p : Nat → Prop) (w w' : World) : Prop where
  os : w'.os = w.os
  tape : w'.tape = w.tape
  output : w'.output = w.output
  size : w.heap.size ≤ w'.heap.size
  block : ∀ k, k < w.heap.size → ¬ p k → w'.heap[k]? = w.heap[k]?
theorem Fz.refl (p : Nat → Prop) (w : World) : Fz p w w := ⟨rfl, rfl, rfl, Nat.le_refl _, fun _ _ _ => rfl⟩
theorem Fz.step {p : Nat → Prop} {a w w' : World} {r : Option Nat} (f : Fz p a w) (h : w.grownBy w' r) (hr : ∀ k, r = some k → k < a.heap.size → p k) : Fz p a w' :=
  ⟨h.os.trans f.os, h.tape.trans f.tape, h.output.trans f.output, Nat.le_trans f.size h.size, fun k hk hn => (h.block k (Nat.lt_of_lt_of_le hk f.size) (fun e => hn (hr k e.symm hk))).trans (f.block k hk hn)⟩
theorem Fz.trans {p q : Nat → Prop} {a b c : World} (h : Fz p a b) (k : Fz q b c) (hq : ∀ i, i < a.heap.size → q i → p i) : Fz p a c :=
  ⟨k.os.trans h.os, k.tape.trans h.tape, k.output.trans h.output, Nat.le_trans h.size k.size, fun i hi hn => (k.block i (Nat.lt_of_lt_of_le hi h.size) (fun e => hn (hq i hi e))).trans (h.block i hi hn)⟩
theorem Fz.grown {p : Nat → Prop} {a b c : World} (h : a.grownBy b none) (k : Fz p b c) (hp : ∀ i, p i → a.heap.size ≤ i) : a.grownBy c none :=
  ⟨k.os.trans h.os, k.tape.trans h.tape, k.output.trans h.output, Nat.le_trans h.size k.size, fun i hi hn => (k.block i (Nat.lt_of_lt_of_le hi h.size) (fun e => by have := hp i e; omega)).trans (h.block i hi hn)⟩
/-- the blocks that rows own -/
def Ofr (v : Value) (rs : List Rw) (i : Nat) : Prop := v.ownBlock = some i ∨ ∃ r, r ∈ rs ∧ r.v.ownBlock = some i
theorem pair_get {rs : List Rw} (h : rs.Pairwise fun r s => ∀ g, r.v.ownBlock = some g → s.v.ownBlock ≠ some g) (i j : Nat) (hij : i < j) (hj : j < rs.length) : ∀ g, (rs.getD i kr0).v.ownBlock = some g → (rs.getD j kr0).v.ownBlock ≠ some g := by
  have := List.pairwise_iff_getElem.1 h i j (by omega) hj hij
  rw [List.getD_eq_getElem?_getD, List.getElem?_eq_getElem (by omega), List.getD_eq_getElem?_getD, List.getElem?_eq_getElem hj]
  exact this
theorem two_rows (w : World) (u v : Value) : ∀ j x, [u, v][j]? = some x → (w.alloc (.cells #[u, v] 22)).cell? ((⟨w.heap.size, 0, none⟩ : Addr).add j) = some x := by
  intro j x h
  rw [addr_add', Nat.zero_add]
  match j with
  | 0 => rw [← h]; exact (BxS.new w 22 #[u, v]).cell 0 (by show 0 < 2; decide)
  | 1 => rw [← h]; exact (BxS.new w 22 #[u, v]).cell 1 (by show 1 < 2; decide)
  | j + 2 => simp at h
theorem own_ne {w : World} {lo : Nat} {a : Option Addr} {n c : Nat} {D : List Nat} {a' : Option Addr} {n' c' : Nat} {xs : List Value} (hq : Ans w lo a n c D) (h : w.ownsRow 0 22 1 (.slice a' n' c') n' xs) : (Value.slice a n c).ownBlock = none ∨ (Value.slice a n c).ownBlock ≠ (Value.slice a' n' c').ownBlock := by
  cases e : (Value.slice a n c).ownBlock with
  | none => exact .inl rfl
  | some y => exact .inr (fun e2 => own_apart hq.own h (fun e => ne_u8 e.symm) y e e2.symm)
theorem BxS.loadA {w : World} {g : Nat} {t e : TypeId} {k : Nat} {cs : Array Value} (h : BxS w g t cs) (hu : Try.prog.underlying t = some (.array k e)) (hi : (Try.prog.info? t).map (·.size) = some cs.size) :
    (loadVar t ⟨g, 0, none⟩).run Try.prog w = .ok (.agg cs) w := run_loadVar_row w g t t cs (0, 0) (.array k e) h hu rfl hi
theorem kres_cell1 {fn : Func} {p : Tmp} {ty : TypeId} (h : fn.results = #[.cell p ty]) (tmps : Array Value) (P : Program) (w : World) (a : Addr) (v : Value) (ha : tmps.getD p undef = .pointer (some a)) (hl : (loadVar ty a).run P w = .ok v w) :
    (results fn tmps).run P w = .ok v w := by
  simp only [results, h]
  rw [Array.getD_eq_getD_getElem?] at ha
  simp [Sem.run_bind, Result.andThen]
  rw [ha]
  simp [asAddr, hl]
/-- five bytes -/
def fvA (x0 x1 x2 x3 x4 : Nat) : Array Value := #[.int .u8 x0, .int .u8 x1, .int .u8 x2, .int .u8 x3, .int .u8 x4]
/-- an order's name: its craft and two bits -/
def naN (cr : Nat) (bp co : Bool) : Nat := bp.toNat * 8192 + co.toNat * 4096 + cr
def hoL (cr : Nat) (bp co : Bool) (all sq : Nat) : List Nat := [naN cr bp co / 256, naN cr bp co % 256, (all - 1) / 256, (all - 1) % 256, sq]
def hoA (cr : Nat) (bp co : Bool) (all sq : Nat) : Array Value := fvA (naN cr bp co / 256) (naN cr bp co % 256) ((all - 1) / 256) ((all - 1) % 256) sq
theorem or_in (h r c : Nat) (hr : r < 4096) (hc : c < 2) : (h * 8192 + r) ||| (c * 4096) = h * 8192 + c * 4096 + r := by
  have e1 : h * 8192 + r = (h * 2 ^ 13) ||| r := (or_nat h r 13 (by omega)).symm
  rw [e1, Nat.or_assoc, Nat.or_comm r, show c * 4096 = c * 2 ^ 12 from rfl, or_nat c r 12 (by omega), or_nat h _ 13 (by omega)]
  omega
/-- an order's bytes -/
def orP (cr : Nat) (bp co : Bool) (sq : Nat) (D : List Nat) : List Nat := hoL cr bp co (D.length + 7) sq ++ D
def orL (cr : Nat) (bp co : Bool) (sq : Nat) (D : List Nat) : List Nat := orP cr bp co sq D ++ [sumB (orP cr bp co sq D) / 256, sumB (orP cr bp co sq D) % 256]
theorem sumB_lt (L : List Nat) : sumB L < 65536 := crN_lt _ _
theorem rd_five {w : World} {g : Nat} {t : TypeId} {x0 x1 x2 x3 x4 : Nat} (h : BxS w g t (fvA x0 x1 x2 x3 x4)) (h0 : x0 < 256) (h1 : x1 < 256) (h2 : x2 < 256) (h3 : x3 < 256) (h4 : x4 < 256) : Rd w (some ⟨g, 0, none⟩) 5 5 [x0, x1, x2, x3, x4] := by
  unfold fvA at h
  obtain ⟨c0, c1, c2, c3, c4⟩ := h.cell5
  refine ⟨rfl, Nat.le_refl _, by unfold maxLen; omega, (fun h => by cases h), (fun x hx => by simp at hx; omega), fun _ => ⟨g, 0, rfl, h.lt, fun i hi => ?_⟩⟩
  rw [Nat.zero_add]
  match i, hi with
  | 0, _ => exact c0
  | 1, _ => exact c1
  | 2, _ => exact c2
  | 3, _ => exact c3
  | 4, _ => exact c4
  | i + 5, h => omega
theorem rd_two (w : World) (z0 z1 : Int) (x0 x1 : Nat) (e0 : z0 = x0) (e1 : z1 = x1) (h0 : x0 < 256) (h1 : x1 < 256) : Rd (w.alloc (.cells #[.int .u8 z0, .int .u8 z1] 5)) (some ⟨w.heap.size, 0, none⟩) 2 2 [x0, x1] := by
  subst e0 e1
  have hB : Blk (w.alloc (.cells #[.int .u8 (x0 : Int), .int .u8 (x1 : Int)] 5)) w.heap.size [x0, x1] := heap_alloc_new w _
  exact hB.rd (by intro x hx; simp at hx; omega) rfl (by decide)
/-- 'make([]byte, 0, n)' in a region that draws -/
theorem step_make0 (w : World) {ops : Array Oper} {o : Oper} {a : Act} {K : Act → World → Prop} {Q : Exit → Act → World → Prop} {E : Prop} (hg : o.guard = none) (l c : Operand)
    (hop : o.op = Op.makeSlice 22 l c) (n : Nat) (C : Int) (hl : a.eval l = .int .i64 0) (hc : a.eval c = .int .i64 C) (hC : C = (n : Int)) (hn : n ≤ 140737488355328)
    (hK : ∀ w', Ans w' w.heap.size (some ⟨w.heap.size, 0, none⟩) 0 n [] → w.grownBy w' none → K (a.put o.dst (.slice (some ⟨w.heap.size, 0, none⟩) 0 n)) w') :
    if Region.wanted o (yielded ops a.tmps) = true then Oper.wp Try.prog o a w K Q else E := by
  have hw : Region.wanted o (yielded ops a.tmps) = true := by simp [Region.wanted, hg]
  rw [if_pos hw]
  obtain ⟨i0, hi, hz0, hz1, hz2⟩ := info_parts Try.info_u8
  obtain ⟨w', hrun, r1, r2⟩ := run_make_own (P := Try.prog) w w.heap.size 22 5 i0 (.int .u8 0) 1 Try.underlying22 hi hz0 hz1 .i64 .i64 n (by rw [hz2]; omega) (by unfold maxLen; omega) (Nat.le_refl _)
  subst hC
  unfold Oper.wp
  simp [execOp, hop, hl, hc, hrun, Result.andThen]
  exact hK w' (own_nil w' w.heap.size _ _ r1 (Nat.le_refl _)) r2
/-- which part of a unit the piece at a place is -/
def ptN (k pc : Nat) : Nat := if pc = 1 then 3 else if k = 0 then 1 else if k + 1 = pc then 2 else 0
theorem step_apS (w : World) {ops : Array Oper} {o : Oper} {a : Act} {K : Act → World → Prop} {Q : Exit → Act → World → Prop} {E : Prop} (hg : o.guard = none) (s x : Operand) (t e : TypeId) (i0 : TypeInfo) (z : Value) (sz by' : Nat) (hu : Try.prog.underlying t = some (.slice e)) (hi : Try.prog.info? e = some i0) (hz0 : i0.zero = some z) (hz1 : i0.size = sz) (hz2 : i0.bytes = by') (hzs : z.cells.size = sz) (hsz : 0 < sz)
    (hop : o.op = Op.call { callee := .builtin .append, args := #[s, x], argTypes := #[t, t] }) (v : Value) (n : Nat) (xs : List Value) (hs : a.eval s = v)
    (hown : w.ownsRow 0 e sz v n xs) (ad : Addr) (m c : Nat) (news : List Value) (hx : a.eval x = .slice (some ad) m c) (hn : news.length = m * sz)
    (hc : ∀ j u, news[j]? = some u → w.cell? (ad.add j) = some u) (h1 : ∀ u, u ∈ news → u.oneCell' = true) (hm : 0 < m) (hb1 : n + m ≤ maxLen) (hb2 : (n + m) * by' ≤ 140737488355328)
    (hK : ∀ g cap w', (v.ownBlock = some g ∨ w.heap.size ≤ g) → w.grownBy w' v.ownBlock → w'.ownsRow 0 e sz (.slice (some ⟨g, 0, none⟩) (n + m) cap) (n + m) (xs ++ news) →
      K (a.put o.dst (.slice (some ⟨g, 0, none⟩) (n + m) cap)) w') :
    if Region.wanted o (yielded ops a.tmps) = true then Oper.wp Try.prog o a w K Q else E := by
  have grow : ∀ (ao : Option Addr) (cap : Nat), v = .slice ao n cap → (ao = none → n = 0 ∧ cap = 0) → (∀ b, ao = some b → ∀ j u, xs[j]? = some u → w.cell? (b.add j) = some u) → cap < n + m → if Region.wanted o (yielded ops a.tmps) = true then Oper.wp Try.prog o a w K Q else E := by
    intro ao cap hv hnone hcells hfull
    refine step_append_grows hg s x t hop e i0 z sz by' hu hi hz0 hz1 hz2 hzs hsz ao n cap xs (by rw [hs, hv]) hnone (by rw [hown.1]) hcells ad m c news hx hn hc h1 hfull hb1 hb2 ?_
    intro v' w' hown' hgr
    rcases hown'.2 with ⟨_, h0⟩ | ⟨g, cap', cur, rfl, hge, hrest⟩
    · omega
    · exact hK g cap' w' (.inr hge) (grown_weak hgr _) (own_baseG hown')
  rcases hown.2 with ⟨rfl, h0⟩ | ⟨g, cap, cur, rfl, hbase, hh, hle, hmax, hsz', htake⟩
  · subst h0
    exact grow none 0 rfl (fun _ => ⟨rfl, rfl⟩) (fun b hb => by cases hb) (by omega)
  · by_cases hroom : n + m ≤ cap
    · refine step_append_fits hg s x t hop 0 e i0 sz hu hi hz1 g n cap xs hs hown ad m c news hx hn hc h1 hroom ?_
      intro w' hown' hgr
      exact hK g cap w' (.inl rfl) hgr hown'
    · refine grow (some ⟨g, 0, none⟩) cap rfl (fun h => by cases h) ?_ (by omega)
      intro b hb j u hu
      cases hb
      exact hown.cells (g := g) rfl j u hu
/-- 'append(v, p)', in a region that draws -/
theorem step_psP (w : World) (lo : Nat) (p : Pk) {ops : Array Oper} {o : Oper} {a : Act} {K : Act → World → Prop} {Q : Exit → Act → World → Prop} {E : Prop} (hg : o.guard = none) (s x : Operand)
    (hop : o.op = Op.call { callee := .builtin .append, args := #[s, x], argTypes := #[107, 107] }) (ao : Option Addr) (m co : Nat) (ps : List Pk) (hs : a.eval s = .slice ao m co)
    (hA : OwP w lo ao m co ps) (hlo : lo ≤ w.heap.size) (hx : a.eval x = .slice (some ⟨w.heap.size, 0, none⟩) 1 1) (hb : m + 1 ≤ 1000000)
    (hK : ∀ gx cx w', OwP w' lo (some ⟨gx, 0, none⟩) (m + 1) cx (ps ++ [p]) → w.grownBy w' (Value.slice ao m co).ownBlock → ((Value.slice ao m co).ownBlock = some gx ∨ w.heap.size ≤ gx) → K (a.put o.dst (.slice (some ⟨gx, 0, none⟩) (m + 1) cx)) w') :
    if Region.wanted o (yielded ops a.tmps) = true then Oper.wp Try.prog o a (w.alloc (.cells p.cells.toArray 64)) K Q else E := by
  obtain ⟨i0, hi, hz0, hz1, hz2⟩ : ∃ i0, Try.prog.info? 64 = some i0 ∧ i0.zero = some (.agg #[.bool false, .bool false, .int .i64 0, .int .i64 0, .int .i64 0, .slice none 0 0]) ∧ i0.size = 6 ∧ i0.bytes = 56 := by
    have h := Try.info_pk3
    cases hh : Try.prog.info? 64 with
    | none => rw [hh] at h; simp at h
    | some i0 => rw [hh] at h; simp at h; exact ⟨i0, rfl, h.1, h.2.1, h.2.2⟩
  have gA := World.grownBy_alloc w (.cells p.cells.toArray 64) none
  refine step_apS _ hg s x 107 64 i0 _ 6 56 Try.underlying107 hi hz0 hz1 hz2 rfl (by decide) hop (.slice ao m co) m (flatP ps) hs (hA.own.alloc _) ⟨w.heap.size, 0, none⟩ 1 1 p.cells hx rfl (cells_six w p) (by simp [Pk.cells, Value.oneCell']) (by decide) (by unfold maxLen; omega) (by omega) ?_
  intro g cap w' hgx hgr hown
  rw [flatP_add] at hown
  have hor : (Value.slice ao m co).ownBlock = some g ∨ w.heap.size ≤ g := by
    rcases hgx with h | h
    · exact .inl h
    · simp at h; exact .inr (by omega)
  refine hK g cap w' ⟨hown, by rw [List.length_append, hA.len]; rfl, fun y hy => ?_⟩ (grown_trans (grown_weak gA _) hgr) hor
  have e : g = y := Option.some.inj hy
  subst e
  rcases hor with h | h
  · exact hA.new g h
  · omega

theorem BxS.cell1 {w : World} {g : Nat} {t : TypeId} {a : Value} (h : BxS w g t #[a]) : w.cell? ⟨g, 0, none⟩ = some a := h.cell 0 Nat.zero_lt_one
/-- blocks of different types are different -/
theorem BxS.apart {w : World} {g h : Nat} {t u : TypeId} {A B : Array Value} (x : BxS w g t A) (y : BxS w h u B) (hne : t ≠ u) : g ≠ h := by
  intro e
  subst e
  have : some (Obj.cells A t) = some (.cells B u) := (show w.heap[g]? = _ from x).symm.trans y
  injection this with this
  injection this with _ ht
  exact hne ht
theorem OwP.apart {w : World} {lo g n cap : Nat} {a : Option Addr} {ps : List Pk} {u : TypeId} {B : Array Value} (h : OwP w lo a n cap ps) (y : BxS w g u B) (hne : 64 ≠ u) : (Value.slice a n cap).ownBlock ≠ some g := by
  intro e
  rcases h.own.2 with ⟨h1, h2⟩ | ⟨q, c1, cur, h1, _, h3, _⟩
  · simp only [Value.slice.injEq] at h1
    obtain ⟨rfl, rfl, rfl⟩ := h1
    simp [Value.ownBlock] at e
  · simp only [Value.slice.injEq] at h1
    obtain ⟨rfl, _, _⟩ := h1
    have e' : q = g := Option.some.inj e
    subst e'
    exact BxS.apart (show BxS w q 64 cur from h3) y hne rfl
theorem Ans.apart {w : World} {lo g n cap : Nat} {a : Option Addr} {L : List Nat} {u : TypeId} {B : Array Value} (h : Ans w lo a n cap L) (y : BxS w g u B) (hne : 5 ≠ u) : (Value.slice a n cap).ownBlock ≠ some g := by
  intro e
  rcases h.own.2 with ⟨h1, h2⟩ | ⟨q, c1, cur, h1, _, h3, _⟩
  · simp only [Value.slice.injEq] at h1
    obtain ⟨rfl, rfl, rfl⟩ := h1
    simp [Value.ownBlock] at e
  · simp only [Value.slice.injEq] at h1
    obtain ⟨rfl, _, _⟩ := h1
    have e' : q = g := Option.some.inj e
    subst e'
    exact BxS.apart (show BxS w q 5 cur from h3) y hne rfl
/-- the five variables that 'put' works on -/
structure CuS (wb w : World) (go gp gu ga gc : Nat) (up : Bool) (ap : Int) (pc ct : Nat) (ao : Option Addr) (m co : Nat) (ps : List Pk) : Prop where
  out : BxS w go 107 #[.slice ao m co]
  pcs : BxS w gp 3 #[.int .i64 (pc : Int)]
  upb : BxS w gu 4 #[.bool up]
  apb : BxS w ga 3 #[.int .i64 ap]
  cnt : BxS w gc 3 #[.int .i64 (ct : Int)]
  own : OwP w wb.heap.size ao m co ps
  pne : gp ≠ gc
  ane : ga ≠ gc
  nout : wb.heap.size ≤ go
  ncnt : wb.heap.size ≤ gc
  data : ∀ i (h : i < ps.length), Ans w wb.heap.size ps[i].a ps[i].n ps[i].c ps[i].D
  apart : ∀ i j (hi : i < ps.length) (hj : j < ps.length), i < j → (Value.slice ps[i].a ps[i].n ps[i].c).ownBlock ≠ (Value.slice ps[j].a ps[j].n ps[j].c).ownBlock
  grown : wb.grownBy w none
end Go.Proofs.Ytlmddjkplnbadaa
