import Derived.Test.YtncpignmijgghaaPOp
import Derived.Test.YtncpignmijgghaaPDec
import Derived.Test.YtncpignmijgghaaFSums
import Derived.ArgAppend
import Derived.Deep.DeepAppendWide
import Derived.Test.YtncpignmijgghaaZBx
import Derived.Test.YtncpignmijgghaaTFrL
import Derived.Deep.RegionLawGrows
namespace Go.Proofs.Ytncpignmijgghaa
open Go.RowKit
set_option maxRecDepth 100000
set_option linter.unusedVariables false
set_option linter.unusedSimpArgs false

/-- a packet as it lies in memory, and what its data are -/
structure Pk where
  up : Bool
  se : Bool
  ap : Int
  pt : Int
  ct : Int
  a : Option Addr
  n : Nat
  c : Nat
  D : List Nat
def pk0 : Pk := ⟨false, false, 0, 0, 0, none, 0, 0, []⟩
def Pk.cells (p : Pk) : List Value := [.bool p.up, .bool p.se, .int .i64 p.ap, .int .i64 p.pt, .int .i64 p.ct, .slice p.a p.n p.c]
def Pk.val (p : Pk) : Value := pkV p.up p.se p.ap p.pt p.ct p.a p.n p.c
/-- a slice of packets as it is read -/
structure RdP (w : World) (a : Option Addr) (n cap : Nat) (F : Nat → Pk) : Prop where
  le : n ≤ cap
  max : cap ≤ maxLen
  at' : 0 < n → ∃ b off, a = some ⟨b, off, none⟩ ∧ b < w.heap.size ∧ ∀ i, i < n → ∀ j, j < 6 → w.cell? ⟨b, off + (i * 6 + j), none⟩ = (F i).cells[j]?
  data : ∀ i, i < n → Rd w (F i).a (F i).n (F i).c (F i).D
theorem addr_add' (b off j : Nat) : (⟨b, off, none⟩ : Addr).add j = ⟨b, off + j, none⟩ := by unfold Addr.add; split <;> simp_all
theorem met_packets {w : World} {full : Bool} {N : Nat} {cs : List Value}
    (h : (Sh.slice 6 56 (Sh.fcons 1 .bool (.fcons 1 .bool (.fcons 1 (.int .i64) (.fcons 1 (.int .i64) (.fcons 1 (.int .i64) (.fcons 1 (.slice 1 1 (.int .u8)) .fend))))))).met w full cs N) :
    ∃ a len cap F, cs = [.slice a len cap] ∧ RdP w a len cap F ∧ (∀ i, i < len → (full = true → (F i).c ≤ 140737488351232) ∧ (-9223372036854775808 ≤ (F i).ap ∧ (F i).ap ≤ 9223372036854775807) ∧ (-9223372036854775808 ≤ (F i).pt ∧ (F i).pt ≤ 9223372036854775807) ∧ (-9223372036854775808 ≤ (F i).ct ∧ (F i).ct ≤ 9223372036854775807) ∧ (F i).c + 1 ≤ N) ∧ (full = true → cap * 56 ≤ reachBytes) ∧ cap + 1 ≤ N := by
  rcases h with ⟨rfl, rfl⟩ | ⟨x, len, cap, G, C, rfl, rfl, hl, hm, hf, hc⟩
  · exact ⟨none, 0, 0, fun _ => pk0, rfl, ⟨Nat.le_refl _, Nat.zero_le _, fun h => by omega, fun i h => by omega⟩, fun i h => by omega, fun _ => by rw [Nat.zero_mul]; exact Nat.zero_le _, Nat.le_refl _⟩
  · have each : ∀ i, i < cap → ∃ p : Pk, (∀ j, j < 6 → w.cell? (x.add (i * 6 + j)) = p.cells[j]?) ∧ Rd w p.a p.n p.c p.D ∧ (full = true → p.c ≤ 140737488351232) ∧ (-9223372036854775808 ≤ p.ap ∧ p.ap ≤ 9223372036854775807) ∧ (-9223372036854775808 ≤ p.pt ∧ p.pt ≤ 9223372036854775807) ∧ (-9223372036854775808 ≤ p.ct ∧ p.ct ≤ 9223372036854775807) ∧ p.c + 1 ≤ G i := by
      intro i hi
      obtain ⟨h1, h2, h3⟩ := hc i hi
      obtain ⟨up, se, ap, pt, ct, a, n, c, L, e, hR, hk, hn, b1, b2, b3⟩ := met_packet h3
      refine ⟨⟨up, se, ap, pt, ct, a, n, c, L⟩, fun j hj => ?_, hR, hk, b1, b2, b3, hn⟩
      rw [h2 j hj, e]
      rfl
    have hI : Inhabited Pk := ⟨pk0⟩
    obtain ⟨F, hF⟩ := Go.Deep.choose_lt each
    have hG : ∀ i, i < cap → 1 ≤ G i := fun i hi => by have := (hF i hi).2.2.2.2.2.2; omega
    refine ⟨some x, len, cap, F, rfl, ⟨hl, hm, fun h0 => ?_, fun i hi => (hF i (by omega)).2.1⟩, fun i hi => ?_, hf, ?_⟩
    · obtain ⟨b, off, spot⟩ := x
      have hc0 := (hF 0 (by omega)).1 0 (by decide)
      have hspot : spot = none := by
        have h0' : w.cell? (⟨b, off, spot⟩ : Addr) = some (.bool (F 0).up) := by simpa [Addr.add, Pk.cells] using hc0
        simpa using World.cell?_spot h0'
      subst hspot
      refine ⟨b, off, rfl, ?_, fun i hi j hj => ?_⟩
      · have h0' : w.cell? (⟨b, off, none⟩ : Addr) = some (.bool (F 0).up) := by simpa [Addr.add, Pk.cells] using hc0
        exact World.block_lt_of_cell? w _ h0'
      · rw [← addr_add']
        exact (hF i (by omega)).1 j hj
    · obtain ⟨_, _, k1, k2, k3, k4, k5⟩ := hF i (by omega)
      have := sumN_part (F := G) (n := cap) (i := i) (by omega)
      exact ⟨k1, k2, k3, k4, by omega⟩
    · have := sumN_le (F := G) (n := cap) hG
      omega
theorem shown_packets {w : World} {full : Bool} {N : Nat} {v : Value}
    (h : (Sh.slice 6 56 (Sh.fcons 1 .bool (.fcons 1 .bool (.fcons 1 (.int .i64) (.fcons 1 (.int .i64) (.fcons 1 (.int .i64) (.fcons 1 (.slice 1 1 (.int .u8)) .fend))))))).shown w full v N) :
    ∃ a len cap F, v = .slice a len cap ∧ RdP w a len cap F ∧ (∀ i, i < len → (full = true → (F i).c ≤ 140737488351232) ∧ (-9223372036854775808 ≤ (F i).ap ∧ (F i).ap ≤ 9223372036854775807) ∧ (-9223372036854775808 ≤ (F i).pt ∧ (F i).pt ≤ 9223372036854775807) ∧ (-9223372036854775808 ≤ (F i).ct ∧ (F i).ct ≤ 9223372036854775807) ∧ (F i).c + 1 ≤ N) ∧ (full = true → cap * 56 ≤ reachBytes) ∧ cap + 1 ≤ N := by
  obtain ⟨a, len, cap, F, e, hr⟩ := met_packets h
  cases e
  exact ⟨a, len, cap, F, rfl, hr⟩

theorem nth_app_left (A B : List Nat) (i : Nat) (h : i < A.length) : nth (A ++ B) i = nth A i := nth_append_left A B i h
theorem nth_hdL (u s ap pt ct n k : Nat) (hk : k < 6) (R : List Nat) : nth (hdL u s ap pt ct n ++ R) k = hdB (hdN u s ap pt ct n) k := by
  rw [nth_app_left _ _ _ (by rw [hdL_len]; exact hk)]
  unfold hdL
  rw [tab_nth _ _ _ hk]
theorem hdN_lt (u s ap pt ct n : Nat) (hu : u < 2) (hs : s < 2) (hap : ap < 2048) (hpt : pt < 4) (hct : ct < 16384) (hn : n ≤ 65536) (h1 : 1 ≤ n) : hdN u s ap pt ct n < 35184372088832 := by
  unfold hdN hd1; omega
theorem hdV_hdL (u s ap pt ct n : Nat) (R : List Nat) (hu : u < 2) (hs : s < 2) (hap : ap < 2048) (hpt : pt < 4) (hct : ct < 16384) (hn : n ≤ 65536) (h1 : 1 ≤ n) : hdV (hdL u s ap pt ct n ++ R) 6 = hdN u s ap pt ct n := by
  have hl := hdN_lt u s ap pt ct n hu hs hap hpt hct hn h1
  have e : ∀ k, k < 6 → nth (hdL u s ap pt ct n ++ R) k = hdB (hdN u s ap pt ct n) k := fun k hk => nth_hdL u s ap pt ct n k hk R
  simp only [hdV]
  rw [e 0 (by decide), e 1 (by decide), e 2 (by decide), e 3 (by decide), e 4 (by decide), e 5 (by decide)]
  generalize hdN u s ap pt ct n = H at hl
  unfold hdB
  simp only [Nat.reduceMul, Nat.reduceSub, Nat.reducePow, Nat.div_one]
  omega
/-- what was encoded is decoded, whatever lies behind it -/
theorem dc_enc (up se : Bool) (ap pt ct : Int) (D R : List Nat) (h : mayE ap pt ct D.length = 0) :
    dcE (encP up se ap pt ct D ++ R) = 0 ∧ dcU (encP up se ap pt ct D ++ R) = up ∧ dcS (encP up se ap pt ct D ++ R) = se ∧ (dcA (encP up se ap pt ct D ++ R) : Int) = ap ∧ (dcP (encP up se ap pt ct D ++ R) : Int) = pt ∧ (dcC (encP up se ap pt ct D ++ R) : Int) = ct ∧
      dcK (encP up se ap pt ct D ++ R) = D.length + 6 ∧ dcD (encP up se ap pt ct D ++ R) = D := by
  obtain ⟨⟨⟨a1, a2⟩, ⟨p1, p2⟩, c1, c2⟩, n1, n2⟩ := mayE_ok h
  obtain ⟨ap', rfl⟩ := Int.eq_ofNat_of_zero_le a1
  obtain ⟨pt', rfl⟩ := Int.eq_ofNat_of_zero_le p1
  obtain ⟨ct', rfl⟩ := Int.eq_ofNat_of_zero_le c1
  have hu := toNat_le up
  have hs := toNat_le se
  have eB : encP up se (ap' : Int) (pt' : Int) (ct' : Int) D ++ R = hdL up.toNat se.toNat ap' pt' ct' D.length ++ (D ++ R) := by
    unfold encP; rw [if_pos h, List.append_assoc]; rfl
  rw [eB]
  have eH := hdV_hdL up.toNat se.toNat ap' pt' ct' D.length (D ++ R) hu hs (by omega) (by omega) (by omega) n2 n1
  have hL : (hdL up.toNat se.toNat ap' pt' ct' D.length ++ (D ++ R)).length = 6 + (D.length + R.length) := by rw [List.length_append, hdL_len, List.length_append]
  have hd : (hdL up.toNat se.toNat ap' pt' ct' D.length ++ (D ++ R)).drop 6 = D ++ R := by
    have := List.drop_left (l₁ := hdL up.toNat se.toNat ap' pt' ct' D.length) (l₂ := D ++ R)
    rw [hdL_len] at this
    exact this
  have eN : hdN up.toNat se.toNat ap' pt' ct' D.length = ((((up.toNat * 2 + se.toNat) * 2048 + ap') * 4 + pt') * 16384 + ct') * 65536 + (D.length - 1) := rfl
  have hE : dcE (hdL up.toNat se.toNat ap' pt' ct' D.length ++ (D ++ R)) = 0 := by
    unfold dcE
    rw [hL, eH, eN, if_neg (by omega), if_neg (by omega), if_neg (by omega)]
  refine ⟨hE, ?_, ?_, ?_, ?_, ?_, ?_, ?_⟩
  · unfold dcU
    rw [if_pos hE, eH, eN]
    have : (((((up.toNat * 2 + se.toNat) * 2048 + ap') * 4 + pt') * 16384 + ct') * 65536 + (D.length - 1)) / 2 ^ 44 % 2 = up.toNat := by omega
    rw [this]
    cases up <;> rfl
  · unfold dcS
    rw [if_pos hE, eH, eN]
    have : (((((up.toNat * 2 + se.toNat) * 2048 + ap') * 4 + pt') * 16384 + ct') * 65536 + (D.length - 1)) / 2 ^ 43 % 2 = se.toNat := by omega
    rw [this]
    cases se <;> rfl
  · unfold dcA
    rw [if_pos hE, eH, eN]
    omega
  · unfold dcP
    rw [if_pos hE, eH, eN]
    omega
  · unfold dcC
    rw [if_pos hE, eH, eN]
    omega
  · unfold dcK
    rw [if_pos hE, eH, eN]
    omega
  · unfold dcD
    rw [if_pos hE, eH, eN, hd]
    have : (((((up.toNat * 2 + se.toNat) * 2048 + ap') * 4 + pt') * 16384 + ct') * 65536 + (D.length - 1)) % 65536 + 1 = D.length := by omega
    rw [this]
    exact List.take_left

theorem own_baseG {w : World} {base : Nat} {e : TypeId} {sz : Nat} {v : Value} {n : Nat} {xs : List Value} (h : w.ownsRow base e sz v n xs) : w.ownsRow 0 e sz v n xs := by
  refine ⟨h.1, ?_⟩
  rcases h.2 with h2 | ⟨g, cap, cur, h3, h4, h5⟩
  · exact .inl h2
  · exact .inr ⟨g, cap, cur, h3, Nat.zero_le _, h5⟩
/-- 'append(v, x...)', v the call's own, x not empty, whatever the elements are -/
theorem wpList_apS (w : World) {ops : Array Oper} {rest : List Oper} {o : Oper} {a : Act} {Q : Exit → Act → World → Prop} (hg : o.guard = none) (s x : Operand) (t e : TypeId) (i0 : TypeInfo) (z : Value) (sz by' : Nat) (hu : Try.prog.underlying t = some (.slice e)) (hi : Try.prog.info? e = some i0) (hz0 : i0.zero = some z) (hz1 : i0.size = sz) (hz2 : i0.bytes = by') (hzs : z.cells.size = sz) (hsz : 0 < sz)
    (hop : o.op = Op.call { callee := .builtin .append, args := #[s, x], argTypes := #[t, t] }) (v : Value) (n : Nat) (xs : List Value) (hs : a.eval s = v)
    (hown : w.ownsRow 0 e sz v n xs) (ad : Addr) (m c : Nat) (news : List Value) (hx : a.eval x = .slice (some ad) m c) (hn : news.length = m * sz)
    (hc : ∀ j u, news[j]? = some u → w.cell? (ad.add j) = some u) (h1 : ∀ u, u ∈ news → u.oneCell' = true) (hm : 0 < m) (hb1 : n + m ≤ maxLen) (hb2 : (n + m) * by' ≤ 140737488355328)
    (hK : ∀ g cap w', (v.ownBlock = some g ∨ w.heap.size ≤ g) → w.grownBy w' v.ownBlock → w'.ownsRow 0 e sz (.slice (some ⟨g, 0, none⟩) (n + m) cap) (n + m) (xs ++ news) →
      wpList Try.prog ops Q rest (a.put o.dst (.slice (some ⟨g, 0, none⟩) (n + m) cap)) w') :
    wpList Try.prog ops Q (o :: rest) a w := by
  have grow : ∀ (ao : Option Addr) (cap : Nat), v = .slice ao n cap → (ao = none → n = 0 ∧ cap = 0) → (∀ b, ao = some b → ∀ j u, xs[j]? = some u → w.cell? (b.add j) = some u) → cap < n + m → wpList Try.prog ops Q (o :: rest) a w := by
    intro ao cap hv hnone hcells hfull
    refine wpList_append_grows w hg s x t hop e i0 z sz by' hu hi hz0 hz1 hz2 hzs hsz ao n cap xs (by rw [hs, hv]) hnone (by rw [hown.1]) hcells ad m c news hx hn hc h1 hfull hb1 hb2 ?_
    intro v' w' hown' hgr
    rcases hown'.2 with ⟨_, h0⟩ | ⟨g, cap', cur, rfl, hge, hrest⟩
    · omega
    · exact hK g cap' w' (.inr hge) (grown_weak hgr _) (own_baseG hown')
  rcases hown.2 with ⟨rfl, h0⟩ | ⟨g, cap, cur, rfl, hbase, hh, hle, hmax, hsz', htake⟩
  · subst h0
    exact grow none 0 rfl (fun _ => ⟨rfl, rfl⟩) (fun b hb => by cases hb) (by omega)
  · by_cases hroom : n + m ≤ cap
    · refine wpList_append_fits w hg s x t hop 0 e i0 sz hu hi hz1 g n cap xs hs hown ad m c news hx hn hc h1 hroom ?_
      intro w' hown' hgr
      exact hK g cap w' (.inl rfl) hgr hown'
    · refine grow (some ⟨g, 0, none⟩) cap rfl (fun h => by cases h) ?_ (by omega)
      intro b hb j u hu
      cases hb
      exact hown.cells (g := g) rfl j u hu

/-- packets in a row of the call's own -/
def flatP (ps : List Pk) : List Value := ps.flatMap Pk.cells
theorem flatP_len (ps : List Pk) : (flatP ps).length = ps.length * 6 := by
  induction ps with
  | nil => rfl
  | cons p ps ih => simp only [flatP, List.flatMap_cons, List.length_append, List.length_cons] at *; rw [ih]; simp [Pk.cells]; omega
theorem flatP_add (ps : List Pk) (p : Pk) : flatP ps ++ p.cells = flatP (ps ++ [p]) := by simp [flatP]
theorem flatP_get (ps : List Pk) (i j : Nat) (hi : i < ps.length) (hj : j < 6) : (flatP ps)[i * 6 + j]? = (ps[i]).cells[j]? := by
  induction ps generalizing i with
  | nil => simp at hi
  | cons p ps ih =>
    have hc : p.cells.length = 6 := rfl
    simp only [flatP, List.flatMap_cons]
    cases i with
    | zero =>
      rw [List.getElem?_append_left (by rw [hc]; omega)]
      simp
    | succ i =>
      rw [List.getElem?_append_right (by rw [hc]; omega), hc, show (i + 1) * 6 + j - 6 = i * 6 + j by omega]
      exact ih i (by simpa using hi)
/-! packets one behind the other -/
def enP (p : Pk) : List Nat := encP p.up p.se p.ap p.pt p.ct p.D
abbrev okP (p : Pk) : Prop := mayE p.ap p.pt p.ct p.D.length = 0
def gdP (F : Nat → Pk) : Nat → List Pk
  | 0 => []
  | k + 1 => if okP (F k) then gdP F k ++ [F k] else gdP F k
def flB (ps : List Pk) : List Nat := ps.flatMap enP
theorem flB_add (ps : List Pk) (p : Pk) : flB (ps ++ [p]) = flB ps ++ enP p := by simp [flB]
theorem flB_cons (p : Pk) (ps : List Pk) : flB (p :: ps) = enP p ++ flB ps := by simp [flB]
theorem enP_len (p : Pk) (h : okP p) : (enP p).length = p.D.length + 6 := by
  unfold enP encP
  rw [if_pos h, List.length_append, hdL_len]; omega
theorem okP_len (p : Pk) (h : okP p) : 1 ≤ p.D.length ∧ p.D.length ≤ 65536 := (mayE_ok h).2
theorem gdP_ok (F : Nat → Pk) (k : Nat) : ∀ p, p ∈ gdP F k → okP p ∧ ∃ i, i < k ∧ p = F i := by
  induction k with
  | zero => intro p h; cases h
  | succ k ih =>
    intro p h
    by_cases ho : okP (F k)
    · rw [show gdP F (k + 1) = gdP F k ++ [F k] from if_pos ho] at h
      rcases List.mem_append.1 h with h | h
      · obtain ⟨h1, i, hi, e⟩ := ih p h
        exact ⟨h1, i, by omega, e⟩
      · have e : p = F k := by simpa using h
        exact ⟨by rw [e]; exact ho, k, by omega, e⟩
    · rw [show gdP F (k + 1) = gdP F k from if_neg ho] at h
      obtain ⟨h1, i, hi, e⟩ := ih p h
      exact ⟨h1, i, by omega, e⟩
theorem gdP_len (F : Nat → Pk) (k : Nat) : (gdP F k).length ≤ k := by
  induction k with
  | zero => exact Nat.le_refl _
  | succ k ih =>
    by_cases ho : okP (F k)
    · rw [show gdP F (k + 1) = gdP F k ++ [F k] from if_pos ho, List.length_append]; simp; exact ih
    · rw [show gdP F (k + 1) = gdP F k from if_neg ho]; omega
theorem flB_le (ps : List Pk) (h : ∀ p, p ∈ ps → okP p) : (flB ps).length ≤ ps.length * 65542 := by
  induction ps with
  | nil => exact Nat.le_refl _
  | cons p ps ih =>
    rw [flB_cons, List.length_append, enP_len p (h p (List.mem_cons_self ..)), List.length_cons]
    have := (okP_len p (h p (List.mem_cons_self ..))).2
    have := ih (fun q hq => h q (List.mem_cons_of_mem _ hq))
    omega
/-- what is left of the row behind k packets -/
def rsP (ps : List Pk) (J : List Nat) (k : Nat) : List Nat := flB (ps.drop k) ++ J
theorem rsP_step (ps : List Pk) (J : List Nat) (k : Nat) (h : k < ps.length) : rsP ps J k = enP ps[k] ++ rsP ps J (k + 1) := by
  unfold rsP
  rw [List.drop_eq_getElem_cons h, flB_cons, List.append_assoc]
theorem rsP_drop (ps : List Pk) (J : List Nat) (k : Nat) (h : k < ps.length) (ho : okP ps[k]) : (rsP ps J k).drop (ps[k].D.length + 6) = rsP ps J (k + 1) := by
  rw [rsP_step ps J k h, ← enP_len _ ho, List.drop_left]
theorem rsP_end (ps : List Pk) (J : List Nat) : rsP ps J ps.length = J := by
  unfold rsP
  rw [List.drop_length]; rfl
theorem rsP_len (ps : List Pk) (J : List Nat) (k : Nat) (h : k < ps.length) (ho : okP ps[k]) : (rsP ps J k).length = ps[k].D.length + 6 + (rsP ps J (k + 1)).length := by
  rw [rsP_step ps J k h, List.length_append, enP_len _ ho]
theorem RdP.keep {w w' : World} {a : Option Addr} {n cap : Nat} {F : Nat → Pk} (h : RdP w a n cap F) (hg : w.grownBy w' none) : RdP w' a n cap F :=
  ⟨h.le, h.max, fun h0 => by
    obtain ⟨b, off, e, hb, hc⟩ := h.at' h0
    refine ⟨b, off, e, Nat.lt_of_lt_of_le hb hg.size, fun i hi j hj => ?_⟩
    rw [← hc i hi j hj]
    unfold World.cell?
    rw [hg.block b hb (by simp)], fun i hi => (h.data i hi).keep hg⟩
theorem Ans.up {w : World} {lo : Nat} {a : Option Addr} {n cap : Nat} {L : List Nat} (h : Ans w lo a n cap L) : w.ownsRow lo 5 1 (.slice a n cap) n (bys L) := by
  refine ⟨h.own.1, ?_⟩
  rcases h.own.2 with h1 | ⟨g, c1, cur, h1, h2, h3⟩
  · exact .inl h1
  · refine .inr ⟨g, c1, cur, h1, ?_, h3⟩
    simp only [Value.slice.injEq] at h1
    obtain ⟨rfl, _, _⟩ := h1
    exact h.new g rfl
/-- 'append(v, x...)', v an answer, x whatever bytes -/
theorem wpList_joinZ {w : World} {ops : Array Oper} {rest : List Oper} {o : Oper} {a : Act} {Q : Exit → Act → World → Prop} (hg : o.guard = none) (s x : Operand)
    (hop : o.op = Op.call { callee := .builtin .append, args := #[s, x], argTypes := #[38, 38] }) (ao : Option Addr) (m co lo : Nat) (D : List Nat) (hs : a.eval s = .slice ao m co)
    (hA : Ans w lo ao m co D) (hlo : lo ≤ w.heap.size) (ax : Option Addr) (nx cx : Nat) (X : List Nat) (hx : a.eval x = .slice ax nx cx) (hR : Rd w ax nx cx X) (hb : m + nx ≤ 200000000000000)
    (hK : ∀ a' c' w', Ans w' lo a' (m + nx) c' (D ++ X) → w.grownBy w' (Value.slice ao m co).ownBlock → wpList Try.prog ops Q rest (a.put o.dst (.slice a' (m + nx) c')) w') :
    wpList Try.prog ops Q (o :: rest) a w := by
  obtain ⟨i0, hi, hz0, hz1, hz2⟩ := info_parts Try.info_u8
  cases ax with
  | none =>
    have hc0 : cx = 0 := hR.nil rfl
    have hn0 : nx = 0 := by have := hR.le; omega
    subst hc0 hn0
    have e : X = [] := List.eq_nil_of_length_eq_zero hR.len
    subst e
    refine wpList_append_own_none hg s x 38 hop 0 5 i0 1 Try.underlying38 hi (.slice ao m co) m (bys D) hs hA.own hx ?_
    exact hK ao co w (by rw [List.append_nil]; exact hA) (World.grownBy.refl _ _)
  | some ad =>
    refine wpList_append_own_wide w hg s x 38 hop lo 5 i0 (.int .u8 0) 1 1 Try.underlying38 hi hz0 hz1 hz2 rfl (by decide) (.slice ao m co) m (bys D) hs hA.up ad nx cx (bys X) hx (by rw [bys_length, hR.len]; omega) ?_ (bys_one _) (by unfold maxLen; omega) (by omega) hlo ?_
    · intro j u hu
      have hj : j < X.length := by
        have := (List.getElem?_eq_some_iff.1 hu).1
        rw [bys_length] at this; exact this
      have h0 : 0 < nx := by rw [hR.len] at hj; omega
      obtain ⟨b, off, e, _, hc⟩ := hR.at' h0
      cases e
      rw [nth_bys X j hj] at hu
      rw [← hu, addr_add]
      exact hc j (by rw [← hR.len]; exact hj)
    · intro v' w' hown hgr _
      rw [bys_app] at hown
      have hown' := hown
      rcases hown.2 with ⟨h1, h2⟩ | ⟨g, c1, cur, h1, h2, h3⟩
      · subst h1
        have e0 : m + nx = 0 := h2
        have hq := hK none 0 w' ⟨by rw [e0]; exact own_base (by rw [e0] at hown'; exact hown'), isB_append hA.byte hR.byte, fun g h => by simp [Value.ownBlock] at h⟩ hgr
        rw [e0] at hq
        exact hq
      · subst h1
        exact hK (some ⟨g, 0, none⟩) c1 w' ⟨own_base hown', isB_append hA.byte hR.byte, fun g' h => by have e : g = g' := Option.some.inj h; omega⟩ hgr
theorem RdP.six {w wz : World} {b off n cap : Nat} {F : Nat → Pk} (h : RdP w (some ⟨b, off, none⟩) n cap F) (hz : w.grownBy wz none) (i : Nat) (hi : i < n) :
    wz.cell? ⟨b, off + i * 6, none⟩ = some (.bool (F i).up) ∧ wz.cell? ⟨b, off + i * 6 + 1, none⟩ = some (.bool (F i).se) ∧ wz.cell? ⟨b, off + i * 6 + 2, none⟩ = some (.int .i64 (F i).ap) ∧ wz.cell? ⟨b, off + i * 6 + 3, none⟩ = some (.int .i64 (F i).pt) ∧ wz.cell? ⟨b, off + i * 6 + 4, none⟩ = some (.int .i64 (F i).ct) ∧ wz.cell? ⟨b, off + i * 6 + 5, none⟩ = some (.slice (F i).a (F i).n (F i).c) := by
  obtain ⟨_, _, e, _, hc⟩ := (h.keep hz).at' (by omega)
  cases e
  exact ⟨hc i hi 0 (by decide), hc i hi 1 (by decide), hc i hi 2 (by decide), hc i hi 3 (by decide), hc i hi 4 (by decide), hc i hi 5 (by decide)⟩
theorem swap_own {x y : Option Nat} (h : x = none ∨ x ≠ y) : y = none ∨ y ≠ x := by
  cases y with
  | none => exact .inl rfl
  | some q =>
    refine .inr fun e => ?_
    rcases h with h | h
    · rw [h] at e; cases e
    · exact h e.symm
theorem rd_from {w : World} {b of nr cr m : Nat} {L : List Nat} (h : Rd w (some ⟨b, of, none⟩) nr cr L) (hm : m ≤ nr) : Rd w (some ⟨b, of + m, none⟩) (nr - m) (cr - m) (L.drop m) := by
  have := h.part m (nr - m) (by omega)
  rwa [List.take_of_length_le (by rw [List.length_drop, h.len]; omega)] at this
theorem rd_from0 {w : World} {b of nr m : Nat} {L : List Nat} (h : Rd w (some ⟨b, of, none⟩) nr m L) (hm : m ≤ nr) : Rd w (some ⟨b, of, none⟩) 0 0 (L.drop m) := by
  have e : L.drop m = [] := List.drop_eq_nil_of_le (by have := h.le; rw [h.len]; omega)
  rw [e]
  exact ⟨rfl, Nat.le_refl _, Nat.zero_le _, fun h => (by cases h), (fun x hx => by cases hx), fun h => absurd h (by decide)⟩
theorem two_newB (w : World) : Rd (w.alloc (.cells #[.int .u8 170, .int .u8 187] 5)) (some ⟨w.heap.size, 0, none⟩) 2 2 [170, 187] := by
  refine Ans.rd (lo := 0) ⟨⟨rfl, .inr ⟨w.heap.size, 2, #[.int .u8 170, .int .u8 187], rfl, Nat.zero_le _, heap_alloc_new w _, Nat.le_refl _, by decide, rfl, rfl⟩⟩, ?_, fun g hg => Nat.zero_le _⟩
  intro x hx
  simp at hx
  omega
theorem strB_one : strB [0, 5, 192, 7, 0, 1, 170, 187] = ⟨#[0, 5, 192, 7, 0, 1, 170, 187]⟩ := by decide
/-- which part of a unit the piece at a place is -/
def ptN (k pc : Nat) : Nat := if pc = 1 then 3 else if k = 0 then 1 else if k + 1 = pc then 2 else 0
theorem step_apS (w : World) {ops : Array Oper} {o : Oper} {a : Act} {K : Act → World → Prop} {Q : Exit → Act → World → Prop} {E : Prop} (hg : o.guard = none) (s x : Operand) (t e : TypeId) (i0 : TypeInfo) (z : Value) (sz by' : Nat) (hu : Try.prog.underlying t = some (.slice e)) (hi : Try.prog.info? e = some i0) (hz0 : i0.zero = some z) (hz1 : i0.size = sz) (hz2 : i0.bytes = by') (hzs : z.cells.size = sz) (hsz : 0 < sz)
    (hop : o.op = Op.call { callee := .builtin .append, args := #[s, x], argTypes := #[t, t] }) (v : Value) (n : Nat) (xs : List Value) (hs : a.eval s = v)
    (hown : w.ownsRow 0 e sz v n xs) (ad : Addr) (m c : Nat) (news : List Value) (hx : a.eval x = .slice (some ad) m c) (hn : news.length = m * sz)
    (hc : ∀ j u, news[j]? = some u → w.cell? (ad.add j) = some u) (h1 : ∀ u, u ∈ news → u.oneCell' = true) (hm : 0 < m) (hb1 : n + m ≤ maxLen) (hb2 : (n + m) * by' ≤ 140737488355328)
    (hK : ∀ g cap w', (v.ownBlock = some g ∨ w.heap.size ≤ g) → w.grownBy w' v.ownBlock → w'.ownsRow 0 e sz (.slice (some ⟨g, 0, none⟩) (n + m) cap) (n + m) (xs ++ news) →
      K (a.put o.dst (.slice (some ⟨g, 0, none⟩) (n + m) cap)) w') :
    if Region.wanted o (yielded ops a.tmps) = true then Oper.wp Try.prog o a w K Q else E := by
  have grow : ∀ (ao : Option Addr) (cap : Nat), v = .slice ao n cap → (ao = none → n = 0 ∧ cap = 0) → (∀ b, ao = some b → ∀ j u, xs[j]? = some u → w.cell? (b.add j) = some u) → cap < n + m → if Region.wanted o (yielded ops a.tmps) = true then Oper.wp Try.prog o a w K Q else E := by
    intro ao cap hv hnone hcells hfull
    refine step_append_grows hg s x t hop e i0 z sz by' hu hi hz0 hz1 hz2 hzs hsz ao n cap xs (by rw [hs, hv]) hnone (by rw [hown.1]) hcells ad m c news hx hn hc h1 hfull hb1 hb2 ?_
    intro v' w' hown' hgr
    rcases hown'.2 with ⟨_, h0⟩ | ⟨g, cap', cur, rfl, hge, hrest⟩
    · omega
    · exact hK g cap' w' (.inr hge) (grown_weak hgr _) (own_baseG hown')
  rcases hown.2 with ⟨rfl, h0⟩ | ⟨g, cap, cur, rfl, hbase, hh, hle, hmax, hsz', htake⟩
  · subst h0
    exact grow none 0 rfl (fun _ => ⟨rfl, rfl⟩) (fun b hb => by cases hb) (by omega)
  · by_cases hroom : n + m ≤ cap
    · refine step_append_fits hg s x t hop 0 e i0 sz hu hi hz1 g n cap xs hs hown ad m c news hx hn hc h1 hroom ?_
      intro w' hown' hgr
      exact hK g cap w' (.inl rfl) hgr hown'
    · refine grow (some ⟨g, 0, none⟩) cap rfl (fun h => by cases h) ?_ (by omega)
      intro b hb j u hu
      cases hb
      exact hown.cells (g := g) rfl j u hu
theorem BxS.cell1 {w : World} {g : Nat} {t : TypeId} {a : Value} (h : BxS w g t #[a]) : w.cell? ⟨g, 0, none⟩ = some a := h.cell 0 Nat.zero_lt_one
/-- blocks of different types are different -/
theorem BxS.apart {w : World} {g h : Nat} {t u : TypeId} {A B : Array Value} (x : BxS w g t A) (y : BxS w h u B) (hne : t ≠ u) : g ≠ h := by
  intro e
  subst e
  have : some (Obj.cells A t) = some (.cells B u) := (show w.heap[g]? = _ from x).symm.trans y
  injection this with this
  injection this with _ ht
  exact hne ht
theorem Ans.apart {w : World} {lo g n cap : Nat} {a : Option Addr} {L : List Nat} {u : TypeId} {B : Array Value} (h : Ans w lo a n cap L) (y : BxS w g u B) (hne : 5 ≠ u) : (Value.slice a n cap).ownBlock ≠ some g := by
  intro e
  rcases h.own.2 with ⟨h1, h2⟩ | ⟨q, c1, cur, h1, _, h3, _⟩
  · simp only [Value.slice.injEq] at h1
    obtain ⟨rfl, rfl, rfl⟩ := h1
    simp [Value.ownBlock] at e
  · simp only [Value.slice.injEq] at h1
    obtain ⟨rfl, _, _⟩ := h1
    have e' : q = g := Option.some.inj e
    subst e'
    exact BxS.apart (show BxS w q 5 cur from h3) y hne rfl
end Go.Proofs.Ytncpignmijgghaa
