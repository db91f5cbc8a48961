import Derived.Test.YtkfgchngndppiaaULn
import Derived.Test.YtkfgchngndppiaaULs
import Derived.Test.YtkfgchngndppiaaULk
namespace Go.Proofs.Ytkfgchngndppiaa
open Go.RowKit
set_option maxRecDepth 100000
set_option linter.unusedVariables false
set_option linter.unusedSimpArgs false

def mBad : Mo := ⟨0, 0, 9, 2, 3, ByteArray.mk #[98, 97, 100]⟩
theorem mBad_ok : MoR mBad := ⟨by decide +kernel, rfl, rfl, by decide, by decide, by decide, by decide⟩
theorem lmF_ok (S : List Int) (j : Nat) (hj : j < 9) : MoR (lmF S j) := by
  cases j with
  | zero => exact mBad_ok
  | succ k =>
    obtain ⟨n1, n2⟩ := lmB_ok k (by omega)
    have p6 := pkU_lt (nthI S k) 6 (by decide)
    have p3 := pkU_lt ((nthI S k).tdiv 7) 3 (by decide)
    have o1 : (k : Int).tmod 3 = (k : Int) % 3 := Int.tmod_eq_emod_of_nonneg (by omega)
    refine ⟨?_, rfl, rfl, ?_, ?_, ?_, ?_⟩
    · unfold moE moB
      have e : (lmF S (k + 1)).th = lmB k := rfl
      rw [e, n1]
      have h1 : kwB (lmF S (k + 1)).of' 0 63 = true := kwB_t (by show 0 ≤ (k : Int).tmod 3 ∧ (k : Int).tmod 3 ≤ 63; rw [o1]; omega)
      have h2 : kwB (lmF S (k + 1)).lo (-2147483648) 2147483647 = true := rfl
      have h3 : kwB (lmF S (k + 1)).hi (lmF S (k + 1)).lo 2147483647 = true := rfl
      have h4 : kwB (lmF S (k + 1)).fr 1 1000 = true := kwB_t (by show 1 ≤ 1 + ((pkU (nthI S k) 6 : Nat) : Int) ∧ 1 + ((pkU (nthI S k) 6 : Nat) : Int) ≤ 1000; omega)
      have h5 : kwB (lmF S (k + 1)).ti 1 3 = true := kwB_t (by show 1 ≤ 1 + ((pkU ((nthI S k).tdiv 7) 3 : Nat) : Int) ∧ 1 + ((pkU ((nthI S k).tdiv 7) 3 : Nat) : Int) ≤ 3; omega)
      rw [h1, h2, h3, h4, h5]
      rfl
    · show 0 ≤ (k : Int).tmod 3; rw [o1]; omega
    · show (k : Int).tmod 3 < 3; rw [o1]; omega
    · show 1 ≤ 1 + ((pkU (nthI S k) 6 : Nat) : Int); omega
    · show (lmB k).size ≠ 4; omega
theorem lmG_ok (si mo wi : Nat) (b1 : si < 20) (b2 : mo < 6) (b3 : wi < 30) : grE (si : Int) (1 + (mo : Int)) (1 + (wi : Int)) safB = 0 := by
  unfold grE
  rw [kwB_t (by omega), kwB_t (by omega), kwB_t (by omega)]
  decide +kernel
/-- between two ticks: where all that lies -/
structure LT (wK wr : World) (gv gl : Nat) (A : Va) (D : Vi) (n : Nat) (L : List Int) (ta : Option Addr) (tn tc : Nat) (Ts : List Int) : Prop where
  gr : wK.grownBy wr none
  kv : wK.heap.size ≤ gv
  vl : gv < gl
  v : BxS wr gv 29 (vgA D A)
  d : RdVg wr A D
  l : AnsX 3 wr gl (some ⟨gl, 0, none⟩) n n (zys L)
  t : AnsX 3 wr (gl + 1) ta tn tc (zys Ts)
/-- behind a step: what it answers, in new memory; gx: the box of 'next' -/
structure StB (wv wx : World) (D' : Vi) (Nm : List ByteArray) (gx : Nat) (A' : Va) (na : Option Addr) (nn nc : Nat) : Prop where
  gr : wv.grownBy wx none
  xl : wv.heap.size ≤ gx
  x : BxS wx gx 29 (vgA D' A')
  d : OwVg wx wv.heap.size A' D'
  m : AnsX 9 wx wv.heap.size na nn nc (sts Nm)
theorem OwVg.ne_box {w : World} {lo : Nat} {A : Va} {D : Vi} (h : OwVg w lo A D) {g : Nat} {cs : Array Value} (b : BxS w g 29 cs) (i : Nat) (hi : Vbl A i) : i ≠ g := by
  intro e
  subst e
  rcases hi with h1 | h1 | h1
  · exact h.b.ne_box b (by decide) h1
  · exact h.p.ne_box b (by decide) h1
  · exact h.t.ne_box b (by decide) h1
theorem OwVg.box {w w' : World} {lo : Nat} {A : Va} {D : Vi} (h : OwVg w lo A D) {g : Nat} {cs : Array Value} (b : BxS w g 29 cs) (u : w.grownBy w' (some g)) : OwVg w' lo A D :=
  ⟨h.b.kept u (.inr (h.b.ne_box b (by decide))), h.p.kept u (.inr (h.p.ne_box b (by decide))), h.t.kept u (.inr (h.t.ne_box b (by decide))), h.ne⟩
theorem OwVg.low {w : World} {lo lo' : Nat} {A : Va} {D : Vi} (h : OwVg w lo A D) (hl : lo' ≤ lo) : OwVg w lo' A D := ⟨h.b.low hl, h.p.low hl, h.t.low hl, h.ne⟩
theorem ans_lit3 (w : World) (a b c : Int) : AnsX 3 (w.alloc (.cells #[.int .i64 a, .int .i64 b, .int .i64 c] 3)) w.heap.size (some ⟨w.heap.size, 0, none⟩) 3 3 (zys [a, b, c]) := by
  refine ⟨⟨rfl, .inr ⟨w.heap.size, 3, #[.int .i64 a, .int .i64 b, .int .i64 c], rfl, Nat.zero_le _, BxS.new w _ _, Nat.le_refl _, by decide, rfl, rfl⟩⟩, zys_one _, fun g h => ?_⟩
  have e : w.heap.size = g := Option.some.inj h
  omega
theorem StB.names {wv wx : World} {D' : Vi} {Nm : List ByteArray} {gx : Nat} {A' : Va} {na : Option Addr} {nn nc : Nat} (h : StB wv wx D' Nm gx A' na nn nc) : Nm.length = nn := by
  have := h.m.len
  rw [← this]
  simp [sts]
theorem RdM.fzM {p : Nat → Prop} {w w' : World} {b n cap : Nat} {F : Nat → Mo} (h : RdM w (some ⟨b, 0, none⟩) n cap F) (f : Fz p w w') (hn : ¬ p b) : RdM w' (some ⟨b, 0, none⟩) n cap F := by
  refine ⟨h.le, h.max, h.nil, fun h0 => ?_⟩
  obtain ⟨b', off, e, hb, hc⟩ := h.at' h0
  cases e
  refine ⟨b, 0, rfl, Nat.lt_of_lt_of_le hb f.size, fun i hi j hj => ?_⟩
  rw [← hc i hi j hj]
  exact World.cell?_of_block (w := w) (f.block b hb hn)
theorem RdX.at_self {w : World} {b n cap : Nat} {S : List Int} (h : RdX w (some ⟨b, 0, none⟩) n cap (zys S)) (i : Nat) (hi : i < n) : w.cell? ⟨b, i, none⟩ = some (.int .i64 (nthI S i)) := by
  have := h.at_in (World.grownBy.refl w none) i hi
  rw [Nat.zero_add] at this
  exact this
theorem tsS_mem (i : Int) (F : Nat → Mo) (Vs L Ts : List Int) (t : Int) : ∀ k, t ∈ tsS i F Vs L Ts k → t ∈ Ts ∨ t = i := by
  intro k
  induction k with
  | zero => exact fun h => .inl h
  | succ k ih =>
    intro h
    simp only [tsS] at h
    split at h
    · rcases List.mem_append.1 h with h1 | h1
      · exact ih h1
      · exact .inr (List.mem_singleton.1 h1)
    · exact ih h
theorem agL_take (i wi : Int) (T : List Int) (m : Nat) (hm : m < T.length) : (agL i wi (T.take (m + 1))).length = (agL i wi (T.take m)).length + (if i - nthI T m < wi then 1 else 0) := by
  have e : T[m]? = some (nthI T m) := by
    rw [nthI_get _ _ hm, List.getElem?_eq_getElem hm]
  rw [List.take_add_one, e]
  unfold agL
  rw [List.map_append, List.filter_append, List.length_append]
  congr 1
  by_cases h : i - nthI T m < wi
  · simp [h]
  · simp [h]
theorem lnK_le (F : Nat → Mo) (Vs L : List Int) (k : Nat) (b : Int) (h0 : 0 ≤ b) (h : nthI L k ≤ b) : lnK F Vs L k ≤ b + 1 := by
  unfold lnK
  split <;> omega
/-- within a tick, behind the step: the law's two rows; all else lies as it lay at wS -/
structure LJ (wS wr : World) (gl : Nat) (t0 : Option Nat) (n : Nat) (L : List Int) (ta : Option Addr) (tn tc : Nat) (Ts : List Int) : Prop where
  l : AnsX 3 wr gl (some ⟨gl, 0, none⟩) n n (zys L)
  t : AnsX 3 wr (gl + 1) ta tn tc (zys Ts)
  f : Fz (fun i => i = gl ∨ t0 = some i) wS wr
  o : ∀ g, (Value.slice ta tn tc).ownBlock = some g → t0 = some g ∨ wS.heap.size ≤ g
theorem LJ.keep {wS wr w' : World} {gl : Nat} {t0 : Option Nat} {n : Nat} {L : List Int} {ta : Option Addr} {tn tc : Nat} {Ts : List Int} (h : LJ wS wr gl t0 n L ta tn tc Ts) (hg : wr.grownBy w' none) : LJ wS w' gl t0 n L ta tn tc Ts :=
  ⟨h.l.keep hg, h.t.keep hg, h.f.step hg (fun _ e => by cases e), h.o⟩
theorem LJ.setL {wS wr : World} {gl : Nat} {t0 : Option Nat} {n : Nat} {L : List Int} {ta : Option Addr} {tn tc : Nat} {Ts : List Int} (h : LJ wS wr gl t0 n L ta tn tc Ts) (j : Nat) (z : Int) : LJ wS (wr.setCell ⟨gl, j, none⟩ (.int .i64 z)) gl t0 n (L.set j z) ta tn tc Ts := by
  have u := grown_set wr gl j (.int .i64 z)
  refine ⟨?_, h.t.kept u (ne_of_some (fun x e e2 => ?_)), h.f.step u (fun x e _ => .inl (Option.some.inj e).symm), h.o⟩
  · have := h.l.set j (.int .i64 z) rfl
    rw [zys_set] at this
    exact this
  · have e2 : gl = x := Option.some.inj e2
    have := h.t.new x e
    omega
theorem LJ.push {wS wr w' : World} {gl : Nat} {t0 : Option Nat} {n : Nat} {L : List Int} {ta : Option Addr} {tn tc : Nat} {Ts : List Int} (h : LJ wS wr gl t0 n L ta tn tc Ts) {gx cx : Nat} {z : Int} (hA : AnsX 3 w' (gl + 1) (some ⟨gx, 0, none⟩) (tn + 1) cx (zys Ts ++ [.int .i64 z])) (u : wr.grownBy w' (Value.slice ta tn tc).ownBlock) (hx : (Value.slice ta tn tc).ownBlock = some gx ∨ wr.heap.size ≤ gx) : LJ wS w' gl t0 n L (some ⟨gx, 0, none⟩) (tn + 1) cx (Ts ++ [z]) := by
  refine ⟨h.l.kept u (ne_of_some (fun x e e2 => ?_)), ?_, h.f.step u (fun x e hl => ?_), fun g e => ?_⟩
  · have e : gl = x := Option.some.inj e
    have := h.t.new x e2
    omega
  · rw [show zys (Ts ++ [z]) = zys Ts ++ [.int .i64 z] by simp [zys]]
    exact hA
  · rcases h.o x e with h1 | h1
    · exact .inr h1
    · omega
  · have e : gx = g := Option.some.inj e
    subst e
    rcases hx with h1 | h1
    · exact h.o _ h1
    · exact .inr (Nat.le_trans h.f.size h1)
end Go.Proofs.Ytkfgchngndppiaa
