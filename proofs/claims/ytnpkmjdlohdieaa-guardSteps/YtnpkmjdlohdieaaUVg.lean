import Derived.Test.YtnpkmjdlohdieaaUCk
import Derived.Test.YtnpkmjdlohdieaaUGn
namespace Go.Proofs.Ytnpkmjdlohdieaa
open Go.RowKit
set_option maxRecDepth 100000
set_option linter.unusedVariables false
set_option linter.unusedSimpArgs false

/-- all blocks but those of p lie as they lay -/
structure Fz (p : Nat → Prop) (w w' : World) : Prop where
  os : w'.os = w.os
  tape : w'.tape = w.tape
  output : w'.output = w.output
  size : w.heap.size ≤ w'.heap.size
  block : ∀ k, k < w.heap.size → ¬ p k → w'.heap[k]? = w.heap[k]?
theorem Fz.refl (p : Nat → Prop) (w : World) : Fz p w w := ⟨rfl, rfl, rfl, Nat.le_refl _, fun _ _ _ => rfl⟩
theorem Fz.step {p : Nat → Prop} {a w w' : World} {r : Option Nat} (f : Fz p a w) (h : w.grownBy w' r) (hr : ∀ k, r = some k → k < a.heap.size → p k) : Fz p a w' :=
  ⟨h.os.trans f.os, h.tape.trans f.tape, h.output.trans f.output, Nat.le_trans f.size h.size, fun k hk hn => (h.block k (Nat.lt_of_lt_of_le hk f.size) (fun e => hn (hr k e.symm hk))).trans (f.block k hk hn)⟩
theorem Fz.trans {p q : Nat → Prop} {a b c : World} (h : Fz p a b) (k : Fz q b c) (hq : ∀ i, i < a.heap.size → q i → p i) : Fz p a c :=
  ⟨k.os.trans h.os, k.tape.trans h.tape, k.output.trans h.output, Nat.le_trans h.size k.size, fun i hi hn => (k.block i (Nat.lt_of_lt_of_le hi h.size) (fun e => hn (hq i hi e))).trans (h.block i hi hn)⟩
theorem Fz.grown {p : Nat → Prop} {a b c : World} (h : a.grownBy b none) (k : Fz p b c) (hp : ∀ i, p i → a.heap.size ≤ i) : a.grownBy c none :=
  ⟨k.os.trans h.os, k.tape.trans h.tape, k.output.trans h.output, Nat.le_trans h.size k.size, fun i hi hn => (k.block i (Nat.lt_of_lt_of_le hi h.size) (fun e => by have := hp i e; omega)).trans (h.block i hi hn)⟩
theorem Fz.of {w w' : World} {r : Option Nat} (h : w.grownBy w' r) : Fz (fun i => r = some i) w w' := (Fz.refl _ w).step h (fun k e _ => e)
theorem BxS.fz {p : Nat → Prop} {w w' : World} {g : Nat} {t : TypeId} {cs : Array Value} (h : BxS w g t cs) (f : Fz p w w') (hn : ¬ p g) : BxS w' g t cs := (f.block g h.lt hn).trans h
theorem RdX.fz {p : Nat → Prop} {w w' : World} {a : Option Addr} {n cap : Nat} {X : List Value} (h : RdX w a n cap X) (f : Fz p w w') (hn : ∀ b off, a = some ⟨b, off, none⟩ → ¬ p b) : RdX w' a n cap X := by
  refine ⟨h.len, h.le, h.max, h.nil, h.one, fun h0 => ?_⟩
  obtain ⟨b, off, rfl, hb, hc⟩ := h.at' h0
  refine ⟨b, off, rfl, Nat.lt_of_lt_of_le hb f.size, fun i u hu => ?_⟩
  exact (World.cell?_of_block (w := w) (f.block b hb (hn b off rfl))).trans (hc i u hu)
theorem AnsX.fz {e : TypeId} {p : Nat → Prop} {w w' : World} {lo : Nat} {a : Option Addr} {n cap : Nat} {X : List Value} (h : AnsX e w lo a n cap X) (f : Fz p w w') (hn : ∀ g, (Value.slice a n cap).ownBlock = some g → ¬ p g) : AnsX e w' lo a n cap X := by
  refine ⟨⟨h.own.1, ?_⟩, h.one, h.new⟩
  rcases h.own.2 with h1 | ⟨g, cap', cur, h1, h2, h3, hr⟩
  · exact .inl h1
  · refine .inr ⟨g, cap', cur, h1, h2, ?_, hr⟩
    rw [← h3]
    refine f.block g (Array.getElem?_eq_some_iff.1 h3).1 (hn g ?_)
    rw [h1]; rfl
/-- rows of different types never share a block -/
theorem ans_apart {e e' : TypeId} {w : World} {lo lo' : Nat} {a a' : Option Addr} {n n' cap cap' : Nat} {X X' : List Value} (h : AnsX e w lo a n cap X) (k : AnsX e' w lo' a' n' cap' X') (hne : e ≠ e') : ∀ g, (Value.slice a n cap).ownBlock = some g → (Value.slice a' n' cap').ownBlock ≠ some g := by
  intro g h1 h2
  rcases h.cases with ⟨rfl, rfl, rfl⟩ | ⟨g1, rfl, _⟩
  · simp [Value.ownBlock] at h1
  rcases k.cases with ⟨rfl, rfl, rfl⟩ | ⟨g2, rfl, _⟩
  · simp [Value.ownBlock] at h2
  have e1 : g1 = g := Option.some.inj h1
  have e2 : g2 = g := Option.some.inj h2
  subst e1 e2
  obtain ⟨c1, f1, t1⟩ := h.ty
  obtain ⟨c2, f2, t2⟩ := k.ty
  rw [t1] at t2
  have := Option.some.inj t2
  injection this with _ ht _
  exact hne ht
theorem Try.elI : ElT 26 3 (.int .i64 0) 8 := ⟨Try.underlying26, by kernel_rfl, rfl, by decide⟩
theorem Try.elH : ElT 27 4 (.bool false) 1 := ⟨Try.underlying27, by kernel_rfl, rfl, by decide⟩
def hls (H : List Bool) : List Value := H.map Value.bool
def hat (H : List Bool) (k : Nat) : Bool := H.getD k false
theorem hls_len (H : List Bool) : (hls H).length = H.length := by simp [hls]
theorem hls_at (H : List Bool) (i : Nat) (hi : i < H.length) : (hls H)[i]? = some (.bool (hat H i)) := by
  unfold hls hat
  simp [hi]
theorem hls_one (H : List Bool) : ∀ u, u ∈ hls H → u.oneCell' = true := by
  intro u hu
  obtain ⟨n, _, rfl⟩ := List.mem_map.1 hu
  rfl
theorem RdX.rdI {w : World} {a : Option Addr} {n cap : Nat} {S : List Int} (h : RdX w a n cap (zys S)) : RdI w a n cap S := by
  refine ⟨by rw [← zys_length]; exact h.len, h.le, h.max, h.nil, fun h0 => ?_⟩
  obtain ⟨b, off, e, hb, hc⟩ := h.at' h0
  exact ⟨b, off, e, hb, fun i hi => hc i _ (zys_at S i (by rw [← zys_length, h.len]; exact hi))⟩
set_option maxHeartbeats 1000000 in
theorem sameBools_any (a b : Option Addr) (n m cap cap' : Nat) (H : List Bool) (w : World) (h : RdX w a n cap (hls H)) (k : RdX w b m cap' (hls H)) :
    Calls Try.prog 27 #[.slice a n cap, .slice b m cap'] w fun e w' => e = .returned (.bool true) ∧ w.grownBy w' none := by
  have e0 : n = m := by rw [← h.len, ← k.len]
  subst e0
  have hm1 := h.le; have hm2 := h.max
  unfold maxLen at hm2
  have hln : H.length = n := by rw [← hls_len]; exact h.len
  go_enter Try.func27, Try.ntmps27
  go_wp2
  go_loopw [5] (fun i wr => ∃ q : Nat, q ≤ n ∧ i = .int .i64 q ∧ w.grownBy wr none) (fun i _ => n - (intOf i).toNat)
  case atStart => exact ⟨0, by omega, rfl, World.grownBy.refl _ _⟩
  case round =>
    obtain ⟨q, hq, rfl, hgr⟩ := hrel
    by_cases hlt : q < n
    · obtain ⟨b1, o1, e1, _, hc1⟩ := (h.keep hgr).at' (by omega)
      obtain ⟨b2, o2, e2, _, hc2⟩ := (k.keep hgr).at' (by omega)
      subst e1
      subst e2
      have c1 := hc1 q _ (hls_at H q (by omega))
      have c2 := hc2 q _ (hls_at H q (by omega))
      have hqi : (q : Int) < (n : Int) := by omega
      clear hc1 hc2 h k
      generalize hat H q = x at *
      go_wp2
      go_quiet (fail)
      go_wp2
      go_roundw
      case rel => exact ⟨q + 1, by omega, by go_num, grown_trans hgr (grown_drewN _ _ _)⟩
      case measure => simp [intOf]; omega
    · go_wp2
      go_ret
      exact ⟨rfl, hgr⟩
/-- a vigil: what it says; where its lists lie -/
structure Vi where
  sf : Bool
  wy : Int
  bd : List Int
  tp : List Bool
  qu : Int
  tr : List Int
structure Va where
  ab : Option Addr
  nb : Nat
  cb : Nat
  ap : Option Addr
  np : Nat
  cp : Nat
  at' : Option Addr
  nt : Nat
  ct : Nat
def vgA (D : Vi) (A : Va) : Array Value := #[.bool D.sf, .int .i64 D.wy, .slice A.ab A.nb A.cb, .slice A.ap A.np A.cp, .int .i64 D.qu, .slice A.at' A.nt A.ct]
structure RdVg (w : World) (A : Va) (D : Vi) : Prop where
  b : RdX w A.ab A.nb A.cb (zys D.bd)
  p : RdX w A.ap A.np A.cp (hls D.tp)
  t : RdX w A.at' A.nt A.ct (zys D.tr)
theorem RdVg.keep {w w' : World} {A : Va} {D : Vi} (h : RdVg w A D) (hg : w.grownBy w' none) : RdVg w' A D := ⟨h.b.keep hg, h.p.keep hg, h.t.keep hg⟩
structure OwVg (w : World) (lo : Nat) (A : Va) (D : Vi) : Prop where
  b : AnsX 3 w lo A.ab A.nb A.cb (zys D.bd)
  p : AnsX 4 w lo A.ap A.np A.cp (hls D.tp)
  t : AnsX 3 w lo A.at' A.nt A.ct (zys D.tr)
  ne : ∀ g, (Value.slice A.ab A.nb A.cb).ownBlock = some g → (Value.slice A.at' A.nt A.ct).ownBlock ≠ some g
theorem OwVg.rd {w : World} {lo : Nat} {A : Va} {D : Vi} (h : OwVg w lo A D) : RdVg w A D := ⟨h.b.rd, h.p.rd, h.t.rd⟩
theorem OwVg.keep {w w' : World} {lo : Nat} {A : Va} {D : Vi} (h : OwVg w lo A D) (hg : w.grownBy w' none) : OwVg w' lo A D := ⟨h.b.keep hg, h.p.keep hg, h.t.keep hg, h.ne⟩
/-- the blocks of a vigil -/
def Vbl (A : Va) (i : Nat) : Prop := (Value.slice A.ab A.nb A.cb).ownBlock = some i ∨ (Value.slice A.ap A.np A.cp).ownBlock = some i ∨ (Value.slice A.at' A.nt A.ct).ownBlock = some i
theorem OwVg.lo {w : World} {lo : Nat} {A : Va} {D : Vi} (h : OwVg w lo A D) (i : Nat) (hi : Vbl A i) : lo ≤ i := by
  rcases hi with h1 | h1 | h1
  · exact h.b.new i h1
  · exact h.p.new i h1
  · exact h.t.new i h1
theorem OwVg.hi {w : World} {lo : Nat} {A : Va} {D : Vi} (h : OwVg w lo A D) (i : Nat) (hi : Vbl A i) : i < w.heap.size := by
  rcases hi with h1 | h1 | h1
  · exact h.b.lt i h1
  · exact h.p.lt i h1
  · exact h.t.lt i h1
theorem OwVg.fz {p : Nat → Prop} {w w' : World} {lo : Nat} {A : Va} {D : Vi} (h : OwVg w lo A D) (f : Fz p w w') (hn : ∀ i, Vbl A i → ¬ p i) : OwVg w' lo A D :=
  ⟨h.b.fz f (fun g hg => hn g (.inl hg)), h.p.fz f (fun g hg => hn g (.inr (.inl hg))), h.t.fz f (fun g hg => hn g (.inr (.inr hg))), h.ne⟩
set_option maxHeartbeats 8000000 in
theorem sameVigil_any (A B : Va) (D : Vi) (w : World) (h : RdVg w A D) (k : RdVg w B D) :
    Calls Try.prog 11 #[.agg (vgA D A), .agg (vgA D B)] w fun e w' => e = .returned (.bool true) ∧ w.grownBy w' none := by
  have b0 := BxS.new w 29 (vgA D A)
  have g0 := World.grownBy_alloc w (.cells (vgA D A) 29) none
  generalize hw0 : w.alloc (.cells (vgA D A) 29) = w0 at b0 g0
  have hz0 : w0.heap.size = w.heap.size + 1 := by rw [← hw0]; simp
  have b1 := BxS.new w0 29 (vgA D B)
  have g1 := World.grownBy_alloc w0 (.cells (vgA D B) 29) none
  generalize hw1 : w0.alloc (.cells (vgA D B) 29) = w1 at b1 g1
  rw [hz0] at b1
  have b01 := b0.keep g1 (by simp)
  have G1 := grown_trans g0 g1
  have h := h.keep G1
  have k := k.keep G1
  have hI := fun wz (hz : w1.grownBy wz none) => sameInts_any A.ab B.ab A.nb B.nb A.cb B.cb D.bd wz (h.b.keep hz).rdI (k.b.keep hz).rdI
  have hT := fun wz (hz : w1.grownBy wz none) => sameInts_any A.at' B.at' A.nt B.nt A.ct B.ct D.tr wz (h.t.keep hz).rdI (k.t.keep hz).rdI
  have hH := fun wz (hz : w1.grownBy wz none) => sameBools_any A.ap B.ap A.np B.np A.cp B.cp D.tp wz (h.p.keep hz) (k.p.keep hz)
  unfold vgA at hw0 hw1 b01 b1 ⊢
  obtain ⟨c0, c1, c2, c3, c4, c5⟩ := b01.cell6
  obtain ⟨d0, d1, d2, d3, d4, d5⟩ := b1.cell6
  have t0 : True := trivial
  clear b0 h k
  go_enter Try.func11, Try.ntmps11
  go_wp2_with (first
    | (go_at_call 19; have _t := t0; clear t0; refine (hI _ (World.grownBy.refl _ _)).mono ?_; rintro e w2 ⟨rfl, g2⟩; clear c0 c1 c2 c3 c4 c5 d0 d1 d2 d3 d4 d5; obtain ⟨c0, c1, c2, c3, c4, c5⟩ := (b01.keep g2 (by simp)).cell6; obtain ⟨d0, d1, d2, d3, d4, d5⟩ := (b1.keep g2 (by simp)).cell6; have t1 : True := trivial)
    | (go_at_call 27; have _t := t1; clear t1; refine (hH _ g2).mono ?_; rintro e w3 ⟨rfl, g3⟩; have G3 := grown_trans g2 g3; clear c0 c1 c2 c3 c4 c5 d0 d1 d2 d3 d4 d5; obtain ⟨c0, c1, c2, c3, c4, c5⟩ := (b01.keep G3 (by simp)).cell6; obtain ⟨d0, d1, d2, d3, d4, d5⟩ := (b1.keep G3 (by simp)).cell6; have t2 : True := trivial)
    | (go_at_call 19; have _t := t2; clear t2; refine (hT _ G3).mono ?_; rintro e w4 ⟨rfl, g4⟩))
  go_ret
  exact ⟨rfl, grown_trans G1 (grown_trans G3 g4)⟩
end Go.Proofs.Ytnpkmjdlohdieaa
