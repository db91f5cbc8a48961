import Derived.Test.YtamiimcbodhjoaaVSm
namespace Go.Proofs.Ytamiimcbodhjoaa
open Go.RowKit
set_option maxRecDepth 100000
set_option linter.unusedVariables false
set_option linter.unusedSimpArgs false

theorem rlt0 {w : World} {g n : Nat} {L D : List Nat} (h : Roomy w g n L D) : g < w.heap.size := by
  have := h.blk
  unfold Blk at this
  exact (Array.getElem?_eq_some_iff.1 this).1
theorem ne_own {g k n c : Nat} (h : g < k) : some k ≠ (Value.slice (some ⟨g, 0, none⟩) n c).ownBlock := fun e => by
  have e : k = g := Option.some.inj e
  omega
theorem ans_far {w : World} {lo : Nat} {a : Option Addr} {n cap : Nat} {L : List Nat} {g m c : Nat} (h : Ans w lo a n cap L) (hg : g < lo) : (Value.slice a n cap).ownBlock = none ∨ (Value.slice a n cap).ownBlock ≠ (Value.slice (some ⟨g, 0, none⟩) m c).ownBlock := by
  rcases h.cases with ⟨rfl, _, _⟩ | ⟨g', rfl, hg', _⟩
  · exact .inl rfl
  · refine .inr fun e => ?_
    have e : g' = g := Option.some.inj e
    omega
set_option maxHeartbeats 16000000 in
theorem offers_walk (id : Int) (nm : ByteArray) (a : Option Addr) (n cap : Nat) (mo bu pa li : Int) (L : List Nat) (w : World) (hL : Rd w a n cap L) (hn : n ≤ 140737488351232) :
    Calls Try.prog 5 #[.int .i64 id, .string nm, .slice a n cap, .int .i64 mo, .int .i64 bu, .int .i64 pa, .int .i64 li] w fun e w' => e = .returned (.bool true) ∧ Below w.heap.size w w' := by
  have hby := hL.byte
  have hlen := hL.len
  have h0 := roomy_any a n cap L w hL hn
  have h1 := fun wz hz => offered_any id nm a n cap mo bu pa li L wz hz
  have h2 := fun (a2 : Option Addr) (c2 : Nat) wz hz => offer_any id nm a2 n c2 mo bu pa li L wz hz
  have h3 := fun wz => expected_any id pa li wz
  have h4 := fun wz => expect_any id pa li wz
  unfold OfA at h1 h2
  unfold ExA at h3 h4
  generalize ofE id pa li mo bu nm.size n = E at h1 h2
  generalize dsE id pa li = E2 at h3 h4
  generalize ofX E id = x0 at h1 h2
  generalize ofX E mo = x1 at h1 h2
  generalize ofX E bu = x2 at h1 h2
  generalize ofX E pa = x3 at h1 h2
  generalize ofX E li = x4 at h1 h2
  generalize ofS E nm = s at h1 h2
  generalize decide (E = 0) = fb at h1 h2
  generalize ofL E L = M at h1 h2
  generalize hm : M.length = m at h1 h2
  generalize ofX E2 id = y0 at h3 h4
  generalize ofX E2 pa = y1 at h3 h4
  generalize ofX E2 li = y2 at h3 h4
  have h5 := fun (a a' : Option Addr) (c c' : Nat) wz hz hz' => sameGiver_any x0 s x1 x2 0 fb 0 0 x3 0 x4 a a' none none m c c' 0 0 0 M (fun _ => (0, 0)) (fun _ => (0, 0)) wz hz hz' (RdG.nil0 _ _) (RdG.nil0 _ _) (fun i h => rfl)
  have h6 := fun wz => sameTaker_any y0 false ⟨#[]⟩ 0 false 0 0 0 0 y1 0 y2 none none none none 0 0 0 0 0 0 [] (fun _ => (0, 0)) (fun _ => (0, 0)) wz ((Ans.nil wz 0).rd) ((Ans.nil wz 0).rd) (RdG.nil0 _ _) (RdG.nil0 _ _) (fun i h => rfl)
  unfold gvA at h1 h2 h5
  unfold tkA at h3 h4 h6
  have t1 : True := trivial
  go_enter Try.func5, Try.ntmps5
  go_wp2_with (first
    | (go_at_call 16; refine h0.mono ?_; rintro e w0 ⟨rfl, ⟨D, hR0⟩, g0⟩)
    | (go_at_call 24; refine (h1 w0 (hL.keep g0)).mono ?_; rintro e w1 ⟨a1, c1, rfl, r1, g1⟩; have p1 := BxS.new w1 44 #[.int .i64 x0, .string s, .slice a1 m c1, .int .i64 x1, .int .i64 x2, .int .i64 0, .bool fb, .int .i64 0, .slice none 0 0, .int .i64 0, .int .i64 x3, .int .i64 0, .int .i64 x4]; have gA1 := World.grownBy_alloc w1 (.cells #[.int .i64 x0, .string s, .slice a1 m c1, .int .i64 x1, .int .i64 x2, .int .i64 0, .bool fb, .int .i64 0, .slice none 0 0, .int .i64 0, .int .i64 x3, .int .i64 0, .int .i64 x4] 44) none; generalize hv1 : w1.alloc (.cells #[.int .i64 x0, .string s, .slice a1 m c1, .int .i64 x1, .int .i64 x2, .int .i64 0, .bool fb, .int .i64 0, .slice none 0 0, .int .i64 0, .int .i64 x3, .int .i64 0, .int .i64 x4] 44) = v1 at p1 gA1; have k1 := grown_trans g1 gA1)
    | (go_at_call 25; refine (h2 _ _ v1 ((hR0.keep k1).rd hby hlen hn)).mono ?_; rintro e w2 ⟨a2, c2, rfl, r2, g2⟩; have p2 := BxS.new w2 44 #[.int .i64 x0, .string s, .slice a2 m c2, .int .i64 x1, .int .i64 x2, .int .i64 0, .bool fb, .int .i64 0, .slice none 0 0, .int .i64 0, .int .i64 x3, .int .i64 0, .int .i64 x4]; have gA2 := World.grownBy_alloc w2 (.cells #[.int .i64 x0, .string s, .slice a2 m c2, .int .i64 x1, .int .i64 x2, .int .i64 0, .bool fb, .int .i64 0, .slice none 0 0, .int .i64 0, .int .i64 x3, .int .i64 0, .int .i64 x4] 44) none; generalize hv2 : w2.alloc (.cells #[.int .i64 x0, .string s, .slice a2 m c2, .int .i64 x1, .int .i64 x2, .int .i64 0, .bool fb, .int .i64 0, .slice none 0 0, .int .i64 0, .int .i64 x3, .int .i64 0, .int .i64 x4] 44) = v2 at p2 gA2; have k2 := grown_trans g2 gA2)
    | (go_at_call 26; refine (h3 v2).mono ?_; rintro e w3 ⟨rfl, g3⟩; have p3 := BxS.new w3 48 #[.int .i64 y0, .bool false, .string ⟨#[]⟩, .int .i64 0, .bool false, .int .i64 0, .int .i64 0, .slice none 0 0, .slice none 0 0, .int .i64 0, .int .i64 0, .int .i64 y1, .int .i64 0, .int .i64 y2]; have gA3 := World.grownBy_alloc w3 (.cells #[.int .i64 y0, .bool false, .string ⟨#[]⟩, .int .i64 0, .bool false, .int .i64 0, .int .i64 0, .slice none 0 0, .slice none 0 0, .int .i64 0, .int .i64 0, .int .i64 y1, .int .i64 0, .int .i64 y2] 48) none; generalize hv3 : w3.alloc (.cells #[.int .i64 y0, .bool false, .string ⟨#[]⟩, .int .i64 0, .bool false, .int .i64 0, .int .i64 0, .slice none 0 0, .slice none 0 0, .int .i64 0, .int .i64 0, .int .i64 y1, .int .i64 0, .int .i64 y2] 48) = v3 at p3 gA3; have k3 := grown_trans g3 gA3)
    | (go_at_call 27; refine (h4 v3).mono ?_; rintro e w4 ⟨rfl, g4⟩; have p4 := BxS.new w4 48 #[.int .i64 y0, .bool false, .string ⟨#[]⟩, .int .i64 0, .bool false, .int .i64 0, .int .i64 0, .slice none 0 0, .slice none 0 0, .int .i64 0, .int .i64 0, .int .i64 y1, .int .i64 0, .int .i64 y2]; have gA4 := World.grownBy_alloc w4 (.cells #[.int .i64 y0, .bool false, .string ⟨#[]⟩, .int .i64 0, .bool false, .int .i64 0, .int .i64 0, .slice none 0 0, .slice none 0 0, .int .i64 0, .int .i64 0, .int .i64 y1, .int .i64 0, .int .i64 y2] 48) none; generalize hv4 : w4.alloc (.cells #[.int .i64 y0, .bool false, .string ⟨#[]⟩, .int .i64 0, .bool false, .int .i64 0, .int .i64 0, .slice none 0 0, .slice none 0 0, .int .i64 0, .int .i64 0, .int .i64 y1, .int .i64 0, .int .i64 y2] 48) = v4 at p4 gA4; have k4 := grown_trans g4 gA4; have k24 := grown_trans k3 k4; have k14 := grown_trans k2 k24; obtain ⟨c0, c1, c2, c3, c4, c5, c6, c7, c8, c9, c10, c11, c12⟩ := (p1.keep k14 (by simp)).cell13; obtain ⟨d0, d1, d2, d3, d4, d5, d6, d7, d8, d9, d10, d11, d12⟩ := (p2.keep k24 (by simp)).cell13; obtain ⟨e0, e1, e2, e3, e4, e5, e6, e7, e8, e9, e10, e11, e12, e13⟩ := (p3.keep k4 (by simp)).cell14; obtain ⟨f0, f1, f2, f3, f4, f5, f6, f7, f8, f9, f10, f11, f12, f13⟩ := p4.cell14; have t2 : True := trivial)
    | (go_at_call 28; have _t := t2; clear t2; refine (h5 _ _ _ _ v4 ((r2.keep gA2).keep k24).rd ((r1.keep gA1).keep k14).rd).mono ?_; rintro e w5 ⟨rfl, g5⟩; clear c0 c1 c2 c3 c4 c5 c6 c7 c8 c9 c10 c11 c12 d0 d1 d2 d3 d4 d5 d6 d7 d8 d9 d10 d11 d12 e0 e1 e2 e3 e4 e5 e6 e7 e8 e9 e10 e11 e12 e13 f0 f1 f2 f3 f4 f5 f6 f7 f8 f9 f10 f11 f12 f13; obtain ⟨e0, e1, e2, e3, e4, e5, e6, e7, e8, e9, e10, e11, e12, e13⟩ := ((p3.keep k4 (by simp)).keep g5 (by simp)).cell14; obtain ⟨f0, f1, f2, f3, f4, f5, f6, f7, f8, f9, f10, f11, f12, f13⟩ := (p4.keep g5 (by simp)).cell14; have t3 : True := trivial)
    | (go_at_call 29; refine (h6 w5).mono ?_; rintro e w6 ⟨rfl, g6⟩; clear e0 e1 e2 e3 e4 e5 e6 e7 e8 e9 e10 e11 e12 e13 f0 f1 f2 f3 f4 f5 f6 f7 f8 f9 f10 f11 f12 f13; have k6 := grown_trans g5 g6; have K6 := grown_trans (grown_trans k1 k14) k6)
    | (go_at_call 21; refine (left_any _ a n cap L D w6 (hR0.keep K6) ((hL.keep g0).keep K6) hn).mono ?_; rintro e w7 ⟨rfl, g7⟩; have k7 := grown_trans k6 g7; have K7 := grown_trans K6 g7; have q0 := rlt0 hR0; have q1 := g1.size; have q2 := k2.size; have q3 := k1.size)
    | (go_at_call 22; refine (spoil_any ((hR0.keep K7).ans (lo := w.heap.size) hby hlen hn (Nat.le_refl _)) (by omega)).mono ?_; rintro e w8 ⟨rfl, g8⟩; have t8 : True := trivial; obtain ⟨c0, c1, c2, c3, c4, c5, c6, c7, c8, c9, c10, c11, c12⟩ := ((((p1.keep k14 (by simp)).keep k7 (by simp))).keep g8 (ne_own (by omega))).cell13; obtain ⟨d0, d1, d2, d3, d4, d5, d6, d7, d8, d9, d10, d11, d12⟩ := ((((p2.keep k24 (by simp)).keep k7 (by simp))).keep g8 (ne_own (by have := g2.size; omega))).cell13)
    | (go_at_call 28; have _t := t8; clear t8; refine (h5 _ _ _ _ w8 (((((r2.keep gA2).keep k24).keep k7).kept g8 (ans_far r2 (by omega))).rd) (((((r1.keep gA1).keep k14).keep k7).kept g8 (ans_far r1 (by omega))).rd)).mono ?_; rintro e w9 ⟨rfl, g9⟩))
  go_ret
  refine ⟨rfl, ?_⟩
  have G7 : w.grownBy w7 none := grown_trans g0 K7
  have G8 : w.grownBy w8 none := grown_far G7 g8 (fun q e => by have e : w.heap.size = q := Option.some.inj e; omega)
  exact (Below.refl _ _).grown (grown_trans G8 g9) (Nat.le_refl _) (fun k hk => by cases hk)
end Go.Proofs.Ytamiimcbodhjoaa
