import Derived.Test.YthdjpbfknbafgaaTLe
import Derived.Deep.LoopGhost
namespace Go.Proofs.Ythdjpbfknbafgaa
open Go.RowKit Go.Shelf
set_option maxRecDepth 100000
set_option linter.unusedVariables false
set_option linter.unusedSimpArgs false
attribute [local go_sem] Oper.semAt_some

/-- the machine behind so many pieces; what each told; was a mark expected behind it -/
def mxX (r : Rx) (s : Mx) : List (List Nat) → Mx
  | [] => s
  | B :: Ps => mxX r (tkX r s B B.length).1 Ps
def toX (r : Rx) (s : Mx) : List (List Nat) → List (List Fa)
  | [] => []
  | B :: Ps => (tkX r s B B.length).2 :: toX r (tkX r s B B.length).1 Ps
def loX (r : Rx) (s : Mx) : List (List Nat) → List Bool
  | [] => []
  | B :: Ps => ((tkX r s B B.length).1.mode != 0) :: loX r (tkX r s B B.length).1 Ps
def sumX : List (List Nat) → Nat
  | [] => 0
  | B :: Ps => B.length + sumX Ps
theorem mxX_add (r : Rx) (B : List Nat) : ∀ (Ps : List (List Nat)) (s : Mx), mxX r s (Ps ++ [B]) = (tkX r (mxX r s Ps) B B.length).1
  | [], _ => rfl
  | A :: Ps, s => mxX_add r B Ps _
theorem toX_add (r : Rx) (B : List Nat) : ∀ (Ps : List (List Nat)) (s : Mx), toX r s (Ps ++ [B]) = toX r s Ps ++ [(tkX r (mxX r s Ps) B B.length).2]
  | [], _ => rfl
  | A :: Ps, s => by
    show _ :: toX r _ (Ps ++ [B]) = _
    rw [toX_add r B Ps]; rfl
theorem loX_add (r : Rx) (B : List Nat) : ∀ (Ps : List (List Nat)) (s : Mx), loX r s (Ps ++ [B]) = loX r s Ps ++ [(tkX r (mxX r s Ps) B B.length).1.mode != 0]
  | [], _ => rfl
  | A :: Ps, s => by
    show _ :: loX r _ (Ps ++ [B]) = _
    rw [loX_add r B Ps]; rfl
theorem mxX_tk (r : Rx) : ∀ (Ps : List (List Nat)) (s : Mx), (mxX r s Ps).tk = s.tk + sumX Ps
  | [], _ => rfl
  | A :: Ps, s => by
    show (mxX r _ Ps).tk = _
    rw [mxX_tk r Ps, tkX_tk]
    show _ = _ + (A.length + sumX Ps)
    omega
theorem sumX_take (B : List Nat) : ∀ (Ps : List (List Nat)) (i : Nat), Ps[i]? = some B → sumX (Ps.take i) + B.length ≤ sumX Ps
  | [], i, h => by cases h
  | A :: Ps, 0, h => by
    have e : A = B := Option.some.inj h
    subst e
    show 0 + A.length ≤ A.length + _
    omega
  | A :: Ps, i + 1, h => by
    have := sumX_take B Ps i h
    show A.length + sumX (Ps.take i) + B.length ≤ A.length + sumX Ps
    omega
/-- pieces as they are read -/
structure RdPs (w : World) (ap : Option Addr) (np cp : Nat) (Ps : List (List Nat)) : Prop where
  len : Ps.length = np
  at' : 0 < np → ∃ bp po, ap = some ⟨bp, po, none⟩ ∧ ∀ i B, Ps[i]? = some B → ∃ a m c, w.cell? ⟨bp, po + i, none⟩ = some (.slice a m c) ∧ Rd w a m c B
theorem RdPs.keepF {w w' : World} {ap : Option Addr} {np cp : Nat} {Ps : List (List Nat)} (h : RdPs w ap np cp Ps) (hF : Frm (fun _ => False) w w') : RdPs w' ap np cp Ps :=
  ⟨h.len, fun h0 => by
    obtain ⟨bp, po, e, hc⟩ := h.at' h0
    refine ⟨bp, po, e, fun i B hB => ?_⟩
    obtain ⟨a, m, c, h1, h2⟩ := hc i B hB
    exact ⟨a, m, c, cell_frm h1 hF (fun h => h), Rd.keepF (p := fun _ => False) h2 hF⟩⟩
/-- what marks leave as it is: all but those blocks -/
structure ShutD (Ds : List Nat) (w w' : World) : Prop where
  os : w'.os = w.os
  tape : w'.tape = w.tape
  output : w'.output = w.output
  size : w'.heap.size = w.heap.size
  other : ∀ k : Nat, k ∉ Ds → w'.heap[k]? = w.heap[k]?
theorem leaves_marksD {F : Fence} {n : Nat} {P : Program} {fn : Func} {tmps : Array Value} {R : Ending → World → Prop} (Ds : List Nat) : ∀ w : World, Ds.Nodup → (∀ D, D ∈ Ds → w.heap[D]? = some (.deferred (some []))) →
    (∀ w', ShutD Ds w w' → LeavesIn F n P fn tmps R [] .returning w') → LeavesInM F n P fn tmps R (Ds.map mark) .returning w := by
  induction Ds with
  | nil => intro w _ _ h; exact h w ⟨rfl, rfl, rfl, rfl, fun _ _ => rfl⟩
  | cons D Ds ih =>
    intro w hnd hD h
    have hD0 := hD D (List.mem_cons_self ..)
    obtain ⟨hn1, hn2⟩ := List.nodup_cons.1 hnd
    refine ⟨by simp, .inl ⟨D, _, rfl, run_takeDeferred hD0, ?_⟩⟩
    refine ih _ hn2 (fun E hE => ?_) (fun w' hs => h w' ?_)
    · rw [World.putObj_heap_other (fun e => hn1 (by rw [← e]; exact hE))]
      exact hD E (List.mem_cons_of_mem _ hE)
    · refine ⟨hs.os, hs.tape, hs.output, hs.size.trans (by simp [World.putObj]), fun k hk => ?_⟩
      have e : k ≠ D := fun e => hk (by rw [e]; exact List.mem_cons_self ..)
      have := hs.other k (fun h => hk (List.mem_cons_of_mem _ h))
      rw [this, World.putObj_heap_other e]
theorem s0X_inv {r : Rx} : Inv r s0X := by
  constructor <;> simp [s0X]


theorem AnsX.shut {e : TypeId} {w w' : World} {Ds : List Nat} {lo n c : Nat} {a : Option Addr} {X : List Value} (h : AnsX e w lo a n c X) (hF : Frm (fun k => k ∈ Ds) w w') (hD : ∀ D, D ∈ Ds → w.heap[D]? = some (.deferred (some []))) : AnsX e w' lo a n c X := h.frm hF (fun x hx hp => by
  obtain ⟨_, cs, e⟩ := row_lt h.own hx
  rw [hD x hp] at e
  cases e)
theorem OnR.shut {w w' : World} {Ds : List Nat} {lo : Nat} {dv : Value} {V : List Value} {Ts : List (List Fa)} (h : OnR w lo dv V Ts) (hF : Frm (fun k => k ∈ Ds) w w') (hD : ∀ D, D ∈ Ds → w.heap[D]? = some (.deferred (some []))) : OnR w' lo dv V Ts :=
  ⟨h.1, fun i v fs h1 h2 => by
    obtain ⟨ys, a, c, e, ho, hd, hf⟩ := (h.2 i v fs h1 h2).ex
    refine ⟨ys, a, c, e, row_frm ho hF (fun x hx hp => ?_), fun y hy => ⟨(hd y hy).1.frm hF (fun x hx hp => ?_), (hd y hy).2⟩, hf⟩
    · obtain ⟨_, cs, e⟩ := row_lt ho hx
      rw [hD x hp] at e
      cases e
    · obtain ⟨_, cs, e⟩ := row_lt (hd y hy).1.own hx
      rw [hD x hp] at e
      cases e⟩
theorem results_tmp4L {fn : Func} {p q r s : Tmp} (h : fn.results = #[.tmp p, .tmp q, .tmp r, .tmp s]) (tmps : Array Value) (P : Program) (w : World) :
    (results fn tmps).run P w = .ok (.tuple #[tmps.getD p undef, tmps.getD q undef, tmps.getD r undef, tmps.getD s undef]) w := by
  simp only [results, h]
  simp [Sem.run_bind, Result.andThen]
/-- what Listen answers -/
structure LsA (w w' : World) (np : Nat) (a4 a5 a6 : Option Addr) (c4 c5 c6 : Nat) (Ts : List (List Fa)) (Bs : List Bool) : Prop where
  o : ∃ V, AnsX 33 w' w.heap.size a4 np c4 V ∧ ∃ dv, OnR w' w.heap.size dv V Ts
  a : ∃ V, AnsX 33 w' w.heap.size a5 np c5 V ∧ ∃ dv, OnR w' w.heap.size dv V Ts
  l : AnsX 4 w' w.heap.size a6 np c6 (Bs.map Value.bool)
set_option maxHeartbeats 16000000 in
theorem listen_any (r : Rx) (ap : Option Addr) (np cp : Nat) (Ps : List (List Nat)) (w0 : World) (hP : RdPs w0 ap np cp Ps) (hnp : np ≤ 4000000000000) (hm : ∀ B, B ∈ Ps → B.length ≤ 4194304) (htk : sumX Ps ≤ 4611686018427387904) (hL1 : 1 ≤ r.L) (hL : r.L ≤ 2048) (hF : r.F ≤ 8) (hH : r.H ≤ 12) (hM : r.M ≤ 8) :
    Calls Try.prog 8 #[ruV r.L r.F r.H r.M, .slice ap np cp] w0 fun e w' => ∃ a4 a5 a6 c4 c5 c6, e = .returned (.tuple #[.slice a4 np c4, .slice a5 np c5, .slice a6 np c6, .int .i64 0]) ∧ LsA w0 w' np a4 a5 a6 c4 c5 c6 (toX r s0X Ps) (loX r s0X Ps) ∧ w0.grownBy w' none := by
  refine (callsIn_wide (n := 9)).1 (callsIn_of_wp_marks Try.func8 rfl trivial (wpIn_wide.2 ?_) rfl)
  simp only [Try.ntmps8, List.size_toArray, List.length_cons, List.length_nil, Nat.reduceAdd, Nat.reduceSub, Array.replicate_succ, Array.replicate_zero, List.push_toArray, List.append_toArray, List.nil_append, List.cons_append]
  have gA := World.grownBy_alloc w0 (.cells #[.int .i64 (r.L : Nat), .int .i64 (r.F : Nat), .int .i64 (r.H : Nat), .int .i64 (r.M : Nat)] 23) none
  have hNew := fun w => new_any r w hL1 hL hF hH hM
  have HP : Hid _ := hP
  clear hP
  unfold ruV at hNew ⊢
  conv => enter [2]; whnf
  go_wp2_with (go_at_call 15; refine (hNew _).mono ?_; rintro e w1 ⟨g, rfl, hgl, hS, g1⟩)
  have hz0 : w0.heap.size + 1 ≤ g := by simpa using hgl
  have F01 : Frm (fun _ => False) w0 w1 := Frm.of (grown_trans gA g1) (fun k e _ => by cases e)
  have HS : Hid _ := hS
  clear hS hNew gA g1 hgl
  refine wp_loop_ghost (fun z a W => ∃ (i : Nat) (a4 a5 a6 : Option Addr) (c4 c5 c6 : Nat) (Ds : List Nat) (u0 u1 u2 u3 u9 u10 u11 u12 u13 u14 u15 u16 u17 u18 u19 u20 u21 u22 u23 u24 u25 u26 u27 u31 u32 u33 u34 u35 u36 u37 u38 u39 u40 u41 u42 u43 u44 u45 u46 u47 u48 u49 u50 u51 u52 u53 u54 u55 u56 u57 u58 u59 u60 u61 u62 u63 u64 u65 u66 u67 : Value), a = (Act.mk (List.toArray (u0 :: u1 :: u2 :: u3 :: (.slice a4 i c4) :: (.slice a5 i c5) :: (.slice a6 i c6) :: (.int .i64 0) :: (.pointer (some ⟨g, 0, none⟩)) :: u9 :: u10 :: u11 :: u12 :: u13 :: u14 :: u15 :: u16 :: u17 :: u18 :: u19 :: u20 :: u21 :: u22 :: u23 :: u24 :: u25 :: u26 :: u27 :: (.slice ap np cp) :: (.int .i64 (np : Nat)) :: (.int .i64 (i : Nat)) :: u31 :: u32 :: u33 :: u34 :: u35 :: u36 :: u37 :: u38 :: u39 :: u40 :: u41 :: u42 :: u43 :: u44 :: u45 :: u46 :: u47 :: u48 :: u49 :: u50 :: u51 :: u52 :: u53 :: u54 :: u55 :: u56 :: u57 :: u58 :: u59 :: u60 :: u61 :: u62 :: u63 :: u64 :: u65 :: u66 :: u67 :: [])) (Ds.map mark)) ∧ i ≤ np ∧ z = np - i ∧ LsI w0 g r (mxX r s0X (Ps.take i)) i (toX r s0X (Ps.take i)) (loX r s0X (Ps.take i)) a4 a5 a6 c4 c5 c6 Ds W) np ?_ ?_
  · refine ⟨0, none, none, none, 0, 0, 0, [], ?_⟩
    repeat apply Exists.intro
    refine ⟨rfl, Nat.zero_le _, by omega, ⟨⟨_, [], [], HS.out, (fun x hx => by cases hx), AnsX.nil0 _ _ _, OnR.nil _ _ _, AnsX.nil0 _ _ _, OnR.nil _ _ _⟩, s0X_inv, by omega, (fun x hx => by cases hx), AnsX.nil0 _ _ _, F01, List.nodup_nil, (fun D hD => by cases hD), fun D hD => by cases hD⟩⟩
  · rintro z aa W ⟨i, a4, a5, a6, c4, c5, c6, Ds, u0, u1, u2, u3, u9, u10, u11, u12, u13, u14, u15, u16, u17, u18, u19, u20, u21, u22, u23, u24, u25, u26, u27, u31, u32, u33, u34, u35, u36, u37, u38, u39, u40, u41, u42, u43, u44, u45, u46, u47, u48, u49, u50, u51, u52, u53, u54, u55, u56, u57, u58, u59, u60, u61, u62, u63, u64, u65, u66, u67, rfl, hi, hz, J⟩
    by_cases hlt : i < np
    · obtain ⟨bp, po, rfl, hc⟩ := HP.out.at' (by omega)
      obtain ⟨B, hB⟩ : ∃ B, Ps[i]? = some B := ⟨_, List.getElem?_eq_getElem (by have := HP.out.len; omega)⟩
      obtain ⟨a, m, cap, cI, hR⟩ := hc i B hB
      have hBm : B ∈ Ps := List.mem_of_getElem? hB
      have hml := hm B hBm
      have hlen := hR.len
      have htke := mxX_tk r (Ps.take i) s0X
      have hsum := sumX_take B Ps i hB
      have htake : Ps.take (i + 1) = Ps.take i ++ [B] := by rw [List.take_add_one, hB]; rfl
      have hcW := cell_frm cI J.fr (fun h => h)
      have hlt' : (i : Int) < (np : Int) := by omega
      refine wp_seq_k fun K1 hK1 => ?_
      have HK1 : Hid _ := hK1
      clear hK1
      go_wp2
      refine HK1.out _ _ ?_
      clear HK1
      refine wp_seq_k fun K2 hK2 => ?_
      have HK2 : Hid _ := hK2
      clear hK2
      go_wp2
      refine HK2.out _ _ ?_
      clear HK2
      refine li_8 w0 W g i np cp po bp a4 a5 a6 c4 c5 c6 r (mxX r s0X (Ps.take i)) (toX r s0X (Ps.take i)) (loX r s0X (Ps.take i)) Ds a m cap B J hlt hnp hcW hR (by omega) (by rw [htke]; show 0 + _ + _ ≤ _; omega) hL1 hL (by omega) (by omega) ?_
      intro g4 d4 g5 d5 g6 d6 D1 D2 D3 W' z11 z12 z13 z14 z32 z33 z34 z35 z36 z37 z43 z45 z51 z52 z53 z54 z55 z56 z57 z58 z59 z60 z61 z62 z63 z64 J'
      show ∃ n', _ ∧ _
      refine ⟨np - (i + 1), by omega, i + 1, some ⟨g4, 0, none⟩, some ⟨g5, 0, none⟩, some ⟨g6, 0, none⟩, d4, d5, d6, D3 :: D2 :: D1 :: Ds, ?_⟩
      repeat apply Exists.intro
      refine ⟨rfl, by omega, rfl, ?_⟩
      rw [htake, mxX_add, toX_add, loX_add, hlen]
      exact J'
    · obtain rfl : i = np := by omega
      have hge : ¬ ((i : Int) < (i : Int)) := by omega
      have htl : Ps.take i = Ps := List.take_of_length_le (by have := HP.out.len; omega)
      rw [htl] at J
      have HJ : Hid _ := J
      clear J
      go_wp2
      have J := HJ.out
      show LeavesInM Fence.wide 9 Try.prog Try.f8 _ _ (Ds.map mark) .returning W
      refine leaves_marksD Ds W J.nd J.de (fun w' hs => ?_)
      have hFF : Frm (fun k => k ∈ Ds) W w' := ⟨hs.os, hs.tape, hs.output, by rw [hs.size]; exact Nat.le_refl _, fun k _ hn => hs.other k hn⟩
      obtain ⟨dv, V4, V5, _, _, hA4, hO4, hA5, hO5⟩ := J.sy
      refine ⟨_, results_tmp4L (p := 4) (q := 5) (r := 6) (s := 7) (by kernel_rfl) _ _ _, a4, a5, a6, c4, c5, c6, rfl, ⟨⟨V4, hA4.shut hFF J.de, dv, hO4.shut hFF J.de⟩, ⟨V5, hA5.shut hFF J.de, dv, hO5.shut hFF J.de⟩, J.lk.shut hFF J.de⟩, ?_⟩
      have h0 := J.fr.trans hFF (fun k hk h => by have := J.dg k h; omega)
      exact ⟨h0.os, h0.tape, h0.output, h0.size, fun k hk _ => h0.block k hk (fun h => h)⟩
end Go.Proofs.Ythdjpbfknbafgaa
