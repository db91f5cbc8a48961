import Derived.Test.YthdjpbfknbafgaaTSyA
namespace Go.Proofs.Ythdjpbfknbafgaa
open Go.RowKit Go.Shelf
set_option maxRecDepth 100000
set_option linter.unusedVariables false
set_option linter.unusedSimpArgs false

/-- n bits are taken: the machine behind them, and what was told -/
def tkX (r : Rx) (s : Mx) (B : List Nat) : Nat → Mx × List Fa
  | 0 => (s, [])
  | n + 1 => ((stX r (inX (tkX r s B n).1 (nth B n))).1, (tkX r s B n).2 ++ (stX r (inX (tkX r s B n).1 (nth B n))).2)
theorem stX_tk (r : Rx) (s : Mx) : (stX r s).1.tk = s.tk := by
  have hsg : ∀ N s', (sgN r N s').tk = s'.tk := by
    intro N
    induction N with
    | zero => intro s'; rfl
    | succ N ih => intro s'; unfold sgN; split
                   · rfl
                   · split
                     · rfl
                     · split
                       · rfl
                       · rw [ih]
  unfold stX gaX exX deX bgX sgX
  repeat' split
  all_goals first | rfl | exact hsg _ _ | (simp only [hsg])
theorem stX_len (r : Rx) (s : Mx) : (stX r s).2.length ≤ 1 := by
  unfold stX gaX
  repeat' split
  all_goals simp
theorem tkX_tk (r : Rx) (s : Mx) (B : List Nat) (n : Nat) : (tkX r s B n).1.tk = s.tk + n := by
  induction n with
  | zero => rfl
  | succ n ih => show (stX r _).1.tk = _; rw [stX_tk]; show (tkX r s B n).1.tk + 1 = _; rw [ih]; omega
theorem tkX_len (r : Rx) (s : Mx) (B : List Nat) (n : Nat) : (tkX r s B n).2.length ≤ n := by
  induction n with
  | zero => exact Nat.le_refl _
  | succ n ih => show ((tkX r s B n).2 ++ _).length ≤ _; rw [List.length_append]; have := stX_len r (inX (tkX r s B n).1 (nth B n)); omega
theorem tkX_inv {r : Rx} (hL : 1 ≤ r.L) {s : Mx} (h : Inv r s) (B : List Nat) (n : Nat) : Inv r (tkX r s B n).1 := by
  induction n with
  | zero => exact h
  | succ n ih => exact stX_inv hL (ih.mid _)
theorem or_bit (la b : Nat) (hla : la < 18446744073709551616) : bits .or .u64 ((la : Int) * 2 % 18446744073709551616) ((b % 2 : Nat) : Int) = (((la * 2 + b % 2) % 18446744073709551616 : Nat) : Int) := by
  have e : (la : Int) * 2 % 18446744073709551616 = ((la * 2 % 18446744073709551616 : Nat) : Int) := by omega
  rw [e, u64_or_nat _ _ (Nat.mod_lt _ (by decide)) (by omega)]
  refine congrArg _ ?_
  have h2 : la * 2 % 18446744073709551616 = (la % 9223372036854775808) <<< 1 := by rw [Nat.shiftLeft_eq]; omega
  have h3 := Nat.shiftLeft_add_eq_or_of_lt (show b % 2 < 2 ^ 1 by omega) (la % 9223372036854775808)
  rw [h2, ← h3, Nat.shiftLeft_eq]
  omega
theorem wrap_u64' (x : Int) : IntKind.u64.wrap x = x % 18446744073709551616 := by simp [IntKind.wrap, IntKind.bits, IntKind.signed]
theorem and_bit : ∀ b : Nat, b < 256 → bits .and .u8 (b : Int) 1 = ((b % 2 : Nat) : Int) := by decide +kernel
set_option maxHeartbeats 4000000 in
theorem take_any (g : Nat) (r : Rx) (s : Mx) (dv : Value) (a : Option Addr) (n cap : Nat) (B : List Nat) (w : World) (h : SyM w g r s dv) (hI : Inv r s) (hp : Rd w a n cap B) (hsep : 0 < n → ∀ b off, a = some ⟨b, off, none⟩ → b ≠ g ∧ some b ≠ dv.ownBlock) (hn : n ≤ 4194304) (htk : s.tk + n ≤ 4611686018427387904) (hL1 : 1 ≤ r.L) (hL : r.L ≤ 2048) (hF : r.F ≤ 64) (hMs : r.M ≤ 64) :
    Calls Try.prog 17 #[.pointer (some ⟨g, 0, none⟩), .slice a n cap] w fun e w' => e = .returned (.func (.func 28) #[] #[.pointer (some ⟨w.heap.size, 0, none⟩)]) ∧ ∃ dv' v' fs', SyM w' g r (tkX r s B n).1 dv' ∧ FdB w' w.heap.size v' dv' fs' ∧ fs'.map absF = (tkX r s B n).2 ∧
      (∀ x, dv'.ownBlock = some x → dv.ownBlock = some x ∨ w.heap.size ≤ x) ∧ (∀ x, v'.ownBlock = some x → w.heap.size ≤ x) ∧ Frm (fun k => k = g ∨ some k = dv.ownBlock) w w' := by
  have bx := Boxed.new w 33 (.slice none 0 0)
  have gA := World.grownBy_alloc w (.cells #[.slice none 0 0] 33) none
  have hszA : w.heap.size + 1 = (w.alloc (.cells #[.slice none 0 0] 33)).heap.size := by simp
  have FA := Frm.of (p := fun k => k = g ∨ some k = dv.ownBlock) gA (fun k e _ => by cases e)
  have hA : SyM (w.alloc (.cells #[.slice none 0 0] 33)) g r s dv := ⟨h.blk.keep gA, h.idle, fun e => by
    obtain ⟨gd, a1, a2, a3, a4⟩ := h.busy e
    exact ⟨gd, a1, a2, a3.alloc _, a4⟩⟩
  have hfA : FdB (w.alloc (.cells #[.slice none 0 0] 33)) w.heap.size (.slice none 0 0) dv [] := ⟨bx, World.ownsRow_nil _ _ _ _, fun f hf => by cases hf⟩
  go_enter Try.func17, Try.ntmps17
  go_wp2
  generalize w.alloc (.cells #[.slice none 0 0] 33) = wa at *
  go_loopw [12] (fun i wr => ∃ (k : Nat) (dv' v' : Value) (fs' : List Fv), k ≤ n ∧ i = .int .i64 k ∧ SyM wr g r (tkX r s B k).1 dv' ∧ FdB wr w.heap.size v' dv' fs' ∧ Hid (fs'.map absF = (tkX r s B k).2) ∧ (∀ x, dv'.ownBlock = some x → dv.ownBlock = some x ∨ w.heap.size ≤ x) ∧ (∀ x, v'.ownBlock = some x → w.heap.size ≤ x) ∧ Frm (fun k => k = g ∨ some k = dv.ownBlock) w wr) (fun i _ => n - (intOf i).toNat)
  case atStart => exact ⟨0, dv, .slice none 0 0, [], Nat.zero_le _, rfl, hA, hfA, rfl, fun x hx => .inl hx, fun x hx => by simp [Value.ownBlock] at hx, FA⟩
  case round =>
    obtain ⟨k, dv', v', fs', hk, rfl, hS, hfd, HA, hN1, hN2, hFr⟩ := hrel
    by_cases hlt : k < n
    · have hIk := tkX_inv hL1 hI B k
      have htkk := tkX_tk r s B k
      have hlk := tkX_len r s B k
      have hfl : fs'.length ≤ 4194304 := by have := congrArg List.length HA.out; rw [List.length_map] at this; omega
      have HX : Hid (tkX r s B (k + 1) = ((stX r (inX (tkX r s B k).1 (nth B k))).1, (tkX r s B k).2 ++ (stX r (inX (tkX r s B k).1 (nth B k))).2)) := rfl
      generalize tkX r s B k = q at *
      obtain ⟨⟨mode, tk, la, p, tu, mi, da⟩, outs⟩ := q
      simp only at hIk htkk hlk
      obtain ⟨b0, off, ha0, _, _⟩ := hp.at' (by omega)
      have hsp := hsep (by omega) b0 off ha0
      subst ha0
      have hB : SyB wr g r.L r.F r.H r.M (kM mode) (mode != 0) tk la p tu mi dv' := hS.blk
      have hc : wr.cell? ⟨b0, off + k, none⟩ = some (.int .u8 (nth B k : Nat)) := by
        obtain ⟨b', off', e', hb', hcc⟩ := hp.at' (by omega)
        cases e'
        exact (World.cell?_of_block (hFr.block b0 hb' (fun h => h.elim hsp.1 hsp.2))).trans (hcc k hlt)
      have hbl := hp.byte.nth k
      have hla := hIk.la
      simp only at hla
      obtain ⟨la2, hla2⟩ : ∃ la2, la2 = (la * 2 + nth B k % 2) % 18446744073709551616 := ⟨_, rfl⟩
      have HOB : Hid (bits .or .u64 (IntKind.u64.wrap ((la : Int) * 2)) (IntKind.u64.wrap (bits .and .u8 ((nth B k : Nat) : Int) 1)) = (la2 : Int)) := by
        show _ = _
        rw [and_bit (nth B k) hbl, hla2, ← or_bit la (nth B k) hla, wrap_u64' , wrap_u64']
        congr 1
        omega
      have HLA2 : Hid (inX ⟨mode, tk, la, p, tu, mi, da⟩ (nth B k) = ⟨mode, tk + 1, la2, p, tu, mi, da⟩) := by
        show _ = _
        unfold inX
        rw [hla2]
      clear hla2 hla
      have c7 := hB.c 7 (.int .u64 la) rfl
      have HFr : Hid (Frm (fun k => k = g ∨ some k = dv.ownBlock) w wr) := hFr
      have HN1 : Hid (∀ x, dv'.ownBlock = some x → dv.ownBlock = some x ∨ w.heap.size ≤ x) := hN1
      have HN2 : Hid (∀ x, v'.ownBlock = some x → w.heap.size ≤ x) := hN2
      have HSx : Hid (SyM wr g r ⟨mode, tk, la, p, tu, mi, da⟩ dv') := hS
      have HFd : Hid (FdB wr w.heap.size v' dv' fs') := hfd
      have HIk : Hid (Inv r ⟨mode, tk, la, p, tu, mi, da⟩) := hIk
      have HP : Hid (Rd w (some ⟨b0, off, none⟩) n cap B) := hp
      have HTk : Hid (tk = s.tk + k) := htkk
      have htl : tk ≤ 4611686018427387903 := by omega
      clear hFr hN1 hN2 hS hfd hIk hp hsep hsp hI h hA hfA bx gA FA htkk
      have HC6 : Hid (∀ w1, SyB w1 g r.L r.F r.H r.M (kM mode) (mode != 0) tk la2 p tu mi dv' → w1.cell? ⟨g, 6, none⟩ = some (.int .i64 tk)) := fun w1 h => h.c 6 (.int .i64 tk) rfl
      have HC4 : Hid (∀ w1, SyB w1 g r.L r.F r.H r.M (kM mode) (mode != 0) (tk + 1) la2 p tu mi dv' → w1.cell? ⟨g, 4, none⟩ = some (.func (.func (kM mode)) #[] #[])) := fun w1 h => h.c 4 (.func (.func (kM mode)) #[] #[]) rfl
      have HST : Hid (∀ w2, SyB w2 g r.L r.F r.H r.M (kM mode) (mode != 0) (tk + 1) la2 p tu mi dv' → wr.grownBy w2 (some g) → Calls Try.prog (kM mode) #[.pointer (some ⟨g, 0, none⟩), .func (.func 27) #[] #[.pointer (some ⟨w.heap.size, 0, none⟩)]] w2 fun e w' => e = .returned (.tuple #[]) ∧ ∃ dv3 v3 fs3, SyM w' g r (stX r (inX ⟨mode, tk, la, p, tu, mi, da⟩ (nth B k))).1 dv3 ∧ FdB w' w.heap.size v3 dv3 fs3 ∧ fs3.map absF = fs'.map absF ++ (stX r (inX ⟨mode, tk, la, p, tu, mi, da⟩ (nth B k))).2 ∧
          (∀ x, dv3.ownBlock = some x → dv'.ownBlock = some x ∨ w2.heap.size ≤ x) ∧ (∀ x, v3.ownBlock = some x → v'.ownBlock = some x ∨ w2.heap.size ≤ x) ∧ Frm (Wr g w.heap.size dv' v') w2 w') := by
        intro w2 h2 hg2
        have F1 := Frm.of (p := fun k => k = g) hg2 (fun k e _ => (Option.some.inj e).symm)
        obtain ⟨p1, p2, p3⟩ := HFd.out.apart_g hB
        have hmid := HIk.out.mid (nth B k)
        rw [HLA2.out] at hmid ⊢
        refine step_any g w.heap.size r ⟨mode, tk + 1, la2, p, tu, mi, da⟩ dv' v' fs' w2 ⟨h2, HSx.out.idle, fun e => ?_⟩ (HFd.out.frm F1 p1 p2 p3 (fun x hx => .inl hx)) hmid (by show tk + 1 ≤ _; omega) hL hF hMs hfl
        obtain ⟨gd, a1, a2, a3, a4⟩ := HSx.out.busy e
        refine ⟨gd, a1, a2, row_frm a3 F1 (fun x hx e => ?_), a4⟩
        simp only at a1
        rw [a1] at hx
        have e2 : gd = x := Option.some.inj hx
        exact a2 (e2.trans e)
      have hmode : mode = 0 ∨ mode = 1 ∨ mode = 2 := by have := HIk.out.mode; simp only at this; omega
      clear c7
      have c7 := hB.c 7 (.int .u64 la) rfl
      have t1 : True := trivial
      rcases hmode with rfl | rfl | rfl
      all_goals
        go_wp2_with (first
          | (have _t := t1; clear t1; refine wpList_stS _ rfl _ (.tmp 27) (.tmp 25) rfl g 7 _ _ (.int .u64 (la2 : Nat)) rfl (congrArg (Value.int .u64) HOB.out) hB (st_u64 g 7 _) (by rw [syS]; decide) (sy7 (n := la2) ..) ?_; intro w1 h1 g1; have c6 := HC6.out w1 h1; have t2 : True := trivial)
          | (have _t := t2; clear t2; refine wpList_stS _ rfl _ (.tmp 34) (.tmp 32) rfl g 6 _ _ (.int .i64 ((tk + 1 : Nat) : Int)) rfl rfl h1 (st_int g 6 _) (by rw [syS]; decide) (sy6 (n := tk + 1) ..) ?_; intro w2 h2 g2; have c4 := HC4.out w2 h2; simp only [kM] at c4; have t3 : True := trivial)
          | (go_at_call 32; have _t := t3; clear t3; refine (HST.out w2 h2 (grown_trans g1 g2)).mono ?_; rintro e w3 ⟨rfl, dv3, v3, fs3, hS3, hF3, ha3, hd3, hv3, hFr3⟩)
          | (go_at_call 40; have _t := t3; clear t3; refine (HST.out w2 h2 (grown_trans g1 g2)).mono ?_; rintro e w3 ⟨rfl, dv3, v3, fs3, hS3, hF3, ha3, hd3, hv3, hFr3⟩)
          | (go_at_call 43; have _t := t3; clear t3; refine (HST.out w2 h2 (grown_trans g1 g2)).mono ?_; rintro e w3 ⟨rfl, dv3, v3, fs3, hS3, hF3, ha3, hd3, hv3, hFr3⟩))
        go_roundw
        case rel =>
          have hs2 := (grown_trans g1 g2).size
          have hsw := HFr.out.size
          have F2 := Frm.of (p := fun k => k = g) (grown_trans g1 g2) (fun k e _ => (Option.some.inj e).symm)
          refine ⟨k + 1, dv3, v3, fs3, by omega, by go_num, by rw [HX.out]; exact hS3, hF3, by rw [HX.out]; exact ha3.trans (by rw [HA.out]), fun x hx => ?_, fun x hx => ?_, ?_⟩
          · rcases hd3 x hx with h | h
            · exact HN1.out x h
            · exact .inr (by omega)
          · rcases hv3 x hx with h | h
            · exact HN2.out x h
            · omega
          · refine (HFr.out.trans F2 (fun i _ h => .inl h)).trans hFr3 (fun i hi h => ?_)
            rcases h with h | h | h | h
            · exact .inl h
            · rcases HN1.out i h.symm with h2 | h2
              · exact .inr h2.symm
              · omega
            · omega
            · have := HN2.out i h.symm; omega
        case measure => simp [intOf]; omega
    · obtain rfl : k = n := by omega
      go_wp2
      go_ret
      exact ⟨rfl, dv', v', fs', hS, hfd, HA.out, hN1, hN2, hFr⟩
end Go.Proofs.Ythdjpbfknbafgaa
