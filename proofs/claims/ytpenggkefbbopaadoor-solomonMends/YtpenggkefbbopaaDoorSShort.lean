import Derived.Test.YtpenggkefbbopaaDoorSVal
import Derived.Test.YtpenggkefbbopaaDoorSDecM
namespace Go.Proofs.YtpenggkefbbopaaDoor
open Go.RowKit
set_option maxRecDepth 100000
set_option linter.unusedVariables false
set_option linter.unusedSimpArgs false

/-- the derivative: just the odd powers leave something -/
def drvL (P : List Nat) : List Nat := (List.range P.length).map fun i => if i % 2 = 0 then nth P (i + 1) else 0
theorem drvL_len (P : List Nat) : (drvL P).length = P.length := by simp [drvL]
theorem nth_drvL (P : List Nat) (i : Nat) (h : i < P.length) : nth (drvL P) i = if i % 2 = 0 then nth P (i + 1) else 0 := nth_map_range _ _ _ h
theorem derivative_any (a : Option Addr) (n cap : Nat) (P : List Nat) (w : World) (hp : Rd w a n cap P) (hn : n ≤ 100000) :
    Calls Tryd.prog 31 #[.slice a n cap] w fun e w' => e = .returned (.slice (some ⟨w.heap.size, 0, none⟩) n n) ∧ Ans w' w.heap.size (some ⟨w.heap.size, 0, none⟩) n n (drvL P) ∧ w.grownBy w' none := by
  have HL : Hid (P.length = n) := hp.len
  go_enter Tryd.func31, Tryd.ntmps31
  go_wp2_with (at_make; refine wpList_mkB _ rfl _ _ rfl _ _ n rfl rfl rfl rfl (by omega) ?_; intro w1 hb1 hg1)
  go_loopw [4] (fun i wr => ∃ q z : Nat, z = 2 * q + 1 ∧ i = .int .i64 z ∧ w.grownBy wr none ∧ ∃ D, Blk wr w.heap.size D ∧ D.length = n ∧ IsB D ∧ ∀ j, j < n → nth D j = if j % 2 = 0 ∧ j + 1 < z then nth P (j + 1) else 0) (fun i _ => n + 1 - (intOf i).toNat)
  case atStart => exact ⟨0, 1, by omega, rfl, hg1, _, hb1, by simp, isB_zeros _, fun j hj => by rw [nth_zeros, if_neg (by omega)]⟩
  case round =>
    obtain ⟨q, z, hz, rfl, hgr, D, hB, hDl, hDB, hD⟩ := hrel
    have HDl : Hid (D.length = n) := hDl
    have HD : Hid (∀ j, j < n → nth D j = if j % 2 = 0 ∧ j + 1 < z then nth P (j + 1) else 0) := hD
    have HZ : Hid (z = 2 * q + 1) := hz
    clear hDl hD
    by_cases hlt : z < n
    · obtain ⟨b1, off1, rfl, hbw1, hcc⟩ := (hp.keep hgr).at' (by omega)
      have hck := hcc z hlt
      have hbk := hp.byte.nth z
      obtain ⟨y, rfl⟩ : ∃ y, z = y + 1 := ⟨z - 1, by omega⟩
      have hcy := hB.cell y (by rw [HDl.out]; omega)
      have hfy := hB.free y
      have hS := hB.set y (nth P (y + 1))
      clear hcc hz
      go_wp2
      go_roundw
      case rel =>
        have e0 := HZ.out
        refine ⟨q + 1, y + 3, by omega, by go_num, new_then hgr (grown_set _ _ _ _), _, hS, by rw [List.length_set]; exact HDl.out, isB_set hDB _ _ hbk, fun j hj => ?_⟩
        rw [nth_set _ _ _ _ (by rw [HDl.out]; omega)]
        by_cases e : y = j
        · subst e; rw [if_pos rfl, if_pos (by omega)]
        · rw [if_neg e, HD.out j hj]
          by_cases e2 : j % 2 = 0 ∧ j + 1 < y + 1
          · rw [if_pos e2, if_pos (by omega)]
          · rw [if_neg e2, if_neg (by omega)]
      case measure => simp [intOf]; omega
    · have HE : Hid (D = drvL P) := by
        show _ = _
        have e0 := HZ.out
        refine list_ext (by rw [HDl.out, drvL_len, HL.out]) fun j hj => ?_
        rw [HDl.out] at hj
        rw [HD.out j hj, nth_drvL _ _ (by rw [HL.out]; exact hj)]
        by_cases e : j % 2 = 0
        · by_cases e2 : j + 1 < z
          · rw [if_pos ⟨e, e2⟩, if_pos e]
          · rw [if_neg (by omega), if_pos e, nth_out P _ (by rw [HL.out]; omega)]
        · rw [if_neg (by omega), if_neg e]
      have hans := hB.ans (n := n) (lo := w.heap.size) hDB (by rw [HDl.out]; exact Nat.le_refl _) (by rw [HDl.out]; unfold maxLen; omega) (Nat.le_refl _)
      rw [HDl.out, List.take_of_length_le (by rw [HDl.out]; exact Nat.le_refl _), HE.out] at hans
      clear hz
      go_wp2
      go_ret
      exact ⟨rfl, hans, hgr⟩

/-- what 'shortest' answers -/
def shoL (K : List Nat) (c h : Nat) : List Nat × List Nat := euc c h K.length (List.replicate c 0 ++ [1]) K [] [1]
theorem set_last (c : Nat) : (List.replicate (c + 1) 0).set c 1 = List.replicate c 0 ++ [1] := by
  refine list_ext (by simp) fun i hi => ?_
  rw [nth_set _ _ _ _ (by simp), nth_zeros]
  have hi' : i < c + 1 := by simpa using hi
  unfold nth
  by_cases e : c = i
  · subst e; rw [if_pos rfl, List.getD_eq_getElem?_getD, List.getElem?_append_right (by simp)]; simp
  · rw [if_neg e, List.getD_eq_getElem?_getD, List.getElem?_append_left (by simp; omega), List.getElem?_replicate, if_pos (by omega)]; rfl
theorem euc_stop {c h : Nat} (k : Nat) (l r b f : List Nat) (hr : ¬ c + h + 2 ≤ 2 * r.length) : euc c h k l r b f = (f, r) := by
  cases k with
  | zero => rfl
  | succ k => simp only [euc, if_neg hr]
theorem euc_go {c h : Nat} (k : Nat) (l r b f : List Nat) (hr : c + h + 2 ≤ 2 * r.length) : euc c h (k + 1) l r b f = euc c h k r (ovT l r) f (trimL (sumL b (timR (ovQ l r) f))) := by
  simp only [euc, if_pos hr]
theorem rd_empty (w : World) (ad : Addr) : Rd w (some ad) 0 0 [] := ⟨rfl, Nat.le_refl _, Nat.zero_le _, (fun h => by cases h), (fun x hx => by cases hx), fun h => by omega⟩
/-- a slice lies nowhere below block lo -/
def New (lo : Nat) (a : Option Addr) : Prop := ∀ x, a = some x → lo ≤ x.block
theorem Ans.isNew {w : World} {lo lo' : Nat} {a : Option Addr} {n cap : Nat} {L : List Nat} (h : Ans w lo' a n cap L) (hl : lo ≤ lo') : New lo a := by
  intro x hx
  rcases h.cases with ⟨rfl, _, _⟩ | ⟨g, rfl, h1, _⟩
  · cases hx
  · cases hx; exact Nat.le_trans hl h1
set_option maxHeartbeats 2000000 in
theorem shortest_any (a : Option Addr) (n cap c h lo : Nat) (K : List Nat) (w : World) (hp : Rd w a n cap K) (hnew : New lo a) (hlo : lo ≤ w.heap.size) (tK : K = [] ∨ Top K) (hn : n ≤ c) (hc : c ≤ 64) (hh : h ≤ c) :
    Calls Tryd.prog 30 #[.slice a n cap, .int .i64 c, .int .i64 h] w fun e w' => ∃ a1 n1 c1 a2 n2 c2, e = .returned (.tuple #[.slice a1 n1 c1, .slice a2 n2 c2]) ∧
      Rd w' a1 n1 c1 (shoL K c h).1 ∧ Rd w' a2 n2 c2 (shoL K c h).2 ∧ w.grownBy w' none ∧ New lo a1 ∧ New lo a2 := by
  have HL : Hid (K.length = n) := hp.len
  have HI := euc_start hp.byte tK (by rw [hp.len]; exact hn) hh
  have hcI : ((c : Int) < (c : Int) + 1) := by omega
  have t1 : True := trivial
  go_enter Tryd.func30, Tryd.ntmps30
  go_wp2_with (at_make; have _t := t1; clear t1; refine wpList_mkB _ rfl _ _ rfl _ _ (c + 1) rfl rfl (by omega) (by omega) (by omega) ?_; intro w1 hb1 hg1; have hcc := hb1.cell c (by simp); have hfc := hb1.free c; have hS := hb1.set c 1; rw [set_last] at hS)
  have hB1 : IsB (List.replicate c 0 ++ [1]) := HI.bl
  obtain ⟨ws, hws⟩ : ∃ ws, ws = w1.setCell ⟨w.heap.size, c, none⟩ (.int .u8 1) := ⟨_, rfl⟩
  have hSs : Blk ws w.heap.size (List.replicate c 0 ++ [1]) := by rw [hws]; exact hS
  have g0s : w.grownBy ws none := by rw [hws]; exact new_then hg1 (grown_set _ _ _ _)
  have hgA := World.grownBy_alloc ws (.cells #[] 5) none
  have hgB := World.grownBy_alloc (ws.alloc (.cells #[] 5)) (.cells #[.int .u8 1] 5) none
  have hl0 := (hSs.rd hB1 (n := c + 1) (by simp) (by unfold maxLen; omega)).keep (grown_trans hgA hgB)
  have hf0 := (one_ans (ws.alloc (.cells #[] 5)) 0 (Nat.zero_le _)).rd
  have hbk : (ws.alloc (.cells #[] 5)).heap.size = w1.heap.size + 1 := by rw [hws]; simp [World.alloc, World.setCell]
  rw [hbk] at hf0
  have hfn : New lo (some ⟨w1.heap.size + 1, 0, none⟩) := fun x hx => by cases hx; have := hg1.size; show lo ≤ w1.heap.size + 1; omega
  have hr0 := hp.keep (grown_trans g0s (grown_trans hgA hgB))
  have g0e := grown_trans g0s (grown_trans hgA hgB)
  go_loopw [8, 9, 10, 11] (fun sl sr sb sf wr => ∃ (k : Nat) (al ar ab af : Option Addr) (nl cl nr cr nb cb nf cf : Nat) (l r b f : List Nat), sl = .slice al nl cl ∧ sr = .slice ar nr cr ∧ sb = .slice ab nb cb ∧ sf = .slice af nf cf ∧
    Rd wr al nl cl l ∧ Rd wr ar nr cr r ∧ Rd wr ab nb cb b ∧ Rd wr af nf cf f ∧ EInv c h l r b f ∧ r.length ≤ k ∧ euc c h k l r b f = shoL K c h ∧ w.grownBy wr none ∧ New lo ar ∧ New lo af) (fun _ sr _ _ _ => match sr with | .slice _ k _ => k | _ => 0)
  case atStart =>
    first
      | exact ⟨K.length, _, _, _, _, _, _, _, _, _, _, _, _, _, _, _, _, rfl, rfl, rfl, rfl, hl0, hr0, rd_empty _ _, hf0, HI, Nat.le_refl _, rfl, g0e, hnew, hfn⟩
      | (rw [← hws]; exact ⟨K.length, _, _, _, _, _, _, _, _, _, _, _, _, _, _, _, _, rfl, rfl, rfl, rfl, hl0, hr0, rd_empty _ _, hf0, HI, Nat.le_refl _, rfl, g0e, hnew, hfn⟩)
      | (subst hws; exact ⟨K.length, _, _, _, _, _, _, _, _, _, _, _, _, _, _, _, _, rfl, rfl, rfl, rfl, hl0, hr0, rd_empty _ _, hf0, HI, Nat.le_refl _, rfl, g0e, hnew, hfn⟩)
  case round =>
    obtain ⟨k, al, ar, ab, af, nl, cl, nr, cr, nb, cb, nf, cf, l, r, b, f, rfl, rfl, rfl, rfl, hl, hr, hb, hf, hE, hk, hF, hgr, hnr', hnf'⟩ := hrel
    have e1 := hl.len
    have e2 := hr.len
    have e3 := hb.len
    have e4 := hf.len
    have i1 := hE.sum
    have i2 := hE.lt
    have i3 := hE.lb
    by_cases hgo : c + h + 2 ≤ 2 * nr
    · obtain ⟨k', rfl⟩ : ∃ k', k = k' + 1 := ⟨k - 1, by omega⟩
      obtain ⟨hE2, hlt2⟩ := hE.step hc (by omega)
      have HF : Hid (euc c h k' r (ovT l r) f (trimL (sumL b (timR (ovQ l r) f))) = shoL K c h) := by show _ = _; rw [← hF, euc_go k' l r b f (by omega)]
      have HE2 : Hid (EInv c h r (ovT l r) f (trimL (sumL b (timR (ovQ l r) f)))) := hE2
      have hq := timR_le (ovQ l r) f
      have hbn : nb ≤ 1000 := by omega
      have hnr : nr ≤ 1000 := by omega
      clear hF hE2 hE i1 i2 i3 e1 e3 e4
      go_wp2_with (first
        | (go_at_call 13; refine (over_all al ar nl nr cl cr l r wr hl hr).mono ?_; rintro e w2 ⟨aq, nq, cq, at_, nt, ct, rfl, hq2, ht2, g12, _⟩; have hf2 := hf.keep g12; have hb2 := hb.keep g12)
        | (go_at_call 26; refine (times_all aq af nq nf cq cf (ovQ l r) f w2 hq2.rd hf2).mono ?_; rintro e w3 ⟨am, nm, cm, rfl, hm3, g23⟩; have hnm := hm3.len; have hb3 := hb2.keep g23)
        | (go_at_call 36; refine (sum_any ab am nb nm cb cm b (timR (ovQ l r) f) w3 hb3 hm3.rd (by omega) (by omega)).mono ?_; rintro e w4 ⟨ax, ns, cs, rfl, hs4, g34⟩))
      have g14 := grown_trans g12 (grown_trans g23 g34)
      have hnt := ht2.len
      go_roundw
      case rel => exact ⟨k', _, _, _, _, _, _, _, _, _, _, _, _, r, ovT l r, f, _, rfl, rfl, rfl, rfl, hr.keep g14, (ht2.keep (grown_trans g23 g34)).rd, hf.keep g14, hs4.rd, HE2.out, by omega, HF.out, grown_trans hgr g14, ht2.isNew (Nat.le_trans hlo hgr.size), hs4.isNew (Nat.le_trans hlo (grown_trans hgr (grown_trans g12 g23)).size)⟩
      case measure => simp; omega
    · have HF : Hid (shoL K c h = (f, r)) := by show _ = _; rw [← hF]; exact euc_stop k l r b f (by omega)
      clear hF
      go_wp2
      go_ret2
      exact ⟨_, _, _, _, _, _, rfl, by rw [HF.out]; exact hf, by rw [HF.out]; exact hr, hgr, hnf', hnr'⟩
end Go.Proofs.YtpenggkefbbopaaDoor
