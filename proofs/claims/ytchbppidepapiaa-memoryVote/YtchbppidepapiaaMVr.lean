import Derived.Test.YtchbppidepapiaaMVo
namespace Go.Proofs.Ytchbppidepapiaa
open Go.RowKit
set_option maxRecDepth 100000
set_option linter.unusedVariables false
set_option linter.unusedSimpArgs false

theorem own_apartZ {w : World} {b b' : Nat} {e e' : TypeId} {s s' : Nat} {v v' : Value} {n n' : Nat} {xs xs' : List Value} (h : w.ownsRow b e s v n xs) (k : w.ownsRow b' e' s' v' n' xs') (hne : e ≠ e') (g : Nat) (hg : v.ownBlock = some g) : v'.ownBlock ≠ some g := by
  intro hg'
  rcases h.2 with ⟨rfl, _⟩ | ⟨x, c, cur, rfl, _, hh, _⟩
  · simp [Value.ownBlock] at hg
  · rcases k.2 with ⟨rfl, _⟩ | ⟨x', c', cur', rfl, _, hh', _⟩
    · simp [Value.ownBlock] at hg'
    · have e1 : x = g := Option.some.inj hg
      have e2 : x' = g := Option.some.inj hg'
      subst e1 e2
      rw [hh] at hh'
      cases hh'
      exact hne rfl
theorem ans_nilM (w : World) (lo : Nat) : Ans w lo none 0 0 [] := ⟨World.ownsRow_nil _ _ _ _, (fun x h => nomatch h), fun g h => by simp [Value.ownBlock] at h⟩
theorem ne_u8i : (3 : TypeId) ≠ 5 := by decide
/-- bytes and numbers never lie in one block -/
theorem AnsZ.ne {w : World} {lo lo' : Nat} {a b : Option Addr} {n m c d : Nat} {L : List Int} {M : List Nat} (h : AnsZ w lo a n c L) (k : Ans w lo' b m d M) : (Value.slice a n c).ownBlock = none ∨ (Value.slice a n c).ownBlock ≠ (Value.slice b m d).ownBlock := by
  cases e : (Value.slice a n c).ownBlock with
  | none => exact .inl rfl
  | some g => exact .inr (fun e2 => own_apartZ h.own k.own ne_u8i g e e2.symm)
theorem Ans.ne {w : World} {lo lo' : Nat} {a b : Option Addr} {n m c d : Nat} {L : List Int} {M : List Nat} (k : Ans w lo' b m d M) (h : AnsZ w lo a n c L) : (Value.slice b m d).ownBlock = none ∨ (Value.slice b m d).ownBlock ≠ (Value.slice a n c).ownBlock := by
  cases e : (Value.slice b m d).ownBlock with
  | none => exact .inl rfl
  | some g => exact .inr (fun e2 => own_apartZ k.own h.own (fun e => ne_u8i e.symm) g e e2.symm)
theorem vote_bad (a b c : Option Addr) (n m k ca cb cc : Nat) (w : World) (h : ¬ (n = m ∧ n = k)) :
    Calls Try.prog 13 #[.slice a n ca, .slice b m cb, .slice c k cc] w fun e w' => e = .returned (.tuple #[.slice none 0 0, .slice none 0 0, .int .i64 1]) ∧ w' = w := by
  by_cases h1 : n = m
  · subst h1
    have h2 : ¬ (n : Int) = (k : Int) := by omega
    go_enter Try.func13, Try.ntmps13
    go_wp2
    go_ret3
    exact ⟨rfl, rfl⟩
  · have h2 : ¬ (n : Int) = (m : Int) := by omega
    go_enter Try.func13, Try.ntmps13
    go_wp2
    go_ret3
    exact ⟨rfl, rfl⟩
theorem rvote_bad (a b c : Option Addr) (n m k ca cb cc : Nat) (w : World) (h : ¬ (n = m ∧ n = k)) :
    Calls Try.prog 12 #[.slice a n ca, .slice b m cb, .slice c k cc] w fun e w' => e = .returned (.tuple #[.slice none 0 0, .slice none 0 0, .int .i64 1]) ∧ w' = w := by
  by_cases h1 : n = m
  · subst h1
    have h2 : ¬ (n : Int) = (k : Int) := by omega
    go_enter Try.func12, Try.ntmps12
    go_wp2
    go_ret3
    exact ⟨rfl, rfl⟩
  · have h2 : ¬ (n : Int) = (m : Int) := by omega
    go_enter Try.func12, Try.ntmps12
    go_wp2
    go_ret3
    exact ⟨rfl, rfl⟩
set_option maxHeartbeats 2000000 in
theorem rvote_ok (a b c : Option Addr) (n ca cb cc : Nat) (A B C : List Nat) (w : World) (ha : Rd w a n ca A) (hb : Rd w b n cb B) (hc : Rd w c n cc C) (hn : n ≤ 1048576) :
    Calls Try.prog 12 #[.slice a n ca, .slice b n cb, .slice c n cc] w fun e w' => ∃ ao co au m cu, e = .returned (.tuple #[.slice ao n co, .slice au m cu, .int .i64 0]) ∧ Ans w' w.heap.size ao n co (tab n (voF A B C)) ∧ AnsZ w' w.heap.size au m cu (unL A B C n) ∧ w.grownBy w' none := by
  go_enter Try.func12, Try.ntmps12
  go_wp2
  go_loopw [9, 10, 11] (fun ov uv i wr => ∃ (k co m cu : Nat) (ao au : Option Addr), k ≤ n ∧ i = .int .i64 k ∧ ov = .slice ao k co ∧ uv = .slice au m cu ∧ Ans wr w.heap.size ao k co (tab k (voF A B C)) ∧ AnsZ wr w.heap.size au m cu (unL A B C k) ∧ w.grownBy wr none) (fun _ _ i _ => n - (intOf i).toNat)
  case atStart => exact ⟨0, 0, 0, 0, none, none, by omega, rfl, rfl, rfl, ans_nilM _ _, ansZ_nil _ _, World.grownBy.refl _ _⟩
  case round =>
    obtain ⟨k, co, m, cu, ao, au, hk, rfl, rfl, rfl, hO, hU, hG⟩ := hrel
    by_cases hlt : k < n
    · obtain ⟨ba, oa, rfl, hba, ea⟩ := ha.at_in hG k hlt
      obtain ⟨bb, ob, rfl, hbb, eb⟩ := hb.at_in hG k hlt
      obtain ⟨bc, oc, rfl, hbc, ec⟩ := hc.at_in hG k hlt
      have hA := ha.byte.nth k
      have hBb := hb.byte.nth k
      have hC := hc.byte.nth k
      have hv := vo_ref (nth A k) (nth B k) (nth C k) hA hBb hC
      have hvl := voB_lt (nth A k) (nth B k) (nth C k) hA hBb
      have hts : Hid (tab (k + 1) (voF A B C) = tab k (voF A B C) ++ [voB (nth A k) (nth B k) (nth C k)]) := tab_succ _ _
      have hun : Hid (unL A B C (k + 1) = if unB A B C k then unL A B C k ++ [(k : Int)] else unL A B C k) := rfl
      have hub : Hid (unB A B C k = (nth A k != nth B k || nth A k != nth C k)) := rfl
      have F1 := fun {W : World} (hW : w.grownBy W none) => (World.cell?_of_block (w := w) (a := ⟨ba, oa + k, none⟩) (hW.block ba hba (by simp))).trans ((World.cell?_of_block (w := w) (a := ⟨ba, oa + k, none⟩) (hG.block ba hba (by simp))).symm.trans ea)
      have F2 := fun {W : World} (hW : w.grownBy W none) => (World.cell?_of_block (w := w) (a := ⟨bb, ob + k, none⟩) (hW.block bb hbb (by simp))).trans ((World.cell?_of_block (w := w) (a := ⟨bb, ob + k, none⟩) (hG.block bb hbb (by simp))).symm.trans eb)
      have F3 := fun {W : World} (hW : w.grownBy W none) => (World.cell?_of_block (w := w) (a := ⟨bc, oc + k, none⟩) (hW.block bc hbc (by simp))).trans ((World.cell?_of_block (w := w) (a := ⟨bc, oc + k, none⟩) (hG.block bc hbc (by simp))).symm.trans ec)
      have F1 : Hid (∀ W : World, w.grownBy W none → W.cell? ⟨ba, oa + k, none⟩ = some (.int .u8 (nth A k : Nat))) := fun W h => F1 h
      have F2 : Hid (∀ W : World, w.grownBy W none → W.cell? ⟨bb, ob + k, none⟩ = some (.int .u8 (nth B k : Nat))) := fun W h => F2 h
      have F3 : Hid (∀ W : World, w.grownBy W none → W.cell? ⟨bc, oc + k, none⟩ = some (.int .u8 (nth C k : Nat))) := fun W h => F3 h
      generalize voB (nth A k) (nth B k) (nth C k) = V at hv hvl hts
      generalize nth A k = x at *
      generalize nth B k = y at *
      generalize nth C k = z at *
      have hkn : (k : Int) < (n : Int) := by omega
      go_wp2
      go_quiet (fail)
      have hO1 : Ans (wr.drewN nq) w.heap.size ao k co (tab k (voF A B C)) := hO.keep (grown_drewN _ _ _)
      have hU1 : AnsZ (wr.drewN nq) w.heap.size au m cu (unL A B C k) := hU.keep (grown_drewN _ _ _)
      have hG1 := grown_trans hG (grown_drewN wr nq none)
      generalize wr.drewN nq = w1 at hO1 hU1 hG1 ⊢
      clear ea eb ec hO hU hG hv
      have hM : Mine w1 (Value.slice ao k co).ownBlock ao k co := fun q h => .inl h
      go_wp2_with (at_builtin; refine wpList_push2 w1 w1 rfl (.tmp 60) (.tmp 62) rfl ao k co V w.heap.size (Value.slice ao k co).ownBlock _ rfl hO1 (World.grownBy.refl _ _) hM hG1.size hvl rfl (by omega) ?_; intro gx cx w2 hO2 hg2 hM2; have hG2 := grown_far hG1 hg2 (fun q e => hO1.new q e); have hU2 := hU1.kept hg2 (hU1.ne hO1); have ea := F1.out _ hG2; have eb := F2.out _ hG2; have ec := F3.out _ hG2; clear F1 F2 F3 hM hM2 hO1 hU1 hg2 hG1)
      have hul := unL_len A B C k
      have hml := hU2.len
      have hmk : m ≤ k := by omega
      by_cases hxy : x = y
      · by_cases hxz : x = z
        · subst hxy
          subst hxz
          have HE : Hid (unL A B C (k + 1) = unL A B C k) := by
            show _ = _
            rw [hun.out, hub.out]; simp
          clear hun hub
          go_wp2
          go_quiet (fail)
          have hU3 : AnsZ (w2.drewN nq) w.heap.size au m cu (unL A B C k) := hU2.keep (grown_drewN _ _ _)
          have hO3 : Ans (w2.drewN nq) w.heap.size (some ⟨gx, 0, none⟩) (k + 1) cx (tab k (voF A B C) ++ [V]) := hO2.keep (grown_drewN _ _ _)
          have hG3 := grown_trans hG2 (grown_drewN w2 nq none)
          generalize w2.drewN nq = w3 at hU3 hO3 hG3 ⊢
          clear hU2 hO2 hG2 ea eb ec
          rw [← HE.out] at hU3
          rw [← hts.out] at hO3
          go_wp2
          go_roundw
          case rel => exact ⟨k + 1, cx, m, cu, some ⟨gx, 0, none⟩, au, by omega, by go_num, rfl, rfl, hO3, hU3, hG3⟩
          case measure => simp [intOf]; omega
        · subst hxy
          have hxz' : ((x : Int) = (z : Int)) = False := by simp; omega
          have HE : Hid (unL A B C (k + 1) = unL A B C k ++ [(k : Int)]) := by
            show _ = _
            rw [hun.out, hub.out]; simp [hxz]
          clear hun hub
          go_wp2
          go_quiet (fail)
          have hU3 : AnsZ (w2.drewN nq) w.heap.size au m cu (unL A B C k) := hU2.keep (grown_drewN _ _ _)
          have hO3 : Ans (w2.drewN nq) w.heap.size (some ⟨gx, 0, none⟩) (k + 1) cx (tab k (voF A B C) ++ [V]) := hO2.keep (grown_drewN _ _ _)
          have hG3 := grown_trans hG2 (grown_drewN w2 nq none)
          generalize w2.drewN nq = w3 at hU3 hO3 hG3 ⊢
          clear hU2 hO2 hG2 ea eb ec
          go_wp2_with (at_builtin; refine wpList_pushI w w3 w.heap.size rfl (.tmp 84) (.tmp 86) rfl au m cu (k : Int) _ rfl hU3 (Nat.le_refl _) hG3.size hG3 rfl (by omega) ?_; intro gy cy w4 hA4 hG4 hgx4 hg4)
          have hO4 := hO3.kept hg4 (hO3.ne hU3)
          rw [← HE.out] at hA4
          rw [← hts.out] at hO4
          go_roundw
          case rel => exact ⟨k + 1, cx, m + 1, cy, some ⟨gx, 0, none⟩, some ⟨gy, 0, none⟩, by omega, by go_num, rfl, rfl, hO4, hA4, hG4⟩
          case measure => simp [intOf]; omega
      · have hxy' : ((x : Int) = (y : Int)) = False := by simp; omega
        have HE : Hid (unL A B C (k + 1) = unL A B C k ++ [(k : Int)]) := by
          show _ = _
          rw [hun.out, hub.out]; simp [hxy]
        clear hun hub
        go_wp2
        go_quiet (fail)
        have hU3 : AnsZ (w2.drewN nq) w.heap.size au m cu (unL A B C k) := hU2.keep (grown_drewN _ _ _)
        have hO3 : Ans (w2.drewN nq) w.heap.size (some ⟨gx, 0, none⟩) (k + 1) cx (tab k (voF A B C) ++ [V]) := hO2.keep (grown_drewN _ _ _)
        have hG3 := grown_trans hG2 (grown_drewN w2 nq none)
        generalize w2.drewN nq = w3 at hU3 hO3 hG3 ⊢
        clear hU2 hO2 hG2 ea eb ec
        go_wp2_with (at_builtin; refine wpList_pushI w w3 w.heap.size rfl (.tmp 84) (.tmp 86) rfl au m cu (k : Int) _ rfl hU3 (Nat.le_refl _) hG3.size hG3 rfl (by omega) ?_; intro gy cy w4 hA4 hG4 hgx4 hg4)
        have hO4 := hO3.kept hg4 (hO3.ne hU3)
        rw [← HE.out] at hA4
        rw [← hts.out] at hO4
        go_roundw
        case rel => exact ⟨k + 1, cx, m + 1, cy, some ⟨gx, 0, none⟩, some ⟨gy, 0, none⟩, by omega, by go_num, rfl, rfl, hO4, hA4, hG4⟩
        case measure => simp [intOf]; omega
    · obtain rfl : k = n := by omega
      go_wp2
      go_ret3
      exact ⟨ao, co, au, m, cu, rfl, hO, hU, hG⟩
end Go.Proofs.Ytchbppidepapiaa
