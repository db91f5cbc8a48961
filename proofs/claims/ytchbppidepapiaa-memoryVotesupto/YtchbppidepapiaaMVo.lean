import Derived.Test.YtchbppidepapiaaTRow
import Derived.Test.YtchbppidepapiaaYZi
import Derived.OwnWalk
namespace Go.Proofs.Ytchbppidepapiaa
open Go.RowKit
set_option maxRecDepth 100000
set_option linter.unusedVariables false
set_option linter.unusedSimpArgs false

/-- what two of three have, bit by bit -/
def voB (x y z : Nat) : Nat := (x &&& y) ||| (x &&& z) ||| (y &&& z)
def voF (A B C : List Nat) (i : Nat) : Nat := voB (nth A i) (nth B i) (nth C i)
/-- are not all three the same? -/
def unB (A B C : List Nat) (i : Nat) : Bool := nth A i != nth B i || nth A i != nth C i
def unL (A B C : List Nat) : Nat → List Int
  | 0 => []
  | k + 1 => if unB A B C k then unL A B C k ++ [(k : Int)] else unL A B C k
theorem unL_len (A B C : List Nat) (k : Nat) : (unL A B C k).length ≤ k := by
  induction k with
  | zero => exact Nat.le_refl _
  | succ k ih =>
    unfold unL
    split
    · rw [List.length_append]; simp; omega
    · omega
theorem unL_mono (A B C : List Nat) (k n : Nat) (h : k ≤ n) : (unL A B C k).length ≤ (unL A B C n).length := by
  induction n with
  | zero =>
    have e : k = 0 := by omega
    rw [e]
    exact Nat.le_refl _
  | succ n ih =>
    by_cases e : k = n + 1
    · rw [e]; exact Nat.le_refl _
    · have h1 := ih (by omega)
      have h2 : (unL A B C n).length ≤ (unL A B C (n + 1)).length := by
        have e2 : unL A B C (n + 1) = if unB A B C n then unL A B C n ++ [(n : Int)] else unL A B C n := rfl
        rw [e2]
        split
        · rw [List.length_append]; omega
        · exact Nat.le_refl _
      omega
theorem voB_lt (x y z : Nat) (hx : x < 256) (hy : y < 256) : voB x y z < 256 := by
  unfold voB
  exact Nat.or_lt_two_pow (n := 8) (Nat.or_lt_two_pow (n := 8) (Nat.lt_of_le_of_lt Nat.and_le_left hx) (Nat.lt_of_le_of_lt Nat.and_le_left hx)) (Nat.lt_of_le_of_lt Nat.and_le_left hy)
theorem vo_code (x y z : Nat) (hx : x < 256) (hy : y < 256) (hz : z < 256) :
    bits .or .u8 (bits .or .u8 (bits .and .u8 (x : Int) (y : Int)) (bits .and .u8 (x : Int) (z : Int))) (bits .and .u8 (y : Int) (z : Int)) = (voB x y z : Nat) := by
  have l1 : x &&& y < 256 := Nat.lt_of_le_of_lt Nat.and_le_left hx
  have l2 : x &&& z < 256 := Nat.lt_of_le_of_lt Nat.and_le_left hx
  have l3 : y &&& z < 256 := Nat.lt_of_le_of_lt Nat.and_le_left hy
  rw [u8_and_nat x y hx hy, u8_and_nat x z hx hz, u8_and_nat y z hy hz, u8_or_nat _ _ l1 l2, u8_or_nat _ _ (Nat.or_lt_two_pow (n := 8) l1 l2) l3]
  rfl
theorem vo_ref (x y z : Nat) (hx : x < 256) (hy : y < 256) (hz : z < 256) :
    bits .or .u8 (bits .or .u8 (bits .and .u8 (x : Int) (y : Int)) (bits .and .u8 (y : Int) (z : Int))) (bits .and .u8 (x : Int) (z : Int)) = (voB x y z : Nat) := by
  have l1 : x &&& y < 256 := Nat.lt_of_le_of_lt Nat.and_le_left hx
  have l2 : x &&& z < 256 := Nat.lt_of_le_of_lt Nat.and_le_left hx
  have l3 : y &&& z < 256 := Nat.lt_of_le_of_lt Nat.and_le_left hy
  rw [u8_and_nat x y hx hy, u8_and_nat x z hx hz, u8_and_nat y z hy hz, u8_or_nat _ _ l1 l3, u8_or_nat _ _ (Nat.or_lt_two_pow (n := 8) l1 l3) l2]
  unfold voB
  rw [Nat.or_assoc, Nat.or_comm (y &&& z), ← Nat.or_assoc]
/-- the bytes so far, noughts behind them -/
def voP (A B C : List Nat) (n k : Nat) : List Nat := tab n fun i => if i < k then voF A B C i else 0
theorem voP_zero (A B C : List Nat) (n : Nat) : voP A B C n 0 = List.replicate n 0 := by
  unfold voP tab
  rw [List.eq_replicate_iff]
  refine ⟨by simp, fun x hx => ?_⟩
  obtain ⟨i, _, rfl⟩ := List.mem_map.1 hx
  simp
theorem voP_succ (A B C : List Nat) (n k : Nat) (hk : k < n) : (voP A B C n k).set k (voF A B C k) = voP A B C n (k + 1) := by
  unfold voP
  refine tab_set _ _ _ _ _ hk (by simp) fun i hi hne => ?_
  by_cases h : i < k
  · simp [h, Nat.lt_succ_of_lt h]
  · have : ¬ i < k + 1 := by omega
    simp [h, this]
theorem voP_all (A B C : List Nat) (n : Nat) : voP A B C n n = tab n (voF A B C) := by
  unfold voP
  exact tab_ext _ _ _ fun i hi => by simp [hi]
theorem voP_len (A B C : List Nat) (n k : Nat) : (voP A B C n k).length = n := tab_len _ _
theorem Rd.at_in {w wr : World} {a : Option Addr} {n cap : Nat} {L : List Nat} (h : Rd w a n cap L) (hg : w.grownBy wr none) (k : Nat) (hk : k < n) : ∃ b off, a = some ⟨b, off, none⟩ ∧ b < w.heap.size ∧ wr.cell? ⟨b, off + k, none⟩ = some (.int .u8 (nth L k : Nat)) := by
  obtain ⟨b, off, e, hb, hc⟩ := h.at' (by omega)
  exact ⟨b, off, e, hb, (World.cell?_of_block (w := w) (hg.block b hb (by simp))).trans (hc k hk)⟩
set_option maxHeartbeats 2000000 in
theorem vote_ok (a b c : Option Addr) (n ca cb cc : Nat) (A B C : List Nat) (w : World) (ha : Rd w a n ca A) (hb : Rd w b n cb B) (hc : Rd w c n cc C) (hn : n ≤ 140737488351232) (hu : (unL A B C n).length ≤ 17592186044000) :
    Calls Try.prog 13 #[.slice a n ca, .slice b n cb, .slice c n cc] w fun e w' => ∃ au m cu, e = .returned (.tuple #[.slice (some ⟨w.heap.size, 0, none⟩) n n, .slice au m cu, .int .i64 0]) ∧ Ans w' w.heap.size (some ⟨w.heap.size, 0, none⟩) n n (tab n (voF A B C)) ∧ AnsZ w' (w.heap.size + 1) au m cu (unL A B C n) ∧ w.grownBy w' none := by
  go_enter Try.func13, Try.ntmps13
  go_wp2_with (refine wpList_mkB w rfl (.tmp 25) (.tmp 25) rfl _ _ n rfl rfl rfl rfl (by omega) ?_; intro w1 hB1 g1)
  have hs1 := hB1.lt
  go_loopw [10, 29] (fun uv i wr => ∃ (k m cu : Nat) (au : Option Addr), k ≤ n ∧ i = .int .i64 k ∧ uv = .slice au m cu ∧ Blk wr w.heap.size (voP A B C n k) ∧ AnsZ wr (w.heap.size + 1) au m cu (unL A B C k) ∧ w.grownBy wr none ∧ w.heap.size + 1 ≤ wr.heap.size) (fun _ i _ => n - (intOf i).toNat)
  case atStart => exact ⟨0, 0, 0, none, by omega, rfl, rfl, by rw [voP_zero]; exact hB1, ansZ_nil _ _, g1, by omega⟩
  case round =>
    obtain ⟨k, m, cu, au, hk, rfl, rfl, hB, hU, hG, hsz⟩ := hrel
    by_cases hlt : k < n
    · obtain ⟨ba, oa, rfl, hba, ea⟩ := ha.at_in hG k hlt
      obtain ⟨bb, ob, rfl, hbb, eb⟩ := hb.at_in hG k hlt
      obtain ⟨bc, oc, rfl, hbc, ec⟩ := hc.at_in hG k hlt
      have hA := ha.byte.nth k
      have hBb := hb.byte.nth k
      have hC := hc.byte.nth k
      have hv := vo_code (nth A k) (nth B k) (nth C k) hA hBb hC
      have hf := hB.free k
      have hx0 := hB.cell k (by rw [voP_len]; exact hlt)
      have hB' := hB.set k (voF A B C k)
      rw [voP_succ _ _ _ _ _ hlt] at hB'
      have hvd : voF A B C k = voB (nth A k) (nth B k) (nth C k) := rfl
      rw [hvd] at hB'
      clear hvd
      have hun : Hid (unL A B C (k + 1) = if unB A B C k then unL A B C k ++ [(k : Int)] else unL A B C k) := rfl
      have hub : Hid (unB A B C k = (nth A k != nth B k || nth A k != nth C k)) := rfl
      generalize voB (nth A k) (nth B k) (nth C k) = V at hv hB'
      generalize nth (voP A B C n k) k = x0 at hx0
      generalize nth A k = x at *
      generalize nth B k = y at *
      generalize nth C k = z at *
      have hkn : (k : Int) < (n : Int) := by omega
      have hna : ba ≠ w.heap.size := by omega
      have hnb : bb ≠ w.heap.size := by omega
      have hnc : bc ≠ w.heap.size := by omega
      have HK : ∀ (q o : Nat) (v : Value), q ≠ w.heap.size → wr.cell? ⟨q, o, none⟩ = some v → Hid ((wr.setCell ⟨w.heap.size, k, none⟩ (.int .u8 (V : Int))).drew.cell? ⟨q, o, none⟩ = some v) := by
        intro q o v hq hv
        show World.cell? _ _ = _
        exact (World.cell?_of_block (w := wr) (heap_setCell_other wr _ q _ (fun e => hq e))).trans hv
      have K1 := HK ba _ _ hna ea
      have K2 := HK bb _ _ hnb eb
      have K3 := HK bc _ _ hnc ec
      clear HK
      go_wp2
      go_region_held3 (fun w' => w'.cell? ⟨ba, oa + k, none⟩ = some (.int .u8 (x : Int)) ∧ w'.cell? ⟨bb, ob + k, none⟩ = some (.int .u8 (y : Int)) ∧ w'.cell? ⟨bc, oc + k, none⟩ = some (.int .u8 (z : Int))) (first | exact ⟨K1.out, K2.out, K3.out⟩ | go_keep) (fail)
      have hB2 : Blk (wr.setCell ⟨w.heap.size, k, none⟩ (.int .u8 (V : Int))).drew w.heap.size (voP A B C n (k + 1)) := hB'
      have hG2 : wr.grownBy (wr.setCell ⟨w.heap.size, k, none⟩ (.int .u8 (V : Int))).drew (some w.heap.size) := grown_trans (grown_set _ _ _ _) (grown_drew _ _)
      have c1 := K1.out
      have c2 := K2.out
      have c3 := K3.out
      generalize (wr.setCell ⟨w.heap.size, k, none⟩ (.int .u8 (V : Int))).drew = w2 at hB2 hG2 c1 c2 c3 ⊢
      have hU2 : AnsZ w2 (w.heap.size + 1) au m cu (unL A B C k) := hU.kept hG2 (.inr (fun e => by have := hU.new _ e; omega))
      have hG02 := new_then hG hG2
      have hsz2 : w.heap.size + 1 ≤ w2.heap.size := Nat.le_trans hsz hG2.size
      clear hB' K1 K2 K3 hx0 hf ea eb ec hB hU hG2 hG hv hB1 g1
      have hul := unL_mono A B C k n hk
      have hml := hU2.len
      have hmk : m ≤ 17592186044000 := by omega
      by_cases hxy : x = y
      · by_cases hxz : x = z
        · subst hxy
          subst hxz
          have HE : Hid (unL A B C (k + 1) = unL A B C k) := by
            show _ = _
            rw [hun.out, hub.out]; simp
          clear hun hub
          go_wp2
          go_quiet (fail)
          have hU3 : AnsZ (w2.drewN nq) (w.heap.size + 1) au m cu (unL A B C k) := hU2.keep (grown_drewN _ _ _)
          have hB3 : Blk (w2.drewN nq) w.heap.size (voP A B C n (k + 1)) := hB2
          have hG3 := grown_trans hG02 (grown_drewN w2 nq none)
          have hsz3 : w.heap.size + 1 ≤ (w2.drewN nq).heap.size := hsz2
          generalize w2.drewN nq = w3 at hU3 hB3 hG3 hsz3 ⊢
          clear hU2 hB2 hG02 hsz2 c1 c2 c3
          rw [← HE.out] at hU3
          go_wp2
          go_roundw
          case rel => exact ⟨k + 1, m, cu, au, by omega, by go_num, rfl, hB3, hU3, hG3, hsz3⟩
          case measure => simp [intOf]; omega
        · subst hxy
          have hxz' : ((x : Int) = (z : Int)) = False := by simp; omega
          have HE : Hid (unL A B C (k + 1) = unL A B C k ++ [(k : Int)]) := by
            show _ = _
            rw [hun.out, hub.out]; simp [hxz]
          clear hun hub
          go_wp2
          go_quiet (fail)
          have hU3 : AnsZ (w2.drewN nq) (w.heap.size + 1) au m cu (unL A B C k) := hU2.keep (grown_drewN _ _ _)
          have hB3 : Blk (w2.drewN nq) w.heap.size (voP A B C n (k + 1)) := hB2
          have hG3 := grown_trans hG02 (grown_drewN w2 nq none)
          have hsz3 : w.heap.size + 1 ≤ (w2.drewN nq).heap.size := hsz2
          generalize w2.drewN nq = w3 at hU3 hB3 hG3 hsz3 ⊢
          clear hU2 hB2 hG02 hsz2 c1 c2 c3
          go_wp2_with (at_builtin; refine wpList_pushI w w3 (w.heap.size + 1) rfl (.tmp 84) (.tmp 86) rfl au m cu (k : Int) _ rfl hU3 (by omega) hsz3 hG3 rfl (by omega) ?_; intro gx cx w4 hA4 hG4 hgx4 hg4)
          have hB4 : Blk w4 w.heap.size (voP A B C n (k + 1)) := hB3.grown hg4 (fun e => by have := hU3.new _ e.symm; omega)
          rw [← HE.out] at hA4
          go_roundw
          case rel => exact ⟨k + 1, m + 1, cx, some ⟨gx, 0, none⟩, by omega, by go_num, rfl, hB4, hA4, hG4, Nat.le_trans hsz3 hg4.size⟩
          case measure => simp [intOf]; omega
      · have hxy' : ((x : Int) = (y : Int)) = False := by simp; omega
        have HE : Hid (unL A B C (k + 1) = unL A B C k ++ [(k : Int)]) := by
          show _ = _
          rw [hun.out, hub.out]; simp [hxy]
        clear hun hub
        go_wp2
        go_quiet (fail)
        have hU3 : AnsZ (w2.drewN nq) (w.heap.size + 1) au m cu (unL A B C k) := hU2.keep (grown_drewN _ _ _)
        have hB3 : Blk (w2.drewN nq) w.heap.size (voP A B C n (k + 1)) := hB2
        have hG3 := grown_trans hG02 (grown_drewN w2 nq none)
        have hsz3 : w.heap.size + 1 ≤ (w2.drewN nq).heap.size := hsz2
        generalize w2.drewN nq = w3 at hU3 hB3 hG3 hsz3 ⊢
        clear hU2 hB2 hG02 hsz2 c1 c2 c3
        go_wp2_with (at_builtin; refine wpList_pushI w w3 (w.heap.size + 1) rfl (.tmp 84) (.tmp 86) rfl au m cu (k : Int) _ rfl hU3 (by omega) hsz3 hG3 rfl (by omega) ?_; intro gx cx w4 hA4 hG4 hgx4 hg4)
        have hB4 : Blk w4 w.heap.size (voP A B C n (k + 1)) := hB3.grown hg4 (fun e => by have := hU3.new _ e.symm; omega)
        rw [← HE.out] at hA4
        go_roundw
        case rel => exact ⟨k + 1, m + 1, cx, some ⟨gx, 0, none⟩, by omega, by go_num, rfl, hB4, hA4, hG4, Nat.le_trans hsz3 hg4.size⟩
        case measure => simp [intOf]; omega
    · obtain rfl : k = n := by omega
      go_wp2
      go_ret3
      refine ⟨au, m, cu, rfl, ?_, hU, hG⟩
      have := hB.ans (n := k) (lo := w.heap.size) (voP_all A B C k ▸ tab_isB _ _ fun i => voB_lt _ _ _ (ha.byte.nth i) (hb.byte.nth i)) (by rw [voP_len]; exact Nat.le_refl _) (by rw [voP_len]; unfold maxLen; omega) (Nat.le_refl _)
      rw [voP_all, tab_len, List.take_of_length_le (by rw [tab_len]; exact Nat.le_refl _)] at this
      exact this
end Go.Proofs.Ytchbppidepapiaa
