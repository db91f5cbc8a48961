import Derived.Test.YtaigcjhachkmmaaDoorFSums
namespace Go.Proofs.YtaigcjhachkmmaaDoor
set_option maxRecDepth 100000
set_option linter.unusedVariables false
set_option linter.unusedSimpArgs false

/-! a block: sixteen numbers that are stirred -/
def rotN (x k : Nat) : Nat := (x <<< k ||| x >>> (32 - k)) % 4294967296
def updF (f : Nat → Nat) (i x : Nat) : Nat → Nat := fun j => if j = i then x else f j
def trnF (f : Nat → Nat) (t b l p : Nat) : Nat → Nat := updF (updF f t ((f t + f b) % 4294967296)) l (rotN (updF f t ((f t + f b) % 4294967296) l ^^^ updF f t ((f t + f b) % 4294967296) t) p)
def stiF (f : Nat → Nat) (a b c d : Nat) : Nat → Nat := trnF (trnF (trnF (trnF f a b d 13) c d b 9) a b d 17) c d b 5
def lna (m : Nat) : Nat := m % 4
def lnb (m : Nat) : Nat := if m < 4 then 4 + m else 4 + (m - 4 + 1) % 4
def lnc (m : Nat) : Nat := if m < 4 then 8 + m else 8 + (m - 4 + 2) % 4
def lnd (m : Nat) : Nat := if m < 4 then 12 + m else 12 + (m - 4 + 3) % 4
def stiN (f : Nat → Nat) : Nat → Nat → Nat
  | 0 => f
  | m + 1 => stiF (stiN f m) (lna m) (lnb m) (lnc m) (lnd m)
def rndN (f : Nat → Nat) : Nat → Nat → Nat
  | 0 => f
  | r + 1 => stiN (rndN f r) 8
/-- sixteen numbers, each below 2^32 -/
def Is32 (f : Nat → Nat) : Prop := ∀ i, f i < 4294967296
theorem rotN_lt (x k : Nat) : rotN x k < 4294967296 := Nat.mod_lt _ (by decide)
theorem Is32.upd {f : Nat → Nat} (h : Is32 f) (i x : Nat) (hx : x < 4294967296) : Is32 (updF f i x) := fun j => by
  unfold updF; split
  · exact hx
  · exact h j
theorem Is32.trn {f : Nat → Nat} (h : Is32 f) (t b l p : Nat) : Is32 (trnF f t b l p) := (h.upd t _ (Nat.mod_lt _ (by decide))).upd l _ (rotN_lt _ _)
theorem Is32.sti {f : Nat → Nat} (h : Is32 f) (a b c d : Nat) : Is32 (stiF f a b c d) := (((h.trn _ _ _ _).trn _ _ _ _).trn _ _ _ _).trn _ _ _ _
theorem Is32.stiN {f : Nat → Nat} (h : Is32 f) (m : Nat) : Is32 (stiN f m) := by
  induction m with
  | zero => exact h
  | succ m ih => exact ih.sti _ _ _ _
theorem Is32.rndN {f : Nat → Nat} (h : Is32 f) (r : Nat) : Is32 (rndN f r) := by
  induction r with
  | zero => exact h
  | succ r ih => exact ih.stiN 8
/-- the square that a block begins with -/
def sq0 (W : Nat → Nat) (c x : Nat) (i : Nat) : Nat :=
  if i < 4 then [1752326502, 745302369, 2036689696, 1684107296].getD i 0 else if i < 12 then W (i - 4) else if i = 12 then x else if i = 13 then c % 4294967296 else if i = 14 then c / 4294967296 else 0
theorem sq0_32 (W : Nat → Nat) (c x : Nat) (hW : ∀ i, i < 8 → W i < 4294967296) (hc : c < 18446744073709551616) (hx : x < 4294967296) : Is32 (sq0 W c x) := by
  intro i
  unfold sq0
  split
  · rename_i h
    have : i = 0 ∨ i = 1 ∨ i = 2 ∨ i = 3 := by omega
    rcases this with rfl | rfl | rfl | rfl <;> decide
  · split
    · exact hW _ (by omega)
    · split
      · exact hx
      · split
        · exact Nat.mod_lt _ (by decide)
        · split
          · omega
          · decide
def blkF (W : Nat → Nat) (c x : Nat) (i : Nat) : Nat := (rndN (sq0 W c x) 6 i + sq0 W c x i) % 4294967296
def padB (W : Nat → Nat) (c x : Nat) (i : Nat) : Nat := blkF W c x (i / 4) >>> (i % 4 * 8) % 256
def padL (W : Nat → Nat) (c x : Nat) : List Nat := (List.range 64).map (padB W c x)
theorem padL_len (W : Nat → Nat) (c x : Nat) : (padL W c x).length = 64 := by simp [padL]
theorem padL_at (W : Nat → Nat) (c x i : Nat) (hi : i < 64) : nth (padL W c x) i = padB W c x i := by
  unfold nth padL
  rw [List.getD_eq_getElem?_getD, List.getElem?_map, List.getElem?_range hi]; rfl
theorem padL_byte (W : Nat → Nat) (c x : Nat) : IsB (padL W c x) := by
  intro y hy
  obtain ⟨i, _, rfl⟩ := List.mem_map.1 hy
  exact Nat.mod_lt _ (by decide)
end Go.Proofs.YtaigcjhachkmmaaDoor
