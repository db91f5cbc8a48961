import Derived.Test.YtlmddjkplnbadaaKxSd
import Derived.Test.YtlmddjkplnbadaaKHm1
import Derived.Test.YtlmddjkplnbadaaKxOw
namespace Go.Proofs.Ytlmddjkplnbadaa
open Go.RowKit
set_option maxRecDepth 100000
set_option linter.unusedVariables false
set_option linter.unusedSimpArgs false
/-- a hand, as data -/
structure Hd where
  cr : Int
  nx : Int
  ah : Int
  ti : Int
  pa : Int
  tr : Int
  li : Int
  si : Int
  pu : Int
  hl : Int
  S : List (List Nat)
  Q : List (List Nat)
/-- where its rows lie -/
structure Hx where
  sa : Option Addr
  sn : Nat
  sc : Nat
  qa : Option Addr
  qn : Nat
  qc : Nat
/-- rows of bytes as they are read, as data -/
structure RdW (w : World) (a : Option Addr) (n c : Nat) (R : List (List Nat)) : Prop where
  len : R.length = n
  ex : ∃ F, RdR w a n c F ∧ ∀ i, i < n → (F i).D = R.getD i []
structure RdHd (w : World) (X : Hx) (d : Hd) : Prop where
  s : RdW w X.sa X.sn X.sc d.S
  q : RdW w X.qa X.qn X.qc d.Q
/-- rows in memory of the call's own, as data -/
structure OwW (w : World) (lo : Nat) (a : Option Addr) (n c : Nat) (rs : List Rw) (R : List (List Nat)) : Prop where
  o : OwR w lo a n c rs
  d : rs.map Rw.D = R
structure OwHd (w : World) (lo : Nat) (X : Hx) (rs qs : List Rw) (d : Hd) : Prop where
  s : OwW w lo X.sa X.sn X.sc rs d.S
  q : OwW w lo X.qa X.qn X.qc qs d.Q
  ap : ∀ x, Ofr (.slice X.sa X.sn X.sc) rs x → ¬ Ofr (.slice X.qa X.qn X.qc) qs x
/-- the blocks of a hand -/
def Hbl (X : Hx) (rs qs : List Rw) (i : Nat) : Prop := Ofr (.slice X.sa X.sn X.sc) rs i ∨ Ofr (.slice X.qa X.qn X.qc) qs i
theorem RdW.keep {w w' : World} {a : Option Addr} {n c : Nat} {R : List (List Nat)} (h : RdW w a n c R) (hg : w.grownBy w' none) : RdW w' a n c R := by
  obtain ⟨F, h1, h2⟩ := h.ex
  exact ⟨h.len, F, h1.keep hg, h2⟩
theorem RdHd.keep {w w' : World} {X : Hx} {d : Hd} (h : RdHd w X d) (hg : w.grownBy w' none) : RdHd w' X d := ⟨h.s.keep hg, h.q.keep hg⟩
theorem OwW.keep {w w' : World} {lo : Nat} {a : Option Addr} {n c : Nat} {rs : List Rw} {R : List (List Nat)} (h : OwW w lo a n c rs R) (hg : w.grownBy w' none) : OwW w' lo a n c rs R := ⟨h.o.keep hg, h.d⟩
theorem OwW.wide {w : World} {lo lo' : Nat} {a : Option Addr} {n c : Nat} {rs : List Rw} {R : List (List Nat)} (h : OwW w lo a n c rs R) (hl : lo' ≤ lo) : OwW w lo' a n c rs R := ⟨h.o.wide hl, h.d⟩
theorem OwHd.keep {w w' : World} {lo : Nat} {X : Hx} {rs qs : List Rw} {d : Hd} (h : OwHd w lo X rs qs d) (hg : w.grownBy w' none) : OwHd w' lo X rs qs d := ⟨h.s.keep hg, h.q.keep hg, h.ap⟩
theorem OwW.fz {w w' : World} {p : Nat → Prop} {lo : Nat} {a : Option Addr} {n c : Nat} {rs : List Rw} {R : List (List Nat)} (h : OwW w lo a n c rs R) (hF : Fz p w w') (hn : ∀ x, Ofr (.slice a n c) rs x → ¬ p x) : OwW w' lo a n c rs R := ⟨h.o.fz hF hn, h.d⟩
theorem OwHd.fz {w w' : World} {p : Nat → Prop} {lo : Nat} {X : Hx} {rs qs : List Rw} {d : Hd} (h : OwHd w lo X rs qs d) (hF : Fz p w w') (hn : ∀ x, Hbl X rs qs x → ¬ p x) : OwHd w' lo X rs qs d :=
  ⟨h.s.fz hF (fun x hx => hn x (.inl hx)), h.q.fz hF (fun x hx => hn x (.inr hx)), h.ap⟩
theorem getD_map_D (rs : List Rw) (i : Nat) (hi : i < rs.length) : (rs.map Rw.D).getD i [] = (rs.getD i kr0).D := by
  rw [List.getD_eq_getElem?_getD, List.getElem?_map, List.getElem?_eq_getElem hi, List.getD_eq_getElem?_getD, List.getElem?_eq_getElem hi]; rfl
theorem map_D_of (rs : List Rw) (R : List (List Nat)) (hl : rs.length = R.length) (h : ∀ i, i < R.length → (rs.getD i kr0).D = R.getD i []) : rs.map Rw.D = R := by
  apply List.ext_getElem (by simpa using hl)
  intro i h1 h2
  have := h i h2
  rw [← getD_map_D rs i (by rw [hl]; exact h2)] at this
  rw [List.getD_eq_getElem?_getD, List.getElem?_eq_getElem h1, List.getD_eq_getElem?_getD, List.getElem?_eq_getElem h2] at this
  exact this
theorem OwW.len {w : World} {lo : Nat} {a : Option Addr} {n c : Nat} {rs : List Rw} {R : List (List Nat)} (h : OwW w lo a n c rs R) : R.length = n := by
  rw [← h.d, List.length_map]; exact h.o.len
theorem OwW.rd {w : World} {lo : Nat} {a : Option Addr} {n c : Nat} {rs : List Rw} {R : List (List Nat)} (h : OwW w lo a n c rs R) : RdW w a n c R := by
  refine ⟨h.len, _, h.o.rdr, fun i hi => ?_⟩
  rw [← h.d, getD_map_D rs i (by rw [h.o.len]; exact hi)]
theorem OwHd.rd {w : World} {lo : Nat} {X : Hx} {rs qs : List Rw} {d : Hd} (h : OwHd w lo X rs qs d) : RdHd w X d := ⟨h.s.rd, h.q.rd⟩
theorem OwW.hi {w : World} {lo : Nat} {a : Option Addr} {n c : Nat} {rs : List Rw} {R : List (List Nat)} (h : OwW w lo a n c rs R) (x : Nat) (hx : Ofr (.slice a n c) rs x) : x < w.heap.size := ofr_hi h.o.bef hx
theorem OwW.lo' {w : World} {lo : Nat} {a : Option Addr} {n c : Nat} {rs : List Rw} {R : List (List Nat)} (h : OwW w lo a n c rs R) (x : Nat) (hx : Ofr (.slice a n c) rs x) : lo ≤ x := ofr_lo h.o hx
theorem OwHd.hi {w : World} {lo : Nat} {X : Hx} {rs qs : List Rw} {d : Hd} (h : OwHd w lo X rs qs d) (x : Nat) (hx : Hbl X rs qs x) : x < w.heap.size := by
  rcases hx with hx | hx
  · exact h.s.hi x hx
  · exact h.q.hi x hx
theorem OwHd.lo' {w : World} {lo : Nat} {X : Hx} {rs qs : List Rw} {d : Hd} (h : OwHd w lo X rs qs d) (x : Nat) (hx : Hbl X rs qs x) : lo ≤ x := by
  rcases hx with hx | hx
  · exact h.s.lo' x hx
  · exact h.q.lo' x hx
theorem RdW.nil (w : World) : RdW w none 0 0 [] := ⟨rfl, fun _ => kr0, ⟨Nat.le_refl _, Nat.zero_le _, (fun h => absurd h (by decide)), fun i hi => absurd hi (by omega)⟩, fun i hi => absurd hi (by omega)⟩
theorem OwW.nil (w : World) (lo : Nat) : OwW w lo none 0 0 [] [] := ⟨OwR.nil w lo, rfl⟩
theorem ofr_nil (x : Nat) : ¬ Ofr (.slice none 0 0) [] x := by
  rintro (h | ⟨r, h, _⟩)
  · simp [Value.ownBlock] at h
  · cases h
/-- each row of the data is not too long -/
def Fit (b : Nat) (R : List (List Nat)) : Prop := ∀ r, r ∈ R → r.length ≤ b
theorem Fit.at' {b : Nat} {R : List (List Nat)} (h : Fit b R) (i : Nat) (hi : i < R.length) : (R.getD i []).length ≤ b := by
  rw [List.getD_eq_getElem?_getD, List.getElem?_eq_getElem hi]
  exact h _ (List.getElem_mem _)
end Go.Proofs.Ytlmddjkplnbadaa
