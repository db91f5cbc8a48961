import Derived.Test.YtnnoeeakkpaocaaKxSd
import Derived.Test.YtnnoeeakkpaocaaKSh
import Derived.Test.YtnnoeeakkpaocaaKxOw
namespace Go.Proofs.Ytnnoeeakkpaocaa
open Go.RowKit
set_option maxRecDepth 100000
set_option linter.unusedVariables false
set_option linter.unusedSimpArgs false
/-- a hand, as data -/
structure Hd where
  cr : Int
  nx : Int
  ah : Int
  ti : Int
  pa : Int
  tr : Int
  li : Int
  si : Int
  pu : Int
  hl : Int
  S : List (List Nat)
  Q : List (List Nat)
/-- where its rows lie -/
structure Hx where
  sa : Option Addr
  sn : Nat
  sc : Nat
  qa : Option Addr
  qn : Nat
  qc : Nat
def hnV (d : Hd) (X : Hx) : Array Value := #[.int .i64 d.cr, .int .i64 d.nx, .int .i64 d.ah, .slice X.sa X.sn X.sc, .slice X.qa X.qn X.qc, .int .i64 d.ti, .int .i64 d.pa, .int .i64 d.tr, .int .i64 d.li, .int .i64 d.si, .int .i64 d.pu, .int .i64 d.hl]
/-- rows of bytes as they are read, as data -/
structure RdW (w : World) (a : Option Addr) (n c : Nat) (R : List (List Nat)) : Prop where
  len : R.length = n
  ex : ∃ F, RdR w a n c F ∧ ∀ i, i < n → (F i).D = R.getD i []
structure RdHd (w : World) (X : Hx) (d : Hd) : Prop where
  s : RdW w X.sa X.sn X.sc d.S
  q : RdW w X.qa X.qn X.qc d.Q
/-- rows in memory of the call's own, as data -/
structure OwW (w : World) (lo : Nat) (a : Option Addr) (n c : Nat) (rs : List Rw) (R : List (List Nat)) : Prop where
  o : OwR w lo a n c rs
  d : rs.map Rw.D = R
structure OwHd (w : World) (lo : Nat) (X : Hx) (rs qs : List Rw) (d : Hd) : Prop where
  s : OwW w lo X.sa X.sn X.sc rs d.S
  q : OwW w lo X.qa X.qn X.qc qs d.Q
  ap : ∀ x, Ofr (.slice X.sa X.sn X.sc) rs x → ¬ Ofr (.slice X.qa X.qn X.qc) qs x
/-- the blocks of a hand -/
def Hbl (X : Hx) (rs qs : List Rw) (i : Nat) : Prop := Ofr (.slice X.sa X.sn X.sc) rs i ∨ Ofr (.slice X.qa X.qn X.qc) qs i
theorem RdW.keep {w w' : World} {a : Option Addr} {n c : Nat} {R : List (List Nat)} (h : RdW w a n c R) (hg : w.grownBy w' none) : RdW w' a n c R := by
  obtain ⟨F, h1, h2⟩ := h.ex
  exact ⟨h.len, F, h1.keep hg, h2⟩
theorem RdHd.keep {w w' : World} {X : Hx} {d : Hd} (h : RdHd w X d) (hg : w.grownBy w' none) : RdHd w' X d := ⟨h.s.keep hg, h.q.keep hg⟩
theorem OwW.keep {w w' : World} {lo : Nat} {a : Option Addr} {n c : Nat} {rs : List Rw} {R : List (List Nat)} (h : OwW w lo a n c rs R) (hg : w.grownBy w' none) : OwW w' lo a n c rs R := ⟨h.o.keep hg, h.d⟩
theorem OwW.wide {w : World} {lo lo' : Nat} {a : Option Addr} {n c : Nat} {rs : List Rw} {R : List (List Nat)} (h : OwW w lo a n c rs R) (hl : lo' ≤ lo) : OwW w lo' a n c rs R := ⟨h.o.wide hl, h.d⟩
theorem OwHd.keep {w w' : World} {lo : Nat} {X : Hx} {rs qs : List Rw} {d : Hd} (h : OwHd w lo X rs qs d) (hg : w.grownBy w' none) : OwHd w' lo X rs qs d := ⟨h.s.keep hg, h.q.keep hg, h.ap⟩
theorem OwW.fz {w w' : World} {p : Nat → Prop} {lo : Nat} {a : Option Addr} {n c : Nat} {rs : List Rw} {R : List (List Nat)} (h : OwW w lo a n c rs R) (hF : Fz p w w') (hn : ∀ x, Ofr (.slice a n c) rs x → ¬ p x) : OwW w' lo a n c rs R := ⟨h.o.fz hF hn, h.d⟩
theorem OwHd.fz {w w' : World} {p : Nat → Prop} {lo : Nat} {X : Hx} {rs qs : List Rw} {d : Hd} (h : OwHd w lo X rs qs d) (hF : Fz p w w') (hn : ∀ x, Hbl X rs qs x → ¬ p x) : OwHd w' lo X rs qs d :=
  ⟨h.s.fz hF (fun x hx => hn x (.inl hx)), h.q.fz hF (fun x hx => hn x (.inr hx)), h.ap⟩
theorem getD_map_D (rs : List Rw) (i : Nat) (hi : i < rs.length) : (rs.map Rw.D).getD i [] = (rs.getD i kr0).D := by
  rw [List.getD_eq_getElem?_getD, List.getElem?_map, List.getElem?_eq_getElem hi, List.getD_eq_getElem?_getD, List.getElem?_eq_getElem hi]; rfl
theorem map_D_of (rs : List Rw) (R : List (List Nat)) (hl : rs.length = R.length) (h : ∀ i, i < R.length → (rs.getD i kr0).D = R.getD i []) : rs.map Rw.D = R := by
  apply List.ext_getElem (by simpa using hl)
  intro i h1 h2
  have := h i h2
  rw [← getD_map_D rs i (by rw [hl]; exact h2)] at this
  rw [List.getD_eq_getElem?_getD, List.getElem?_eq_getElem h1, List.getD_eq_getElem?_getD, List.getElem?_eq_getElem h2] at this
  exact this
theorem OwW.len {w : World} {lo : Nat} {a : Option Addr} {n c : Nat} {rs : List Rw} {R : List (List Nat)} (h : OwW w lo a n c rs R) : R.length = n := by
  rw [← h.d, List.length_map]; exact h.o.len
theorem OwW.rd {w : World} {lo : Nat} {a : Option Addr} {n c : Nat} {rs : List Rw} {R : List (List Nat)} (h : OwW w lo a n c rs R) : RdW w a n c R := by
  refine ⟨h.len, _, h.o.rdr, fun i hi => ?_⟩
  rw [← h.d, getD_map_D rs i (by rw [h.o.len]; exact hi)]
theorem OwHd.rd {w : World} {lo : Nat} {X : Hx} {rs qs : List Rw} {d : Hd} (h : OwHd w lo X rs qs d) : RdHd w X d := ⟨h.s.rd, h.q.rd⟩
theorem OwW.hi {w : World} {lo : Nat} {a : Option Addr} {n c : Nat} {rs : List Rw} {R : List (List Nat)} (h : OwW w lo a n c rs R) (x : Nat) (hx : Ofr (.slice a n c) rs x) : x < w.heap.size := ofr_hi h.o.bef hx
theorem OwW.lo' {w : World} {lo : Nat} {a : Option Addr} {n c : Nat} {rs : List Rw} {R : List (List Nat)} (h : OwW w lo a n c rs R) (x : Nat) (hx : Ofr (.slice a n c) rs x) : lo ≤ x := ofr_lo h.o hx
theorem OwHd.hi {w : World} {lo : Nat} {X : Hx} {rs qs : List Rw} {d : Hd} (h : OwHd w lo X rs qs d) (x : Nat) (hx : Hbl X rs qs x) : x < w.heap.size := by
  rcases hx with hx | hx
  · exact h.s.hi x hx
  · exact h.q.hi x hx
theorem OwHd.lo' {w : World} {lo : Nat} {X : Hx} {rs qs : List Rw} {d : Hd} (h : OwHd w lo X rs qs d) (x : Nat) (hx : Hbl X rs qs x) : lo ≤ x := by
  rcases hx with hx | hx
  · exact h.s.lo' x hx
  · exact h.q.lo' x hx
theorem RdW.nil (w : World) : RdW w none 0 0 [] := ⟨rfl, fun _ => kr0, ⟨Nat.le_refl _, Nat.zero_le _, (fun h => absurd h (by decide)), fun i hi => absurd hi (by omega)⟩, fun i hi => absurd hi (by omega)⟩
theorem OwW.nil (w : World) (lo : Nat) : OwW w lo none 0 0 [] [] := ⟨OwR.nil w lo, rfl⟩
theorem ofr_nil (x : Nat) : ¬ Ofr (.slice none 0 0) [] x := by
  rintro (h | ⟨r, h, _⟩)
  · simp [Value.ownBlock] at h
  · cases h
/-- each row of the data is not too long -/
def Fit (b : Nat) (R : List (List Nat)) : Prop := ∀ r, r ∈ R → r.length ≤ b
theorem Fit.at' {b : Nat} {R : List (List Nat)} (h : Fit b R) (i : Nat) (hi : i < R.length) : (R.getD i []).length ≤ b := by
  rw [List.getD_eq_getElem?_getD, List.getElem?_eq_getElem hi]
  exact h _ (List.getElem_mem _)
theorem sameRows2_any (a b : Option Addr) (n m cap cap' : Nat) (R : List (List Nat)) (w : World) (h : RdW w a n cap R) (k : RdW w b m cap' R) :
    Calls Try.prog 65 #[.slice a n cap, .slice b m cap'] w fun e w' => e = .returned (.bool true) ∧ w.grownBy w' none := by
  have e : n = m := by rw [← h.len, k.len]
  subst e
  obtain ⟨F, h1, h2⟩ := h.ex
  obtain ⟨G, k1, k2⟩ := k.ex
  exact sameRows_any a b n cap cap' F G w h1 k1 (fun i hi => by rw [h2 i hi, k2 i hi])
theorem sameHand2_any (X Y : Hx) (d : Hd) (w : World) (h : RdHd w X d) (k : RdHd w Y d) :
    Calls Try.prog 32 #[.agg (hnV d X), .agg (hnV d Y)] w fun e w' => e = .returned (.bool true) ∧ w.grownBy w' none := by
  obtain ⟨sa, sn, sc, qa, qn, qc⟩ := X
  obtain ⟨sa', sn', sc', qa', qn', qc'⟩ := Y
  have e1 : sn = sn' := by have := h.s.len; have := k.s.len; dsimp only at *; omega
  have e2 : qn = qn' := by have := h.q.len; have := k.q.len; dsimp only at *; omega
  subst e1
  subst e2
  obtain ⟨F, h1, h2⟩ := h.s.ex
  obtain ⟨F', k1, k2⟩ := k.s.ex
  obtain ⟨H, i1, i2⟩ := h.q.ex
  obtain ⟨H', j1, j2⟩ := k.q.ex
  exact sameHand_any d.cr d.nx d.ah d.ti d.pa d.tr d.li d.si d.pu d.hl sa sa' qa qa' sn sc sc' qn qc qc' F F' H H' w h1 k1 i1 j1 (fun i hi => by rw [h2 i hi, k2 i hi]) (fun i hi => by rw [i2 i hi, j2 i hi])
theorem handOf2_any (X : Hx) (d : Hd) (w : World) (h : RdHd w X d) (fS : Fit 140737488351232 d.S) (nS : X.sn * 24 ≤ 140737488351232) (fQ : Fit 140737488351232 d.Q) (nQ : X.qn * 24 ≤ 140737488351232) :
    Calls Try.prog 37 #[.agg (hnV d X)] w fun e w' => ∃ (Y : Hx) (rs qs : List Rw), e = .returned (.agg (hnV d Y)) ∧ OwHd w' w.heap.size Y rs qs d ∧ w.grownBy w' none := by
  obtain ⟨F, h1, h2⟩ := h.s.ex
  obtain ⟨H, i1, i2⟩ := h.q.ex
  have l1 := h.s.len
  have l2 := h.q.len
  have hF : ∀ i, i < X.sn → (F i).n ≤ 140737488351232 := fun i hi => by
    rw [← (h1.data i hi).len, h2 i hi]
    exact fS.at' i (by omega)
  have hH : ∀ i, i < X.qn → (H i).n ≤ 140737488351232 := fun i hi => by
    rw [← (i1.data i hi).len, i2 i hi]
    exact fQ.at' i (by omega)
  refine (handOf_any d.cr d.nx d.ah X.sa X.sn X.sc F X.qa X.qn X.qc H d.ti d.pa d.tr d.li d.si d.pu d.hl w h1 i1 hF nS hH nQ).mono ?_
  rintro e w' ⟨sa', sc', rs, qa', qc', qs, mid, rfl, o1, d1, b1, hm, o2, d2, hg⟩
  have e1 : rs.map Rw.D = d.S := map_D_of rs d.S (by rw [o1.len]; omega) (fun i hi => by rw [d1 i (by omega), h2 i (by omega)])
  have e2 : qs.map Rw.D = d.Q := map_D_of qs d.Q (by rw [o2.len]; omega) (fun i hi => by rw [d2 i (by omega), i2 i (by omega)])
  refine ⟨⟨sa', X.sn, sc', qa', X.qn, qc'⟩, rs, qs, rfl, ⟨⟨o1, e1⟩, ⟨o2.wide hm, e2⟩, fun x hx hx' => ?_⟩, hg⟩
  have := ofr_hi b1 hx
  have := ofr_lo o2 hx'
  omega
theorem spoilRows2_any (a : Option Addr) (n c lo : Nat) (rs : List Rw) (R : List (List Nat)) (w : World) (h : OwW w lo a n c rs R) (hF : Fit 140737488351232 R) (hn : n * 24 ≤ 140737488351232) :
    Calls Try.prog 70 #[.slice a n c] w fun e w' => e = .returned (.tuple #[]) ∧ Fz (Ofr (.slice a n c) rs) w w' := by
  refine spoilRows_any a n c lo rs w h.o (fun r hr => ?_) hn
  rw [← (h.o.each r hr).len]
  have := hF r.D (by rw [← h.d]; exact List.mem_map_of_mem hr)
  omega
end Go.Proofs.Ytnnoeeakkpaocaa
