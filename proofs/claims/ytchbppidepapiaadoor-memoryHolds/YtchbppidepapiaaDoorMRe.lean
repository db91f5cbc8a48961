import Derived.Test.YtchbppidepapiaaDoorMNw
import Derived.Test.YtchbppidepapiaaDoorZAp
import Derived.Deep.DeepCutAuto
namespace Go.Proofs.YtchbppidepapiaaDoor
open Go.RowKit
set_option maxRecDepth 100000
set_option linter.unusedVariables false
set_option linter.unusedSimpArgs false

/-- a slice of pokes, as it is read -/
structure RdK (w : World) (a : Option Addr) (n cap : Nat) (F : Nat → Nat × Nat × Nat) : Prop where
  le : n ≤ cap
  max : cap ≤ maxLen
  at' : 0 < n → ∃ b off, a = some ⟨b, off, none⟩ ∧ b < w.heap.size ∧ ∀ i, i < n → w.cell? ⟨b, off + i * 3, none⟩ = some (.int .i64 ((F i).1 : Nat)) ∧ w.cell? ⟨b, off + i * 3 + 1, none⟩ = some (.int .i64 ((F i).2.1 : Nat)) ∧ w.cell? ⟨b, off + i * 3 + 2, none⟩ = some (.int .i64 ((F i).2.2 : Nat))
theorem RdK.at_in {w wr : World} {a : Option Addr} {n cap : Nat} {F : Nat → Nat × Nat × Nat} (h : RdK w a n cap F) (hg : w.grownBy wr none) (k : Nat) (hk : k < n) : ∃ b off, a = some ⟨b, off, none⟩ ∧ b < w.heap.size ∧ wr.cell? ⟨b, off + k * 3, none⟩ = some (.int .i64 ((F k).1 : Nat)) ∧ wr.cell? ⟨b, off + k * 3 + 1, none⟩ = some (.int .i64 ((F k).2.1 : Nat)) ∧ wr.cell? ⟨b, off + k * 3 + 2, none⟩ = some (.int .i64 ((F k).2.2 : Nat)) := by
  obtain ⟨b, off, e, hb, hc⟩ := h.at' (by omega)
  have hbl := hg.block b hb (by simp)
  obtain ⟨c1, c2, c3⟩ := hc k hk
  exact ⟨b, off, e, hb, (World.cell?_of_block (w := w) hbl).trans c1, (World.cell?_of_block (w := w) hbl).trans c2, (World.cell?_of_block (w := w) hbl).trans c3⟩
/-- what a poke makes of the codes and of the place that comes next -/
def mSt (s : List Nat × Nat) (p : Nat × Nat × Nat) : List Nat × Nat :=
  if p.1 = 1 then (s.1.set p.2.1 (riW (nth s.1 p.2.1)), s.2)
  else if p.1 = 2 then (s.1.set p.2.1 (coN p.2.2), s.2)
  else if p.1 = 3 then (s.1.set p.2.1 (nth s.1 p.2.1 ^^^ 1 <<< p.2.2), s.2)
  else (scC s.1 s.2 p.2.2, (s.2 + p.2.2) % s.1.length)
/-- the number that it tells -/
def mOu (s : List Nat × Nat) (p : Nat × Nat × Nat) : Nat := if p.1 = 1 then gaW (riW (nth s.1 p.2.1)) 39 else if p.1 = 4 then scN s.1 s.2 p.2.2 else 0
/-- a poke that meets no error -/
def mOk (s : List Nat × Nat) (p : Nat × Nat × Nat) : Prop :=
  (p.1 = 1 ∧ p.2.1 < s.1.length ∧ wrW (nth s.1 p.2.1) ≤ 1) ∨ (p.1 = 2 ∧ p.2.1 < s.1.length ∧ p.2.2 < 4294967296) ∨ (p.1 = 3 ∧ p.2.1 < s.1.length ∧ p.2.2 < 39) ∨
  (p.1 = 4 ∧ p.2.2 ≤ s.1.length ∧ ∀ j, j < p.2.2 → wrW (nth (scC s.1 s.2 j) ((s.2 + j) % s.1.length)) ≤ 1)
def mRu (s : List Nat × Nat) (F : Nat → Nat × Nat × Nat) : Nat → List Nat × Nat
  | 0 => s
  | i + 1 => mSt (mRu s F i) (F i)
def pdL (s : List Nat × Nat) (F : Nat → Nat × Nat × Nat) : Nat → List Value
  | 0 => []
  | i + 1 => pdL s F i ++ [.int .i64 (mOu (mRu s F i) (F i) : Nat), .slice none 0 0, .int .i64 0, .int .i64 0]
theorem Tryd.info_pkd : (Tryd.prog.info? 29).map (fun i => (i.zero, i.size, i.bytes)) = some (some (.agg #[.int .i64 0, .slice none 0 0, .int .i64 0, .int .i64 0]), 4, 48) := by kernel_rfl
theorem BxS.cell4 {w : World} {g : Nat} {t : TypeId} {a b c d : Value} (h : BxS w g t #[a, b, c, d]) : w.cell? ⟨g, 0, none⟩ = some a ∧ w.cell? ⟨g, 1, none⟩ = some b ∧ w.cell? ⟨g, 2, none⟩ = some c ∧ w.cell? ⟨g, 3, none⟩ = some d := by
  simp [World.cell?, show w.heap[g]? = _ from h]
theorem stc_errM (g i : Nat) (n : Int) (w : World) (hc : ∃ u, w.cell? ⟨g, i, none⟩ = some u) (hf : w.frozen? ⟨g, i, none⟩ = false) : (Instr.storeAt 24 (.pointer (some ⟨g, i, none⟩)) (.int .i64 n)).run Tryd.prog w = .ok () (w.setCell ⟨g, i, none⟩ (.int .i64 n)) := by
  obtain ⟨u, hc⟩ := hc
  simp [go_sem, hc, hf]
theorem stc_slI (g i : Nat) (p : Option Addr) (l c : Nat) (w : World) (hc : ∃ u, w.cell? ⟨g, i, none⟩ = some u) (hf : w.frozen? ⟨g, i, none⟩ = false) : (Instr.storeAt 27 (.pointer (some ⟨g, i, none⟩)) (.slice p l c)).run Tryd.prog w = .ok () (w.setCell ⟨g, i, none⟩ (.slice p l c)) := by
  obtain ⟨u, hc⟩ := hc
  simp [go_sem, hc, hf]
theorem own_blk {w w' : World} {base : Nat} {e : TypeId} {sz : Nat} {v : Value} {n : Nat} {xs : List Value} (h : w.ownsRow base e sz v n xs) (hb : ∀ g, v.ownBlock = some g → w'.heap[g]? = w.heap[g]?) : w'.ownsRow base e sz v n xs := by
  refine ⟨h.1, ?_⟩
  rcases h.2 with h2 | ⟨g, cap, cur, rfl, h4, h5, h6⟩
  · exact .inl h2
  · exact .inr ⟨g, cap, cur, rfl, h4, (hb g rfl).trans h5, h6⟩
theorem Fw.of {w w' : World} {p : Nat → Prop} {g : Nat} (h : w.grownBy w' (some g)) (hp : p g) : Fw p w w' := (Fw.refl p w).step h (fun k e _ => by cases e; exact hp)
theorem Fw.grown {p : Nat → Prop} {a b c : World} (h : a.grownBy b none) (k : Fw p b c) (hp : ∀ i, p i → a.heap.size ≤ i) : a.grownBy c none :=
  ⟨k.os.trans h.os, k.tape.trans h.tape, k.output.trans h.output, Nat.le_trans h.size k.size, fun i hi hn => (k.block i (Nat.lt_of_lt_of_le hi h.size) (fun e => by have := hp i e; omega)).trans (h.block i hi hn)⟩
theorem four_row (w : World) (x : Value) : ∀ j u, [x, .slice none 0 0, .int .i64 0, .int .i64 0][j]? = some u → (w.alloc (.cells #[x, .slice none 0 0, .int .i64 0, .int .i64 0] 29)).cell? ((⟨w.heap.size, 0, none⟩ : Addr).add j) = some u := by
  intro j u h
  rw [addr_add, cell_of_row _ _ _ _ _ _ (heap_alloc_new w _)]
  simpa using h
theorem four_at (w : World) (o : Obj) (x : Value) : ∀ j u, [x, .slice none 0 0, .int .i64 0, .int .i64 0][j]? = some u → ((w.alloc o).alloc (.cells #[x, .slice none 0 0, .int .i64 0, .int .i64 0] 29)).cell? ((⟨w.heap.size + 1, 0, none⟩ : Addr).add j) = some u := by
  have h := four_row (w.alloc o) x
  rw [World.size_alloc] at h
  exact h
theorem rem_end {w w1 w3 w4 w6 w9 : World} {gm gc nx gx0 gx cx i co : Nat} {ao : Option Addr} {C : List Nat} {o1 o2 : Obj} {xs : List Value} {t : TypeId} (hM4 : Mem w4 gm gc nx C) (F4 : Fw (mB gm gc) w3 w4) (g6 : w4.grownBy w6 (some gx0))
    (g9 : ((w6.alloc o1).alloc o2).grownBy w9 (Value.slice ao i co).ownBlock) (hgx : (Value.slice ao i co).ownBlock = some gx ∨ ((w6.alloc o1).alloc o2).heap.size ≤ gx) (hO9 : w9.ownsRow 0 t 4 (.slice (some ⟨gx, 0, none⟩) (i + 1) cx) (i + 1) xs)
    (hG3 : w.grownBy w3 none) (hgm : w.heap.size ≤ gm) (hgc : w.heap.size ≤ gc) (hgx0 : w.heap.size ≤ gx0) (hnm : gx0 ≠ gm) (hnc : gx0 ≠ gc) (hgm1 : gm < w1.heap.size) (hgc1 : gc < w1.heap.size) (hw1 : w.heap.size ≤ w1.heap.size) (h13 : w1.heap.size ≤ w3.heap.size) (hnew : ∀ g, (Value.slice ao i co).ownBlock = some g → w1.heap.size ≤ g) :
    Mem w9 gm gc nx C ∧ w.grownBy w9 none ∧ (∀ g, (Value.slice (some ⟨gx, 0, none⟩) (i + 1) cx).ownBlock = some g → w1.heap.size ≤ g ∧ g < w9.heap.size) ∧ w1.heap.size ≤ w9.heap.size := by
  have gA := World.grownBy_alloc w6 o1 none
  have gB := World.grownBy_alloc (w6.alloc o1) o2 none
  have hM6 := hM4.grown g6 (fun e => hnm (Option.some.inj e).symm) (fun e => hnc (Option.some.inj e).symm)
  have hM8 := (hM6.grown gA (by simp) (by simp)).grown gB (by simp) (by simp)
  have hM9 := hM8.grown g9 (fun e => by have := hnew gm e.symm; omega) (fun e => by have := hnew gc e.symm; omega)
  have G4 : w.grownBy w4 none := F4.grown hG3 (fun j e => e.elim (fun e => by rw [e]; exact hgm) (fun e => by rw [e]; exact hgc))
  have G6 := grown_far G4 g6 (fun g e => by cases e; exact hgx0)
  have G8 := grown_trans (grown_trans G6 gA) gB
  have G9 := grown_far G8 g9 (fun g e => Nat.le_trans hw1 (hnew g e))
  have s8 : w1.heap.size ≤ ((w6.alloc o1).alloc o2).heap.size := Nat.le_trans h13 (Nat.le_trans F4.size (Nat.le_trans g6.size (Nat.le_trans gA.size gB.size)))
  refine ⟨hM9, G9, fun g hg => ?_, Nat.le_trans s8 g9.size⟩
  have e : gx = g := Option.some.inj hg
  subst e
  constructor
  · rcases hgx with h | h
    · exact hnew _ h
    · exact Nat.le_trans s8 h
  · rcases hO9.2 with ⟨h, _⟩ | ⟨g', c', cur, h, _, hh, _⟩
    · cases h
    · cases h
      exact (Array.getElem?_eq_some_iff.1 hh).1
set_option maxHeartbeats 4000000 in
theorem remember_ok (n m cap : Nat) (a : Option Addr) (F : Nat → Nat × Nat × Nat) (w : World) (hR : RdK w a m cap F) (h1 : 1 ≤ n) (h2 : n ≤ 4096) (hm : m ≤ 100000) (hok : ∀ i, i < m → mOk (mRu (List.replicate n 0, 0) F i) (F i)) :
    Calls Tryd.prog 6 #[.int .i64 n, .slice a m cap] w fun e w' => ∃ ao co, e = .returned (.tuple #[.slice ao m co, .int .i64 0]) ∧ w'.ownsRow 0 29 4 (.slice ao m co) m (pdL (List.replicate n 0, 0) F m) ∧ w.grownBy w' none ∧ (∀ g, (Value.slice ao m co).ownBlock = some g → w.heap.size ≤ g) := by
  have HN := mnew_ok n w h1 h2
  obtain ⟨s0, hs0⟩ : ∃ s : List Nat × Nat, s = (List.replicate n 0, 0) := ⟨_, rfl⟩
  rw [← hs0] at hok ⊢
  have t1 : True := trivial
  go_enter Tryd.func6, Tryd.ntmps6
  go_wp2_with (first | (go_at_call 11; have _t := t1; clear t1; refine HN.mono ?_; rintro e w1 ⟨gm, gc, rfl, hM1, g1, hgm, hgc⟩))
  have hM0 : Mem w1 gm gc s0.2 s0.1 := by rw [hs0]; exact hM1
  have hgm1 : gm < w1.heap.size := hM0.box.lt
  have hgc1 : gc < w1.heap.size := hM0.row.lt
  clear hM1 hs0 HN
  go_loopw [8, 30] (fun ov ii wr => ∃ (i co : Nat) (ao : Option Addr), i ≤ m ∧ ii = .int .i64 i ∧ ov = .slice ao i co ∧ Mem wr gm gc (mRu s0 F i).2 (mRu s0 F i).1 ∧ wr.ownsRow 0 29 4 (.slice ao i co) i (pdL s0 F i) ∧ w.grownBy wr none ∧ (∀ g, (Value.slice ao i co).ownBlock = some g → w1.heap.size ≤ g ∧ g < wr.heap.size) ∧ w1.heap.size ≤ wr.heap.size) (fun _ ii _ => m - (intOf ii).toNat)
  case atStart => exact ⟨0, 0, none, by omega, rfl, rfl, hM0, World.ownsRow_nil _ _ _ _, g1, fun g h => by simp [Value.ownBlock] at h, Nat.le_refl _⟩
  case round =>
    obtain ⟨i, co, ao, hi, rfl, rfl, hM, hO, hG, hnew, hw1r⟩ := hrel
    by_cases him : i < m
    · have hoki := hok i him
      obtain ⟨b, off, rfl, hb, c1, c2, c3⟩ := hR.at_in hG i him
      have HSt : Hid (mRu s0 F (i + 1) = mSt (mRu s0 F i) (F i)) := rfl
      have HPd : Hid (pdL s0 F (i + 1) = pdL s0 F i ++ [.int .i64 (mOu (mRu s0 F i) (F i) : Nat), .slice none 0 0, .int .i64 0, .int .i64 0]) := rfl
      have him' : (i : Int) < (m : Int) := by omega
      generalize pdL s0 F i = L at hO HPd
      generalize mRu s0 F i = sc at hM hoki HSt HPd
      obtain ⟨C, nx⟩ := sc
      generalize F i = f at hoki HSt HPd c1 c2 c3
      obtain ⟨d, at', z⟩ := f
      clear hok hR hM0
      dsimp only [mOk] at hM hoki c1 c2 c3
      rcases hoki with ⟨rfl, hk, hw⟩ | ⟨rfl, hk, hz⟩ | ⟨rfl, hk, hz⟩ | ⟨rfl, hk, hw⟩
      · have c1 : wr.cell? ⟨b, off + i * 3, none⟩ = some (.int .i64 1) := c1
        have HS2 : Hid (mRu s0 F (i + 1) = (C.set at' (riW (nth C at')), nx)) := HSt.out
        have HP2 : Hid (pdL s0 F (i + 1) = L ++ [.int .i64 (gaW (riW (nth C at')) 39 : Nat), .slice none 0 0, .int .i64 0, .int .i64 0]) := HPd.out
        have b2 := BxS.new wr 35 #[.int .i64 1, .int .i64 (at' : Int), .int .i64 (z : Int)]
        have g2 := World.grownBy_alloc wr (.cells #[.int .i64 1, .int .i64 (at' : Int), .int .i64 (z : Int)] 35) none
        generalize hw2 : wr.alloc (.cells #[.int .i64 1, .int .i64 (at' : Int), .int .i64 (z : Int)] 35) = w2 at b2 g2
        have b3 := BxS.new w2 29 #[.int .i64 0, .slice none 0 0, .int .i64 0, .int .i64 0]
        have g3 := World.grownBy_alloc w2 (.cells #[.int .i64 0, .slice none 0 0, .int .i64 0, .int .i64 0] 29) none
        generalize hw3 : w2.alloc (.cells #[.int .i64 0, .slice none 0 0, .int .i64 0, .int .i64 0] 29) = w3 at b3 g3
        have b2' := b2.keep g3 (by simp)
        have d0 : w3.cell? ⟨wr.heap.size, 0, none⟩ = some (.int .i64 1) := b2'.cell 0 (by simp)
        have d1 : w3.cell? ⟨wr.heap.size, 1, none⟩ = some (.int .i64 (at' : Int)) := b2'.cell 1 (by simp)
        have d2 : w3.cell? ⟨wr.heap.size, 2, none⟩ = some (.int .i64 (z : Int)) := b2'.cell 2 (by simp)
        have hM3 := (hM.grown g2 (by simp) (by simp)).grown g3 (by simp) (by simp)
        have HC := mload_ok gm gc nx at' C w3 hM3 hk hw
        generalize gaW (riW (nth C at')) 39 = X at HC HP2
        have hs2 : wr.heap.size ≤ w2.heap.size := g2.size
        have hs3 : w2.heap.size < w3.heap.size := b3.lt
        obtain ⟨i0, hi0, hz0, hz1, hz2⟩ := info_parts Tryd.info_pkd
        have t2 : True := trivial
        go_wp2_with (first
          | (go_at_call 13; have _t := t2; clear t2; refine HC.mono ?_; rintro e w4 ⟨rfl, hM4, g4⟩; have F4 : Fw (mB gm gc) w3 w4 := Fw.of g4 (.inr rfl); have b4 : BxS w4 w2.heap.size 29 #[.int .i64 0, .slice none 0 0, .int .i64 0, .int .i64 0] := (F4.block _ b3.lt (fun e => e.elim (fun e => by omega) (fun e => by omega))).trans b3; have t3a : True := trivial)
          | (have _t := t3a; clear t3a; refine wpList_stC w4 rfl _ (.tmp 45) (.tmp 43) rfl w2.heap.size 0 29 _ #[.int .i64 (X : Int), .slice none 0 0, .int .i64 0, .int .i64 0] (.int .i64 (X : Int)) rfl rfl b4 (stc_int _ _ _) (by simp) rfl ?_; intro w5 b5 g5; have t3 : True := trivial)
          | (go_at_call 12; have _t := t3; clear t3; refine (tell_nil _).mono ?_; rintro e wT ⟨rfl, hwT⟩; have hwT := hwT.symm; subst hwT; have t4 : True := trivial)
          | (have _t := t4; clear t4; refine wpList_stC w5 rfl _ (.tmp 93) (.tmp 92) rfl w2.heap.size 2 29 _ #[.int .i64 (X : Int), .slice none 0 0, .int .i64 0, .int .i64 0] (.int .i64 0) rfl rfl b5 (stc_errM _ _ _) (by simp) rfl ?_; intro w6 b6 g6x; have g6 := grown_trans g5 g6x; have g7 := World.grownBy_alloc w6 (.cells #[.pointer none] 55) none; have b7 := b6.keep g7 (by simp); obtain ⟨e0, e1, e2, e3⟩ := b7.cell4; have hs4 := F4.size; have hs6 := g6.size; have hO6 : w6.ownsRow 0 29 4 (.slice ao i co) i L := own_blk hO (fun g hg => ((g6.block g (by have := (hnew g hg).2; omega) (fun e => by have := (hnew g hg).2; have e := Option.some.inj e; omega)).trans (F4.block g (by have := (hnew g hg).2; omega) (fun e => e.elim (fun e => by have := (hnew g hg).1; omega) (fun e => by have := (hnew g hg).1; omega)))).trans ((g3.block g (by have := (hnew g hg).2; omega) (by simp)).trans (g2.block g (hnew g hg).2 (by simp)))); have t5 : True := trivial)
          | (go_at_call 18; have _t := t5; clear t5; refine (as_nil _ _).mono ?_; rintro e w8 ⟨rfl, hw8⟩; have hw8 := hw8.symm; subst hw8; have t6 : True := trivial)
          | (at_builtin; have _t := t6; clear t6; refine wpList_apS ((w6.alloc (.cells #[.pointer none] 55)).alloc (.cells #[.int .i64 (X : Int), .slice none 0 0, .int .i64 0, .int .i64 0] 29)) rfl (.tmp 102) (.tmp 104) 23 29 i0 _ 4 48 Tryd.underlying23 hi0 hz0 hz1 hz2 rfl (by decide) rfl (.slice ao i co) i L rfl ((hO6.alloc _).alloc _) ⟨w6.heap.size + 1, 0, none⟩ 1 1 [.int .i64 (X : Int), .slice none 0 0, .int .i64 0, .int .i64 0] rfl rfl (four_at w6 _ _) (by simp [Value.oneCell']) (by decide) (by unfold maxLen; omega) (by omega) ?_; intro gx cx w9 hgx g9 hO9))
        rw [← HP2.out] at hO9
        obtain ⟨hM9, G9, hN9, hS9⟩ := rem_end (w := w) (w1 := w1) hM4 F4 g6 g9 hgx hO9 (grown_trans (grown_trans hG g2) g3) hgm hgc (Nat.le_trans hG.size hs2) (by omega) (by omega) hgm1 hgc1 g1.size (by omega) (fun g hg => (hnew g hg).1)
        go_roundw
        case rel => exact ⟨i + 1, cx, _, by omega, by go_num, rfl, by rw [HS2.out]; exact hM9, hO9, G9, hN9, hS9⟩
        case measure => simp [intOf]; omega
      · have c1 : wr.cell? ⟨b, off + i * 3, none⟩ = some (.int .i64 2) := c1
        have HS2 : Hid (mRu s0 F (i + 1) = (C.set at' (coN z), nx)) := HSt.out
        have HP2 : Hid (pdL s0 F (i + 1) = L ++ [.int .i64 0, .slice none 0 0, .int .i64 0, .int .i64 0]) := HPd.out
        have b2 := BxS.new wr 35 #[.int .i64 2, .int .i64 (at' : Int), .int .i64 (z : Int)]
        have g2 := World.grownBy_alloc wr (.cells #[.int .i64 2, .int .i64 (at' : Int), .int .i64 (z : Int)] 35) none
        generalize hw2 : wr.alloc (.cells #[.int .i64 2, .int .i64 (at' : Int), .int .i64 (z : Int)] 35) = w2 at b2 g2
        have b3 := BxS.new w2 29 #[.int .i64 0, .slice none 0 0, .int .i64 0, .int .i64 0]
        have g3 := World.grownBy_alloc w2 (.cells #[.int .i64 0, .slice none 0 0, .int .i64 0, .int .i64 0] 29) none
        generalize hw3 : w2.alloc (.cells #[.int .i64 0, .slice none 0 0, .int .i64 0, .int .i64 0] 29) = w3 at b3 g3
        have b2' := b2.keep g3 (by simp)
        have d0 : w3.cell? ⟨wr.heap.size, 0, none⟩ = some (.int .i64 2) := b2'.cell 0 (by simp)
        have d1 : w3.cell? ⟨wr.heap.size, 1, none⟩ = some (.int .i64 (at' : Int)) := b2'.cell 1 (by simp)
        have d2 : w3.cell? ⟨wr.heap.size, 2, none⟩ = some (.int .i64 (z : Int)) := b2'.cell 2 (by simp)
        have hM3 := (hM.grown g2 (by simp) (by simp)).grown g3 (by simp) (by simp)
        have HC := mstore_any gm gc nx at' z C w3 hM3 hk hz
        have hs2 : wr.heap.size ≤ w2.heap.size := g2.size
        have hs3 : w2.heap.size < w3.heap.size := b3.lt
        obtain ⟨i0, hi0, hz0, hz1, hz2⟩ := info_parts Tryd.info_pkd
        have t2 : True := trivial
        go_wp2_with (first
          | (go_at_call 14; have _t := t2; clear t2; refine HC.mono ?_; rintro e w4 ⟨rfl, hM4, g4⟩; have F4 : Fw (mB gm gc) w3 w4 := Fw.of g4 (.inr rfl); have b4 : BxS w4 w2.heap.size 29 #[.int .i64 0, .slice none 0 0, .int .i64 0, .int .i64 0] := (F4.block _ b3.lt (fun e => e.elim (fun e => by omega) (fun e => by omega))).trans b3; have t3 : True := trivial)
          | (go_at_call 12; have _t := t3; clear t3; refine (tell_nil _).mono ?_; rintro e w5 ⟨rfl, hw5⟩; have hw5 := hw5.symm; subst hw5; have t4 : True := trivial)
          | (have _t := t4; clear t4; refine wpList_stC w4 rfl _ (.tmp 93) (.tmp 92) rfl w2.heap.size 2 29 _ #[.int .i64 0, .slice none 0 0, .int .i64 0, .int .i64 0] (.int .i64 0) rfl rfl b4 (stc_errM _ _ _) (by simp) rfl ?_; intro w6 b6 g6; have g7 := World.grownBy_alloc w6 (.cells #[.pointer none] 55) none; have b7 := b6.keep g7 (by simp); obtain ⟨e0, e1, e2, e3⟩ := b7.cell4; have hs4 := F4.size; have hs6 := g6.size; have hO6 : w6.ownsRow 0 29 4 (.slice ao i co) i L := own_blk hO (fun g hg => ((g6.block g (by have := (hnew g hg).2; omega) (fun e => by have := (hnew g hg).2; have e := Option.some.inj e; omega)).trans (F4.block g (by have := (hnew g hg).2; omega) (fun e => e.elim (fun e => by have := (hnew g hg).1; omega) (fun e => by have := (hnew g hg).1; omega)))).trans ((g3.block g (by have := (hnew g hg).2; omega) (by simp)).trans (g2.block g (hnew g hg).2 (by simp)))); have t5 : True := trivial)
          | (go_at_call 18; have _t := t5; clear t5; refine (as_nil _ _).mono ?_; rintro e w8 ⟨rfl, hw8⟩; have hw8 := hw8.symm; subst hw8; have t6 : True := trivial)
          | (at_builtin; have _t := t6; clear t6; refine wpList_apS ((w6.alloc (.cells #[.pointer none] 55)).alloc (.cells #[.int .i64 0, .slice none 0 0, .int .i64 0, .int .i64 0] 29)) rfl (.tmp 102) (.tmp 104) 23 29 i0 _ 4 48 Tryd.underlying23 hi0 hz0 hz1 hz2 rfl (by decide) rfl (.slice ao i co) i L rfl ((hO6.alloc _).alloc _) ⟨w6.heap.size + 1, 0, none⟩ 1 1 [.int .i64 0, .slice none 0 0, .int .i64 0, .int .i64 0] rfl rfl (four_at w6 _ _) (by simp [Value.oneCell']) (by decide) (by unfold maxLen; omega) (by omega) ?_; intro gx cx w9 hgx g9 hO9))
        rw [← HP2.out] at hO9
        obtain ⟨hM9, G9, hN9, hS9⟩ := rem_end (w := w) (w1 := w1) hM4 F4 g6 g9 hgx hO9 (grown_trans (grown_trans hG g2) g3) hgm hgc (Nat.le_trans hG.size hs2) (by omega) (by omega) hgm1 hgc1 g1.size (by omega) (fun g hg => (hnew g hg).1)
        go_roundw
        case rel => exact ⟨i + 1, cx, _, by omega, by go_num, rfl, by rw [HS2.out]; exact hM9, hO9, G9, hN9, hS9⟩
        case measure => simp [intOf]; omega
      · have c1 : wr.cell? ⟨b, off + i * 3, none⟩ = some (.int .i64 3) := c1
        have HS2 : Hid (mRu s0 F (i + 1) = (C.set at' (nth C at' ^^^ 1 <<< z), nx)) := HSt.out
        have HP2 : Hid (pdL s0 F (i + 1) = L ++ [.int .i64 0, .slice none 0 0, .int .i64 0, .int .i64 0]) := HPd.out
        have b2 := BxS.new wr 35 #[.int .i64 3, .int .i64 (at' : Int), .int .i64 (z : Int)]
        have g2 := World.grownBy_alloc wr (.cells #[.int .i64 3, .int .i64 (at' : Int), .int .i64 (z : Int)] 35) none
        generalize hw2 : wr.alloc (.cells #[.int .i64 3, .int .i64 (at' : Int), .int .i64 (z : Int)] 35) = w2 at b2 g2
        have b3 := BxS.new w2 29 #[.int .i64 0, .slice none 0 0, .int .i64 0, .int .i64 0]
        have g3 := World.grownBy_alloc w2 (.cells #[.int .i64 0, .slice none 0 0, .int .i64 0, .int .i64 0] 29) none
        generalize hw3 : w2.alloc (.cells #[.int .i64 0, .slice none 0 0, .int .i64 0, .int .i64 0] 29) = w3 at b3 g3
        have b2' := b2.keep g3 (by simp)
        have d0 : w3.cell? ⟨wr.heap.size, 0, none⟩ = some (.int .i64 3) := b2'.cell 0 (by simp)
        have d1 : w3.cell? ⟨wr.heap.size, 1, none⟩ = some (.int .i64 (at' : Int)) := b2'.cell 1 (by simp)
        have d2 : w3.cell? ⟨wr.heap.size, 2, none⟩ = some (.int .i64 (z : Int)) := b2'.cell 2 (by simp)
        have hM3 := (hM.grown g2 (by simp) (by simp)).grown g3 (by simp) (by simp)
        have HC := mturn_any gm gc nx at' z C w3 hM3 hk hz
        have hs2 : wr.heap.size ≤ w2.heap.size := g2.size
        have hs3 : w2.heap.size < w3.heap.size := b3.lt
        obtain ⟨i0, hi0, hz0, hz1, hz2⟩ := info_parts Tryd.info_pkd
        have t2 : True := trivial
        go_wp2_with (first
          | (go_at_call 15; have _t := t2; clear t2; refine HC.mono ?_; rintro e w4 ⟨rfl, hM4, g4⟩; have F4 : Fw (mB gm gc) w3 w4 := Fw.of g4 (.inr rfl); have b4 : BxS w4 w2.heap.size 29 #[.int .i64 0, .slice none 0 0, .int .i64 0, .int .i64 0] := (F4.block _ b3.lt (fun e => e.elim (fun e => by omega) (fun e => by omega))).trans b3; have t3 : True := trivial)
          | (go_at_call 12; have _t := t3; clear t3; refine (tell_nil _).mono ?_; rintro e w5 ⟨rfl, hw5⟩; have hw5 := hw5.symm; subst hw5; have t4 : True := trivial)
          | (have _t := t4; clear t4; refine wpList_stC w4 rfl _ (.tmp 93) (.tmp 92) rfl w2.heap.size 2 29 _ #[.int .i64 0, .slice none 0 0, .int .i64 0, .int .i64 0] (.int .i64 0) rfl rfl b4 (stc_errM _ _ _) (by simp) rfl ?_; intro w6 b6 g6; have g7 := World.grownBy_alloc w6 (.cells #[.pointer none] 55) none; have b7 := b6.keep g7 (by simp); obtain ⟨e0, e1, e2, e3⟩ := b7.cell4; have hs4 := F4.size; have hs6 := g6.size; have hO6 : w6.ownsRow 0 29 4 (.slice ao i co) i L := own_blk hO (fun g hg => ((g6.block g (by have := (hnew g hg).2; omega) (fun e => by have := (hnew g hg).2; have e := Option.some.inj e; omega)).trans (F4.block g (by have := (hnew g hg).2; omega) (fun e => e.elim (fun e => by have := (hnew g hg).1; omega) (fun e => by have := (hnew g hg).1; omega)))).trans ((g3.block g (by have := (hnew g hg).2; omega) (by simp)).trans (g2.block g (hnew g hg).2 (by simp)))); have t5 : True := trivial)
          | (go_at_call 18; have _t := t5; clear t5; refine (as_nil _ _).mono ?_; rintro e w8 ⟨rfl, hw8⟩; have hw8 := hw8.symm; subst hw8; have t6 : True := trivial)
          | (at_builtin; have _t := t6; clear t6; refine wpList_apS ((w6.alloc (.cells #[.pointer none] 55)).alloc (.cells #[.int .i64 0, .slice none 0 0, .int .i64 0, .int .i64 0] 29)) rfl (.tmp 102) (.tmp 104) 23 29 i0 _ 4 48 Tryd.underlying23 hi0 hz0 hz1 hz2 rfl (by decide) rfl (.slice ao i co) i L rfl ((hO6.alloc _).alloc _) ⟨w6.heap.size + 1, 0, none⟩ 1 1 [.int .i64 0, .slice none 0 0, .int .i64 0, .int .i64 0] rfl rfl (four_at w6 _ _) (by simp [Value.oneCell']) (by decide) (by unfold maxLen; omega) (by omega) ?_; intro gx cx w9 hgx g9 hO9))
        rw [← HP2.out] at hO9
        obtain ⟨hM9, G9, hN9, hS9⟩ := rem_end (w := w) (w1 := w1) hM4 F4 g6 g9 hgx hO9 (grown_trans (grown_trans hG g2) g3) hgm hgc (Nat.le_trans hG.size hs2) (by omega) (by omega) hgm1 hgc1 g1.size (by omega) (fun g hg => (hnew g hg).1)
        go_roundw
        case rel => exact ⟨i + 1, cx, _, by omega, by go_num, rfl, by rw [HS2.out]; exact hM9, hO9, G9, hN9, hS9⟩
        case measure => simp [intOf]; omega
      · have c1 : wr.cell? ⟨b, off + i * 3, none⟩ = some (.int .i64 4) := c1
        have HS2 : Hid (mRu s0 F (i + 1) = (scC C nx z, (nx + z) % C.length)) := HSt.out
        have HP2 : Hid (pdL s0 F (i + 1) = L ++ [.int .i64 (scN C nx z : Nat), .slice none 0 0, .int .i64 0, .int .i64 0]) := HPd.out
        have b2 := BxS.new wr 35 #[.int .i64 4, .int .i64 (at' : Int), .int .i64 (z : Int)]
        have g2 := World.grownBy_alloc wr (.cells #[.int .i64 4, .int .i64 (at' : Int), .int .i64 (z : Int)] 35) none
        generalize hw2 : wr.alloc (.cells #[.int .i64 4, .int .i64 (at' : Int), .int .i64 (z : Int)] 35) = w2 at b2 g2
        have b3 := BxS.new w2 29 #[.int .i64 0, .slice none 0 0, .int .i64 0, .int .i64 0]
        have g3 := World.grownBy_alloc w2 (.cells #[.int .i64 0, .slice none 0 0, .int .i64 0, .int .i64 0] 29) none
        generalize hw3 : w2.alloc (.cells #[.int .i64 0, .slice none 0 0, .int .i64 0, .int .i64 0] 29) = w3 at b3 g3
        have b2' := b2.keep g3 (by simp)
        have d0 : w3.cell? ⟨wr.heap.size, 0, none⟩ = some (.int .i64 4) := b2'.cell 0 (by simp)
        have d1 : w3.cell? ⟨wr.heap.size, 1, none⟩ = some (.int .i64 (at' : Int)) := b2'.cell 1 (by simp)
        have d2 : w3.cell? ⟨wr.heap.size, 2, none⟩ = some (.int .i64 (z : Int)) := b2'.cell 2 (by simp)
        have hM3 := (hM.grown g2 (by simp) (by simp)).grown g3 (by simp) (by simp)
        have HC := scrub_ok gm gc nx z C w3 hM3 hk hw
        generalize scN C nx z = X at HC HP2
        have hs2 : wr.heap.size ≤ w2.heap.size := g2.size
        have hs3 : w2.heap.size < w3.heap.size := b3.lt
        obtain ⟨i0, hi0, hz0, hz1, hz2⟩ := info_parts Tryd.info_pkd
        have t2 : True := trivial
        go_wp2_with (first
          | (go_at_call 16; have _t := t2; clear t2; refine HC.mono ?_; rintro e w4 ⟨rfl, hM4, F4⟩; have b4 : BxS w4 w2.heap.size 29 #[.int .i64 0, .slice none 0 0, .int .i64 0, .int .i64 0] := (F4.block _ b3.lt (fun e => e.elim (fun e => by omega) (fun e => by omega))).trans b3; have t3a : True := trivial)
          | (have _t := t3a; clear t3a; refine wpList_stC w4 rfl _ (.tmp 72) (.tmp 69) rfl w2.heap.size 0 29 _ #[.int .i64 (X : Int), .slice none 0 0, .int .i64 0, .int .i64 0] (.int .i64 (X : Int)) rfl rfl b4 (stc_int _ _ _) (by simp) rfl ?_; intro w5 b5 g5; have t3b : True := trivial)
          | (have _t := t3b; clear t3b; refine wpList_stC w5 rfl _ (.tmp 73) (.tmp 70) rfl w2.heap.size 1 29 _ #[.int .i64 (X : Int), .slice none 0 0, .int .i64 0, .int .i64 0] (.slice none 0 0) rfl rfl b5 (stc_slI _ _ _ _ _) (by simp) rfl ?_; intro w5' b5' g5'; have t3 : True := trivial)
          | (go_at_call 12; have _t := t3; clear t3; refine (tell_nil _).mono ?_; rintro e wT ⟨rfl, hwT⟩; have hwT := hwT.symm; subst hwT; have t4 : True := trivial)
          | (have _t := t4; clear t4; refine wpList_stC w5' rfl _ (.tmp 93) (.tmp 92) rfl w2.heap.size 2 29 _ #[.int .i64 (X : Int), .slice none 0 0, .int .i64 0, .int .i64 0] (.int .i64 0) rfl rfl b5' (stc_errM _ _ _) (by simp) rfl ?_; intro w6 b6 g6x; have g6 := grown_trans (grown_trans g5 g5') g6x; have g7 := World.grownBy_alloc w6 (.cells #[.pointer none] 55) none; have b7 := b6.keep g7 (by simp); obtain ⟨e0, e1, e2, e3⟩ := b7.cell4; have hs4 := F4.size; have hs6 := g6.size; have hO6 : w6.ownsRow 0 29 4 (.slice ao i co) i L := own_blk hO (fun g hg => ((g6.block g (by have := (hnew g hg).2; omega) (fun e => by have := (hnew g hg).2; have e := Option.some.inj e; omega)).trans (F4.block g (by have := (hnew g hg).2; omega) (fun e => e.elim (fun e => by have := (hnew g hg).1; omega) (fun e => by have := (hnew g hg).1; omega)))).trans ((g3.block g (by have := (hnew g hg).2; omega) (by simp)).trans (g2.block g (hnew g hg).2 (by simp)))); have t5 : True := trivial)
          | (go_at_call 18; have _t := t5; clear t5; refine (as_nil _ _).mono ?_; rintro e w8 ⟨rfl, hw8⟩; have hw8 := hw8.symm; subst hw8; have t6 : True := trivial)
          | (at_builtin; have _t := t6; clear t6; refine wpList_apS ((w6.alloc (.cells #[.pointer none] 55)).alloc (.cells #[.int .i64 (X : Int), .slice none 0 0, .int .i64 0, .int .i64 0] 29)) rfl (.tmp 102) (.tmp 104) 23 29 i0 _ 4 48 Tryd.underlying23 hi0 hz0 hz1 hz2 rfl (by decide) rfl (.slice ao i co) i L rfl ((hO6.alloc _).alloc _) ⟨w6.heap.size + 1, 0, none⟩ 1 1 [.int .i64 (X : Int), .slice none 0 0, .int .i64 0, .int .i64 0] rfl rfl (four_at w6 _ _) (by simp [Value.oneCell']) (by decide) (by unfold maxLen; omega) (by omega) ?_; intro gx cx w9 hgx g9 hO9))
        rw [← HP2.out] at hO9
        obtain ⟨hM9, G9, hN9, hS9⟩ := rem_end (w := w) (w1 := w1) hM4 F4 g6 g9 hgx hO9 (grown_trans (grown_trans hG g2) g3) hgm hgc (Nat.le_trans hG.size hs2) (by omega) (by omega) hgm1 hgc1 g1.size (by omega) (fun g hg => (hnew g hg).1)
        go_roundw
        case rel => exact ⟨i + 1, cx, _, by omega, by go_num, rfl, by rw [HS2.out]; exact hM9, hO9, G9, hN9, hS9⟩
        case measure => simp [intOf]; omega
    · obtain rfl : i = m := by omega
      go_wp2
      go_ret2
      exact ⟨ao, co, rfl, hO, hG, fun g hg => Nat.le_trans g1.size (hnew g hg).1⟩
end Go.Proofs.YtchbppidepapiaaDoor
