import Derived.Test.YtnpkmjdlohdieaaUTk
namespace Go.Proofs.Ytnpkmjdlohdieaa
open Go.RowKit
set_option maxRecDepth 100000
set_option linter.unusedVariables false
set_option linter.unusedSimpArgs false
theorem Try.elS : ElT 40 9 (.string ⟨#[]⟩) 16 := ⟨Try.underlying40, by kernel_rfl, rfl, by decide⟩
def sts (L : List ByteArray) : List Value := L.map Value.string
def tlL (s : ByteArray) : List ByteArray := if s.size = 0 then [] else [s]
theorem sts_app (L M : List ByteArray) : sts (L ++ M) = sts L ++ sts M := by simp [sts]
theorem sts_len (L : List ByteArray) : (sts L).length = L.length := by simp [sts]
theorem stc_slS (g i : Nat) (p : Option Addr) (l c : Nat) (w : World) (hc : ∃ u, w.cell? ⟨g, i, none⟩ = some u) (hf : w.frozen? ⟨g, i, none⟩ = false) : (Instr.storeAt 40 (.pointer (some ⟨g, i, none⟩)) (.slice p l c)).run Try.prog w = .ok () (w.setCell ⟨g, i, none⟩ (.slice p l c)) := by
  obtain ⟨u, hc⟩ := hc
  simp [go_sem, hc, hf]
set_option maxHeartbeats 8000000 in
theorem tell_any (ws : World) (bq : Nat) (a : Option Addr) (n c : Nat) (L : List ByteArray) (s : ByteArray) (w : World) (hb : BxS w bq 40 #[.slice a n c]) (hA : AnsX 9 w ws.heap.size a n c (sts L)) (hlo : ws.heap.size ≤ bq) (hn : n ≤ 1000) (hG : ws.grownBy w none) :
    Calls Try.prog 51 #[.string s, .pointer (some ⟨bq, 0, none⟩)] w fun e w' => e = .returned (.tuple #[]) ∧ ∃ a' n' c', BxS w' bq 40 #[.slice a' n' c'] ∧ AnsX 9 w' ws.heap.size a' n' c' (sts (L ++ tlL s)) ∧ ws.grownBy w' none := by
  have x0 : w.cell? ⟨bq, 0, none⟩ = some (.slice a n c) := hb.cell 0 (by show 0 < 1; decide)
  have nbb := hA.ne_box hb (by decide)
  have hlw : ws.heap.size ≤ w.heap.size := hG.size
  by_cases hs : s.size = 0
  · have e0 := str_empty s hs
    subst e0
    have e1 : tlL ByteArray.empty = [] := rfl
    rw [e1, List.append_nil]
    go_enter Try.func51, Try.ntmps51
    go_wp2
    go_end0
    exact ⟨rfl, a, n, c, hb, hA, hG⟩
  · have hl : s.toList.isEmpty = false := by
      cases h : s.toList with
      | nil => exact absurd ((toList_nil s).1 h) hs
      | cons _ _ => rfl
    have hl' : ¬ s.toList = [] := fun h => hs ((toList_nil s).1 h)
    have e1 : tlL s = [s] := if_neg hs
    rw [e1]
    clear hs e1
    have s0 : True := trivial
    have hsz : (w.alloc (.cells #[.string s] 9)).heap.size = w.heap.size + 1 := by simp
    go_enter Try.func51, Try.ntmps51
    go_wp2_with (first
      | (at_builtin; refine wpList_psX Try.elS w (.string s) rfl rfl _ _ rfl a n c ws.heap.size (sts L) rfl hA hlw rfl (by omega) ?_; intro gx cx w2 hA2 u2 hx2; have b2 := hb.keep u2 (fun e => nbb e.symm); clear s0; have s1 : True := trivial)
      | (have _t := s1; clear s1; refine wpList_stC _ rfl _ _ _ rfl bq 0 40 _ #[.slice (some ⟨gx, 0, none⟩) (n + 1) cx] (.slice (some ⟨gx, 0, none⟩) (n + 1) cx) rfl rfl b2 (stc_slS _ _ _ _ _) (by show 0 < 1; decide) rfl ?_; intro w3 b3 u3))
    go_end0
    refine ⟨rfl, some ⟨gx, 0, none⟩, n + 1, cx, b3, ?_, grown_far (grown_far hG u2 (fun q e => hA.new q e)) u3 (fun q e => by have e : bq = q := Option.some.inj e; omega)⟩
    rw [sts_app]
    exact AnsX.kept hA2 u3 (.inr (hA2.ne_box b2 (by decide)))
/-- the names of the sequences that are to start -/
def naN (F : Nat → Mo) (sf : Bool) (Fr : List Int) : Nat → List ByteArray
  | 0 => []
  | k + 1 => naN F sf Fr k ++ (if (!sf || (F (nthI Fr k).toNat).ti == 3) = true then tlL (F (nthI Fr k).toNat).th else [])
def naL (F : Nat → Mo) (sa : ByteArray) (sf : Bool) (Fr : List Int) (free : Bool) : List ByteArray := (if (free && sf) = true then tlL sa else []) ++ naN F sf Fr Fr.length
theorem tlL_len (s : ByteArray) : (tlL s).length ≤ 1 := by unfold tlL; split <;> simp
theorem naN_len (F : Nat → Mo) (sf : Bool) (Fr : List Int) (k : Nat) : (naN F sf Fr k).length ≤ k := by
  induction k with
  | zero => exact Nat.le_refl _
  | succ k ih =>
    simp only [naN, List.length_append]
    have := tlL_len (F (nthI Fr k).toNat).th
    split <;> simp <;> omega
set_option maxHeartbeats 32000000 in
theorem names_any (w0 : World) (g : Nat) (G : Gd) (A : Va) (D : Vi) (fa : Option Addr) (fn fc : Nat) (Fr : List Int) (F : Nat → Mo) (free : Bool) (w : World) (h : WV w0 w g G A D fa fn fc Fr) (hM : RdM w0 G.ma G.n G.mc F) (hn : G.n ≤ 32) (hfr : Fr.length ≤ 100) (hmem : ∀ z, z ∈ Fr → ∃ j : Nat, j < G.n ∧ z = (j : Int)) :
    Calls Try.prog 34 #[.pointer (some ⟨g, 0, none⟩), .bool free] w fun e w' => ∃ a n c, e = .returned (.slice a n c) ∧ AnsX 9 w' w.heap.size a n c (sts (naL F G.sa D.sf Fr free)) ∧ w.grownBy w' none := by
  have b0 := BxS.new w 40 #[.slice none 0 0]
  have g0 := World.grownBy_alloc w (.cells #[.slice none 0 0] 40) none
  generalize hw0 : w.alloc (.cells #[.slice none 0 0] 40) = wb at b0 g0
  have hWb := h.keep g0
  have bx := hWb.box
  unfold wvA at bx
  obtain ⟨c0, c1, c2, c3, c4, c5, c6, c7, c8, c9, c10, c11⟩ := bx.cell12
  have lf : Fr.length = fn := by rw [← zys_length]; exact h.f.len
  have HLF : Hid (Fr.length = fn) := lf
  have hfn : fn ≤ 100 := by omega
  have hT1 := tell_any w w.heap.size none 0 0 [] G.sa wb b0 (AnsX.nil0 _ _ _) (Nat.le_refl _) (by decide) g0
  have HNL : Hid (naL F G.sa D.sf Fr free = (if (free && D.sf) = true then tlL G.sa else []) ++ naN F D.sf Fr fn) := by
    show _ = _
    unfold naL
    rw [lf]
  have hmm : maxLen ≤ 9223372036854775807 := by decide
  have hlen1 : ∀ k, k ≤ 100 → ((if (free && D.sf) = true then tlL G.sa else []) ++ naN F D.sf Fr k).length ≤ 1000 := by
    intro k hk
    have := naN_len F D.sf Fr k
    have := tlL_len G.sa
    rw [List.length_append]
    split <;> simp <;> omega
  obtain ⟨RL, HRL0⟩ : ∃ RL, naL F G.sa D.sf Fr free = RL := ⟨_, rfl⟩
  rw [HRL0]
  have HRL : Hid ((if (free && D.sf) = true then tlL G.sa else []) ++ naN F D.sf Fr fn = RL) := by
    show _ = _
    rw [← HNL.out]; exact HRL0
  clear HRL0 HNL lf
  go_enter Try.func34, Try.ntmps34
  cases hfs : (free && D.sf)
  · rw [hfs] at HRL hlen1
    have HLN : Hid (∀ k, k ≤ 100 → (([] : List ByteArray) ++ naN F D.sf Fr k).length ≤ 1000) := fun k hk => by simpa using hlen1 k hk
    have HRL : Hid (([] : List ByteArray) ++ naN F D.sf Fr fn = RL) := by show _ = _; have := HRL.out; simpa using this
    clear hlen1 hT1
    have hz : (free = false) ∨ (free = true ∧ D.sf = false) := by cases free <;> simp_all
    rcases hz with hz | ⟨hz, hz2⟩
    · subst hz
      clear hfs
      go_wp2
      clear c0 c1 c2 c3 c4 c5 c6 c7 c8 c9 c10 c11
      go_loopw [31] (fun iv wr => ∃ (k : Nat) (a : Option Addr) (n c : Nat), iv = .int .i64 k ∧ k ≤ fn ∧ BxS wr w.heap.size 40 #[.slice a n c] ∧ AnsX 9 wr w.heap.size a n c (sts (([] : List ByteArray) ++ naN F D.sf Fr k)) ∧ w.grownBy wr none) (fun iv _ => fn - (intOf iv).toNat)
      case atStart => exact ⟨0, _, _, _, by go_num, Nat.zero_le _, b0, by rw [show sts (([] : List ByteArray) ++ naN F D.sf Fr 0) = [] by simp [naN, sts]]; exact AnsX.nil0 _ _ _, g0⟩
      case round =>
        obtain ⟨k, a, n, c, rfl, hk, hB, hA, hgr⟩ := hrel
        have hWr := h.keep hgr
        have bxr := hWr.box
        unfold wvA at bxr
        obtain ⟨c0, c1, c2, c3, c4, c5, c6, c7, c8, c9, c10, c11⟩ := bxr.cell12
        have hnl : n ≤ 1000 := by
          have := hA.len
          rw [sts_len] at this
          rw [← this]
          have := HLN.out k (by omega)
          exact this
        by_cases hlt : k < fn
        · have hlt' : (k : Int) < (fn : Int) := by omega
          obtain ⟨fb, fo, rfl, _, hfc⟩ := hWr.f.rd.at' (by omega)
          have ck := hfc k _ (zys_at Fr k (by rw [HLF.out]; exact hlt))
          have hmx := hWr.f.rd.max
          have hml := hWr.f.rd.le
          have hm : nthI Fr k ∈ Fr := by
            unfold nthI
            rw [List.getD_eq_getElem?_getD, List.getElem?_eq_getElem (by rw [HLF.out]; exact hlt)]
            exact List.getElem_mem _
          obtain ⟨j, hj, ej⟩ := hmem _ hm
          have hj' : (j : Int) < (G.n : Int) := by omega
          have hMr := hM.lw hWr.L
          obtain ⟨b, off, ema, hbw, _⟩ := hMr.at' (by omega)
          rw [ema] at hMr
          obtain ⟨k0, k1, k2, k3, k4, k5⟩ := hMr.six j hj
          have bm := BxS.new wr 51 #[.int .i64 (F j).of', .int .i64 (F j).lo, .int .i64 (F j).hi, .int .i64 (F j).fr, .int .i64 (F j).ti, .string (F j).th]
          have gm := World.grownBy_alloc wr (.cells #[.int .i64 (F j).of', .int .i64 (F j).lo, .int .i64 (F j).hi, .int .i64 (F j).fr, .int .i64 (F j).ti, .string (F j).th] 51) none
          obtain ⟨m0, m1, m2, m3, m4, m5⟩ := bm.cell6
          obtain ⟨d0, d1, d2, d3, d4, d5, d6, d7, d8, d9, d10, d11⟩ := (bxr.keep gm (by simp)).cell12
          have HX : Hid (naN F D.sf Fr (k + 1) = naN F D.sf Fr k ++ (if (!D.sf || (F j).ti == 3) = true then tlL (F j).th else [])) := by
            show _ = _
            simp only [naN]
            rw [ej, Int.toNat_natCast]
          have hTl := tell_any w w.heap.size a n c (([] : List ByteArray) ++ naN F D.sf Fr k) (F j).th _ (hB.keep gm (by simp)) (hA.keep gm) (Nat.le_refl _) hnl (grown_trans hgr gm)
          rw [ej] at ck
          clear hM hMr hmem hm ej hfc hWr
          generalize F j = mm at *
          obtain ⟨mof, mlo, mhi, mfr, mti, mth⟩ := mm
          dsimp only at k0 k1 k2 k3 k4 k5 bm gm m0 m1 m2 m3 m4 m5 d0 d1 d2 d3 d4 d5 d6 d7 d8 d9 d10 d11 HX hTl
          generalize D.sf = sf at *
          cases sf
          case false =>
            go_wp2_with (go_at_call 51; refine hTl.mono ?_; rintro e w5 ⟨rfl, a5, n5, c5', b5, A5, g5⟩)
            clear ema
            go_roundw
            case rel => exact ⟨k + 1, a5, n5, c5', by go_num, by omega, b5, by rw [HX.out]; simpa using A5, g5⟩
            case measure => simp [intOf]; omega
          case true =>
            by_cases h3 : mti = 3
            · subst h3
              go_wp2_with (go_at_call 51; refine hTl.mono ?_; rintro e w5 ⟨rfl, a5, n5, c5', b5, A5, g5⟩)
              clear ema
              go_roundw
              case rel => exact ⟨k + 1, a5, n5, c5', by go_num, by omega, b5, by rw [HX.out]; simpa using A5, g5⟩
              case measure => simp [intOf]; omega
            · have h3' : (mti == 3) = false := beq_false_of_ne h3
              go_wp2
              clear ema
              go_roundw
              case rel => exact ⟨k + 1, a, n, c, by go_num, by omega, hB.keep gm (by simp), by rw [HX.out]; simpa [h3] using hA.keep gm, grown_trans hgr gm⟩
              case measure => simp [intOf]; omega
        · have hlt' : ¬ (k : Int) < (fn : Int) := by omega
          obtain rfl : k = fn := by omega
          have xr : wr.cell? ⟨w.heap.size, 0, none⟩ = some (.slice a n c) := hB.cell 0 (by show 0 < 1; decide)
          go_wp2
          go_ret
          exact ⟨a, n, c, rfl, by rw [← HRL.out]; exact hA, hgr⟩
    · subst hz
      clear hfs
      rw [hz2] at c0
      have HZ2 : Hid (D.sf = false) := hz2
      clear hz2
      go_wp2
      clear c0 c1 c2 c3 c4 c5 c6 c7 c8 c9 c10 c11
      go_loopw [31] (fun iv wr => ∃ (k : Nat) (a : Option Addr) (n c : Nat), iv = .int .i64 k ∧ k ≤ fn ∧ BxS wr w.heap.size 40 #[.slice a n c] ∧ AnsX 9 wr w.heap.size a n c (sts (([] : List ByteArray) ++ naN F D.sf Fr k)) ∧ w.grownBy wr none) (fun iv _ => fn - (intOf iv).toNat)
      case atStart => exact ⟨0, _, _, _, by go_num, Nat.zero_le _, b0, by rw [show sts (([] : List ByteArray) ++ naN F D.sf Fr 0) = [] by simp [naN, sts]]; exact AnsX.nil0 _ _ _, g0⟩
      case round =>
        obtain ⟨k, a, n, c, rfl, hk, hB, hA, hgr⟩ := hrel
        have hWr := h.keep hgr
        have bxr := hWr.box
        unfold wvA at bxr
        obtain ⟨c0, c1, c2, c3, c4, c5, c6, c7, c8, c9, c10, c11⟩ := bxr.cell12
        have hnl : n ≤ 1000 := by
          have := hA.len
          rw [sts_len] at this
          rw [← this]
          have := HLN.out k (by omega)
          exact this
        by_cases hlt : k < fn
        · have hlt' : (k : Int) < (fn : Int) := by omega
          obtain ⟨fb, fo, rfl, _, hfc⟩ := hWr.f.rd.at' (by omega)
          have ck := hfc k _ (zys_at Fr k (by rw [HLF.out]; exact hlt))
          have hmx := hWr.f.rd.max
          have hml := hWr.f.rd.le
          have hm : nthI Fr k ∈ Fr := by
            unfold nthI
            rw [List.getD_eq_getElem?_getD, List.getElem?_eq_getElem (by rw [HLF.out]; exact hlt)]
            exact List.getElem_mem _
          obtain ⟨j, hj, ej⟩ := hmem _ hm
          have hj' : (j : Int) < (G.n : Int) := by omega
          have hMr := hM.lw hWr.L
          obtain ⟨b, off, ema, hbw, _⟩ := hMr.at' (by omega)
          rw [ema] at hMr
          obtain ⟨k0, k1, k2, k3, k4, k5⟩ := hMr.six j hj
          have bm := BxS.new wr 51 #[.int .i64 (F j).of', .int .i64 (F j).lo, .int .i64 (F j).hi, .int .i64 (F j).fr, .int .i64 (F j).ti, .string (F j).th]
          have gm := World.grownBy_alloc wr (.cells #[.int .i64 (F j).of', .int .i64 (F j).lo, .int .i64 (F j).hi, .int .i64 (F j).fr, .int .i64 (F j).ti, .string (F j).th] 51) none
          obtain ⟨m0, m1, m2, m3, m4, m5⟩ := bm.cell6
          obtain ⟨d0, d1, d2, d3, d4, d5, d6, d7, d8, d9, d10, d11⟩ := (bxr.keep gm (by simp)).cell12
          have HX : Hid (naN F D.sf Fr (k + 1) = naN F D.sf Fr k ++ (if (!D.sf || (F j).ti == 3) = true then tlL (F j).th else [])) := by
            show _ = _
            simp only [naN]
            rw [ej, Int.toNat_natCast]
          have hTl := tell_any w w.heap.size a n c (([] : List ByteArray) ++ naN F D.sf Fr k) (F j).th _ (hB.keep gm (by simp)) (hA.keep gm) (Nat.le_refl _) hnl (grown_trans hgr gm)
          rw [ej] at ck
          clear hM hMr hmem hm ej hfc hWr
          generalize F j = mm at *
          obtain ⟨mof, mlo, mhi, mfr, mti, mth⟩ := mm
          dsimp only at k0 k1 k2 k3 k4 k5 bm gm m0 m1 m2 m3 m4 m5 d0 d1 d2 d3 d4 d5 d6 d7 d8 d9 d10 d11 HX hTl
          generalize D.sf = sf at *
          cases sf
          case false =>
            go_wp2_with (go_at_call 51; refine hTl.mono ?_; rintro e w5 ⟨rfl, a5, n5, c5', b5, A5, g5⟩)
            clear ema
            go_roundw
            case rel => exact ⟨k + 1, a5, n5, c5', by go_num, by omega, b5, by rw [HX.out]; simpa using A5, g5⟩
            case measure => simp [intOf]; omega
          case true =>
            by_cases h3 : mti = 3
            · subst h3
              go_wp2_with (go_at_call 51; refine hTl.mono ?_; rintro e w5 ⟨rfl, a5, n5, c5', b5, A5, g5⟩)
              clear ema
              go_roundw
              case rel => exact ⟨k + 1, a5, n5, c5', by go_num, by omega, b5, by rw [HX.out]; simpa using A5, g5⟩
              case measure => simp [intOf]; omega
            · have h3' : (mti == 3) = false := beq_false_of_ne h3
              go_wp2
              clear ema
              go_roundw
              case rel => exact ⟨k + 1, a, n, c, by go_num, by omega, hB.keep gm (by simp), by rw [HX.out]; simpa [h3] using hA.keep gm, grown_trans hgr gm⟩
              case measure => simp [intOf]; omega
        · have hlt' : ¬ (k : Int) < (fn : Int) := by omega
          obtain rfl : k = fn := by omega
          have xr : wr.cell? ⟨w.heap.size, 0, none⟩ = some (.slice a n c) := hB.cell 0 (by show 0 < 1; decide)
          go_wp2
          go_ret
          exact ⟨a, n, c, rfl, by rw [← HRL.out]; exact hA, hgr⟩
  · rw [hfs] at HRL hlen1
    have HLN : Hid (∀ k, k ≤ 100 → (tlL G.sa ++ naN F D.sf Fr k).length ≤ 1000) := fun k hk => by simpa using hlen1 k hk
    have HRL : Hid (tlL G.sa ++ naN F D.sf Fr fn = RL) := by show _ = _; have := HRL.out; simpa using this
    have hz : free = true ∧ D.sf = true := by cases free <;> simp_all
    obtain ⟨hz, hz2⟩ := hz
    subst hz
    clear hlen1 hfs
    rw [hz2] at c0
    have HZ2 : Hid (D.sf = true) := hz2
    clear hz2
    go_wp2_with (go_at_call 51; refine hT1.mono ?_; rintro e w4 ⟨rfl, a4, n4, c4', b4, A4, g4⟩; clear c0 c1 c2 c3 c4 c5 c6 c7 c8 c9 c10 c11; have hW4 := h.keep g4; have bx4 := hW4.box; unfold wvA at bx4; obtain ⟨c0, c1, c2, c3, c4, c5, c6, c7, c8, c9, c10, c11⟩ := bx4.cell12; clear hW4)
    clear hT1
    clear c0 c1 c2 c3 c4 c5 c6 c7 c8 c9 c10 c11
    go_loopw [31] (fun iv wr => ∃ (k : Nat) (a : Option Addr) (n c : Nat), iv = .int .i64 k ∧ k ≤ fn ∧ BxS wr w.heap.size 40 #[.slice a n c] ∧ AnsX 9 wr w.heap.size a n c (sts (tlL G.sa ++ naN F D.sf Fr k)) ∧ w.grownBy wr none) (fun iv _ => fn - (intOf iv).toNat)
    case atStart => exact ⟨0, _, _, _, by go_num, Nat.zero_le _, b4, by rw [show tlL G.sa ++ naN F D.sf Fr 0 = [] ++ tlL G.sa by simp [naN]]; exact A4, g4⟩
    case round =>
      obtain ⟨k, a, n, c, rfl, hk, hB, hA, hgr⟩ := hrel
      have hWr := h.keep hgr
      have bxr := hWr.box
      unfold wvA at bxr
      obtain ⟨c0, c1, c2, c3, c4, c5, c6, c7, c8, c9, c10, c11⟩ := bxr.cell12
      have hnl : n ≤ 1000 := by
        have := hA.len
        rw [sts_len] at this
        rw [← this]
        have := HLN.out k (by omega)
        exact this
      by_cases hlt : k < fn
      · have hlt' : (k : Int) < (fn : Int) := by omega
        obtain ⟨fb, fo, rfl, _, hfc⟩ := hWr.f.rd.at' (by omega)
        have ck := hfc k _ (zys_at Fr k (by rw [HLF.out]; exact hlt))
        have hmx := hWr.f.rd.max
        have hml := hWr.f.rd.le
        have hm : nthI Fr k ∈ Fr := by
          unfold nthI
          rw [List.getD_eq_getElem?_getD, List.getElem?_eq_getElem (by rw [HLF.out]; exact hlt)]
          exact List.getElem_mem _
        obtain ⟨j, hj, ej⟩ := hmem _ hm
        have hj' : (j : Int) < (G.n : Int) := by omega
        have hMr := hM.lw hWr.L
        obtain ⟨b, off, ema, hbw, _⟩ := hMr.at' (by omega)
        rw [ema] at hMr
        obtain ⟨k0, k1, k2, k3, k4, k5⟩ := hMr.six j hj
        have bm := BxS.new wr 51 #[.int .i64 (F j).of', .int .i64 (F j).lo, .int .i64 (F j).hi, .int .i64 (F j).fr, .int .i64 (F j).ti, .string (F j).th]
        have gm := World.grownBy_alloc wr (.cells #[.int .i64 (F j).of', .int .i64 (F j).lo, .int .i64 (F j).hi, .int .i64 (F j).fr, .int .i64 (F j).ti, .string (F j).th] 51) none
        obtain ⟨m0, m1, m2, m3, m4, m5⟩ := bm.cell6
        obtain ⟨d0, d1, d2, d3, d4, d5, d6, d7, d8, d9, d10, d11⟩ := (bxr.keep gm (by simp)).cell12
        have HX : Hid (naN F D.sf Fr (k + 1) = naN F D.sf Fr k ++ (if (!D.sf || (F j).ti == 3) = true then tlL (F j).th else [])) := by
          show _ = _
          simp only [naN]
          rw [ej, Int.toNat_natCast]
        have hTl := tell_any w w.heap.size a n c (tlL G.sa ++ naN F D.sf Fr k) (F j).th _ (hB.keep gm (by simp)) (hA.keep gm) (Nat.le_refl _) hnl (grown_trans hgr gm)
        rw [ej] at ck
        clear hM hMr hmem hm ej hfc hWr
        generalize F j = mm at *
        obtain ⟨mof, mlo, mhi, mfr, mti, mth⟩ := mm
        dsimp only at k0 k1 k2 k3 k4 k5 bm gm m0 m1 m2 m3 m4 m5 d0 d1 d2 d3 d4 d5 d6 d7 d8 d9 d10 d11 HX hTl
        generalize D.sf = sf at *
        cases sf
        case false =>
          go_wp2_with (go_at_call 51; refine hTl.mono ?_; rintro e w5 ⟨rfl, a5, n5, c5', b5, A5, g5⟩)
          clear ema
          go_roundw
          case rel => exact ⟨k + 1, a5, n5, c5', by go_num, by omega, b5, by rw [HX.out]; simpa using A5, g5⟩
          case measure => simp [intOf]; omega
        case true =>
          by_cases h3 : mti = 3
          · subst h3
            go_wp2_with (go_at_call 51; refine hTl.mono ?_; rintro e w5 ⟨rfl, a5, n5, c5', b5, A5, g5⟩)
            clear ema
            go_roundw
            case rel => exact ⟨k + 1, a5, n5, c5', by go_num, by omega, b5, by rw [HX.out]; simpa using A5, g5⟩
            case measure => simp [intOf]; omega
          · have h3' : (mti == 3) = false := beq_false_of_ne h3
            go_wp2
            clear ema
            go_roundw
            case rel => exact ⟨k + 1, a, n, c, by go_num, by omega, hB.keep gm (by simp), by rw [HX.out]; simpa [h3] using hA.keep gm, grown_trans hgr gm⟩
            case measure => simp [intOf]; omega
      · have hlt' : ¬ (k : Int) < (fn : Int) := by omega
        obtain rfl : k = fn := by omega
        have xr : wr.cell? ⟨w.heap.size, 0, none⟩ = some (.slice a n c) := hB.cell 0 (by show 0 < 1; decide)
        go_wp2
        go_ret
        exact ⟨a, n, c, rfl, by rw [← HRL.out]; exact hA, hgr⟩
end Go.Proofs.Ytnpkmjdlohdieaa
