import Derived.Test.YtlmddjkplnbadaaHDG
import Derived.Test.YtlmddjkplnbadaaNUn3
import Derived.Test.YtlmddjkplnbadaaZSub
namespace Go.Proofs.Ytlmddjkplnbadaa
open Go.RowKit
set_option maxRecDepth 100000
set_option linter.unusedVariables false
set_option linter.unusedSimpArgs false

/-- what a frame's head says -/
def hrC (B : List Nat) : Nat := unN B / 16
def hrH (B : List Nat) : Nat := unN B / 2 % 8
def hrM (B : List Nat) : Nat := nth B 2
def hrO (B : List Nat) : Nat := nth B 3
def hrF (B : List Nat) : Nat := unF B % 2048
/-- why a frame is not heard -/
def erN (cr sz : Int) (B : List Nat) : Nat := if unE B = 0 then (if (B.length : Int) = sz then (if ((hrC B : Nat) : Int) = cr then 0 else 10) else 1) else unE B
/-- the bytes that are gone through -/
def heG (Es : List Ed) (B : List Nat) : List Nat := goL (if (Es.getD (hrH B) ed0).x = ((hrO B : Nat) : Int) then (Es.getD (hrH B) ed0).D else []) (unD B) (hrF B)
/-- what Hear answers -/
structure HR (cr sz ma : Int) (Es : List Ed) (B : List Nat) (r0 r1 r2 : Int) (V : List Ed) (ch : Int) (Ps : List Pd) (lost : Int) (st E : Nat) : Prop where
  p : (leD cr sz ma Es = false ∧ 0 = r0 ∧ 0 = r1 ∧ 0 = r2 ∧ [] = V ∧ [] = Ps ∧ 0 = lost ∧ 0 = st ∧ 11 = E) ∨
    (leD cr sz ma Es = true ∧ erN cr sz B ≠ 0 ∧ cr = r0 ∧ sz = r1 ∧ ma = r2 ∧ Es = V ∧ [] = Ps ∧ 0 = lost ∧ 0 = st ∧ erN cr sz B = E) ∨
    (leD cr sz ma Es = true ∧ erN cr sz B = 0 ∧ hrH B = 7 ∧ cr = r0 ∧ sz = r1 ∧ (((hrM B : Nat) : Int) + 1) % 256 = r2 ∧ Es = V ∧ [] = Ps ∧ loN ma ((hrM B : Nat) : Int) = lost ∧ unS B = st ∧ 0 = E) ∨
    (leD cr sz ma Es = true ∧ erN cr sz B = 0 ∧ hrH B < 7 ∧ cr = r0 ∧ sz = r1 ∧ (((hrM B : Nat) : Int) + 1) % 256 = r2 ∧ Es.set (hrH B) ⟨(((hrO B : Nat) : Int) + 1) % 256, keL (heG Es B)⟩ = V ∧ ((spS (heG Es B).length (heG Es B)).map pdB).filter (fun p => p.ap != 2047) = Ps ∧ loN ma ((hrM B : Nat) : Int) = lost ∧ unS B = st ∧ 0 = E ∧ ((hrH B : Nat) : Int) = ch)
theorem hr_ex (cr sz ma : Int) (Es : List Ed) (B : List Nat) : ∃ (r0 r1 r2 : Int) (V : List Ed) (ch : Int) (Ps : List Pd) (lost : Int) (st E : Nat), HR cr sz ma Es B r0 r1 r2 V ch Ps lost st E := by
  cases hL : leD cr sz ma Es with
  | false => exact ⟨_, _, _, _, 0, _, _, _, _, ⟨.inl ⟨hL, rfl, rfl, rfl, rfl, rfl, rfl, rfl, rfl⟩⟩⟩
  | true =>
    by_cases h0 : erN cr sz B = 0
    · by_cases h7 : hrH B = 7
      · exact ⟨_, _, _, _, 0, _, _, _, _, ⟨.inr (.inr (.inl ⟨hL, h0, h7, rfl, rfl, rfl, rfl, rfl, rfl, rfl, rfl⟩))⟩⟩
      · have : hrH B < 7 := by have : hrH B < 8 := Nat.mod_lt _ (by decide); omega
        exact ⟨_, _, _, _, _, _, _, _, _, ⟨.inr (.inr (.inr ⟨hL, h0, this, rfl, rfl, rfl, rfl, rfl, rfl, rfl, rfl, rfl⟩))⟩⟩
    · exact ⟨_, _, _, _, 0, _, _, _, _, ⟨.inr (.inl ⟨hL, h0, rfl, rfl, rfl, rfl, rfl, rfl, rfl, rfl⟩)⟩⟩
theorem results_cell5 {fn : Func} {p u x q y : Tmp} {ty : TypeId} (h : fn.results = #[.cell p ty, .tmp u, .tmp x, .tmp q, .tmp y]) (tmps : Array Value) (P : Program) (w : World) (a : Addr) (v vu vx vq vy : Value) (ha : tmps.getD p undef = .pointer (some a)) (hl : (loadVar ty a).run P w = .ok v w) (hu : tmps.getD u undef = vu) (hx : tmps.getD x undef = vx) (hq : tmps.getD q undef = vq) (hy : tmps.getD y undef = vy) :
    (results fn tmps).run P w = .ok (.tuple #[v, vu, vx, vq, vy]) w := by
  simp only [results, h]
  rw [Array.getD_eq_getD_getElem?] at ha hu hx hq hy
  simp [Sem.run_bind, Result.andThen]
  rw [ha]
  simp [asAddr, hl, hu, hx, hq, hy]
/-- a whole value is loaded out of a box -/
theorem ld_exec {w : World} {o : Oper} {a : Act} {t : TypeId} {p : Operand} {g : Nat} {cs : Array Value} (hop : o.op = Op.load t p) (hp : a.eval p = .pointer (some ⟨g, 0, none⟩)) (h : BxS w g t cs) {fs : Array Field} (hu : Try.prog.underlying t = some (.struct fs)) (hi : (Try.prog.info? t).map (·.size) = some cs.size) : (execOp a.eval o).run Try.prog w = .ok (.value (.agg cs)) w := by
  have hld : (Instr.loadAt t (.pointer (some ⟨g, 0, none⟩))).run Try.prog w = .ok (.agg cs) w := by
    simp only [Instr.loadAt, Instr.sureAddr, Sem.run_bind, Sem.run_pure, Result.andThen]
    exact h.load hu hi
  simp [execOp, hop, hp, hld, Result.andThen]
theorem un_sz {B : List Nat} (h : unE B = 0) : 13 ≤ B.length ∧ B.length ≤ 2048 := by
  unfold unE at h
  split at h
  · rename_i hs
    have := of_decide_eq_true hs
    omega
  · cases h
theorem un_head {B : List Nat} (h : unE B = 0) : unV B = #[.int .i64 ((hrC B : Nat) : Int), .int .i64 ((hrH B : Nat) : Int), .int .i64 ((hrM B : Nat) : Int), .int .i64 ((hrO B : Nat) : Int), .int .i64 ((hrF B : Nat) : Int)] := by
  unfold unV
  rw [if_pos h]
  rfl
theorem un_dlen {B : List Nat} (h : unE B = 0) : (unD B).length = B.length - 12 := by
  unfold unD
  rw [if_pos h, List.length_take, List.length_drop]
  have := un_sz h
  omega

set_option maxHeartbeats 32000000 in
/-- from 'packets := hearPackets(..)' on -/
theorem he_t15 {u0 u1 u3 u5 u6 u7 u8 u12 u14 u15 u16 u17 u18 u19 u20 u21 u22 u23 u24 u25 u26 u27 u28 u29 u30 u31 u32 u33 u34 u35 u36 u37 u38 u39 u40 u41 u42 u43 u44 u45 u46 u47 u48 u49 u50 u51 u52 u53 u54 u55 u56 u57 u58 u59 u60 u61 u62 u63 u64 u65 u66 u67 u68 u69 u70 u71 u72 u73 u74 u75 u76 : Value} (w w1 : World) (lo g9 gq : Nat) (cr sz ma lost : Int) (st hc hh hm ho hf : Nat) (es : List Er) (Es : List Ed) (da : Option Addr) (dm dc lod : Nat) (D : List Nat) (b2 : BxS w1 w.heap.size 43 #[.int .i64 cr, .int .i64 sz, .int .i64 ma, .slice (some ⟨gq, 0, none⟩) 7 7]) (b4 : BxS w1 (w.heap.size + 1) 43 #[.int .i64 0, .int .i64 0, .int .i64 0, .slice none 0 0]) (b9 : BxS w1 g9 28 #[.int .i64 (hc : Int), .int .i64 (hh : Int), .int .i64 (hm : Int), .int .i64 (ho : Int), .int .i64 (hf : Int)]) (hL : OwL w1 lo (some ⟨gq, 0, none⟩) 7 7 es Es) (hlo : w.heap.size + 2 ≤ lo) (hg9 : w.heap.size + 2 ≤ g9) (hDA : Ans w1 lod da dm dc D) (hdm : 1 ≤ dm ∧ dm ≤ 2036) (hho : ho ≤ 255) (hhf : hf ≤ 2047) (hhh : hh < 7) (hEs : ∀ e, e ∈ Es → e.D.length ≤ 65541) (G1 : w.grownBy w1 none)
    (r0 r1 r2 ch : Int) (V : List Ed) (Ps : List Pd) (E : Nat) (G : List Nat) (hG : G = goL (if (Es.getD hh ed0).x = (ho : Int) then (Es.getD hh ed0).D else []) D hf) (e0 : cr = r0) (e1 : sz = r1) (e2 : ma = r2) (eV : Es.set hh ⟨((ho : Int) + 1) % 256, keL G⟩ = V) (eP : ((spS G.length G).map pdB).filter (fun p => p.ap != 2047) = Ps) (eE : 0 = E) (ech : (hh : Int) = ch) :
    Code.wp Try.prog (tailR 15 (Try.f37.body.getD .skip)) (bodyPost Try.prog Try.f37 (fun r w' => ∃ (a' : Option Addr) (n' c' : Nat) (es' : List Er) (pa : Option Addr) (pn pc : Nat) (ps : List Pk), r = .returned (.tuple #[.agg #[.int .i64 r0, .int .i64 r1, .int .i64 r2, .slice a' n' c'], .slice pa pn pc, .int .i64 lost, .int .i64 (st : Int), .int .i64 (E : Int)]) ∧ OwL w' w.heap.size a' n' c' es' V ∧ OwT 66 7 w' w.heap.size pa pn pc (ps.map (Pk.he ch)) ∧ ps.map Pk.d = Ps ∧ (∀ x, Tbl (.slice pa pn pc) (ps.map (Pk.he ch)) x → ¬ Tbl (.slice a' n' c') (es'.map Er.th) x) ∧ w.grownBy w' none)) (Act.mk (List.toArray (u0 :: u1 :: (.pointer (some ⟨w.heap.size, 0, none⟩)) :: u3 :: (.pointer (some ⟨w.heap.size + 1, 0, none⟩)) :: u5 :: u6 :: u7 :: u8 :: (.pointer (some ⟨g9, 0, none⟩)) :: (.slice da dm dc) :: (.int .i64 (st : Int)) :: u12 :: (.int .i64 lost) :: u14 :: u15 :: u16 :: u17 :: u18 :: u19 :: u20 :: u21 :: u22 :: u23 :: u24 :: u25 :: u26 :: u27 :: u28 :: u29 :: u30 :: u31 :: u32 :: u33 :: u34 :: u35 :: u36 :: u37 :: u38 :: u39 :: u40 :: u41 :: u42 :: u43 :: u44 :: u45 :: u46 :: u47 :: u48 :: u49 :: u50 :: u51 :: u52 :: u53 :: u54 :: u55 :: u56 :: u57 :: u58 :: u59 :: u60 :: u61 :: u62 :: u63 :: u64 :: u65 :: u66 :: u67 :: u68 :: u69 :: u70 :: u71 :: u72 :: u73 :: u74 :: u75 :: u76 :: [])) []) w1 := by
  conv => enter [2]; whnf
  subst e0 e1 e2 eE
  have HEP : Hid _ := eP
  have HEV : Hid _ := eV
  have HCH : Hid _ := ech
  clear eP eV ech
  have i4 := Try.info_li
  have i5 := Try.info_hd
  obtain ⟨hat, hdt, hmem⟩ := hL.at hhh
  obtain ⟨e, he⟩ : ∃ e, es.getD hh er00 = e := ⟨_, rfl⟩
  rw [he] at hat hdt hmem
  have hEd : Es.getD hh ed0 = e.d := by rw [List.getD_eq_getElem?_getD, hdt]; rfl
  rw [hEd] at hG
  have hrn : e.r.n ≤ 65541 := by
    have h1 := hEs _ (List.mem_of_getElem? hdt)
    have h2 := (hL.o.each _ hmem).len
    have h2 : e.r.D.length = e.r.n := h2
    have h1 : e.r.D.length ≤ 65541 := h1
    omega
  have HG : Hid (G = goL (if e.x = (ho : Int) then e.r.D else []) D hf) := hG
  clear he hEd hG hdt
  have hh7 : (hh : Int) < 7 := by omega
  refine wp_seq_k fun K1 hK1 => ?_
  have HK1 : Hid _ := hK1
  clear hK1
  have SS : BxS w1.drew w.heap.size 43 #[.int .i64 cr, .int .i64 sz, .int .i64 ma, .slice (some ⟨gq, 0, none⟩) 7 7] ∧ BxS w1.drew g9 28 #[.int .i64 (hc : Int), .int .i64 (hh : Int), .int .i64 (hm : Int), .int .i64 (ho : Int), .int .i64 (hf : Int)] := ⟨b2.keep (grown_drew w1 none) (by simp), b9.keep (grown_drew w1 none) (by simp)⟩
  have b4d := b4.keep (grown_drew w1 none) (by simp)
  have hLd := hL.keep (grown_drew w1 none)
  have hDd := hDA.keep (grown_drew w1 none)
  have Gd := grown_trans G1 (grown_drew w1 none)
  refine wp_regionL (fun wz => BxS wz w.heap.size 43 #[.int .i64 cr, .int .i64 sz, .int .i64 ma, .slice (some ⟨gq, 0, none⟩) 7 7] ∧ BxS wz g9 28 #[.int .i64 (hc : Int), .int .i64 (hh : Int), .int .i64 (hm : Int), .int .i64 (ho : Int), .int .i64 (hf : Int)]) [] #[false, false, false, false, false, false, false, false, false] rfl (by kernel_rfl) ?_
  refine wpAnyZ_take [] 0 (.pointer (some ⟨w.heap.size, 3, none⟩)) rfl (by kernel_rfl) (fun _ _ _ h => h) SS rfl (by intro wz hz; go_simp) ?_
  try simp only [List.getElem_toArray, List.getElem_cons_succ, List.getElem_cons_zero, Act.put, List.setIfInBounds_toArray, List.set_cons_zero, List.set_cons_succ]
  refine wpAnyZ_take [] 1 (.slice (some ⟨gq, 0, none⟩) 7 7) rfl (by kernel_rfl) (fun _ _ _ h => h) SS rfl (by rintro wz ⟨hz, hy⟩; obtain ⟨z0, z1, z2, z3⟩ := BxS.cell4 hz; obtain ⟨y0, y1, y2, y3, y4⟩ := BxS.cell5 hy; go_simp) ?_
  try simp only [List.getElem_toArray, List.getElem_cons_succ, List.getElem_cons_zero, Act.put, List.setIfInBounds_toArray, List.set_cons_zero, List.set_cons_succ]
  refine wpAnyZ_take [] 2 (.pointer (some ⟨g9, 1, none⟩)) rfl (by kernel_rfl) (fun _ _ _ h => h) SS rfl (by intro wz hz; go_simp) ?_
  try simp only [List.getElem_toArray, List.getElem_cons_succ, List.getElem_cons_zero, Act.put, List.setIfInBounds_toArray, List.set_cons_zero, List.set_cons_succ]
  refine wpAnyZ_take [] 3 (.int .i64 (hh : Int)) rfl (by kernel_rfl) (fun _ _ _ h => h) SS rfl (by rintro wz ⟨hz, hy⟩; obtain ⟨z0, z1, z2, z3⟩ := BxS.cell4 hz; obtain ⟨y0, y1, y2, y3, y4⟩ := BxS.cell5 hy; go_simp) ?_
  try simp only [List.getElem_toArray, List.getElem_cons_succ, List.getElem_cons_zero, Act.put, List.setIfInBounds_toArray, List.set_cons_zero, List.set_cons_succ]
  refine wpAnyZ_take [] 4 (.pointer (some ⟨gq, hh * 2, none⟩)) rfl (by kernel_rfl) (fun _ _ _ h => h) SS rfl (by intro wz hz; go_simp) ?_
  try simp only [List.getElem_toArray, List.getElem_cons_succ, List.getElem_cons_zero, Act.put, List.setIfInBounds_toArray, List.set_cons_zero, List.set_cons_succ]
  refine wpAnyZ_take [] 5 (.agg #[.int .i64 (hc : Int), .int .i64 (hh : Int), .int .i64 (hm : Int), .int .i64 (ho : Int), .int .i64 (hf : Int)]) rfl (by kernel_rfl) (fun _ _ _ h => h) SS rfl (fun wz hz => ld_exec rfl rfl hz.2 Try.underlying28 i5) ?_
  try simp only [List.getElem_toArray, List.getElem_cons_succ, List.getElem_cons_zero, Act.put, List.setIfInBounds_toArray, List.set_cons_zero, List.set_cons_succ]
  refine wpAnyZ_take [] 6 (.slice da dm dc) rfl (by kernel_rfl) (fun _ _ _ h => h) SS rfl (by intro wz hz; go_simp) ?_
  try simp only [List.getElem_toArray, List.getElem_cons_succ, List.getElem_cons_zero, Act.put, List.setIfInBounds_toArray, List.set_cons_zero, List.set_cons_succ]
  generalize w1.drew = w2 at *
  refine wpAnyZ_oneB 7 rfl (by kernel_rfl) (fun KK hKK => ?_)
  go_simp
  go_at_call 69
  refine (hearPackets_any w2 lo gq hh es Es e (hc : Int) (hh : Int) (hm : Int) (ho : Int) hf da dm dc D hLd hat hrn lod hDd hdm (by omega) hhf G HG.out).mono ?_
  rintro rr w3 ⟨pa, pn, pc, ps, es', rfl, hP3, hpd, hL3, hdis, hpn, u3⟩
  dsimp only
  have hgq := (hLd.o.hi (x := gq) (.inl rfl)).2
  have hlt4 := b4d.lt
  have hbq : ∀ {g : Nat} {t : TypeId} {cs : Array Value}, BxS w2 g t cs → 68 ≠ t → BxS w3 g t cs := fun b ht => b.keep u3 (fun e => by
    have e := Option.some.inj e
    subst e
    obtain ⟨cs', hb⟩ := hLd.o.row
    exact BxS.apart hb b ht rfl)
  have b23 := hbq SS.1 (by decide)
  have b93 := hbq SS.2 (by decide)
  have b43 := hbq b4d (by decide)
  have G3 := grown_far Gd u3 (fun q e => by have e := Option.some.inj e; omega)
  have hz2 := Gd.size
  refine hKK _ _ (fun _ => ⟨b23, b93⟩) ?_
  try simp only [List.getElem_toArray, List.getElem_cons_succ, List.getElem_cons_zero, Act.put, List.setIfInBounds_toArray, List.set_cons_zero, List.set_cons_succ]
  refine wpAnyZ_take [] 8 (.slice pa pn pc) rfl (by kernel_rfl) (fun _ _ _ h => h) ⟨b23, b93⟩ rfl (by intro wz hz; go_simp) ?_
  try simp only [List.getElem_toArray, List.getElem_cons_succ, List.getElem_cons_zero, Act.put, List.setIfInBounds_toArray, List.set_cons_zero, List.set_cons_succ]
  refine wpAnyZ_doneB (by kernel_rfl) ?_ _
  refine HK1.out _ _ ?_
  clear HK1
  refine wp_seq_k fun K2 hK2 => ?_
  have HK2 : Hid _ := hK2
  clear hK2
  have SS3 : BxS w3.drew w.heap.size 43 #[.int .i64 cr, .int .i64 sz, .int .i64 ma, .slice (some ⟨gq, 0, none⟩) 7 7] ∧ BxS w3.drew g9 28 #[.int .i64 (hc : Int), .int .i64 (hh : Int), .int .i64 (hm : Int), .int .i64 (ho : Int), .int .i64 (hf : Int)] := ⟨b23.keep (grown_drew w3 none) (by simp), b93.keep (grown_drew w3 none) (by simp)⟩
  have b43d := b43.keep (grown_drew w3 none) (by simp)
  have hL3d := hL3.keep (grown_drew w3 none)
  have hP3d := hP3.keep (grown_drew w3 none)
  have G3d := grown_trans G3 (grown_drew w3 none)
  have hz3 : w2.heap.size ≤ w3.drew.heap.size := u3.size
  refine wp_regionL (fun wz => BxS wz w.heap.size 43 #[.int .i64 cr, .int .i64 sz, .int .i64 ma, .slice (some ⟨gq, 0, none⟩) 7 7] ∧ BxS wz g9 28 #[.int .i64 (hc : Int), .int .i64 (hh : Int), .int .i64 (hm : Int), .int .i64 (ho : Int), .int .i64 (hf : Int)]) [] #[false, false, false, false, false, false, false, false, false, false, false, false] rfl (by kernel_rfl) ?_
  refine wpAnyZ_take [] 0 (.agg #[.int .i64 cr, .int .i64 sz, .int .i64 ma, .slice (some ⟨gq, 0, none⟩) 7 7]) rfl (by kernel_rfl) (fun _ _ _ h => h) SS3 rfl (fun wz hz => ld_exec rfl rfl hz.1 Try.underlying43 i4) ?_
  try simp only [List.getElem_toArray, List.getElem_cons_succ, List.getElem_cons_zero, Act.put, List.setIfInBounds_toArray, List.set_cons_zero, List.set_cons_succ]
  refine wpAnyZ_take [] 1 (.pointer (some ⟨g9, 1, none⟩)) rfl (by kernel_rfl) (fun _ _ _ h => h) SS3 rfl (by intro wz hz; go_simp) ?_
  try simp only [List.getElem_toArray, List.getElem_cons_succ, List.getElem_cons_zero, Act.put, List.setIfInBounds_toArray, List.set_cons_zero, List.set_cons_succ]
  refine wpAnyZ_take [] 2 (.int .i64 (hh : Int)) rfl (by kernel_rfl) (fun _ _ _ h => h) SS3 rfl (by rintro wz ⟨hz, hy⟩; obtain ⟨z0, z1, z2, z3⟩ := BxS.cell4 hz; obtain ⟨y0, y1, y2, y3, y4⟩ := BxS.cell5 hy; go_simp) ?_
  try simp only [List.getElem_toArray, List.getElem_cons_succ, List.getElem_cons_zero, Act.put, List.setIfInBounds_toArray, List.set_cons_zero, List.set_cons_succ]
  refine wpAnyZ_take [] 3 (.slice pa pn pc) rfl (by kernel_rfl) (fun _ _ _ h => h) SS3 rfl (by intro wz hz; go_simp) ?_
  try simp only [List.getElem_toArray, List.getElem_cons_succ, List.getElem_cons_zero, Act.put, List.setIfInBounds_toArray, List.set_cons_zero, List.set_cons_succ]
  generalize w3.drew = w4 at *
  refine wpAnyZ_take [] 5 (.int .i64 lost) rfl (by kernel_rfl) (fun _ _ _ h => h) SS3 rfl (by intro wz hz; go_simp) ?_
  try simp only [List.getElem_toArray, List.getElem_cons_succ, List.getElem_cons_zero, Act.put, List.setIfInBounds_toArray, List.set_cons_zero, List.set_cons_succ]
  refine wpAnyZ_take [] 6 (.int .i64 (st : Int)) rfl (by kernel_rfl) (fun _ _ _ h => h) SS3 rfl (by intro wz hz; go_simp) ?_
  try simp only [List.getElem_toArray, List.getElem_cons_succ, List.getElem_cons_zero, Act.put, List.setIfInBounds_toArray, List.set_cons_zero, List.set_cons_succ]
  refine wpAnyZ_oneB 4 rfl (by kernel_rfl) (fun KK hKK => ?_)
  go_simp
  go_at_call 70
  refine (told_any (hh : Int) pa pn pc w2.heap.size ps w4 hP3d hz3 hpn).mono ?_
  rintro rr w5 ⟨ta, tn, tc, rfl, hT5, htn, g5⟩
  dsimp only
  have S5 := SS3.1.keep g5 (by simp)
  have S5b := SS3.2.keep g5 (by simp)
  refine hKK _ _ (fun _ => ⟨S5, S5b⟩) ?_
  try simp only [List.getElem_toArray, List.getElem_cons_succ, List.getElem_cons_zero, Act.put, List.setIfInBounds_toArray, List.set_cons_zero, List.set_cons_succ]
  refine wpAnyZ_oneB 7 rfl (by kernel_rfl) (fun KK hKK => ?_)
  refine step_stX _ rfl 43 _ _ rfl (w.heap.size + 1) _ #[.int .i64 cr, .int .i64 sz, .int .i64 ma, .slice (some ⟨gq, 0, none⟩) 7 7] rfl rfl (b43d.keep g5 (by simp)) i4 rfl (by simp [Value.oneCell']) ?_
  intro w6 b46 u6
  have S6 := S5.keep u6 (fun e => by have e := Option.some.inj e; omega)
  have S6b := S5b.keep u6 (fun e => by have e := Option.some.inj e; omega)
  refine hKK _ _ (fun _ => ⟨S6, S6b⟩) ?_
  try simp only [List.getElem_toArray, List.getElem_cons_succ, List.getElem_cons_zero, Act.put, List.setIfInBounds_toArray, List.set_cons_zero, List.set_cons_succ]
  refine wpAnyZ_take [] 8 (.slice ta tn tc) rfl (by kernel_rfl) (fun _ _ _ h => h) ⟨S6, S6b⟩ rfl (by intro wz hz; go_simp) ?_
  try simp only [List.getElem_toArray, List.getElem_cons_succ, List.getElem_cons_zero, Act.put, List.setIfInBounds_toArray, List.set_cons_zero, List.set_cons_succ]
  refine wpAnyZ_take [] 9 (.int .i64 lost) rfl (by kernel_rfl) (fun _ _ _ h => h) ⟨S6, S6b⟩ rfl (by intro wz hz; go_simp) ?_
  try simp only [List.getElem_toArray, List.getElem_cons_succ, List.getElem_cons_zero, Act.put, List.setIfInBounds_toArray, List.set_cons_zero, List.set_cons_succ]
  refine wpAnyZ_take [] 10 (.int .i64 (st : Int)) rfl (by kernel_rfl) (fun _ _ _ h => h) ⟨S6, S6b⟩ rfl (by intro wz hz; go_simp) ?_
  try simp only [List.getElem_toArray, List.getElem_cons_succ, List.getElem_cons_zero, Act.put, List.setIfInBounds_toArray, List.set_cons_zero, List.set_cons_succ]
  refine wpAnyZ_take [] 11 (.int .i64 0) rfl (by kernel_rfl) (fun _ _ _ h => h) ⟨S6, S6b⟩ rfl (by intro wz hz; go_simp) ?_
  try simp only [List.getElem_toArray, List.getElem_cons_succ, List.getElem_cons_zero, Act.put, List.setIfInBounds_toArray, List.set_cons_zero, List.set_cons_succ]
  refine wpAnyZ_doneB (by kernel_rfl) ?_ _
  refine HK2.out _ _ ?_
  clear HK2
  refine wp_ret ?_
  refine bodyPost_ret (results_cell5 rfl _ _ _ ⟨w.heap.size + 1, 0, none⟩ _ (.slice ta tn tc) (.int .i64 lost) (.int .i64 (st : Int)) (.int .i64 0) rfl (BxS.load (t := 43) b46 Try.underlying43 i4) rfl rfl rfl rfl) rfl ?_
  have hL6 := (hL3d.keep g5).far u6 (by omega)
  have hT6 := hT5.far u6 (by omega)
  have hV := HEV.out
  have hP := HEP.out
  have hC := HCH.out
  subst hV hP hC
  refine ⟨_, _, _, es', ta, tn, tc, noF ps, rfl, hL6.wide (by omega), hT6.wide (by omega), ?_, fun x hx e => ?_, grown_far (grown_trans G3d g5) u6 (fun q e => by have e := Option.some.inj e; omega)⟩
  · rw [noF_d, hpd]
  · rcases hx with hx | ⟨y, hy, hx⟩
    · have h1 := htn x hx
      have h2 := (hL3d.o.hi e).1
      omega
    · obtain ⟨q, hq, rfl⟩ := List.mem_map.1 hy
      exact hdis x (.inr ⟨q.th, List.mem_map_of_mem (List.mem_filter.1 hq).1, hx⟩) e

set_option maxHeartbeats 32000000 in
theorem he_t5 {u0 u3 u5 u6 u7 u8 u13 u14 u15 u16 u17 u18 u19 u20 u21 u22 u23 u24 u25 u26 u27 u28 u29 u30 u31 u32 u33 u34 u35 u36 u37 u38 u39 u40 u41 u42 u43 u44 u45 u46 u47 u48 u49 u50 u51 u52 u53 u54 u55 u56 u57 u58 u59 u60 u61 u62 u63 u64 u65 u66 u67 u68 u69 u70 u71 u72 u73 u74 u75 u76 : Value} (w w1 : World) (lo g9 gq nb cb : Nat) (b : Option Addr) (B : List Nat) (cr sz ma : Int) (es : List Er) (Es : List Ed) (da : Option Addr) (dm dc lod : Nat) (b2 : BxS w1 w.heap.size 43 #[.int .i64 cr, .int .i64 sz, .int .i64 ma, .slice (some ⟨gq, 0, none⟩) 7 7]) (b4 : BxS w1 (w.heap.size + 1) 43 #[.int .i64 0, .int .i64 0, .int .i64 0, .slice none 0 0]) (b9 : BxS w1 g9 28 #[.int .i64 ((hrC B : Nat) : Int), .int .i64 ((hrH B : Nat) : Int), .int .i64 ((hrM B : Nat) : Int), .int .i64 ((hrO B : Nat) : Int), .int .i64 ((hrF B : Nat) : Int)]) (hL : OwL w1 lo (some ⟨gq, 0, none⟩) 7 7 es Es) (hlo : w.heap.size + 2 ≤ lo) (hg9 : w.heap.size + 2 ≤ g9) (hDA : Ans w1 lod da dm dc (unD B)) (hB : IsB B) (hnb : B.length = nb) (hu : unE B = 0) (hle : leD cr sz ma Es = true) (G1 : w.grownBy w1 none)
    (r0 r1 r2 ch : Int) (V : List Ed) (Ps : List Pd) (lost : Int) (st E : Nat) (hN : HR cr sz ma Es B r0 r1 r2 V ch Ps lost st E) :
    Code.wp Try.prog (tailR 5 (Try.f37.body.getD .skip)) (bodyPost Try.prog Try.f37 (fun r w' => ∃ (a' : Option Addr) (n' c' : Nat) (es' : List Er) (pa : Option Addr) (pn pc : Nat) (ps : List Pk), r = .returned (.tuple #[.agg #[.int .i64 r0, .int .i64 r1, .int .i64 r2, .slice a' n' c'], .slice pa pn pc, .int .i64 lost, .int .i64 (st : Int), .int .i64 (E : Int)]) ∧ OwL w' w.heap.size a' n' c' es' V ∧ OwT 66 7 w' w.heap.size pa pn pc (ps.map (Pk.he ch)) ∧ ps.map Pk.d = Ps ∧ (∀ x, Tbl (.slice pa pn pc) (ps.map (Pk.he ch)) x → ¬ Tbl (.slice a' n' c') (es'.map Er.th) x) ∧ w.grownBy w' none)) (Act.mk (List.toArray (u0 :: (.slice b nb cb) :: (.pointer (some ⟨w.heap.size, 0, none⟩)) :: u3 :: (.pointer (some ⟨w.heap.size + 1, 0, none⟩)) :: u5 :: u6 :: u7 :: u8 :: (.pointer (some ⟨g9, 0, none⟩)) :: (.slice da dm dc) :: (.int .i64 ((unS B : Nat) : Int)) :: (.int .i64 0) :: u13 :: u14 :: u15 :: u16 :: u17 :: u18 :: u19 :: u20 :: u21 :: u22 :: u23 :: u24 :: u25 :: u26 :: u27 :: u28 :: u29 :: u30 :: u31 :: u32 :: u33 :: u34 :: u35 :: u36 :: u37 :: u38 :: u39 :: u40 :: u41 :: u42 :: u43 :: u44 :: u45 :: u46 :: u47 :: u48 :: u49 :: u50 :: u51 :: u52 :: u53 :: u54 :: u55 :: u56 :: u57 :: u58 :: u59 :: u60 :: u61 :: u62 :: u63 :: u64 :: u65 :: u66 :: u67 :: u68 :: u69 :: u70 :: u71 :: u72 :: u73 :: u74 :: u75 :: u76 :: [])) []) w1 := by
  conv => enter [2]; whnf
  have i4 := Try.info_li
  have i5 := Try.info_hd
  obtain ⟨l1, l2, l3, l4, l5⟩ := leD_ok hle
  have husz := un_sz hu
  have hudl := un_dlen hu
  have hdl := hDA.len
  have hm1 : hrM B ≤ 255 := by have := hB.nth 2; unfold hrM; omega
  have ho1 : hrO B ≤ 255 := by have := hB.nth 3; unfold hrO; omega
  have hf1 : hrF B ≤ 2047 := by have : hrF B < 2048 := Nat.mod_lt _ (by decide); omega
  have herN : erN cr sz B = if (nb : Int) = sz then (if ((hrC B : Nat) : Int) = cr then 0 else 10) else 1 := by unfold erN; rw [if_pos hu, hnb]
  have HN : Hid _ := hN
  clear hN
  have HG : Hid (heG Es B = goL (if (Es.getD (hrH B) ed0).x = ((hrO B : Nat) : Int) then (Es.getD (hrH B) ed0).D else []) (unD B) (hrF B)) := rfl
  by_cases hs : (nb : Int) = sz
  · rw [if_pos hs] at herN
    have bs : (((nb : Int) != sz) : Bool) = false := by simp [hs]
    by_cases hcr : ((hrC B : Nat) : Int) = cr
    · rw [if_pos hcr] at herN
      have bc : ((((hrC B : Nat) : Int) != cr) : Bool) = false := by simp [hcr]
      have HHS : Hid _ := hs
      have HHC : Hid _ := hcr
      clear hs hcr
      refine wp_seq_k fun K1 hK1 => ?_
      have HK1 : Hid _ := hK1
      clear hK1
      obtain ⟨z0, z1, z2, z3⟩ := BxS.cell4 b2
      obtain ⟨y0, y1, y2, y3, y4⟩ := BxS.cell5 b9
      go_wp2
      refine HK1.out _ _ ?_
      clear HK1
      refine wp_seq_k fun K2 hK2 => ?_
      have HK2 : Hid _ := hK2
      clear hK2
      have s0 : True := trivial
      go_wp2_with (go_at_call 67; have _t := s0; clear s0; refine (lostAhead_any ma ((hrM B : Nat) : Int) l3 (by omega) _).mono ?_; rintro e wx ⟨rfl, hw⟩; have hw := hw.symm; subst hw)
      refine HK2.out _ _ ?_
      clear HK2
      refine wp_seq_k fun K3 hK3 => ?_
      have HK3 : Hid _ := hK3
      clear hK3
      have s0 : True := trivial
      have kB := fun wz => fbehind_any ((hrM B : Nat) : Int) ((((hrM B : Nat) : Int) + 1) % 256) (show _ = _ from rfl) (by omega) (by omega) wz
      go_wp2_with (first
        | (go_at_call 68; have _t := s0; clear s0; refine (kB _).mono ?_; rintro e4 wx ⟨rfl, hw⟩; have hw := hw.symm; subst hw; have s1 : True := trivial)
        | (have _t := s1; clear s1; refine wpList_stC _ rfl _ _ _ rfl w.heap.size 2 43 _ #[.int .i64 cr, .int .i64 sz, .int .i64 ((((hrM B : Nat) : Int) + 1) % 256), .slice (some ⟨gq, 0, none⟩) 7 7] (.int .i64 ((((hrM B : Nat) : Int) + 1) % 256)) rfl rfl b2 (stc_int _ _ _) (by show 2 < 4; decide) rfl ?_; intro w2 b22 u2))
      clear z0 z1 z2 z3 y0 y1 y2 y3 y4
      have b42 := b4.keep u2 (fun e => by have e := Option.some.inj e; omega)
      have b92 := b9.keep u2 (fun e => by have e := Option.some.inj e; omega)
      have hL2 := hL.far u2 (by omega)
      have hDA2 : Ans w2 lod da dm dc (unD B) := hDA.kept u2 (by
        cases hown : (Value.slice da dm dc).ownBlock with
        | none => exact .inl rfl
        | some z => exact .inr (fun e => by rw [e] at hown; exact hDA.apart b2 (by decide) hown))
      have G2 := grown_far G1 u2 (fun q e => by have e := Option.some.inj e; omega)
      refine HK3.out _ _ ?_
      clear HK3
      obtain ⟨MA, hMA⟩ : ∃ MA, (((hrM B : Nat) : Int) + 1) % 256 = MA := ⟨_, rfl⟩
      rw [hMA] at b22
      have HMA : Hid _ := hMA
      clear hMA
      obtain ⟨lo', hlo'⟩ : ∃ lo', loN ma ((hrM B : Nat) : Int) = lo' := ⟨_, rfl⟩
      rw [hlo']
      have HLO : Hid _ := hlo'
      clear hlo'
      rcases HN.out.p with ⟨h, _⟩ | ⟨_, h, _⟩ | ⟨_, _, h7, e0, e1, e2, e3, e4, e5, e6, e7⟩ | ⟨_, _, h7, e0, e1, e2, e3, e4, e5, e6, e7, e8⟩
      · rw [hle] at h; cases h
      · exact absurd herN h
      · rw [HMA.out] at e2
        rw [HLO.out] at e5
        have h7b : ((((hrH B : Nat) : Int) == 7) : Bool) = true := by rw [h7]; rfl
        have HH7 : Hid _ := h7
        have HE6 : Hid _ := e6
        subst e0 e1 e2 e3 e4 e5 e7
        clear h7 e6
        have y1 : w2.cell? ⟨g9, 1, none⟩ = some (.int .i64 ((hrH B : Nat) : Int)) := b92.cell 1 (by show 1 < 5; decide)
        have s0 : True := trivial
        go_wp2_with (first
          | (have _t := s0; clear s0; refine wpList_ldX _ rfl _ (.tmp 2) rfl w.heap.size _ rfl b22 Try.underlying43 i4 ?_; have s1 : True := trivial)
          | (have _t := s1; clear s1; refine wpList_stX _ rfl _ (.tmp 4) (.tmp 59) rfl (w.heap.size + 1) _ _ rfl rfl b42 i4 rfl (by simp [Value.oneCell']) ?_; intro w7 b47 u7))
        refine bodyPost_ret (results_cell5 rfl _ _ _ ⟨w.heap.size + 1, 0, none⟩ _ (.slice none 0 0) (.int .i64 lo') (.int .i64 ((unS B : Nat) : Int)) (.int .i64 0) rfl (BxS.load (t := 43) b47 Try.underlying43 i4) rfl rfl rfl rfl) rfl ?_
        have hS := HE6.out
        subst hS
        exact ⟨_, _, _, es, none, 0, 0, [], rfl, (hL2.far u7 (by omega)).wide (by omega), OwT.nil _ _ _ _, rfl, (fun x hx => by rcases hx with hx | ⟨y, hy, _⟩ <;> first | (simp [Value.ownBlock] at hx) | (cases hy)), grown_far G2 u7 (fun q e => by have e := Option.some.inj e; omega)⟩
      · rw [HMA.out] at e2
        rw [HLO.out] at e5
        have h7b : ((((hrH B : Nat) : Int) == 7) : Bool) = false := by
          have : ¬ (((hrH B : Nat) : Int) = 7) := by omega
          simpa using this
        have y1 : w2.cell? ⟨g9, 1, none⟩ = some (.int .i64 ((hrH B : Nat) : Int)) := b92.cell 1 (by show 1 < 5; decide)
        have HE3 : Hid _ := e3
        have HE4 : Hid _ := e4
        have HE8 : Hid _ := e8
        have HE6 : Hid _ := e6
        have HH7 : Hid _ := h7
        subst e0 e1 e2 e5 e7
        clear e3 e4 e6 e8 h7
        refine wp_seq_k fun K4 hK4 => ?_
        have HK4 : Hid _ := hK4
        clear hK4
        go_wp2
        refine HK4.out _ _ ?_
        clear HK4
        have hS := HE6.out
        subst hS
        exact he_t15 w w2 lo g9 gq cr sz MA lo' (unS B) (hrC B) (hrH B) (hrM B) (hrO B) (hrF B) es Es da dm dc lod (unD B) b22 b42 b92 hL2 hlo hg9 hDA2 (by omega) ho1 hf1 HH7.out (fun e he => (l5 e he).2.1) G2 cr sz MA ch V Ps 0 (heG Es B) rfl rfl rfl rfl HE3.out HE4.out rfl HE8.out
    · rw [if_neg hcr] at herN
      have bc : ((((hrC B : Nat) : Int) != cr) : Bool) = true := by simpa using hcr
      have HHS : Hid _ := hs
      clear hs hcr
      have hne0 : erN cr sz B ≠ 0 := by rw [herN]; decide
      rcases HN.out.p with ⟨h, _⟩ | ⟨_, _, e0, e1, e2, e3, e4, e5, e6, e7⟩ | ⟨_, h, _⟩ | ⟨_, h, _⟩
      · rw [hle] at h; cases h
      · rw [herN] at e7
        subst e0 e1 e2 e3 e4 e5 e6 e7
        clear herN hne0
        obtain ⟨z0, z1, z2, z3⟩ := BxS.cell4 b2
        obtain ⟨y0, y1, y2, y3, y4⟩ := BxS.cell5 b9
        have s0 : True := trivial
        go_wp2_with (first
          | (have _t := s0; clear s0; refine wpList_ldX _ rfl _ (.tmp 2) rfl w.heap.size _ rfl b2 Try.underlying43 i4 ?_; have s1 : True := trivial)
          | (have _t := s1; clear s1; refine wpList_stX _ rfl _ (.tmp 4) (.tmp 46) rfl (w.heap.size + 1) _ _ rfl rfl b4 i4 rfl (by simp [Value.oneCell']) ?_; intro w7 b47 u7))
        refine bodyPost_ret (results_cell5 rfl _ _ _ ⟨w.heap.size + 1, 0, none⟩ _ (.slice none 0 0) (.int .i64 0) (.int .i64 0) (.int .i64 10) rfl (BxS.load (t := 43) b47 Try.underlying43 i4) rfl rfl rfl rfl) rfl ?_
        exact ⟨_, _, _, es, none, 0, 0, [], rfl, (hL.far u7 (by omega)).wide (by omega), OwT.nil _ _ _ _, rfl, (fun x hx => by rcases hx with hx | ⟨y, hy, _⟩ <;> first | (simp [Value.ownBlock] at hx) | (cases hy)), grown_far G1 u7 (fun q e => by have e := Option.some.inj e; omega)⟩
      · exact absurd h hne0
      · exact absurd h hne0
  · rw [if_neg hs] at herN
    have bs : (((nb : Int) != sz) : Bool) = true := by simpa using hs
    clear hs
    have hne0 : erN cr sz B ≠ 0 := by rw [herN]; decide
    rcases HN.out.p with ⟨h, _⟩ | ⟨_, _, e0, e1, e2, e3, e4, e5, e6, e7⟩ | ⟨_, h, _⟩ | ⟨_, h, _⟩
    · rw [hle] at h; cases h
    · rw [herN] at e7
      subst e0 e1 e2 e3 e4 e5 e6 e7
      clear herN hne0
      obtain ⟨z0, z1, z2, z3⟩ := BxS.cell4 b2
      obtain ⟨y0, y1, y2, y3, y4⟩ := BxS.cell5 b9
      have s0 : True := trivial
      go_wp2_with (first
        | (have _t := s0; clear s0; refine wpList_ldX _ rfl _ (.tmp 2) rfl w.heap.size _ rfl b2 Try.underlying43 i4 ?_; have s1 : True := trivial)
        | (have _t := s1; clear s1; refine wpList_stX _ rfl _ (.tmp 4) (.tmp 39) rfl (w.heap.size + 1) _ _ rfl rfl b4 i4 rfl (by simp [Value.oneCell']) ?_; intro w7 b47 u7))
      refine bodyPost_ret (results_cell5 rfl _ _ _ ⟨w.heap.size + 1, 0, none⟩ _ (.slice none 0 0) (.int .i64 0) (.int .i64 0) (.int .i64 1) rfl (BxS.load (t := 43) b47 Try.underlying43 i4) rfl rfl rfl rfl) rfl ?_
      exact ⟨_, _, _, es, none, 0, 0, [], rfl, (hL.far u7 (by omega)).wide (by omega), OwT.nil _ _ _ _, rfl, (fun x hx => by rcases hx with hx | ⟨y, hy, _⟩ <;> first | (simp [Value.ownBlock] at hx) | (cases hy)), grown_far G1 u7 (fun q e => by have e := Option.some.inj e; omega)⟩
    · exact absurd h hne0
    · exact absurd h hne0

set_option maxHeartbeats 32000000 in
theorem hear_any (cr sz ma : Int) (a : Option Addr) (n c : Nat) (Es : List Ed) (b : Option Addr) (nb cb : Nat) (B : List Nat) (w : World) (h : RdL w a n c Es) (hb : Rd w b nb cb B) (r0 r1 r2 ch : Int) (V : List Ed) (Ps : List Pd) (lost : Int) (st E : Nat) (hN : HR cr sz ma Es B r0 r1 r2 V ch Ps lost st E) :
    Calls Try.prog 37 #[.agg #[.int .i64 cr, .int .i64 sz, .int .i64 ma, .slice a n c], .slice b nb cb] w (fun r w' => ∃ (a' : Option Addr) (n' c' : Nat) (es' : List Er) (pa : Option Addr) (pn pc : Nat) (ps : List Pk), r = .returned (.tuple #[.agg #[.int .i64 r0, .int .i64 r1, .int .i64 r2, .slice a' n' c'], .slice pa pn pc, .int .i64 lost, .int .i64 (st : Int), .int .i64 (E : Int)]) ∧ OwL w' w.heap.size a' n' c' es' V ∧ OwT 66 7 w' w.heap.size pa pn pc (ps.map (Pk.he ch)) ∧ ps.map Pk.d = Ps ∧ (∀ x, Tbl (.slice pa pn pc) (ps.map (Pk.he ch)) x → ¬ Tbl (.slice a' n' c') (es'.map Er.th) x) ∧ w.grownBy w' none) := by
  have i4 := Try.info_li
  have i5 := Try.info_hd
  have b0 := BxS.new w 43 #[.int .i64 cr, .int .i64 sz, .int .i64 ma, .slice a n c]
  have g0 := World.grownBy_alloc w (.cells #[.int .i64 cr, .int .i64 sz, .int .i64 ma, .slice a n c] 43) none
  generalize hw0 : w.alloc (.cells #[.int .i64 cr, .int .i64 sz, .int .i64 ma, .slice a n c] 43) = w0 at b0 g0
  have hz0 : w0.heap.size = w.heap.size + 1 := by rw [← hw0]; simp
  have b1 := BxS.new w0 43 #[.int .i64 0, .int .i64 0, .int .i64 0, .slice none 0 0]
  have g1 := World.grownBy_alloc w0 (.cells #[.int .i64 0, .int .i64 0, .int .i64 0, .slice none 0 0] 43) none
  generalize hw1 : w0.alloc (.cells #[.int .i64 0, .int .i64 0, .int .i64 0, .slice none 0 0] 43) = w1 at b1 g1
  rw [hz0] at b1
  have sz1 : w.heap.size + 2 ≤ w1.heap.size := by rw [← hw1]; simp [hz0]
  have p0 := b0.keep g1 (by simp)
  have G1 := grown_trans g0 g1
  have h1 := h.keep G1
  have hb1 := hb.keep G1
  have HN : Hid _ := hN
  clear hN
  have kM := listenerMay2_any cr sz ma a n c Es w1 h1
  unfold liA at kM
  go_enter Try.func37, Try.ntmps37
  refine wp_seq_k fun K0 hK0 => ?_
  have HK0 : Hid _ := hK0
  clear hK0
  go_wp2
  refine HK0.out _ _ ?_
  clear HK0
  refine wp_seq_k fun K1 hK1 => ?_
  have HK1 : Hid _ := hK1
  clear hK1
  have s0 : True := trivial
  cases hle : leD cr sz ma Es with
  | false =>
    rw [hle] at kM
    rcases HN.out.p with ⟨_, e0, e1, e2, e3, e4, e5, e6, e7⟩ | ⟨h, _⟩ | ⟨h, _⟩ | ⟨h, _⟩
    · subst e0 e1 e2 e3 e4 e5 e6 e7
      go_wp2_with (first
        | (have _t := s0; clear s0; refine wpList_ldX _ rfl _ (.tmp 2) rfl w.heap.size _ rfl p0 Try.underlying43 i4 ?_; have s1 : True := trivial)
        | (go_at_call 65; have _t := s1; clear s1; refine kM.mono ?_; rintro e w2 ⟨rfl, g2⟩; have b12 := b1.keep g2 (by simp); have s2 : True := trivial)
        | (have _t := s2; clear s2; refine wpList_stX _ rfl _ (.tmp 4) (.tmp 18) rfl (w.heap.size + 1) _ _ rfl rfl b12 i4 rfl (by simp [Value.oneCell']) ?_; intro w7 b47 u7))
      refine bodyPost_ret (results_cell5 rfl _ _ _ ⟨w.heap.size + 1, 0, none⟩ _ (.slice none 0 0) (.int .i64 0) (.int .i64 0) (.int .i64 11) rfl (BxS.load (t := 43) b47 Try.underlying43 i4) rfl rfl rfl rfl) rfl ?_
      exact ⟨_, _, _, [], none, 0, 0, [], rfl, OwL.nil _ _, OwT.nil _ _ _ _, rfl, (fun x hx => by rcases hx with hx | ⟨y, hy, _⟩ <;> first | (simp [Value.ownBlock] at hx) | (cases hy)), grown_far (grown_trans G1 g2) u7 (fun q e => by have e := Option.some.inj e; omega)⟩
    · rw [hle] at h; cases h
    · rw [hle] at h; cases h
    · rw [hle] at h; cases h
  | true =>
    rw [hle] at kM
    obtain ⟨l1, l2, l3, l4, l5⟩ := leD_ok hle
    have hn7 : n = 7 := by rw [← h.len]; exact l4
    subst hn7
    go_wp2_with (first
      | (have _t := s0; clear s0; refine wpList_ldX _ rfl _ (.tmp 2) rfl w.heap.size _ rfl p0 Try.underlying43 i4 ?_; have s1 : True := trivial)
      | (go_at_call 65; have _t := s1; clear s1; refine kM.mono ?_; rintro e w2 ⟨rfl, g2⟩; have b12 := b1.keep g2 (by simp); have p02 := p0.keep g2 (by simp)))
    have h2 := h1.keep g2
    have hb2 := hb1.keep g2
    have G2 := grown_trans G1 g2
    have zz2 := g2.size
    refine HK1.out _ _ ?_
    clear HK1
    refine wp_seq_k fun K2 hK2 => ?_
    have HK2 : Hid _ := hK2
    clear hK2
    have s0 : True := trivial
    go_wp2_with (first
      | (have _t := s0; clear s0; refine wpList_ldX _ rfl _ (.tmp 2) rfl w.heap.size _ rfl p02 Try.underlying43 i4 ?_; have s1 : True := trivial)
      | (go_at_call 66; have _t := s1; clear s1; refine (copyListener_any cr sz ma a c Es w2 h2 (fun e he => by have := (l5 e he).2.1; omega)).mono ?_; rintro e w3 ⟨gq, es, rfl, hL3, g3⟩; have b13 := b12.keep g3 (by simp); have p03 := p02.keep g3 (by simp); have s2 : True := trivial)
      | (have _t := s2; clear s2; refine wpList_stX _ rfl _ (.tmp 2) (.tmp 20) rfl w.heap.size _ _ rfl rfl p03 i4 rfl (by simp [Value.oneCell']) ?_; intro w4 b24 u4))
    have b44 := b13.keep u4 (fun e => by have e := Option.some.inj e; omega)
    have hL4 := hL3.far u4 (by omega)
    have G4 := grown_far (grown_trans G2 g3) u4 (fun q e => by have e := Option.some.inj e; omega)
    have hb4 := hb.keep G4
    have zz3 := g3.size
    have zz4 := u4.size
    clear p03 p02 p0 b12 b13 b1 kM
    refine HK2.out _ _ ?_
    clear HK2
    refine wp_seq_k fun K3 hK3 => ?_
    have HK3 : Hid _ := hK3
    clear hK3
    by_cases hu : unE B = 0
    · have kU := unpack_any b nb cb B w4 hb4
      rw [un_head hu, hu] at kU
      have s0 : True := trivial
      go_wp2_with (first
        | (go_at_call 20; have _t := s0; clear s0; refine kU.mono ?_; rintro e w5 ⟨da, dn, dc, rfl, hA5, g5⟩; have bn := BxS.new w5 28 #[.int .i64 0, .int .i64 0, .int .i64 0, .int .i64 0, .int .i64 0]; have gn := World.grownBy_alloc w5 (.cells #[.int .i64 0, .int .i64 0, .int .i64 0, .int .i64 0, .int .i64 0] 28) none; generalize hw6 : w5.alloc (.cells #[.int .i64 0, .int .i64 0, .int .i64 0, .int .i64 0, .int .i64 0] 28) = w6 at bn gn; have s1 : True := trivial)
        | (have _t := s1; clear s1; refine wpList_stX _ rfl _ (.tmp 9) (.tmp 24) rfl w5.heap.size _ _ rfl rfl bn i5 rfl (by simp [Value.oneCell']) ?_; intro w7 b97 u7))
      have zz5 := g5.size
      have Y7 := grown_far (grown_trans g5 gn) u7 (fun q e => by have e := Option.some.inj e; omega)
      have hA7 := (hA5.keep gn).kept u7 (by
        cases hown : (Value.slice da dn dc).ownBlock with
        | none => exact .inl rfl
        | some z => exact .inr (fun e => by have := hA5.ltB hown; have e := Option.some.inj e; omega))
      refine HK3.out _ _ ?_
      clear HK3
      exact he_t5 w w7 w2.heap.size w5.heap.size gq nb cb b B cr sz ma es Es da dn dc w4.heap.size (b24.keep Y7 (by simp)) (b44.keep Y7 (by simp)) b97 (hL4.keep Y7) (by omega) (by omega) hA7 hb.byte hb.len hu hle (grown_trans G4 Y7) r0 r1 r2 ch V Ps lost st E HN.out
    · have kU := unpack_any b nb cb B w4 hb4
      have hV0 : unV B = heA 0 0 0 0 0 := by unfold unV; rw [if_neg hu]
      have hS0 : unS B = 0 := by unfold unS; rw [if_neg hu]
      have hD0 : unD B = [] := by unfold unD; rw [if_neg hu]
      have herN : erN cr sz B = unE B := by unfold erN; rw [if_neg hu]
      rw [hV0, hS0, hD0] at kU
      unfold heA at kU
      have hne0 : erN cr sz B ≠ 0 := by rw [herN]; exact hu
      rcases HN.out.p with ⟨h, _⟩ | ⟨_, _, e0, e1, e2, e3, e4, e5, e6, e7⟩ | ⟨_, h, _⟩ | ⟨_, h, _⟩
      · rw [hle] at h; cases h
      · rw [herN] at e7
        rw [e7] at kU
        have hE0 : (((E : Int) != 0) : Bool) = true := by
          have : ¬ ((E : Int) = 0) := by omega
          simpa using this
        subst e0 e1 e2 e3 e4 e5 e6
        clear herN hne0 hV0 hS0 hD0 e7 hu
        have s0 : True := trivial
        go_wp2_with (first
          | (go_at_call 20; have _t := s0; clear s0; refine kU.mono ?_; rintro e w5 ⟨da, dn, dc, rfl, hA5, g5⟩; have bn := BxS.new w5 28 #[.int .i64 0, .int .i64 0, .int .i64 0, .int .i64 0, .int .i64 0]; have gn := World.grownBy_alloc w5 (.cells #[.int .i64 0, .int .i64 0, .int .i64 0, .int .i64 0, .int .i64 0] 28) none; have s1 : True := trivial)
          | (have _t := s1; clear s1; refine wpList_stX _ rfl _ (.tmp 9) (.tmp 24) rfl w5.heap.size _ _ rfl rfl bn i5 rfl (by simp [Value.oneCell']) ?_; intro w7 b97 u7))
        have zz5 := g5.size
        have Y7 := grown_far (grown_trans g5 gn) u7 (fun q e => by have e := Option.some.inj e; omega)
        have b27 := b24.keep Y7 (by simp)
        have b47 := b44.keep Y7 (by simp)
        have hL7 := hL4.keep Y7
        refine HK3.out _ _ ?_
        clear HK3
        have s0 : True := trivial
        go_wp2_with (first
          | (have _t := s0; clear s0; refine wpList_ldX _ rfl _ (.tmp 2) rfl w.heap.size _ rfl b27 Try.underlying43 i4 ?_; have s1 : True := trivial)
          | (have _t := s1; clear s1; refine wpList_stX _ rfl _ (.tmp 4) (.tmp 31) rfl (w.heap.size + 1) _ _ rfl rfl b47 i4 rfl (by simp [Value.oneCell']) ?_; intro w8 b48 u8))
        refine bodyPost_ret (results_cell5 rfl _ _ _ ⟨w.heap.size + 1, 0, none⟩ _ (.slice none 0 0) (.int .i64 0) (.int .i64 0) (.int .i64 (E : Int)) rfl (BxS.load (t := 43) b48 Try.underlying43 i4) rfl rfl rfl rfl) rfl ?_
        exact ⟨_, _, _, es, none, 0, 0, [], rfl, (hL7.far u8 (by omega)).wide (by omega), OwT.nil _ _ _ _, rfl, (fun x hx => by rcases hx with hx | ⟨y, hy, _⟩ <;> first | (simp [Value.ownBlock] at hx) | (cases hy)), grown_far (grown_trans G4 Y7) u8 (fun q e => by have e := Option.some.inj e; omega)⟩
      · exact absurd h hne0
      · exact absurd h hne0
end Go.Proofs.Ytlmddjkplnbadaa
