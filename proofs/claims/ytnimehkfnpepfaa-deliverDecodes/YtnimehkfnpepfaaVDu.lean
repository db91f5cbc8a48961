import Derived.Test.YtnimehkfnpepfaaVDh
import Derived.Test.YtnimehkfnpepfaaVDt
import Derived.Test.YtnimehkfnpepfaaVNm
import Derived.Test.YtnimehkfnpepfaaZSub
namespace Go.Proofs.Ytnimehkfnpepfaa
open Go.RowKit
set_option maxRecDepth 100000
set_option linter.unusedVariables false
set_option linter.unusedSimpArgs false

/-- what the document reads, behind the kind and the ID -/
def docK (k id : Nat) (c : List Nat) : Option Nd :=
  if k = 1 then (if c.length < 4 then some ⟨1, id, [], 0, 0, 0, [], [], 0, 0⟩ else some ⟨1, id, c.drop 4, hdV c 4, 0, 0, [], [], 0, 0⟩)
  else if k = 2 then (if c.length < 4 then some ⟨2, id, [], 0, 0, 0, [], [], 0, 0⟩ else some ⟨2, id, [], 0, 0, hdV c 4, c.drop 4, [], 0, 0⟩)
  else if k = 3 then (if c.length = 8 then some ⟨3, id, [], hdV c 4, hdV (c.drop 4) 4, 0, [], [], 0, 0⟩ else none)
  else if k = 4 then (if c.length % 8 = 0 ∧ c.length ≤ 160 then some ⟨4, id, [], 0, 0, 0, [], gpR (c.length / 8) c, 0, 0⟩ else none)
  else if k = 5 then (if c.length = 1 then some ⟨5, id, [], 0, 0, 0, [], [], 0, hdV c 1⟩ else none)
  else if k = 6 then (if c.length = 1 then some ⟨6, id, [], 0, 0, 0, [], [], hdV c 1, 0⟩ else none)
  else some ⟨k, id, [], 0, 0, 0, [], [], 0, 0⟩
def docF (oN : Option Nd) : Option Nd := match oN with
  | some N => if mayN N = true then some N else none
  | none => none
def DocP (wS : World) (oN : Option Nd) (e : Ending) (w' : World) : Prop := RdNA wS (docF oN) e w' ∧ wS.grownBy w' none

set_option maxHeartbeats 8000000 in
theorem no_t33 {u0 u1 u3 u5 u6 u7 u8 u9 u10 u11 u12 u13 u14 u15 u16 u17 u18 u19 u20 u21 u22 u23 u24 u25 u26 u27 u28 u29 u30 u31 u32 u33 u34 u35 u36 u37 u38 u39 u40 u41 u42 u43 u44 u45 u46 u47 u48 u49 u50 u51 u52 u53 u54 u55 u56 u57 u58 u59 u60 u61 u62 u63 u64 u65 u66 u67 u68 u69 u70 u71 u72 u73 u74 u75 u76 u77 u78 u79 u80 u81 u82 u83 u84 u85 u86 u87 u88 u89 u90 u91 u92 u93 u94 u95 u96 u97 u98 u99 u100 u101 u102 u103 u104 u105 u106 u107 u108 u109 u110 u111 u112 u113 u114 u115 u116 u117 u118 u119 u120 u121 u122 u123 u124 u125 u126 : Value} (w wS : World) (g2 g4 : Nat) (N : Nd) (a : Option Addr) (n c : Nat) (q : Option Addr) (m d : Nat) (b4 : BxS w g4 27 (ntA (N.kd : Int) (N.id : Int) (strB N.nm) (N.si : Int) (N.su : Int) (N.at' : Int) (.slice a n c) (.slice q m d) (N.o : Int) (N.co : Int))) (b2 : BxS w g2 27 ntZ) (h2 : wS.heap.size ≤ g2) (hA : Ans w wS.heap.size a n c N.da) (hO : OwGp w wS.heap.size q m d N.ga) (h2A : (Value.slice a n c).ownBlock ≠ some g2) (hn : n ≤ 140737488351232) (G : wS.grownBy w none) :
    Code.wp Try.prog (tailR 33 (Try.f17.body.getD .skip)) (bodyPost Try.prog Try.f17 (DocP wS (some N))) (Act.mk (List.toArray (u0 :: u1 :: (.pointer (some ⟨g2, 0, none⟩)) :: u3 :: (.pointer (some ⟨g4, 0, none⟩)) :: u5 :: u6 :: u7 :: u8 :: u9 :: u10 :: u11 :: u12 :: u13 :: u14 :: u15 :: u16 :: u17 :: u18 :: u19 :: u20 :: u21 :: u22 :: u23 :: u24 :: u25 :: u26 :: u27 :: u28 :: u29 :: u30 :: u31 :: u32 :: u33 :: u34 :: u35 :: u36 :: u37 :: u38 :: u39 :: u40 :: u41 :: u42 :: u43 :: u44 :: u45 :: u46 :: u47 :: u48 :: u49 :: u50 :: u51 :: u52 :: u53 :: u54 :: u55 :: u56 :: u57 :: u58 :: u59 :: u60 :: u61 :: u62 :: u63 :: u64 :: u65 :: u66 :: u67 :: u68 :: u69 :: u70 :: u71 :: u72 :: u73 :: u74 :: u75 :: u76 :: u77 :: u78 :: u79 :: u80 :: u81 :: u82 :: u83 :: u84 :: u85 :: u86 :: u87 :: u88 :: u89 :: u90 :: u91 :: u92 :: u93 :: u94 :: u95 :: u96 :: u97 :: u98 :: u99 :: u100 :: u101 :: u102 :: u103 :: u104 :: u105 :: u106 :: u107 :: u108 :: u109 :: u110 :: u111 :: u112 :: u113 :: u114 :: u115 :: u116 :: u117 :: u118 :: u119 :: u120 :: u121 :: u122 :: u123 :: u124 :: u125 :: u126 :: [])) []) w := by
  conv => enter [2]; whnf
  have i10 := Try.info_nt
  have s0 : True := trivial
  cases hm : mayN N with
  | true =>
    unfold DocP
    rw [show docF (some N) = some N from by unfold docF; simp only [hm]; rfl]
    go_wp2_with (first
      | (have _t := s0; clear s0; refine wpList_ldX _ rfl _ (.tmp 4) rfl g4 _ rfl b4 Try.underlying27 i10 ?_; have s1 : True := trivial)
      | (go_at_call 47; have _t := s1; clear s1; refine (rnoteMay_any _ _ _ _ _ _ a n c q m d _ _ (gpF N.ga) w hO.rd (by omega)).mono ?_; rintro e w5 ⟨he, y5⟩; rw [strB_size, ← hA.len, ← hO.len] at he; have he : e = .returned (.bool (mayN N)) := he; rw [hm] at he; subst he; have b45 := b4.keep y5 (by simp); have b25 := b2.keep y5 (by simp); have s2 : True := trivial)
      | (have _t := s2; clear s2; refine wpList_ldX _ rfl _ (.tmp 4) rfl g4 _ rfl b45 Try.underlying27 i10 ?_; have s3 : True := trivial)
      | (have _t := s3; clear s3; refine wpList_stX _ rfl _ (.tmp 2) (.tmp 126) rfl g2 _ _ rfl rfl b25 i10 rfl (by simp [ntA, Value.oneCell']) ?_; intro w6 b26 u6))
    refine bodyPost_ret (results_cell1t rfl _ _ _ ⟨g2, 0, none⟩ _ (.int .i64 0) rfl (BxS.load (t := 27) b26 Try.underlying27 Try.info_nt) rfl) rfl ?_
    exact ⟨⟨_, rfl, a, n, c, q, m, d, rfl, (hA.keep y5).kept u6 (.inr (fun e => h2A e)), (hO.keep y5).bx b25 (by decide) u6⟩, grown_far (grown_trans G y5) u6 (fun q e => by have e := Option.some.inj e; omega)⟩
  | false =>
    unfold DocP
    rw [show docF (some N) = none from by unfold docF; simp only [hm]; rfl]
    go_wp2_with (first
      | (have _t := s0; clear s0; refine wpList_ldX _ rfl _ (.tmp 4) rfl g4 _ rfl b4 Try.underlying27 i10 ?_; have s1 : True := trivial)
      | (go_at_call 47; have _t := s1; clear s1; refine (rnoteMay_any _ _ _ _ _ _ a n c q m d _ _ (gpF N.ga) w hO.rd (by omega)).mono ?_; rintro e w5 ⟨he, y5⟩; rw [strB_size, ← hA.len, ← hO.len] at he; have he : e = .returned (.bool (mayN N)) := he; rw [hm] at he; subst he; have b45 := b4.keep y5 (by simp); have b25 := b2.keep y5 (by simp); have s2 : True := trivial)
      | (have _t := s2; clear s2; refine wpList_stX _ rfl _ (.tmp 2) (.tmp 125) rfl g2 _ _ rfl rfl b25 i10 rfl (by simp [ntA, Value.oneCell']) ?_; intro w6 b26 u6))
    refine bodyPost_ret (results_cell1t rfl _ _ _ ⟨g2, 0, none⟩ _ (.int .i64 8) rfl (BxS.load (t := 27) b26 Try.underlying27 Try.info_nt) rfl) rfl ?_
    exact ⟨rfl, grown_far (grown_trans G y5) u6 (fun q e => by have e := Option.some.inj e; omega)⟩
end Go.Proofs.Ytnimehkfnpepfaa
