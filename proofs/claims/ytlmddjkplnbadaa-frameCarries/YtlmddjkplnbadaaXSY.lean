import Derived.Test.YtlmddjkplnbadaaXMR
import Derived.Test.YtlmddjkplnbadaaNPk
import Derived.Test.YtlmddjkplnbadaaXAG
import Derived.Test.YtlmddjkplnbadaaKHo
import Derived.Test.YtlmddjkplnbadaaPSam
namespace Go.Proofs.Ytlmddjkplnbadaa
open Go.RowKit
set_option maxRecDepth 100000
set_option linter.unusedVariables false
set_option linter.unusedSimpArgs false

theorem nx_rows (f : Nat) : ∀ (m : Nat) (P : List (List Nat)) (go : Nat), m ≤ 60000 → (∀ x, x ∈ (nx f m P go).2.1 → x ∈ P ∨ x.length ≤ 60000) ∧ (nx f m P go).2.1.length ≤ max P.length 1 ∧ (nx f m P go).1.length ≤ m := by
  induction f with
  | zero => intro m P go _; exact ⟨fun x hx => .inl hx, Nat.le_max_left _ _, Nat.zero_le _⟩
  | succ f ih =>
    intro m P go hm
    rw [nx]
    by_cases h0 : m = 0
    · rw [if_pos h0]; exact ⟨fun x hx => .inl hx, Nat.le_max_left _ _, Nat.zero_le _⟩
    · rw [if_neg h0]
      have hP : (∀ x, x ∈ (if P.length = 0 then [nxF m] else P) → x ∈ P ∨ x.length ≤ 60000) ∧ (if P.length = 0 then [nxF m] else P).length ≤ max P.length 1 := by
        split
        · refine ⟨fun x hx => .inr ?_, Nat.le_max_right _ _⟩
          rw [List.mem_singleton.1 hx, nxF_len m hm]; omega
        · exact ⟨fun x hx => .inl hx, Nat.le_max_left _ _⟩
      generalize (if P.length = 0 then [nxF m] else P) = P' at hP
      by_cases h : (P'.getD 0 []).length - go ≤ m
      · rw [if_pos h]
        obtain ⟨i1, i2, i3⟩ := ih (m - ((P'.getD 0 []).length - go)) (P'.drop 1) 0 (by omega)
        refine ⟨fun x hx => ?_, ?_, ?_⟩
        · rcases i1 x hx with h1 | h1
          · exact hP.1 x (List.mem_of_mem_drop h1)
          · exact .inr h1
        · have e : (P'.drop 1).length = P'.length - 1 := List.length_drop
          have := hP.2
          show (nx f _ _ 0).2.1.length ≤ _
          omega
        · rw [List.length_append, List.length_drop]; omega
      · rw [if_neg h]
        refine ⟨hP.1, hP.2, ?_⟩
        rw [List.length_take, List.length_drop]; omega
/-- some answer there is -/
theorem nx_ex (cr sz ma tu : Int) (Qs : List Qd) (st : Int) : ∃ (r0 r1 r2 r3 : Int) (Q' : List Qd) (Y : List Nat) (Er : Nat), NX cr sz ma tu Qs st r0 r1 r2 r3 Q' Y Er := by
  cases hS : seD cr sz ma tu Qs with
  | false => exact ⟨_, _, _, _, _, _, _, .bad hS⟩
  | true =>
    cases hW : wiB st 4294967295 with
    | false => exact ⟨_, _, _, _, _, _, _, .state hS hW⟩
    | true =>
      obtain ⟨hl7, hq7⟩ := seD_ok hS
      have hS' := hS
      unfold seD at hS'
      simp only [Bool.and_eq_true, decide_eq_true_eq, List.all_eq_true] at hS'
      obtain ⟨⟨⟨⟨ho, hm⟩, ht⟩, _⟩, hq⟩ := hS'
      have hm : 0 ≤ ma ∧ ma ≤ 255 := of_decide_eq_true hm
      have ht : 0 ≤ tu ∧ tu ≤ 6 := of_decide_eq_true ht
      have hsz : 13 ≤ sz ∧ sz ≤ 2048 := by
        unfold opE at ho
        split at ho
        · split at ho
          · rename_i h; exact of_decide_eq_true h
          · cases ho
        · cases ho
      have key : ∃ (CH OW FI MA TU : Int) (DA : List Nat) (V : List Qd), TF (sz - 12).toNat tu.toNat ma Qs CH OW FI MA TU DA V := by
        by_cases hc : chF tu.toNat Qs 7 = 7
        · exact ⟨_, _, _, _, _, _, _, .fill hc⟩
        · obtain ⟨h1, h2⟩ := chF_ne tu.toNat Qs 7 hc
          have hcl : chF tu.toNat Qs 7 < Qs.length := by omega
          have hqe : Qs[chF tu.toNat Qs 7]? = some Qs[chF tu.toNat Qs 7] := List.getElem?_eq_getElem hcl
          have hge : Qs.getD (chF tu.toNat Qs 7) qd0 = Qs[chF tu.toNat Qs 7] := by rw [List.getD_eq_getElem?_getD, hqe]; rfl
          rw [hge] at h2
          have hmem : Qs[chF tu.toNat Qs 7] ∈ Qs := List.getElem_mem hcl
          have hqq := hq _ hmem
          have hr7 := (hq7 _ hmem).2
          generalize Qs[chF tu.toNat Qs 7] = q at hqe h2 hqq hr7
          unfold quD at hqq
          simp only [Bool.and_eq_true, decide_eq_true_eq, List.all_eq_true] at hqq
          obtain ⟨⟨⟨how, _⟩, _⟩, hgo⟩ := hqq
          have how : 0 ≤ q.ow ∧ q.ow ≤ 255 := of_decide_eq_true how
          rw [if_neg (by omega)] at hgo
          have hgo : 0 ≤ q.go ∧ q.go ≤ ((q.P.getD 0 []).length : Int) - 1 := of_decide_eq_true hgo
          refine ⟨_, _, _, _, _, _, _, .take (chF tu.toNat Qs 7) q.go.toNat (nx (sz - 12).toNat (sz - 12).toNat q.P q.go.toNat).2.2 q (nx (sz - 12).toNat (sz - 12).toNat q.P q.go.toNat).1 (nx (sz - 12).toNat (sz - 12).toNat q.P q.go.toNat).2.1 rfl h1 hqe (by omega) how h2 ⟨Nat.zero_le _, ⟨(sz - 12).toNat, Nat.sub_le _ _, rfl, rfl⟩, fun x hx => ?_, fun x hx => ?_, fun e => by rw [e] at h2; cases h2⟩⟩
          · have := hr7 x hx; omega
          · have e : q.P.getD 0 [] = x := by rw [List.getD_eq_getElem?_getD, hx]; rfl
            rw [e] at hgo
            omega
      obtain ⟨CH, OW, FI, MA, TU, DA, V, hT⟩ := key
      exact ⟨_, _, _, _, _, _, _, .next hS hW (sz - 12).toNat tu.toNat CH OW FI MA TU DA V (by omega) (by omega) hm (by omega) (by omega) hT⟩
theorem seD_sz {cr sz ma tu : Int} {Qs : List Qd} (hS : seD cr sz ma tu Qs = true) : (0 ≤ cr ∧ cr ≤ 1023) ∧ (13 ≤ sz ∧ sz ≤ 2048) := by
  unfold seD at hS
  simp only [Bool.and_eq_true, decide_eq_true_eq, List.all_eq_true] at hS
  have ho := hS.1.1.1.1
  unfold opE at ho
  split at ho
  · rename_i h0
    split at ho
    · rename_i h; exact ⟨of_decide_eq_true h0, of_decide_eq_true h⟩
    · cases ho
  · cases ho
theorem nx_pa {cr sz ma tu st CH OW FI MA TU : Int} {Qs V : List Qd} {room t : Nat} {DA : List Nat} (hS : seD cr sz ma tu Qs = true) (hW : wiB st 4294967295 = true) (hsz : sz = (room : Int) + 12) (hma : 0 ≤ ma ∧ ma ≤ 255) (hT : TF room t ma Qs CH OW FI MA TU DA V) : paE cr CH ma OW FI st room = 0 := by
  obtain ⟨hcr, hz⟩ := seD_sz hS
  have hh : heB cr CH ma OW FI = true := by
    unfold heB
    rw [wiB_t hcr, wiB_t hma]
    rcases hT.inv with ⟨h, rfl, rfl, rfl, rfl, rfl, rfl, rfl⟩ | ⟨ch, g, TG, q, TP, h, hch, hq, hg, h0, hne, hK, rfl, rfl, rfl, rfl, rfl, rfl⟩
    · rfl
    · skip
      rw [wiB_t (n := (ch : Int)) (by omega), wiB_t h0, wiB_t]
      · rfl
      · unfold fiT
        split
        · omega
        · split <;> omega
  unfold paE
  rw [hh, hW, if_pos (by rfl), if_pos]
  exact decide_eq_true (by omega)
theorem beL_len2 (k x : Nat) : (beL k x).length = k := by unfold beL; exact tab_len _ _
theorem nx_fit {cr sz ma tu st r0 r1 r2 r3 : Int} {Qs Q' : List Qd} {Y : List Nat} {Er : Nat} (hN : NX cr sz ma tu Qs st r0 r1 r2 r3 Q' Y Er) (f1 : FitQ 140737488351232 Qs) (f2 : ∀ q, q ∈ Qs → q.P.length * 24 ≤ 140737488351232) (f3 : Qs.length * 40 ≤ 140737488351232) :
    FitQ 140737488351232 Q' ∧ (∀ q, q ∈ Q' → q.P.length * 24 ≤ 140737488351232) ∧ Q'.length * 40 ≤ 140737488351232 ∧ Y.length ≤ 100000 := by
  rcases hN.inv with ⟨hS, rfl, rfl, rfl, rfl, rfl, rfl, rfl⟩ | ⟨hS, hW, rfl, rfl, rfl, rfl, rfl, rfl, rfl⟩ | ⟨hS, hW, room, t, CH, OW, FI, MA, TU, DA, V, hr, hsz, hma, htu, ht, hT, rfl, rfl, rfl, rfl, rfl, rfl, rfl⟩
  · exact ⟨(fun q hq => by cases hq), (fun q hq => by cases hq), by decide, by decide⟩
  · exact ⟨f1, f2, f3, by decide⟩
  · have hD : DA.length ≤ room ∧ FitQ 140737488351232 V ∧ (∀ q, q ∈ V → q.P.length * 24 ≤ 140737488351232) ∧ V.length = Qs.length := by
      rcases hT.inv with ⟨h, rfl, rfl, rfl, rfl, rfl, rfl, rfl⟩ | ⟨ch, g, TG, q, TP, h, hch, hq, hg, h0, hne, hK, rfl, rfl, rfl, rfl, rfl, rfl⟩
      · exact ⟨by rw [List.length_replicate]; exact Nat.le_refl _, f1, f2, rfl⟩
      · skip
        obtain ⟨f, hf, h1, h2⟩ := hK.ex
        obtain ⟨i1, i2, i3⟩ := nx_rows f room q.P g hr.2
        have h1 : (nx f room q.P g).1 = DA := h1
        have h2 : (nx f room q.P g).2 = (TP, TG) := h2
        rw [h1] at i3
        rw [h2] at i1 i2
        have hqm := List.mem_of_getElem? hq
        refine ⟨i3, fun p hp => ?_, fun p hp => ?_, List.length_set⟩
        · rcases List.mem_or_eq_of_mem_set hp with h3 | h3
          · exact f1 p h3
          · subst h3
            intro x hx
            rcases i1 x hx with h4 | h4
            · exact f1 q hqm x h4
            · omega
        · rcases List.mem_or_eq_of_mem_set hp with h3 | h3
          · exact f2 p h3
          · subst h3
            have := f2 q hqm
            have i2 : TP.length ≤ max q.P.length 1 := i2
            show TP.length * 24 ≤ _
            omega
    refine ⟨hD.2.1, hD.2.2.1, by rw [hD.2.2.2]; exact f3, ?_⟩
    unfold pakL
    split
    · unfold paL paA
      simp only [List.length_append, beL_len2, List.length_nil]
      omega
    · exact Nat.zero_le _

/-- 'append(v, r)', v in rows of the call's own, from some place of it on -/
theorem wpList_psO (w : World) {ops : Array Oper} {rest : List Oper} {o : Oper} {a : Act} {Q : Exit → Act → World → Prop} (hg : o.guard = none) (s x : Operand)
    (hop : o.op = Op.call { callee := .builtin .append, args := #[s, x], argTypes := #[81, 81] }) (ao : Option Addr) (m co lo : Nat) (rs : List Rw) (hs : a.eval s = .slice ao m co)
    (hA : OwO w lo ao m co rs) (hlo : lo ≤ w.heap.size) (r : Rw) (b : Nat) (hr : Ans w lo r.a r.n r.c r.D) (hbx : w.cell? ⟨b, 0, none⟩ = some r.v) (hx : a.eval x = .slice (some ⟨b, 0, none⟩) 1 1) (hb : m + 1 ≤ 1000) (hap : ∀ q, q ∈ rs → ∀ y, q.v.ownBlock = some y → r.v.ownBlock ≠ some y)
    (hK : ∀ a' c' w' rr, OwO w' lo a' (m + 1) c' (rs ++ [r]) → w.grownBy w' rr → (∀ y, rr = some y → Hb ao y) → (∀ y, Hb a' y → Hb ao y ∨ w.heap.size ≤ y) → wpList Try.prog ops Q rest (a.put o.dst (.slice a' (m + 1) c')) w') :
    wpList Try.prog ops Q (o :: rest) a w := by
  refine wpList_plain hg fun K hK' => ?_
  have h := step_psRO (ops := ops) (Q := Q) (E := True) (K := K) w hg s x hop ao m co lo rs hs hA.ro hlo r b hr hbx hx hb (fun a' c' w' rr h1 h2 h3 h4 => hK' _ _ (hK a' c' w' rr ⟨h1, List.pairwise_append.2 ⟨hA.apart, List.pairwise_singleton _ _, fun q hq s hs y e => by rw [List.mem_singleton.1 hs]; exact hap q hq y e⟩⟩ h2 h3 h4))
  have hw : Region.wanted o (yielded ops a.tmps) = true := by simp [Region.wanted, hg]
  rw [if_pos hw] at h
  exact h

set_option maxHeartbeats 32000000 in
theorem rn_t33 {u0 u1 u2 u3 u4 u5 u6 u9 u10 u11 u12 u15 u16 u17 u18 u19 u20 u21 u22 u23 u24 u25 u26 u27 u28 u29 u30 u31 u32 u33 u34 u35 u36 u37 u38 u39 u40 u41 u42 u43 u44 u45 u46 u47 u48 u49 u50 u51 u52 u53 u54 u55 u56 u57 u58 u59 u60 u61 u62 u63 u64 u65 u66 u67 u68 u69 u70 u71 u72 u73 u74 u75 u76 u77 u78 u79 u80 u81 u82 u83 u84 u85 u86 u87 u88 u89 u90 u91 u92 u93 u94 u95 u96 u97 u98 u99 u100 u101 u102 u103 u104 u105 u106 u107 u108 u109 u110 u111 u112 u113 u114 u115 u116 u117 u118 u119 u120 u121 u122 u123 u124 u125 u126 u127 u128 u129 u130 u131 u132 u133 u134 u135 u136 u137 u138 u139 u140 u141 u142 u143 u144 u145 u146 u147 u148 u149 u150 u151 u152 u153 u154 u155 u156 u157 u158 u159 u160 u161 u162 u163 u164 u165 u166 u167 u168 u169 u170 u171 u172 u173 u174 u175 u176 u177 u178 u179 u180 u181 u182 u183 : Value} (Q : Exit → Act → World → Prop) (w : World) (lo lo2 gh gQ room gp op n' c' : Nat) (ow : Int) (r : Rw) (rs : List Rw) (ao : Option Addr) (co : Nat) (D : List Nat) (g : Nat) (TB : List Nat) (TP : List (List Nat)) (TG : Nat) (bQ : BxS w gQ 83 #[.int .i64 ow, .slice (some ⟨gp, op, none⟩) n' c', .int .i64 (g : Int)]) (hoo : OwO w lo (some ⟨gp, op, none⟩) n' c' (r :: rs)) (hA : Ans w lo2 ao D.length co D) (hlo2 : lo2 ≤ w.heap.size) (hroom : room ≤ 60000) (hDl : D.length < room) (hK : TK room TB TP TG D ((r :: rs).map Rw.D) g) (hap : ∀ x, Ofo (some ⟨gp, op, none⟩) (r :: rs) x → (Value.slice ao D.length co).ownBlock ≠ some x) (hP : ∀ c a a' wz, a.defers = a'.defers → Q (.panic c) a wz → Q (.panic c) a' wz) (hQ : ∀ (z18 z19 z136 z137 z138 z139 z140 z141 z142 z143 z144 z145 z146 z147 z148 z149 z150 z151 z152 z153 z154 z155 z156 z157 z158 z159 z160 z161 z162 z163 z164 z165 z166 z167 z168 : Value) (w' : World) (ao' : Option Addr) (co' : Nat) (D' : List Nat) (a2 : Option Addr) (n2 c2 : Nat) (rs2 : List Rw) (g2 : Nat), D.length < D'.length → BxS w' gQ 83 #[.int .i64 ow, .slice a2 n2 c2, .int .i64 (g2 : Int)] → OwO w' lo a2 n2 c2 rs2 → Ans w' lo2 ao' D'.length co' D' → TK room TB TP TG D' (rs2.map Rw.D) g2 → (∀ x, Ofo a2 rs2 x → (Value.slice ao' D'.length co').ownBlock ≠ some x) → (∀ x, Ofo a2 rs2 x → Ofo (some ⟨gp, op, none⟩) (r :: rs) x) → Fz (fun x => x = gQ ∨ (Value.slice ao D.length co).ownBlock = some x) w w' → ((g2 = 0 ∧ D'.length = D.length + (r.n - g) ∧ r.n - g ≤ room - D.length) ∨ (D'.length = room ∧ ¬ r.n - g ≤ room - D.length)) → Q .normal (Act.mk (List.toArray (u0 :: u1 :: u2 :: u3 :: u4 :: u5 :: u6 :: (.pointer (some ⟨gh, 0, none⟩)) :: (.int .i64 (room : Int)) :: u9 :: u10 :: u11 :: u12 :: (.pointer (some ⟨gQ, 0, none⟩)) :: (.slice ao' D'.length co') :: u15 :: u16 :: u17 :: z18 :: z19 :: u20 :: u21 :: u22 :: u23 :: u24 :: u25 :: u26 :: u27 :: u28 :: u29 :: u30 :: u31 :: u32 :: u33 :: u34 :: u35 :: u36 :: u37 :: u38 :: u39 :: u40 :: u41 :: u42 :: u43 :: u44 :: u45 :: u46 :: u47 :: u48 :: u49 :: u50 :: u51 :: u52 :: u53 :: u54 :: u55 :: u56 :: u57 :: u58 :: u59 :: u60 :: u61 :: u62 :: u63 :: u64 :: u65 :: u66 :: u67 :: u68 :: u69 :: u70 :: u71 :: u72 :: u73 :: u74 :: u75 :: u76 :: u77 :: u78 :: u79 :: u80 :: u81 :: u82 :: u83 :: u84 :: u85 :: u86 :: u87 :: u88 :: u89 :: u90 :: u91 :: u92 :: u93 :: u94 :: u95 :: u96 :: u97 :: u98 :: u99 :: u100 :: u101 :: u102 :: u103 :: u104 :: u105 :: u106 :: u107 :: u108 :: u109 :: u110 :: u111 :: u112 :: u113 :: u114 :: u115 :: u116 :: u117 :: u118 :: u119 :: u120 :: u121 :: u122 :: u123 :: u124 :: u125 :: u126 :: u127 :: u128 :: u129 :: u130 :: u131 :: u132 :: u133 :: u134 :: u135 :: z136 :: z137 :: z138 :: z139 :: z140 :: z141 :: z142 :: z143 :: z144 :: z145 :: z146 :: z147 :: z148 :: z149 :: z150 :: z151 :: z152 :: z153 :: z154 :: z155 :: z156 :: z157 :: z158 :: z159 :: z160 :: z161 :: z162 :: z163 :: z164 :: z165 :: z166 :: z167 :: z168 :: u169 :: u170 :: u171 :: u172 :: u173 :: u174 :: u175 :: u176 :: u177 :: u178 :: u179 :: u180 :: u181 :: u182 :: u183 :: [])) []) w') :
    Code.wp Try.prog (tailR 33 (Try.f32.body.getD .skip)) Q (Act.mk (List.toArray (u0 :: u1 :: u2 :: u3 :: u4 :: u5 :: u6 :: (.pointer (some ⟨gh, 0, none⟩)) :: (.int .i64 (room : Int)) :: u9 :: u10 :: u11 :: u12 :: (.pointer (some ⟨gQ, 0, none⟩)) :: (.slice ao D.length co) :: u15 :: u16 :: u17 :: u18 :: u19 :: u20 :: u21 :: u22 :: u23 :: u24 :: u25 :: u26 :: u27 :: u28 :: u29 :: u30 :: u31 :: u32 :: u33 :: u34 :: u35 :: u36 :: u37 :: u38 :: u39 :: u40 :: u41 :: u42 :: u43 :: u44 :: u45 :: u46 :: u47 :: u48 :: u49 :: u50 :: u51 :: u52 :: u53 :: u54 :: u55 :: u56 :: u57 :: u58 :: u59 :: u60 :: u61 :: u62 :: u63 :: u64 :: u65 :: u66 :: u67 :: u68 :: u69 :: u70 :: u71 :: u72 :: u73 :: u74 :: u75 :: u76 :: u77 :: u78 :: u79 :: u80 :: u81 :: u82 :: u83 :: u84 :: u85 :: u86 :: u87 :: u88 :: u89 :: u90 :: u91 :: u92 :: u93 :: u94 :: u95 :: u96 :: u97 :: u98 :: u99 :: u100 :: u101 :: u102 :: u103 :: u104 :: u105 :: u106 :: u107 :: u108 :: u109 :: u110 :: u111 :: u112 :: u113 :: u114 :: u115 :: u116 :: u117 :: u118 :: u119 :: u120 :: u121 :: u122 :: u123 :: u124 :: u125 :: u126 :: u127 :: u128 :: u129 :: u130 :: u131 :: u132 :: u133 :: u134 :: u135 :: u136 :: u137 :: u138 :: u139 :: u140 :: u141 :: u142 :: u143 :: u144 :: u145 :: u146 :: u147 :: u148 :: u149 :: u150 :: u151 :: u152 :: u153 :: u154 :: u155 :: u156 :: u157 :: u158 :: u159 :: u160 :: u161 :: u162 :: u163 :: u164 :: u165 :: u166 :: u167 :: u168 :: u169 :: u170 :: u171 :: u172 :: u173 :: u174 :: u175 :: u176 :: u177 :: u178 :: u179 :: u180 :: u181 :: u182 :: u183 :: [])) []) w := by
  let pq : Exit → Act → World → Prop := bodyPost Try.prog Try.f32 (fun _ _ => True)
  conv => enter [2]; whnf
  have HQ : Hid _ := hQ
  clear hQ
  have hln : (r :: rs).length = n' := hoo.ro.len
  have hn1 : 1 ≤ n' := by rw [← hln]; exact Nat.succ_le_succ (Nat.zero_le _)
  have hn1' : (0 : Int) < (n' : Int) := by omega
  have hnc : n' ≤ c' := hoo.ro.max.1
  have hAr := hoo.ro.each r (List.mem_cons_self ..)
  have hrl := hAr.len
  have hg : g < r.n := by have := hK.go r.D rfl; omega
  have hrn : r.n ≤ 100000 := by have := (hK.ne r.D (List.mem_cons_self ..)).2; omega
  have hrle := hAr.max.1
  obtain ⟨br, hra⟩ : ∃ br, r.a = some ⟨br, 0, none⟩ := by
    rcases hAr.cases with ⟨_, h0, _⟩ | ⟨x, e, _⟩
    · omega
    · exact ⟨x, e⟩
  have hcell : ∀ wz : World, OwO wz lo (some ⟨gp, op, none⟩) n' c' (r :: rs) → wz.cell? ⟨gp, op, none⟩ = some (.slice (some ⟨br, 0, none⟩) r.n r.c) := fun wz hz => by
    obtain ⟨_, _, ee, _, hc⟩ := hz.ro.rdr.at' (by omega)
    cases ee
    rw [← hra]
    exact hc 0 (by omega)
  have m1 : ¬ (g : Int) < 0 := by omega
  have m2 : (g : Int) ≤ (r.n : Int) := by omega
  have m3 : ¬ r.c = g := by omega
  have hn0 : ¬ n' = 0 := by omega
  have hqw : gQ < w.heap.size := bQ.lt
  have hgQ : ∀ x, Ofo (some ⟨gp, op, none⟩) (r :: rs) x → x ≠ gQ := fun x hx => hoo.box bQ (by decide) (by decide) hx
  refine wp_seq_k fun K1 hK1 => ?_
  have HK1 : Hid _ := hK1
  clear hK1
  have SD := grown_drew w none
  have bQ1 := bQ.keep SD (by simp)
  have hoo1 := hoo.keep SD
  have SX : (fun wz => wz.cell? ⟨gQ, 1, none⟩ = some (.slice (some ⟨gp, op, none⟩) n' c') ∧ wz.cell? ⟨gQ, 2, none⟩ = some (.int .i64 (g : Int)) ∧ wz.cell? ⟨gp, op, none⟩ = some (.slice (some ⟨br, 0, none⟩) r.n r.c)) w.drew := ⟨(BxS.cell3 bQ1).2.1, (BxS.cell3 bQ1).2.2, hcell _ hoo1⟩
  refine wp_regionL (fun wz => wz.cell? ⟨gQ, 1, none⟩ = some (.slice (some ⟨gp, op, none⟩) n' c') ∧ wz.cell? ⟨gQ, 2, none⟩ = some (.int .i64 (g : Int)) ∧ wz.cell? ⟨gp, op, none⟩ = some (.slice (some ⟨br, 0, none⟩) r.n r.c)) [] #[false, false, false, false, false, false, false, false] rfl (by kernel_rfl) ?_
  refine wpAnyZ_take [] 0 (.pointer (some ⟨gQ, 1, none⟩)) rfl (by kernel_rfl) (fun c a w h => hP c _ _ w (by rfl) h) SX rfl (by rintro wz ⟨y1, y2, y3⟩; go_simp) ?_
  try simp only [List.getElem_toArray, List.getElem_cons_succ, List.getElem_cons_zero, Act.put, List.setIfInBounds_toArray, List.set_cons_zero, List.set_cons_succ]
  refine wpAnyZ_take [] 1 (.slice (some ⟨gp, op, none⟩) n' c') rfl (by kernel_rfl) (fun c a w h => hP c _ _ w (by rfl) h) SX rfl (by rintro wz ⟨y1, y2, y3⟩; go_simp) ?_
  try simp only [List.getElem_toArray, List.getElem_cons_succ, List.getElem_cons_zero, Act.put, List.setIfInBounds_toArray, List.set_cons_zero, List.set_cons_succ]
  refine wpAnyZ_take [] 2 (.pointer (some ⟨gp, op, none⟩)) rfl (by kernel_rfl) (fun c a w h => hP c _ _ w (by rfl) h) SX rfl (by rintro wz ⟨y1, y2, y3⟩; go_simp) ?_
  try simp only [List.getElem_toArray, List.getElem_cons_succ, List.getElem_cons_zero, Act.put, List.setIfInBounds_toArray, List.set_cons_zero, List.set_cons_succ]
  refine wpAnyZ_take [] 3 (.slice (some ⟨br, 0, none⟩) r.n r.c) rfl (by kernel_rfl) (fun c a w h => hP c _ _ w (by rfl) h) SX rfl (by rintro wz ⟨y1, y2, y3⟩; go_simp) ?_
  try simp only [List.getElem_toArray, List.getElem_cons_succ, List.getElem_cons_zero, Act.put, List.setIfInBounds_toArray, List.set_cons_zero, List.set_cons_succ]
  refine wpAnyZ_take [] 4 (.pointer (some ⟨gQ, 2, none⟩)) rfl (by kernel_rfl) (fun c a w h => hP c _ _ w (by rfl) h) SX rfl (by rintro wz ⟨y1, y2, y3⟩; go_simp) ?_
  try simp only [List.getElem_toArray, List.getElem_cons_succ, List.getElem_cons_zero, Act.put, List.setIfInBounds_toArray, List.set_cons_zero, List.set_cons_succ]
  refine wpAnyZ_take [] 5 (.int .i64 (g : Int)) rfl (by kernel_rfl) (fun c a w h => hP c _ _ w (by rfl) h) SX rfl (by rintro wz ⟨y1, y2, y3⟩; go_simp) ?_
  try simp only [List.getElem_toArray, List.getElem_cons_succ, List.getElem_cons_zero, Act.put, List.setIfInBounds_toArray, List.set_cons_zero, List.set_cons_succ]
  refine wpAnyZ_take [] 6 (.slice (some ⟨br, g, none⟩) (r.n - g) (r.c - g)) rfl (by kernel_rfl) (fun c a w h => hP c _ _ w (by rfl) h) SX rfl (by rintro wz ⟨y1, y2, y3⟩; go_simp) ?_
  try simp only [List.getElem_toArray, List.getElem_cons_succ, List.getElem_cons_zero, Act.put, List.setIfInBounds_toArray, List.set_cons_zero, List.set_cons_succ]
  refine wpAnyZ_take [] 7 (.slice (some ⟨br, g, none⟩) (r.n - g) (r.c - g)) rfl (by kernel_rfl) (fun c a w h => hP c _ _ w (by rfl) h) SX rfl (by rintro wz ⟨y1, y2, y3⟩; go_simp) ?_
  try simp only [List.getElem_toArray, List.getElem_cons_succ, List.getElem_cons_zero, Act.put, List.setIfInBounds_toArray, List.set_cons_zero, List.set_cons_succ]
  refine wpAnyZ_doneB (by kernel_rfl) ?_ _
  have hA1 := hA.keep SD
  have hz1 := SD.size
  have hF1 : Fz (fun x => x = gQ ∨ (Value.slice ao D.length co).ownBlock = some x) w w.drew := (Fz.refl _ w).step SD (fun x e _ => by cases e)
  clear SX
  generalize w.drew = w1 at *
  obtain ⟨m, hm⟩ : ∃ m, room - D.length = m := ⟨_, rfl⟩
  obtain ⟨d, hd⟩ : ∃ d, r.n - g = d := ⟨_, rfl⟩
  rw [hd]
  have hwm : IntKind.i64.wrap ((room : Int) - (D.length : Int)) = (m : Int) := by rw [show (room : Int) - (D.length : Int) = (m : Int) by omega]; exact wrap_i64_in _ (by omega) (by omega)
  have hm1 : 1 ≤ m ∧ m ≤ 60000 := by omega
  have hd1 : 1 ≤ d ∧ d ≤ 100000 := by omega
  have hdc : d ≤ r.c - g := by omega
  have hgm : g + m ≤ 200000 := by omega
  have hAr1 := hoo1.ro.each r (List.mem_cons_self ..)
  have hrd1 := hAr1.rd
  rw [hra] at hrd1
  have HM : Hid (room - D.length = m) := hm
  have HDd : Hid (r.n - g = d) := hd
  have HRL : Hid (r.D.length = r.n) := hrl
  clear hm hd hrl
  refine HK1.out _ _ ?_
  clear HK1
  refine wp_seq_k fun K2 hK2 => ?_
  have HK2 : Hid _ := hK2
  clear hK2
  go_wp2
  refine HK2.out _ _ ?_
  clear HK2
  refine wp_seq_k fun K3 hK3 => ?_
  have HK3 : Hid _ := hK3
  clear hK3
  by_cases hle : d ≤ m
  · have hle' : (d : Int) ≤ (m : Int) := by omega
    go_wp2
    refine HK3.out _ _ ?_
    clear HK3
    refine wp_cond_true rfl ?_
    have hpart := hrd1.part2 g d (by have := HDd.out; omega)
    rw [Nat.zero_add] at hpart
    refine wp_seq_k fun K4 hK4 => ?_
    have HK4 : Hid _ := hK4
    clear hK4
    have s0 : True := trivial
    go_wp2_with (have _t := s0; clear s0; refine wpList_joinY rfl _ _ rfl ao D.length co lo2 D rfl hA1 (by omega) (some ⟨br, g, none⟩) d (r.c - g) _ rfl hpart (by omega) (by omega) ?_; intro gx c5 w5 hA5 v5 hgx)
    have hoo5 := hoo1.fz (Fz.ofO v5) (fun x hx e => hap x hx e)
    have bQ5 := bQ1.keep v5 (fun e => hA1.apart bQ1 (by decide) e.symm)
    have hF5 := hF1.step v5 (fun x e _ => .inr e)
    have hll : (D ++ (r.D.drop g).take d).length = D.length + d := by have := HRL.out; have := HDd.out; rw [List.length_append, List.length_take, List.length_drop]; omega
    rw [← hll] at hA5 ⊢
    obtain ⟨D', hD'⟩ : ∃ D', D ++ (r.D.drop g).take d = D' := ⟨_, rfl⟩
    rw [hD'] at hA5 hll ⊢
    have HD : Hid (D ++ (r.D.drop g).take d = D') := hD'
    have HLL : Hid (D'.length = D.length + d) := hll
    clear hD' hll
    have hap5 : ∀ x, Ofo (some ⟨gp, op, none⟩) (r :: rs) x → (Value.slice (some ⟨gx, 0, none⟩) D'.length c5).ownBlock ≠ some x := fun x hx e => by
      have e : gx = x := Option.some.inj e
      rcases hgx with h1 | h1
      · exact hap x hx (by rw [← e]; exact h1)
      · have := (hoo1.lh hx).1; omega
    refine HK4.out _ _ ?_
    clear HK4
    refine wp_seq_k fun K5 hK5 => ?_
    have HK5 : Hid _ := hK5
    clear hK5
    have k1 : ¬ (n' : Int) < 1 := by omega
    have k2 : (1 : Int) ≤ (n' : Int) := by omega
    obtain ⟨c0, c1, c2⟩ := BxS.cell3 bQ5
    have s0 : True := trivial
    go_wp2_with (have _t := s0; clear s0; refine wpList_stC _ rfl _ _ _ rfl gQ 1 83 _ #[.int .i64 ow, .slice (if c' = 1 then some ⟨gp, op, none⟩ else some ⟨gp, op + 1, none⟩) (n' - 1) (c' - 1), .int .i64 (g : Int)] (.slice (if c' = 1 then some ⟨gp, op, none⟩ else some ⟨gp, op + 1, none⟩) (n' - 1) (c' - 1)) rfl rfl bQ5 (stc_rows _ _ _ _ _) (by show 1 < 3; decide) rfl ?_; intro w6 bQ6 v6)
    all_goals (
      clear c0 c1 c2
      have hoo6 := hoo5.tail.fz (Fz.of1 v6) (fun x hx e => hgQ x (ofo_tail hx) e)
      have hA6 := hA5.kept v6 (.inr (fun e => hA5.apart bQ5 (by decide) e))
      have hF6 := hF5.step v6 (fun x e _ => .inl (Option.some.inj e).symm)
      refine HK5.out _ _ ?_
      clear HK5
      have s0 : True := trivial
      go_wp2_with (have _t := s0; clear s0; refine wpList_stC _ rfl _ _ _ rfl gQ 2 83 _ #[.int .i64 ow, .slice (if c' = 1 then some ⟨gp, op, none⟩ else some ⟨gp, op + 1, none⟩) (n' - 1) (c' - 1), .int .i64 0] (.int .i64 0) rfl rfl bQ6 (stc_int _ _ _) (by show 2 < 3; decide) rfl ?_; intro w7 bQ7 v7)
      have hoo7 := hoo6.fz (Fz.of1 v7) (fun x hx e => hgQ x (ofo_tail hx) e)
      have hA7 := hA6.kept v7 (.inr (fun e => hA6.apart bQ6 (by decide) e))
      have hF7 := hF6.step v7 (fun x e _ => .inl (Option.some.inj e).symm)
      have q1 := HM.out
      have q2 := HDd.out
      have q3 := HRL.out
      have q4 := HLL.out
      have e : D ++ r.D.drop g = D' := by rw [← HD.out, List.take_of_length_le (by rw [List.length_drop]; omega)]
      have hTK := hK.all hDl (show r.D.length - g ≤ room - D.length by omega)
      rw [e] at hTK
      exact HQ.out _ _ _ _ _ _ _ _ _ _ _ _ _ _ _ _ _ _ _ _ _ _ _ _ _ _ _ _ _ _ _ _ _ _ _ w7 _ c5 D' _ _ _ rs 0 (by omega) bQ7 hoo7 hA7 hTK (fun x hx => hap5 x (ofo_tail hx)) (fun x hx => ofo_tail hx) hF7 (.inl ⟨rfl, by omega, by omega⟩))
  · have hle' : ¬ (d : Int) ≤ (m : Int) := by omega
    go_wp2
    refine HK3.out _ _ ?_
    clear HK3
    refine wp_cond_false rfl ?_
    have k1 : ¬ (m : Int) < 0 := by omega
    have k2 : (m : Int) ≤ ((r.c - g : Nat) : Int) := by omega
    have k3 : m ≤ r.c - g := by omega
    have hpart := hrd1.part2 g m (by have := HDd.out; omega)
    rw [Nat.zero_add] at hpart
    refine wp_seq_k fun K4 hK4 => ?_
    have HK4 : Hid _ := hK4
    clear hK4
    have s0 : True := trivial
    go_wp2_with (have _t := s0; clear s0; refine wpList_joinY rfl _ _ rfl ao D.length co lo2 D rfl hA1 (by omega) (some ⟨br, g, none⟩) m (r.c - g) _ rfl hpart (by omega) (by omega) ?_; intro gx c5 w5 hA5 v5 hgx)
    have hoo5 := hoo1.fz (Fz.ofO v5) (fun x hx e => hap x hx e)
    have bQ5 := bQ1.keep v5 (fun e => hA1.apart bQ1 (by decide) e.symm)
    have hF5 := hF1.step v5 (fun x e _ => .inr e)
    have hll : (D ++ (r.D.drop g).take m).length = D.length + m := by have := HRL.out; have := HDd.out; rw [List.length_append, List.length_take, List.length_drop]; omega
    rw [← hll] at hA5 ⊢
    obtain ⟨D', hD'⟩ : ∃ D', D ++ (r.D.drop g).take m = D' := ⟨_, rfl⟩
    rw [hD'] at hA5 hll ⊢
    have HD : Hid (D ++ (r.D.drop g).take m = D') := hD'
    have HLL : Hid (D'.length = D.length + m) := hll
    clear hD' hll
    have hap5 : ∀ x, Ofo (some ⟨gp, op, none⟩) (r :: rs) x → (Value.slice (some ⟨gx, 0, none⟩) D'.length c5).ownBlock ≠ some x := fun x hx e => by
      have e : gx = x := Option.some.inj e
      rcases hgx with h1 | h1
      · exact hap x hx (by rw [← e]; exact h1)
      · have := (hoo1.lh hx).1; omega
    refine HK4.out _ _ ?_
    clear HK4
    have hwg : IntKind.i64.wrap ((g : Int) + (m : Int)) = (g : Int) + (m : Int) := wrap_i64_in _ (by omega) (by omega)
    obtain ⟨c0, c1, c2⟩ := BxS.cell3 bQ5
    have s0 : True := trivial
    go_wp2_with (have _t := s0; clear s0; refine wpList_stC _ rfl _ _ _ rfl gQ 2 83 _ #[.int .i64 ow, .slice (some ⟨gp, op, none⟩) n' c', .int .i64 ((g : Int) + (m : Int))] (.int .i64 ((g : Int) + (m : Int))) rfl rfl bQ5 (stc_int _ _ _) (by show 2 < 3; decide) rfl ?_; intro w6 bQ6 v6)
    have hoo6 := hoo5.fz (Fz.of1 v6) (fun x hx e => hgQ x hx e)
    have hA6 := hA5.kept v6 (.inr (fun e => hA5.apart bQ5 (by decide) e))
    have hF6 := hF5.step v6 (fun x e _ => .inl (Option.some.inj e).symm)
    have q1 := HM.out
    have q2 := HDd.out
    have q3 := HRL.out
    have q4 := HLL.out
    have hTK := hK.part hDl (show ¬ r.D.length - g ≤ room - D.length by omega)
    rw [q1, HD.out] at hTK
    exact HQ.out _ _ _ _ _ _ _ _ _ _ _ _ _ _ _ _ _ _ _ _ _ _ _ _ _ _ _ _ _ _ _ _ _ _ _ w6 _ c5 D' _ _ _ (r :: rs) (g + m) (by omega) (by rw [show ((g + m : Nat) : Int) = (g : Int) + (m : Int) by omega]; exact bQ6) hoo6 hA6 hTK hap5 (fun x hx => hx) hF6 (.inr ⟨by omega, by omega⟩)

/-- what First comes to, as long as none is known -/
def fiG (room d x g : Nat) : Int := if room ≤ d then 2047 else if g = 0 then (d : Int) else if x - g < room - d then ((d + (x - g) : Nat) : Int) else 2047
structure FIv (F FI : Int) (room d x g : Nat) : Prop where
  p : (F ≠ 2047 ∧ F = FI) ∨ (F = 2047 ∧ FI = fiG room d x g)
theorem FIv.start {P : List (List Nat)} {g room : Nat} (hr : 1 ≤ room) : FIv 2047 ((fiT P g room : Nat) : Int) room 0 (P.getD 0 []).length g := by
  refine ⟨.inr ⟨rfl, ?_⟩⟩
  unfold fiT fiG
  rw [if_neg (show ¬ room ≤ 0 by omega)]
  by_cases h0 : g = 0
  · simp only [if_pos h0]
  · rw [if_neg h0, if_neg h0, Nat.zero_add, Nat.sub_zero]
    by_cases h1 : (P.getD 0 []).length - g < room
    · rw [if_pos h1, if_pos h1]
    · rw [if_neg h1, if_neg h1]; rfl
theorem FIv.done {F FI : Int} {room x g : Nat} (h : FIv F FI room room x g) : F = FI := by
  rcases h.p with ⟨_, h⟩ | ⟨h, h2⟩
  · exact h
  · rw [h2, h]; unfold fiG; rw [if_pos (Nat.le_refl _)]
/-- known now -/
theorem FIv.set {FI : Int} {room d x g : Nat} (h : FIv 2047 FI room d x g) (hd : d < room) (hr : room ≤ 2040) (hg : g = 0) (room' d' x' g' : Nat) : FIv (d : Int) FI room' d' x' g' := by
  rcases h.p with ⟨h, _⟩ | ⟨_, h⟩
  · exact absurd rfl h
  · refine ⟨.inl ⟨by omega, ?_⟩⟩
    rw [h]; unfold fiG; rw [if_neg (by omega), if_pos hg]
theorem FIv.more {F FI : Int} {room d d' x x' g g' : Nat} (h : FIv F FI room d x g) (hd : d < room) (hg : F = 2047 → g ≠ 0) (hx : (g' = 0 ∧ d' = d + (x - g) ∧ x - g ≤ room - d) ∨ (d' = room ∧ ¬ x - g ≤ room - d)) : FIv F FI room d' x' g' := by
  rcases h.p with h | ⟨h, h2⟩
  · exact ⟨.inl h⟩
  · refine ⟨.inr ⟨h, ?_⟩⟩
    have hg := hg h
    rw [h2]
    unfold fiG
    rw [if_neg (by omega), if_neg hg]
    rcases hx with ⟨h3, h4, h5⟩ | ⟨h3, h4⟩
    · by_cases h6 : x - g < room - d
      · rw [if_pos h6, if_neg (by omega), if_pos h3, h4]
      · rw [if_neg h6, if_pos (by omega)]
    · rw [if_neg (by omega), if_pos (by omega)]
theorem FIv.any {F FI : Int} {room d x g : Nat} (h : FIv F FI room d x g) (hF : F ≠ 2047) (room' d' x' g' : Nat) : FIv F FI room' d' x' g' := by
  rcases h.p with h | ⟨h, _⟩
  · exact ⟨.inl h⟩
  · exact absurd h hF

set_option maxHeartbeats 32000000 in
theorem rn_t31 {u0 u1 u2 u3 u4 u5 u6 u9 u10 u11 u12 u15 u16 u17 u18 u19 u20 u21 u22 u23 u24 u25 u26 u27 u28 u29 u30 u31 u32 u33 u34 u35 u36 u37 u38 u39 u40 u41 u42 u43 u44 u45 u46 u47 u48 u49 u50 u51 u52 u53 u54 u55 u56 u57 u58 u59 u60 u61 u62 u63 u64 u65 u66 u67 u68 u69 u70 u71 u72 u73 u74 u75 u76 u77 u78 u79 u80 u81 u82 u83 u84 u85 u86 u87 u88 u89 u90 u91 u92 u93 u94 u95 u96 u97 u98 u99 u100 u101 u102 u103 u104 u105 u106 u107 u108 u109 u110 u111 u112 u113 u114 u115 u116 u117 u118 u119 u120 u121 u122 u123 u124 u125 u126 u127 u128 u129 u130 u131 u132 u133 u134 u135 u136 u137 u138 u139 u140 u141 u142 u143 u144 u145 u146 u147 u148 u149 u150 u151 u152 u153 u154 u155 u156 u157 u158 u159 u160 u161 u162 u163 u164 u165 u166 u167 u168 u169 u170 u171 u172 u173 u174 u175 u176 u177 u178 u179 u180 u181 u182 u183 : Value} (Q : Exit → Act → World → Prop) (w : World) (lo lo2 gh gQ room gp op n' c' : Nat) (ow : Int) (r : Rw) (rs : List Rw) (ao : Option Addr) (co : Nat) (D : List Nat) (g : Nat) (TB : List Nat) (TP : List (List Nat)) (TG : Nat) (bQ : BxS w gQ 83 #[.int .i64 ow, .slice (some ⟨gp, op, none⟩) n' c', .int .i64 (g : Int)]) (hoo : OwO w lo (some ⟨gp, op, none⟩) n' c' (r :: rs)) (hA : Ans w lo2 ao D.length co D) (hlo2 : lo2 ≤ w.heap.size) (cr CH ma ow1 F FI : Int) (bh : BxS w gh 28 #[.int .i64 cr, .int .i64 CH, .int .i64 ma, .int .i64 ow1, .int .i64 F]) (hroom : room ≤ 2036) (hFI : FIv F FI room D.length r.n g) (hDl : D.length < room) (hK : TK room TB TP TG D ((r :: rs).map Rw.D) g) (hap : ∀ x, Ofo (some ⟨gp, op, none⟩) (r :: rs) x → (Value.slice ao D.length co).ownBlock ≠ some x) (hP : ∀ c a a' wz, a.defers = a'.defers → Q (.panic c) a wz → Q (.panic c) a' wz) (hQ : ∀ (z18 z19 z125 z126 z127 z128 z129 z130 z131 z132 z133 z134 z135 z136 z137 z138 z139 z140 z141 z142 z143 z144 z145 z146 z147 z148 z149 z150 z151 z152 z153 z154 z155 z156 z157 z158 z159 z160 z161 z162 z163 z164 z165 z166 z167 z168 : Value) (w' : World) (F2 : Int) (ao' : Option Addr) (co' : Nat) (D' : List Nat) (a2 : Option Addr) (n2 c2 : Nat) (rs2 : List Rw) (g2 : Nat), D.length < D'.length → BxS w' gh 28 #[.int .i64 cr, .int .i64 CH, .int .i64 ma, .int .i64 ow1, .int .i64 F2] → FIv F2 FI room D'.length ((rs2.map Rw.D).getD 0 []).length g2 → BxS w' gQ 83 #[.int .i64 ow, .slice a2 n2 c2, .int .i64 (g2 : Int)] → OwO w' lo a2 n2 c2 rs2 → Ans w' lo2 ao' D'.length co' D' → TK room TB TP TG D' (rs2.map Rw.D) g2 → (∀ x, Ofo a2 rs2 x → (Value.slice ao' D'.length co').ownBlock ≠ some x) → (∀ x, Ofo a2 rs2 x → Ofo (some ⟨gp, op, none⟩) (r :: rs) x) → Fz (fun x => x = gh ∨ x = gQ ∨ (Value.slice ao D.length co).ownBlock = some x) w w' → Q .normal (Act.mk (List.toArray (u0 :: u1 :: u2 :: u3 :: u4 :: u5 :: u6 :: (.pointer (some ⟨gh, 0, none⟩)) :: (.int .i64 (room : Int)) :: u9 :: u10 :: u11 :: u12 :: (.pointer (some ⟨gQ, 0, none⟩)) :: (.slice ao' D'.length co') :: u15 :: u16 :: u17 :: z18 :: z19 :: u20 :: u21 :: u22 :: u23 :: u24 :: u25 :: u26 :: u27 :: u28 :: u29 :: u30 :: u31 :: u32 :: u33 :: u34 :: u35 :: u36 :: u37 :: u38 :: u39 :: u40 :: u41 :: u42 :: u43 :: u44 :: u45 :: u46 :: u47 :: u48 :: u49 :: u50 :: u51 :: u52 :: u53 :: u54 :: u55 :: u56 :: u57 :: u58 :: u59 :: u60 :: u61 :: u62 :: u63 :: u64 :: u65 :: u66 :: u67 :: u68 :: u69 :: u70 :: u71 :: u72 :: u73 :: u74 :: u75 :: u76 :: u77 :: u78 :: u79 :: u80 :: u81 :: u82 :: u83 :: u84 :: u85 :: u86 :: u87 :: u88 :: u89 :: u90 :: u91 :: u92 :: u93 :: u94 :: u95 :: u96 :: u97 :: u98 :: u99 :: u100 :: u101 :: u102 :: u103 :: u104 :: u105 :: u106 :: u107 :: u108 :: u109 :: u110 :: u111 :: u112 :: u113 :: u114 :: u115 :: u116 :: u117 :: u118 :: u119 :: u120 :: u121 :: u122 :: u123 :: u124 :: z125 :: z126 :: z127 :: z128 :: z129 :: z130 :: z131 :: z132 :: z133 :: z134 :: z135 :: z136 :: z137 :: z138 :: z139 :: z140 :: z141 :: z142 :: z143 :: z144 :: z145 :: z146 :: z147 :: z148 :: z149 :: z150 :: z151 :: z152 :: z153 :: z154 :: z155 :: z156 :: z157 :: z158 :: z159 :: z160 :: z161 :: z162 :: z163 :: z164 :: z165 :: z166 :: z167 :: z168 :: u169 :: u170 :: u171 :: u172 :: u173 :: u174 :: u175 :: u176 :: u177 :: u178 :: u179 :: u180 :: u181 :: u182 :: u183 :: [])) []) w') :
    Code.wp Try.prog (tailR 31 (Try.f32.body.getD .skip)) Q (Act.mk (List.toArray (u0 :: u1 :: u2 :: u3 :: u4 :: u5 :: u6 :: (.pointer (some ⟨gh, 0, none⟩)) :: (.int .i64 (room : Int)) :: u9 :: u10 :: u11 :: u12 :: (.pointer (some ⟨gQ, 0, none⟩)) :: (.slice ao D.length co) :: u15 :: u16 :: u17 :: u18 :: u19 :: u20 :: u21 :: u22 :: u23 :: u24 :: u25 :: u26 :: u27 :: u28 :: u29 :: u30 :: u31 :: u32 :: u33 :: u34 :: u35 :: u36 :: u37 :: u38 :: u39 :: u40 :: u41 :: u42 :: u43 :: u44 :: u45 :: u46 :: u47 :: u48 :: u49 :: u50 :: u51 :: u52 :: u53 :: u54 :: u55 :: u56 :: u57 :: u58 :: u59 :: u60 :: u61 :: u62 :: u63 :: u64 :: u65 :: u66 :: u67 :: u68 :: u69 :: u70 :: u71 :: u72 :: u73 :: u74 :: u75 :: u76 :: u77 :: u78 :: u79 :: u80 :: u81 :: u82 :: u83 :: u84 :: u85 :: u86 :: u87 :: u88 :: u89 :: u90 :: u91 :: u92 :: u93 :: u94 :: u95 :: u96 :: u97 :: u98 :: u99 :: u100 :: u101 :: u102 :: u103 :: u104 :: u105 :: u106 :: u107 :: u108 :: u109 :: u110 :: u111 :: u112 :: u113 :: u114 :: u115 :: u116 :: u117 :: u118 :: u119 :: u120 :: u121 :: u122 :: u123 :: u124 :: u125 :: u126 :: u127 :: u128 :: u129 :: u130 :: u131 :: u132 :: u133 :: u134 :: u135 :: u136 :: u137 :: u138 :: u139 :: u140 :: u141 :: u142 :: u143 :: u144 :: u145 :: u146 :: u147 :: u148 :: u149 :: u150 :: u151 :: u152 :: u153 :: u154 :: u155 :: u156 :: u157 :: u158 :: u159 :: u160 :: u161 :: u162 :: u163 :: u164 :: u165 :: u166 :: u167 :: u168 :: u169 :: u170 :: u171 :: u172 :: u173 :: u174 :: u175 :: u176 :: u177 :: u178 :: u179 :: u180 :: u181 :: u182 :: u183 :: [])) []) w := by
  let pq : Exit → Act → World → Prop := bodyPost Try.prog Try.f32 (fun _ _ => True)
  conv => enter [2]; whnf
  have HQ : Hid _ := hQ
  clear hQ
  have hne : gh ≠ gQ := BxS.apart bh bQ (by decide)
  have HFI : Hid _ := hFI
  clear hFI
  refine wp_seq_k fun K1 hK1 => ?_
  have HK1 : Hid _ := hK1
  clear hK1
  obtain ⟨c0, c1, c2⟩ := BxS.cell3 bQ
  obtain ⟨x0, x1, x2, x3, x4⟩ := BxS.cell5 bh
  by_cases hg0 : g = 0
  · by_cases hF : F = 2047
    · have hg0' : ((g : Int) == 0) = true := by rw [hg0]; rfl
      have HG0 : Hid (g = 0) := hg0
      clear hg0
      subst hF
      refine wp_seq_k fun K2 hK2 => ?_
      have HK2 : Hid _ := hK2
      clear hK2
      go_wp2
      refine HK2.out _ _ ?_
      clear HK2
      refine wp_cond_true rfl ?_
      have s0 : True := trivial
      go_wp2_with (have _t := s0; clear s0; refine wpList_stC _ rfl _ _ _ rfl gh 4 28 _ #[.int .i64 cr, .int .i64 CH, .int .i64 ma, .int .i64 ow1, .int .i64 (D.length : Int)] (.int .i64 (D.length : Int)) rfl rfl bh (stc_int _ _ _) (by show 4 < 5; decide) rfl ?_; intro w1 bh1 v1)
      have bQ1 := bQ.keep v1 (fun e => hne (Option.some.inj e).symm)
      have hoo1 := hoo.fz (Fz.of1 v1) (fun x hx e => hoo.box bh (by decide) (by decide) hx e)
      have hA1 := hA.kept v1 (.inr (fun e => hA.apart bh (by decide) e))
      refine HK1.out _ _ ?_
      clear HK1
      refine rn_t33 Q w1 lo lo2 gh gQ room gp op n' c' ow r rs ao co D g TB TP TG bQ1 hoo1 hA1 (Nat.le_trans hlo2 v1.size) (by omega) hDl hK hap hP ?_
      intro z18 z19 z136 z137 z138 z139 z140 z141 z142 z143 z144 z145 z146 z147 z148 z149 z150 z151 z152 z153 z154 z155 z156 z157 z158 z159 z160 z161 z162 z163 z164 z165 z166 z167 z168 w' ao' co' D' a2 n2 c2 rs2 g2 h1 h2 h3 h4 h5 h6 h7 h8 h9
      have bh' := bh1.fz h8 (fun e => e.elim hne (fun e => hA.apart bh (by decide) e))
      exact HQ.out _ _ _ _ _ _ _ _ _ _ _ _ _ _ _ _ _ _ _ _ _ _ _ _ _ _ _ _ _ _ _ _ _ _ _ _ _ _ _ _ _ _ _ _ _ _ w' _ ao' co' D' a2 n2 c2 rs2 g2 h1 bh' (HFI.out.set hDl (by omega) HG0.out _ _ _ _) h2 h3 h4 h5 h6 h7 (((Fz.of1 v1).more (fun x e => .inl e)).trans h8 (fun x _ e => .inr e))
    · have hg0' : ((g : Int) == 0) = true := by rw [hg0]; rfl
      have HG0 : Hid (g = 0) := hg0
      clear hg0
      have hF' : (F == 2047) = false := by simp [hF]
      refine wp_seq_k fun K2 hK2 => ?_
      have HK2 : Hid _ := hK2
      clear hK2
      go_wp2
      refine HK2.out _ _ ?_
      clear HK2
      refine wp_cond_false rfl ?_
      refine wp_skip ?_
      refine HK1.out _ _ ?_
      clear HK1
      refine rn_t33 Q w lo lo2 gh gQ room gp op n' c' ow r rs ao co D g TB TP TG bQ hoo hA hlo2 (by omega) hDl hK hap hP ?_
      intro z18 z19 z136 z137 z138 z139 z140 z141 z142 z143 z144 z145 z146 z147 z148 z149 z150 z151 z152 z153 z154 z155 z156 z157 z158 z159 z160 z161 z162 z163 z164 z165 z166 z167 z168 w' ao' co' D' a2 n2 c2 rs2 g2 h1 h2 h3 h4 h5 h6 h7 h8 h9
      have bh' := bh.fz h8 (fun e => e.elim hne (fun e => hA.apart bh (by decide) e))
      exact HQ.out _ _ _ _ _ _ _ _ _ _ _ _ _ _ _ _ _ _ _ _ _ _ _ _ _ _ _ _ _ _ _ _ _ _ _ _ _ _ _ _ _ _ _ _ _ _ w' F ao' co' D' a2 n2 c2 rs2 g2 h1 bh' (HFI.out.any hF _ _ _ _) h2 h3 h4 h5 h6 h7 (h8.more (fun x e => .inr e))
  · have hg0' : ((g : Int) == 0) = false := by simp; omega
    refine wp_seq_k fun K2 hK2 => ?_
    have HK2 : Hid _ := hK2
    clear hK2
    go_wp2
    refine HK2.out _ _ ?_
    clear HK2
    refine wp_cond_false rfl ?_
    refine wp_skip ?_
    refine HK1.out _ _ ?_
    clear HK1
    refine rn_t33 Q w lo lo2 gh gQ room gp op n' c' ow r rs ao co D g TB TP TG bQ hoo hA hlo2 (by omega) hDl hK hap hP ?_
    intro z18 z19 z136 z137 z138 z139 z140 z141 z142 z143 z144 z145 z146 z147 z148 z149 z150 z151 z152 z153 z154 z155 z156 z157 z158 z159 z160 z161 z162 z163 z164 z165 z166 z167 z168 w' ao' co' D' a2 n2 c2 rs2 g2 h1 h2 h3 h4 h5 h6 h7 h8 h9
    have bh' := bh.fz h8 (fun e => e.elim hne (fun e => hA.apart bh (by decide) e))
    exact HQ.out _ _ _ _ _ _ _ _ _ _ _ _ _ _ _ _ _ _ _ _ _ _ _ _ _ _ _ _ _ _ _ _ _ _ _ _ _ _ _ _ _ _ _ _ _ _ w' F ao' co' D' a2 n2 c2 rs2 g2 h1 bh' (HFI.out.more hDl (fun _ => hg0) h9) h2 h3 h4 h5 h6 h7 (h8.more (fun x e => .inr e))

theorem FIv.g0 {F FI : Int} {room d x : Nat} (h : FIv F FI room d x 0) (x' : Nat) : FIv F FI room d x' 0 := by
  rcases h.p with h | ⟨h, h2⟩
  · exact ⟨.inl h⟩
  · refine ⟨.inr ⟨h, ?_⟩⟩
    rw [h2]; unfold fiG; rfl

set_option maxHeartbeats 32000000 in
theorem rn_t25 {u0 u1 u2 u3 u4 u5 u6 u9 u10 u11 u12 u15 u16 u17 u18 u19 u20 u21 u22 u23 u24 u25 u26 u27 u28 u29 u30 u31 u32 u33 u34 u35 u36 u37 u38 u39 u40 u41 u42 u43 u44 u45 u46 u47 u48 u49 u50 u51 u52 u53 u54 u55 u56 u57 u58 u59 u60 u61 u62 u63 u64 u65 u66 u67 u68 u69 u70 u71 u72 u73 u74 u75 u76 u77 u78 u79 u80 u81 u82 u83 u84 u85 u86 u87 u88 u89 u90 u91 u92 u93 u94 u95 u96 u97 u98 u99 u100 u101 u102 u103 u104 u105 u106 u107 u108 u109 u110 u111 u112 u113 u114 u115 u116 u117 u118 u119 u120 u121 u122 u123 u124 u125 u126 u127 u128 u129 u130 u131 u132 u133 u134 u135 u136 u137 u138 u139 u140 u141 u142 u143 u144 u145 u146 u147 u148 u149 u150 u151 u152 u153 u154 u155 u156 u157 u158 u159 u160 u161 u162 u163 u164 u165 u166 u167 u168 u169 u170 u171 u172 u173 u174 u175 u176 u177 u178 u179 u180 u181 u182 u183 : Value} (Q : Exit → Act → World → Prop) (w : World) (lo lo2 gh gQ room n c : Nat) (a : Option Addr) (ow : Int) (rs : List Rw) (ao : Option Addr) (co : Nat) (D : List Nat) (g : Nat) (TB : List Nat) (TP : List (List Nat)) (TG : Nat) (bQ : BxS w gQ 83 #[.int .i64 ow, .slice a n c, .int .i64 (g : Int)]) (hoo : OwO w lo a n c rs) (hA : Ans w lo2 ao D.length co D) (hlo2 : lo2 ≤ w.heap.size) (hlo : lo ≤ w.heap.size) (cr CH ma ow1 F FI : Int) (bh : BxS w gh 28 #[.int .i64 cr, .int .i64 CH, .int .i64 ma, .int .i64 ow1, .int .i64 F]) (hroom : room ≤ 2036) (hFI : FIv F FI room D.length ((rs.map Rw.D).getD 0 []).length g) (hDl : D.length < room) (hK : TK room TB TP TG D (rs.map Rw.D) g) (hap : ∀ x, Ofo a rs x → (Value.slice ao D.length co).ownBlock ≠ some x) (hP : ∀ c a a' wz, a.defers = a'.defers → Q (.panic c) a wz → Q (.panic c) a' wz) (hQ : ∀ (z15 z16 z17 z18 z19 z104 z105 z106 z107 z108 z109 z110 z111 z112 z113 z114 z115 z116 z117 z118 z119 z120 z121 z122 z123 z124 z125 z126 z127 z128 z129 z130 z131 z132 z133 z134 z135 z136 z137 z138 z139 z140 z141 z142 z143 z144 z145 z146 z147 z148 z149 z150 z151 z152 z153 z154 z155 z156 z157 z158 z159 z160 z161 z162 z163 z164 z165 z166 z167 z168 : Value) (w' : World) (F2 : Int) (ao' : Option Addr) (co' : Nat) (D' : List Nat) (a2 : Option Addr) (n2 c2 : Nat) (rs2 : List Rw) (g2 : Nat), D.length < D'.length → BxS w' gh 28 #[.int .i64 cr, .int .i64 CH, .int .i64 ma, .int .i64 ow1, .int .i64 F2] → FIv F2 FI room D'.length ((rs2.map Rw.D).getD 0 []).length g2 → BxS w' gQ 83 #[.int .i64 ow, .slice a2 n2 c2, .int .i64 (g2 : Int)] → OwO w' lo a2 n2 c2 rs2 → Ans w' lo2 ao' D'.length co' D' → TK room TB TP TG D' (rs2.map Rw.D) g2 → (∀ x, Ofo a2 rs2 x → (Value.slice ao' D'.length co').ownBlock ≠ some x) → (∀ x, Ofo a2 rs2 x → Ofo a rs x ∨ w.heap.size ≤ x) → Fz (fun x => x = gh ∨ x = gQ ∨ (Value.slice ao D.length co).ownBlock = some x ∨ Hb a x) w w' → Q .normal (Act.mk (List.toArray (u0 :: u1 :: u2 :: u3 :: u4 :: u5 :: u6 :: (.pointer (some ⟨gh, 0, none⟩)) :: (.int .i64 (room : Int)) :: u9 :: u10 :: u11 :: u12 :: (.pointer (some ⟨gQ, 0, none⟩)) :: (.slice ao' D'.length co') :: z15 :: z16 :: z17 :: z18 :: z19 :: u20 :: u21 :: u22 :: u23 :: u24 :: u25 :: u26 :: u27 :: u28 :: u29 :: u30 :: u31 :: u32 :: u33 :: u34 :: u35 :: u36 :: u37 :: u38 :: u39 :: u40 :: u41 :: u42 :: u43 :: u44 :: u45 :: u46 :: u47 :: u48 :: u49 :: u50 :: u51 :: u52 :: u53 :: u54 :: u55 :: u56 :: u57 :: u58 :: u59 :: u60 :: u61 :: u62 :: u63 :: u64 :: u65 :: u66 :: u67 :: u68 :: u69 :: u70 :: u71 :: u72 :: u73 :: u74 :: u75 :: u76 :: u77 :: u78 :: u79 :: u80 :: u81 :: u82 :: u83 :: u84 :: u85 :: u86 :: u87 :: u88 :: u89 :: u90 :: u91 :: u92 :: u93 :: u94 :: u95 :: u96 :: u97 :: u98 :: u99 :: u100 :: u101 :: u102 :: u103 :: z104 :: z105 :: z106 :: z107 :: z108 :: z109 :: z110 :: z111 :: z112 :: z113 :: z114 :: z115 :: z116 :: z117 :: z118 :: z119 :: z120 :: z121 :: z122 :: z123 :: z124 :: z125 :: z126 :: z127 :: z128 :: z129 :: z130 :: z131 :: z132 :: z133 :: z134 :: z135 :: z136 :: z137 :: z138 :: z139 :: z140 :: z141 :: z142 :: z143 :: z144 :: z145 :: z146 :: z147 :: z148 :: z149 :: z150 :: z151 :: z152 :: z153 :: z154 :: z155 :: z156 :: z157 :: z158 :: z159 :: z160 :: z161 :: z162 :: z163 :: z164 :: z165 :: z166 :: z167 :: z168 :: u169 :: u170 :: u171 :: u172 :: u173 :: u174 :: u175 :: u176 :: u177 :: u178 :: u179 :: u180 :: u181 :: u182 :: u183 :: [])) []) w') :
    Code.wp Try.prog (tailR 25 (Try.f32.body.getD .skip)) Q (Act.mk (List.toArray (u0 :: u1 :: u2 :: u3 :: u4 :: u5 :: u6 :: (.pointer (some ⟨gh, 0, none⟩)) :: (.int .i64 (room : Int)) :: u9 :: u10 :: u11 :: u12 :: (.pointer (some ⟨gQ, 0, none⟩)) :: (.slice ao D.length co) :: u15 :: u16 :: u17 :: u18 :: u19 :: u20 :: u21 :: u22 :: u23 :: u24 :: u25 :: u26 :: u27 :: u28 :: u29 :: u30 :: u31 :: u32 :: u33 :: u34 :: u35 :: u36 :: u37 :: u38 :: u39 :: u40 :: u41 :: u42 :: u43 :: u44 :: u45 :: u46 :: u47 :: u48 :: u49 :: u50 :: u51 :: u52 :: u53 :: u54 :: u55 :: u56 :: u57 :: u58 :: u59 :: u60 :: u61 :: u62 :: u63 :: u64 :: u65 :: u66 :: u67 :: u68 :: u69 :: u70 :: u71 :: u72 :: u73 :: u74 :: u75 :: u76 :: u77 :: u78 :: u79 :: u80 :: u81 :: u82 :: u83 :: u84 :: u85 :: u86 :: u87 :: u88 :: u89 :: u90 :: u91 :: u92 :: u93 :: u94 :: u95 :: u96 :: u97 :: u98 :: u99 :: u100 :: u101 :: u102 :: u103 :: u104 :: u105 :: u106 :: u107 :: u108 :: u109 :: u110 :: u111 :: u112 :: u113 :: u114 :: u115 :: u116 :: u117 :: u118 :: u119 :: u120 :: u121 :: u122 :: u123 :: u124 :: u125 :: u126 :: u127 :: u128 :: u129 :: u130 :: u131 :: u132 :: u133 :: u134 :: u135 :: u136 :: u137 :: u138 :: u139 :: u140 :: u141 :: u142 :: u143 :: u144 :: u145 :: u146 :: u147 :: u148 :: u149 :: u150 :: u151 :: u152 :: u153 :: u154 :: u155 :: u156 :: u157 :: u158 :: u159 :: u160 :: u161 :: u162 :: u163 :: u164 :: u165 :: u166 :: u167 :: u168 :: u169 :: u170 :: u171 :: u172 :: u173 :: u174 :: u175 :: u176 :: u177 :: u178 :: u179 :: u180 :: u181 :: u182 :: u183 :: [])) []) w := by
  let pq : Exit → Act → World → Prop := bodyPost Try.prog Try.f32 (fun _ _ => True)
  conv => enter [2]; whnf
  have HQ : Hid _ := hQ
  clear hQ
  have hln := hoo.ro.len
  have HFI : Hid _ := hFI
  clear hFI
  refine wp_seq_k fun K1 hK1 => ?_
  have HK1 : Hid _ := hK1
  clear hK1
  obtain ⟨c0, c1, c2⟩ := BxS.cell3 bQ
  by_cases h0 : n = 0
  · have hrs0 : rs = [] := List.eq_nil_of_length_eq_zero (by omega)
    subst h0 hrs0
    obtain ⟨hg0, hKf⟩ := hK.fill hDl (by omega)
    subst hg0
    obtain ⟨m, hm⟩ : ∃ m, room - D.length = m := ⟨_, rfl⟩
    have hwm : IntKind.i64.wrap ((room : Int) - (D.length : Int)) = (m : Int) := by rw [show (room : Int) - (D.length : Int) = (m : Int) by omega]; exact wrap_i64_in _ (by omega) (by omega)
    have hm1 : 1 ≤ m ∧ m ≤ 60000 := by omega
    have hways : ∃ mx : Nat, max m 7 = mx ∧ ((mx = 7 ∧ m < 7) ∨ (mx = m ∧ 7 ≤ m)) := ⟨max m 7, rfl, by omega⟩
    obtain ⟨mx, hmx, hways⟩ := hways
    have hkF := fun wz => filler_any (mx : Int) wz
    have hE0 : filE (mx : Int) = 0 := by unfold filE; rw [if_pos (by omega)]
    have hFl : (filL (mx : Int)).length = mx := by have := nxF_len m hm1.2; unfold nxF at this; rw [hmx] at this; exact this
    have hKf : TK room TB TP TG D [filL (mx : Int)] 0 := by have h := hKf; rw [hm] at h; unfold nxF at h; rw [hmx] at h; exact h
    rw [hE0] at hkF
    have HM : Hid (room - D.length = m) := hm
    clear hE0 hmx hm
    generalize filL (mx : Int) = FB at *
    have HFl : Hid (FB.length = mx) := hFl
    clear hFl
    refine wp_seq_k fun K2 hK2 => ?_
    have HK2 : Hid _ := hK2
    clear hK2
    go_wp2
    refine HK2.out _ _ ?_
    clear HK2
    refine wp_cond_true rfl ?_
    rcases hways with ⟨rfl, hw1⟩ | ⟨rfl, hw1⟩
    · have k3 : (m : Int) < 7 := by omega
      have s0 : True := trivial
      go_wp2_with (first
        | (go_at_call 60; have _t := s0; clear s0; refine (hkF _).mono ?_; rintro e w5 ⟨a5, n5, c5, rfl, hA5, y5⟩; have z5 := y5.size; clear c0 c1 c2; have bQ5 := bQ.keep y5 (by simp); obtain ⟨c0, c1, c2⟩ := BxS.cell3 bQ5; have gA := World.grownBy_alloc w5 (.cells #[.slice a5 n5 c5] 22) none; have hbx : (w5.alloc (.cells #[.slice a5 n5 c5] 22)).cell? ⟨w5.heap.size, 0, none⟩ = some (Rw.v ⟨a5, n5, c5, FB⟩) := (BxS.new w5 22 #[.slice a5 n5 c5]).cell 0 (by show 0 < 1; decide); have s1 : True := trivial)
        | (have _t := s1; clear s1; refine wpList_psO _ rfl _ _ rfl a 0 c lo [] rfl ((hoo.keep y5).keep gA) (by have := gA.size; omega) ⟨a5, n5, c5, FB⟩ w5.heap.size ((hA5.wide (show lo ≤ w.heap.size by omega)).keep gA) hbx rfl (by decide) (fun q hq => by cases hq) ?_; intro a6 c6 w6 rr hoo6 v6 hrr hHb; have bQ6 := (bQ5.keep gA (by simp)).keep v6 (fun e => by obtain ⟨o', s', e'⟩ := hrr _ e.symm; exact hoo.box bQ (by decide) (by decide) (.inl ⟨o', s', e'⟩) rfl); have s2 : True := trivial)
        | (have _t := s2; clear s2; refine wpList_stC _ rfl _ _ _ rfl gQ 1 83 _ #[.int .i64 ow, .slice a6 1 c6, .int .i64 0] (.slice a6 1 c6) rfl rfl bQ6 (stc_rows _ _ _ _ _) (by show 1 < 3; decide) rfl ?_; intro w7 bQ7 v7))
      have hsA := gA.size
      have hs6 := v6.size
      have hs7 := v7.size
      have hn5 := hA5.len
      have hHb7 : ∀ x, Ofo a6 [⟨a5, n5, c5, FB⟩] x → Hb a x ∨ w.heap.size ≤ x := fun x hx => by
        rcases hx with hx | ⟨r, hr, hx⟩
        · rcases hHb x hx with h | h
          · exact .inl h
          · exact .inr (by omega)
        · rw [List.mem_singleton.1 hr] at hx
          exact .inr (hA5.new x hx)
      have hoo7 : OwO w7 lo a6 1 c6 [⟨a5, n5, c5, FB⟩] := hoo6.fz (Fz.of1 v7) (fun x hx e => hoo6.box bQ6 (by decide) (by decide) hx e)
      have hA6 := ((hA.keep y5).keep gA).kept v6 (by
        cases hown : (Value.slice ao D.length co).ownBlock with
        | none => exact .inl rfl
        | some z => exact .inr (fun e => hap z (.inl (hrr z e.symm)) hown))
      have hA7 := hA6.kept v7 (.inr (fun e => hA6.apart bQ6 (by decide) e))
      have hne : gh ≠ gQ := BxS.apart bh bQ (by decide)
      have bh7 := (((bh.keep y5 (by simp)).keep gA (by simp)).keep v6 (fun e => hoo.box bh (by decide) (by decide) (.inl (hrr _ e.symm)) rfl)).keep v7 (fun e => hne (Option.some.inj e))
      have hap7 : ∀ x, Ofo a6 [⟨a5, n5, c5, FB⟩] x → (Value.slice ao D.length co).ownBlock ≠ some x := fun x hx e => by
        rcases hHb7 x hx with h | h
        · exact hap x (.inl h) e
        · have := hA.ltB e; omega
      have hF7 : Fz (fun x => x = gh ∨ x = gQ ∨ (Value.slice ao D.length co).ownBlock = some x ∨ Hb a x) w w7 := ((((Fz.refl _ w).step y5 (fun x e _ => by cases e)).step gA (fun x e _ => by cases e)).step v6 (fun x e _ => .inr (.inr (.inr (hrr x e))))).step v7 (fun x e _ => .inr (.inl (Option.some.inj e).symm))
      obtain ⟨gp, op, rfl⟩ : ∃ gp op, a6 = some ⟨gp, op, none⟩ := by
        rcases hoo7.ro.at' with ⟨_, h1, _⟩ | ⟨g, o, cur, e, _⟩
        · cases h1
        · exact ⟨g, o, e⟩
      refine HK1.out _ _ ?_
      clear HK1
      refine rn_t31 Q w7 lo lo2 gh gQ room gp op 1 c6 ow ⟨a5, n5, c5, FB⟩ [] ao co D 0 TB TP TG bQ7 hoo7 hA7 (by omega) cr CH ma ow1 F FI bh7 hroom (HFI.out.g0 _) hDl hKf hap7 hP ?_
      intro z18 z19 z125 z126 z127 z128 z129 z130 z131 z132 z133 z134 z135 z136 z137 z138 z139 z140 z141 z142 z143 z144 z145 z146 z147 z148 z149 z150 z151 z152 z153 z154 z155 z156 z157 z158 z159 z160 z161 z162 z163 z164 z165 z166 z167 z168 w' F2 ao' co' D' a2 n2 c2 rs2 g2 h1 hb2 hf2 h2 h3 h4 h5 h6 h7 h8
      exact HQ.out _ _ _ _ _ _ _ _ _ _ _ _ _ _ _ _ _ _ _ _ _ _ _ _ _ _ _ _ _ _ _ _ _ _ _ _ _ _ _ _ _ _ _ _ _ _ _ _ _ _ _ _ _ _ _ _ _ _ _ _ _ _ _ _ _ _ _ _ _ _ w' F2 ao' co' D' a2 n2 c2 rs2 g2 h1 hb2 hf2 h2 h3 h4 h5 h6 (fun x hx => (hHb7 x (h7 x hx)).elim (fun h => .inl (.inl h)) .inr) (hF7.trans h8 (fun x _ e => e.elim .inl (fun e => .inr (e.elim .inl (fun e => .inr (.inl e))))))
    · have k3 : ¬ (mx : Int) < 7 := by omega
      have s0 : True := trivial
      go_wp2_with (first
        | (go_at_call 60; have _t := s0; clear s0; refine (hkF _).mono ?_; rintro e w5 ⟨a5, n5, c5, rfl, hA5, y5⟩; have z5 := y5.size; clear c0 c1 c2; have bQ5 := bQ.keep y5 (by simp); obtain ⟨c0, c1, c2⟩ := BxS.cell3 bQ5; have gA := World.grownBy_alloc w5 (.cells #[.slice a5 n5 c5] 22) none; have hbx : (w5.alloc (.cells #[.slice a5 n5 c5] 22)).cell? ⟨w5.heap.size, 0, none⟩ = some (Rw.v ⟨a5, n5, c5, FB⟩) := (BxS.new w5 22 #[.slice a5 n5 c5]).cell 0 (by show 0 < 1; decide); have s1 : True := trivial)
        | (have _t := s1; clear s1; refine wpList_psO _ rfl _ _ rfl a 0 c lo [] rfl ((hoo.keep y5).keep gA) (by have := gA.size; omega) ⟨a5, n5, c5, FB⟩ w5.heap.size ((hA5.wide (show lo ≤ w.heap.size by omega)).keep gA) hbx rfl (by decide) (fun q hq => by cases hq) ?_; intro a6 c6 w6 rr hoo6 v6 hrr hHb; have bQ6 := (bQ5.keep gA (by simp)).keep v6 (fun e => by obtain ⟨o', s', e'⟩ := hrr _ e.symm; exact hoo.box bQ (by decide) (by decide) (.inl ⟨o', s', e'⟩) rfl); have s2 : True := trivial)
        | (have _t := s2; clear s2; refine wpList_stC _ rfl _ _ _ rfl gQ 1 83 _ #[.int .i64 ow, .slice a6 1 c6, .int .i64 0] (.slice a6 1 c6) rfl rfl bQ6 (stc_rows _ _ _ _ _) (by show 1 < 3; decide) rfl ?_; intro w7 bQ7 v7))
      have hsA := gA.size
      have hs6 := v6.size
      have hs7 := v7.size
      have hn5 := hA5.len
      have hHb7 : ∀ x, Ofo a6 [⟨a5, n5, c5, FB⟩] x → Hb a x ∨ w.heap.size ≤ x := fun x hx => by
        rcases hx with hx | ⟨r, hr, hx⟩
        · rcases hHb x hx with h | h
          · exact .inl h
          · exact .inr (by omega)
        · rw [List.mem_singleton.1 hr] at hx
          exact .inr (hA5.new x hx)
      have hoo7 : OwO w7 lo a6 1 c6 [⟨a5, n5, c5, FB⟩] := hoo6.fz (Fz.of1 v7) (fun x hx e => hoo6.box bQ6 (by decide) (by decide) hx e)
      have hA6 := ((hA.keep y5).keep gA).kept v6 (by
        cases hown : (Value.slice ao D.length co).ownBlock with
        | none => exact .inl rfl
        | some z => exact .inr (fun e => hap z (.inl (hrr z e.symm)) hown))
      have hA7 := hA6.kept v7 (.inr (fun e => hA6.apart bQ6 (by decide) e))
      have hne : gh ≠ gQ := BxS.apart bh bQ (by decide)
      have bh7 := (((bh.keep y5 (by simp)).keep gA (by simp)).keep v6 (fun e => hoo.box bh (by decide) (by decide) (.inl (hrr _ e.symm)) rfl)).keep v7 (fun e => hne (Option.some.inj e))
      have hap7 : ∀ x, Ofo a6 [⟨a5, n5, c5, FB⟩] x → (Value.slice ao D.length co).ownBlock ≠ some x := fun x hx e => by
        rcases hHb7 x hx with h | h
        · exact hap x (.inl h) e
        · have := hA.ltB e; omega
      have hF7 : Fz (fun x => x = gh ∨ x = gQ ∨ (Value.slice ao D.length co).ownBlock = some x ∨ Hb a x) w w7 := ((((Fz.refl _ w).step y5 (fun x e _ => by cases e)).step gA (fun x e _ => by cases e)).step v6 (fun x e _ => .inr (.inr (.inr (hrr x e))))).step v7 (fun x e _ => .inr (.inl (Option.some.inj e).symm))
      obtain ⟨gp, op, rfl⟩ : ∃ gp op, a6 = some ⟨gp, op, none⟩ := by
        rcases hoo7.ro.at' with ⟨_, h1, _⟩ | ⟨g, o, cur, e, _⟩
        · cases h1
        · exact ⟨g, o, e⟩
      refine HK1.out _ _ ?_
      clear HK1
      refine rn_t31 Q w7 lo lo2 gh gQ room gp op 1 c6 ow ⟨a5, n5, c5, FB⟩ [] ao co D 0 TB TP TG bQ7 hoo7 hA7 (by omega) cr CH ma ow1 F FI bh7 hroom (HFI.out.g0 _) hDl hKf hap7 hP ?_
      intro z18 z19 z125 z126 z127 z128 z129 z130 z131 z132 z133 z134 z135 z136 z137 z138 z139 z140 z141 z142 z143 z144 z145 z146 z147 z148 z149 z150 z151 z152 z153 z154 z155 z156 z157 z158 z159 z160 z161 z162 z163 z164 z165 z166 z167 z168 w' F2 ao' co' D' a2 n2 c2 rs2 g2 h1 hb2 hf2 h2 h3 h4 h5 h6 h7 h8
      exact HQ.out _ _ _ _ _ _ _ _ _ _ _ _ _ _ _ _ _ _ _ _ _ _ _ _ _ _ _ _ _ _ _ _ _ _ _ _ _ _ _ _ _ _ _ _ _ _ _ _ _ _ _ _ _ _ _ _ _ _ _ _ _ _ _ _ _ _ _ _ _ _ w' F2 ao' co' D' a2 n2 c2 rs2 g2 h1 hb2 hf2 h2 h3 h4 h5 h6 (fun x hx => (hHb7 x (h7 x hx)).elim (fun h => .inl (.inl h)) .inr) (hF7.trans h8 (fun x _ e => e.elim .inl (fun e => .inr (e.elim .inl (fun e => .inr (.inl e))))))
  · have hn0' : ((n : Int) == 0) = false := by simp; omega
    obtain ⟨r, rs', rfl⟩ : ∃ r rs', rs = r :: rs' := by
      cases rs with
      | nil => exact absurd hln.symm h0
      | cons r rs' => exact ⟨r, rs', rfl⟩
    obtain ⟨gp, op, rfl⟩ : ∃ gp op, a = some ⟨gp, op, none⟩ := by
      rcases hoo.ro.at' with ⟨_, h1, _⟩ | ⟨g, o, cur, e, _⟩
      · exact absurd h1 h0
      · exact ⟨g, o, e⟩
    refine wp_seq_k fun K2 hK2 => ?_
    have HK2 : Hid _ := hK2
    clear hK2
    go_wp2
    refine HK2.out _ _ ?_
    clear HK2
    refine wp_cond_false rfl ?_
    refine wp_skip ?_
    refine HK1.out _ _ ?_
    clear HK1
    have hrl := (hoo.ro.each r (List.mem_cons_self ..)).len
    refine rn_t31 Q w lo lo2 gh gQ room gp op n c ow r rs' ao co D g TB TP TG bQ hoo hA hlo2 cr CH ma ow1 F FI bh hroom (by have h := HFI.out; rw [← hrl]; exact h) hDl hK hap hP ?_
    intro z18 z19 z125 z126 z127 z128 z129 z130 z131 z132 z133 z134 z135 z136 z137 z138 z139 z140 z141 z142 z143 z144 z145 z146 z147 z148 z149 z150 z151 z152 z153 z154 z155 z156 z157 z158 z159 z160 z161 z162 z163 z164 z165 z166 z167 z168 w' F2 ao' co' D' a2 n2 c2 rs2 g2 h1 hb2 hf2 h2 h3 h4 h5 h6 h7 h8
    exact HQ.out _ _ _ _ _ _ _ _ _ _ _ _ _ _ _ _ _ _ _ _ _ _ _ _ _ _ _ _ _ _ _ _ _ _ _ _ _ _ _ _ _ _ _ _ _ _ _ _ _ _ _ _ _ _ _ _ _ _ _ _ _ _ _ _ _ _ _ _ _ _ w' F2 ao' co' D' a2 n2 c2 rs2 g2 h1 hb2 hf2 h2 h3 h4 h5 h6 (fun x hx => .inl (h7 x hx)) (h8.more (fun x e => e.elim .inl (fun e => .inr (e.elim .inl (fun e => .inr (.inl e))))))

set_option maxHeartbeats 32000000 in
theorem rn_t41 {u0 u3 u5 u6 u9 u10 u11 u12 u15 u16 u17 u18 u19 u20 u21 u22 u23 u24 u25 u26 u27 u28 u29 u30 u31 u32 u33 u34 u35 u36 u37 u38 u39 u40 u41 u42 u43 u44 u45 u46 u47 u48 u49 u50 u51 u52 u53 u54 u55 u56 u57 u58 u59 u60 u61 u62 u63 u64 u65 u66 u67 u68 u69 u70 u71 u72 u73 u74 u75 u76 u77 u78 u79 u80 u81 u82 u83 u84 u85 u86 u87 u88 u89 u90 u91 u92 u93 u94 u95 u96 u97 u98 u99 u100 u101 u102 u103 u104 u105 u106 u107 u108 u109 u110 u111 u112 u113 u114 u115 u116 u117 u118 u119 u120 u121 u122 u123 u124 u125 u126 u127 u128 u129 u130 u131 u132 u133 u134 u135 u136 u137 u138 u139 u140 u141 u142 u143 u144 u145 u146 u147 u148 u149 u150 u151 u152 u153 u154 u155 u156 u157 u158 u159 u160 u161 u162 u163 u164 u165 u166 u167 u168 u169 u170 u171 u172 u173 u174 u175 u176 u177 u178 u179 u180 u181 u182 u183 : Value} (w0 wb w : World) (lo gs gr gh gQ gq cq room n2 c2 ch TG : Nat) (a2 : Option Addr) (cr sz ma MA TU ow ow1 FI st : Int) (rs2 : List Rw) (ao : Option Addr) (co : Nat) (DA Y : List Nat) (TP : List (List Nat)) (qs : List Qw) (q : Qw) (Qs V : List Qd) (bs : BxS w gs 38 #[.int .i64 cr, .int .i64 sz, .int .i64 MA, .int .i64 TU, .slice (some ⟨gq, 0, none⟩) 7 cq]) (br : BxS w gr 38 #[.int .i64 0, .int .i64 0, .int .i64 0, .int .i64 0, .slice none 0 0]) (bh : BxS w gh 28 #[.int .i64 cr, .int .i64 (ch : Int), .int .i64 ma, .int .i64 ow1, .int .i64 FI]) (bQ : BxS w gQ 83 #[.int .i64 ow, .slice a2 n2 c2, .int .i64 (TG : Int)]) (hoo : OwO w lo a2 n2 c2 rs2) (hTP : rs2.map Rw.D = TP) (lo2 : Nat) (hA : Ans w lo2 ao room co DA) (hroom : room ≤ 2036) (hO : OwS wb lo (some ⟨gq, 0, none⟩) 7 cq qs Qs) (hq : qs[ch]? = some q) (hF : Fz (fun x => x = gh ∨ x = gQ ∨ Ofo q.a q.rs x) wb w) (hnh : ¬ Qbl (.slice (some ⟨gq, 0, none⟩) 7 cq) qs gh) (hnQ : ¬ Qbl (.slice (some ⟨gq, 0, none⟩) 7 cq) qs gQ) (hbl : ∀ x, Ofo a2 rs2 x → Ofo q.a q.rs x ∨ wb.heap.size ≤ x) (hs : w0.heap.size ≤ gs ∧ w0.heap.size ≤ gr ∧ gs < lo ∧ gr < lo ∧ gs ≠ gr) (hlow : lo ≤ w.heap.size) (hch : ch < 7) (G : w0.grownBy w none) (hV : V = Qs.set ch ⟨ow, (TG : Int), TP⟩) (hY : Y = pakL cr (ch : Int) ma ow1 FI st DA) :
    Code.wp Try.prog (tailR 41 (Try.f32.body.getD .skip)) (bodyPost Try.prog Try.f32 (fun e w' => ∃ (a' : Option Addr) (n' c' : Nat) (ya : Option Addr) (yn yc : Nat), e = .returned (.tuple #[.agg #[.int .i64 cr, .int .i64 sz, .int .i64 MA, .int .i64 TU, .slice a' n' c'], .slice ya yn yc, .int .i64 0]) ∧ RdS w' a' n' c' V ∧ Ans w' w0.heap.size ya yn yc Y ∧ w0.grownBy w' none)) (Act.mk (List.toArray (u0 :: (.int .i64 st) :: (.pointer (some ⟨gs, 0, none⟩)) :: u3 :: (.pointer (some ⟨gr, 0, none⟩)) :: u5 :: u6 :: (.pointer (some ⟨gh, 0, none⟩)) :: (.int .i64 (room : Int)) :: u9 :: u10 :: u11 :: u12 :: (.pointer (some ⟨gQ, 0, none⟩)) :: (.slice ao room co) :: u15 :: u16 :: u17 :: u18 :: u19 :: u20 :: u21 :: u22 :: u23 :: u24 :: u25 :: u26 :: u27 :: u28 :: u29 :: u30 :: u31 :: u32 :: u33 :: u34 :: u35 :: u36 :: u37 :: u38 :: u39 :: u40 :: u41 :: u42 :: u43 :: u44 :: u45 :: u46 :: u47 :: u48 :: u49 :: u50 :: u51 :: u52 :: u53 :: u54 :: u55 :: u56 :: u57 :: u58 :: u59 :: u60 :: u61 :: u62 :: u63 :: u64 :: u65 :: u66 :: u67 :: u68 :: u69 :: u70 :: u71 :: u72 :: u73 :: u74 :: u75 :: u76 :: u77 :: u78 :: u79 :: u80 :: u81 :: u82 :: u83 :: u84 :: u85 :: u86 :: u87 :: u88 :: u89 :: u90 :: u91 :: u92 :: u93 :: u94 :: u95 :: u96 :: u97 :: u98 :: u99 :: u100 :: u101 :: u102 :: u103 :: u104 :: u105 :: u106 :: u107 :: u108 :: u109 :: u110 :: u111 :: u112 :: u113 :: u114 :: u115 :: u116 :: u117 :: u118 :: u119 :: u120 :: u121 :: u122 :: u123 :: u124 :: u125 :: u126 :: u127 :: u128 :: u129 :: u130 :: u131 :: u132 :: u133 :: u134 :: u135 :: u136 :: u137 :: u138 :: u139 :: u140 :: u141 :: u142 :: u143 :: u144 :: u145 :: u146 :: u147 :: u148 :: u149 :: u150 :: u151 :: u152 :: u153 :: u154 :: u155 :: u156 :: u157 :: u158 :: u159 :: u160 :: u161 :: u162 :: u163 :: u164 :: u165 :: u166 :: u167 :: u168 :: u169 :: u170 :: u171 :: u172 :: u173 :: u174 :: u175 :: u176 :: u177 :: u178 :: u179 :: u180 :: u181 :: u182 :: u183 :: [])) []) w := by
  conv => enter [2]; whnf
  have i5 := Try.info_se
  have hlq := hO.o.len
  have hmem := List.mem_of_getElem? hq
  have hqO := hO.o.each _ hmem
  have hgq := hO.o.hi (x := gq) (.inl rfl)
  have hqb : ∀ x, Ofo q.a q.rs x → Ofr q.v q.rs x := fun x hx => ofo_of hqO hx
  have hnq : ¬ Ofo q.a q.rs gq := fun e => hO.o.row_ne hqO (hqb gq e) rfl
  have hghq : gh ≠ gq := fun e => hnh (.inl (by rw [e]; rfl))
  have hgQq : gQ ≠ gq := fun e => hnQ (.inl (by rw [e]; rfl))
  have hrow := hO.o.rowAt hF (fun e => e.elim (fun e => hghq e.symm) (fun e => e.elim (fun e => hgQq e.symm) hnq))
  have hch' : (ch : Int) < 7 := by omega
  refine wp_seq_k fun K1 hK1 => ?_
  have HK1 : Hid _ := hK1
  clear hK1
  obtain ⟨x0, x1, x2, x3, x4⟩ := BxS.cell5 bs
  obtain ⟨y0, y1, y2, y3, y4⟩ := BxS.cell5 bh
  obtain ⟨c0, c1, c2'⟩ := BxS.cell3 bQ
  have s0 : True := trivial
  go_wp2_with (have _t := s0; clear s0; refine wpList_stQ _ rfl _ _ rfl gq ch 7 cq qs ⟨ow, a2, n2, c2, (TG : Int), rs2⟩ rfl rfl hrow hlq hch ?_; intro w1 hrow1 v1)
  clear x0 x1 x2 x3 x4 y0 y1 y2 y3 y4 c0 c1 c2'
  have bs1 := bs.keep v1 (fun e => by have e := Option.some.inj e; omega)
  have br1 := br.keep v1 (fun e => by have e := Option.some.inj e; omega)
  have bh1 := bh.keep v1 (fun e => hghq (Option.some.inj e))
  have hA1 : Ans w1 lo2 ao room co DA := hA.kept v1 (by
    cases hown : (Value.slice ao room co).ownBlock with
    | none => exact .inl rfl
    | some z => exact .inr (fun e => by
        have e : z = gq := Option.some.inj e
        subst e
        rcases hrow.2 with ⟨h1, _⟩ | ⟨y, cap', cur, h1, _, hh, _⟩
        · simp at h1
        · simp only [Value.slice.injEq, Option.some.injEq, Addr.mk.injEq] at h1
          obtain ⟨⟨rfl, _⟩, _, rfl⟩ := h1
          exact hA.apart hh (by decide) hown))
  have hs1 := v1.size
  have hWq : WkQ w1 lo (some ⟨gq, 0, none⟩) 7 cq (qs.set ch ⟨ow, a2, n2, c2, (TG : Int), rs2⟩) := by
    refine WkQ.ofTD hO.o hch (p := fun x => (x = gh ∨ x = gQ ∨ Ofo q.a q.rs x) ∨ x = gq) ((hF.more (fun x e => .inl e)).step v1 (fun x e _ => .inr (Option.some.inj e).symm)) (fun i r hi hr x hx e => ?_) hrow1 ?_ (fun i r hi hr x hx e => ?_)
    · have hrm := List.mem_of_getElem? hr
      have h1 : Qbl (.slice (some ⟨gq, 0, none⟩) 7 cq) qs x := .inr ⟨r, hrm, hx⟩
      rcases e with (e | e | e) | e
      · rw [e] at h1; exact hnh h1
      · rw [e] at h1; exact hnQ h1
      · exact hO.o.sep hi hr hq x hx (hqb x e)
      · exact hO.o.row_ne (hO.o.each r hrm) hx e
    · refine hoo.fz (Fz.of1 v1) (fun x hx e => ?_)
      rcases hbl x hx with h1 | h1
      · exact hO.o.row_ne hqO (hqb x h1) e
      · omega
    · rcases hbl x e with h1 | h1
      · exact hO.o.sep hi hr hq x hx (hqb x h1)
      · have := (hO.o.hi (.inr ⟨r, List.mem_of_getElem? hr, hx⟩)).1; omega
  have hdat : (qs.set ch ⟨ow, a2, n2, c2, (TG : Int), rs2⟩).map Qw.d = V := by
    rw [List.map_set, hO.d, hV]
    have : Qw.d ⟨ow, a2, n2, c2, (TG : Int), rs2⟩ = ⟨ow, (TG : Int), TP⟩ := by unfold Qw.d; rw [hTP]
    rw [this]
  have hW1 : WkS w1 lo (some ⟨gq, 0, none⟩) 7 cq _ V := ⟨hWq, hdat⟩
  have G1 := grown_far G v1 (fun x e => by have e := Option.some.inj e; omega)
  refine HK1.out _ _ ?_
  clear HK1
  refine wp_seq_k fun K2 hK2 => ?_
  have HK2 : Hid _ := hK2
  clear hK2
  obtain ⟨y0, y1, y2, y3, y4⟩ := BxS.cell5 bh1
  have s0 : True := trivial
  go_wp2_with (go_at_call 16; have _t := s0; clear s0; refine (rpack_any cr (ch : Int) ma ow1 FI st ao room co DA w1 hA1.rd (by omega)).mono ?_; rintro e w2 ⟨fa, fn', fc, rfl, hA2, v2⟩)
  clear y0 y1 y2 y3 y4
  have bs2 := bs1.keep v2 (by simp)
  have br2 := br1.keep v2 (by simp)
  have hW2 := hW1.keep v2
  have G2 := grown_trans G1 v2
  refine HK2.out _ _ ?_
  clear HK2
  refine wp_seq_k fun K3 hK3 => ?_
  have HK3 : Hid _ := hK3
  clear hK3
  obtain ⟨x0, x1, x2, x3, x4⟩ := BxS.cell5 bs2
  have s0 : True := trivial
  go_wp2_with (have _t := s0; clear s0; refine wpList_stX _ rfl _ (.tmp 4) (.tmp 182) rfl gr _ _ rfl rfl br2 i5 rfl (by simp [Value.oneCell']) ?_; intro w3 b9 v3)
  refine HK3.out _ _ ?_
  clear HK3
  refine wp_ret ?_
  refine bodyPost_ret (results_cell3 rfl _ _ _ ⟨gr, 0, none⟩ _ (.slice fa fn' fc) (.int .i64 0) rfl (BxS.load (t := 38) b9 Try.underlying38 i5) rfl rfl) rfl ?_
  have hz := G1.size
  refine ⟨_, _, _, fa, fn', fc, rfl, (hW2.far v3 (by omega)).rd, ?_, grown_far G2 v3 (fun x e => by have e := Option.some.inj e; omega)⟩
  rw [hY]
  exact (hA2.kept v3 (.inr (fun e => by have := hA2.new _ e; omega))).wide hz

set_option maxHeartbeats 32000000 in
theorem rn_t23 {u0 u3 u5 u6 u9 u10 u11 u12 u14 u15 u16 u17 u18 u19 u20 u21 u22 u23 u24 u25 u26 u27 u28 u29 u30 u31 u32 u33 u34 u35 u36 u37 u38 u39 u40 u41 u42 u43 u44 u45 u46 u47 u48 u49 u50 u51 u52 u53 u54 u55 u56 u57 u58 u59 u60 u61 u62 u63 u64 u65 u66 u67 u68 u69 u70 u71 u72 u73 u74 u75 u76 u77 u78 u79 u80 u81 u82 u83 u84 u85 u86 u87 u88 u89 u90 u91 u92 u93 u94 u95 u96 u97 u98 u99 u100 u101 u102 u103 u104 u105 u106 u107 u108 u109 u110 u111 u112 u113 u114 u115 u116 u117 u118 u119 u120 u121 u122 u123 u124 u125 u126 u127 u128 u129 u130 u131 u132 u133 u134 u135 u136 u137 u138 u139 u140 u141 u142 u143 u144 u145 u146 u147 u148 u149 u150 u151 u152 u153 u154 u155 u156 u157 u158 u159 u160 u161 u162 u163 u164 u165 u166 u167 u168 u169 u170 u171 u172 u173 u174 u175 u176 u177 u178 u179 u180 u181 u182 u183 : Value} (w0 w : World) (lo gs gr gh gQ gq cq room ch TG g : Nat) (cr sz ma MA TU ow ow1 FI st : Int) (DA Y : List Nat) (TP : List (List Nat)) (qs : List Qw) (q : Qw) (Qs V : List Qd) (bs : BxS w gs 38 #[.int .i64 cr, .int .i64 sz, .int .i64 MA, .int .i64 TU, .slice (some ⟨gq, 0, none⟩) 7 cq]) (br : BxS w gr 38 #[.int .i64 0, .int .i64 0, .int .i64 0, .int .i64 0, .slice none 0 0]) (bh : BxS w gh 28 #[.int .i64 cr, .int .i64 (ch : Int), .int .i64 ma, .int .i64 ow1, .int .i64 2047]) (bQ : BxS w gQ 83 #[.int .i64 ow, .slice q.a q.n q.c, .int .i64 (g : Int)]) (hroom : 1 ≤ room ∧ room ≤ 2036) (hK : TK room DA TP TG [] (q.rs.map Rw.D) g) (hFI : FI = ((fiT (q.rs.map Rw.D) g room : Nat) : Int)) (hO : OwS w lo (some ⟨gq, 0, none⟩) 7 cq qs Qs) (hq : qs[ch]? = some q) (hnh : ¬ Qbl (.slice (some ⟨gq, 0, none⟩) 7 cq) qs gh) (hnQ : ¬ Qbl (.slice (some ⟨gq, 0, none⟩) 7 cq) qs gQ) (hs : w0.heap.size ≤ gs ∧ w0.heap.size ≤ gr ∧ gs < lo ∧ gr < lo ∧ gs ≠ gr) (hlow : lo ≤ w.heap.size) (hch : ch < 7) (G : w0.grownBy w none) (hV : V = Qs.set ch ⟨ow, (TG : Int), TP⟩) (hY : Y = pakL cr (ch : Int) ma ow1 FI st DA) (hn : w0.heap.size ≤ gh ∧ w0.heap.size ≤ gQ) :
    Code.wp Try.prog (tailR 23 (Try.f32.body.getD .skip)) (bodyPost Try.prog Try.f32 (fun e w' => ∃ (a' : Option Addr) (n' c' : Nat) (ya : Option Addr) (yn yc : Nat), e = .returned (.tuple #[.agg #[.int .i64 cr, .int .i64 sz, .int .i64 MA, .int .i64 TU, .slice a' n' c'], .slice ya yn yc, .int .i64 0]) ∧ RdS w' a' n' c' V ∧ Ans w' w0.heap.size ya yn yc Y ∧ w0.grownBy w' none)) (Act.mk (List.toArray (u0 :: (.int .i64 st) :: (.pointer (some ⟨gs, 0, none⟩)) :: u3 :: (.pointer (some ⟨gr, 0, none⟩)) :: u5 :: u6 :: (.pointer (some ⟨gh, 0, none⟩)) :: (.int .i64 (room : Int)) :: u9 :: u10 :: u11 :: u12 :: (.pointer (some ⟨gQ, 0, none⟩)) :: u14 :: u15 :: u16 :: u17 :: u18 :: u19 :: u20 :: u21 :: u22 :: u23 :: u24 :: u25 :: u26 :: u27 :: u28 :: u29 :: u30 :: u31 :: u32 :: u33 :: u34 :: u35 :: u36 :: u37 :: u38 :: u39 :: u40 :: u41 :: u42 :: u43 :: u44 :: u45 :: u46 :: u47 :: u48 :: u49 :: u50 :: u51 :: u52 :: u53 :: u54 :: u55 :: u56 :: u57 :: u58 :: u59 :: u60 :: u61 :: u62 :: u63 :: u64 :: u65 :: u66 :: u67 :: u68 :: u69 :: u70 :: u71 :: u72 :: u73 :: u74 :: u75 :: u76 :: u77 :: u78 :: u79 :: u80 :: u81 :: u82 :: u83 :: u84 :: u85 :: u86 :: u87 :: u88 :: u89 :: u90 :: u91 :: u92 :: u93 :: u94 :: u95 :: u96 :: u97 :: u98 :: u99 :: u100 :: u101 :: u102 :: u103 :: u104 :: u105 :: u106 :: u107 :: u108 :: u109 :: u110 :: u111 :: u112 :: u113 :: u114 :: u115 :: u116 :: u117 :: u118 :: u119 :: u120 :: u121 :: u122 :: u123 :: u124 :: u125 :: u126 :: u127 :: u128 :: u129 :: u130 :: u131 :: u132 :: u133 :: u134 :: u135 :: u136 :: u137 :: u138 :: u139 :: u140 :: u141 :: u142 :: u143 :: u144 :: u145 :: u146 :: u147 :: u148 :: u149 :: u150 :: u151 :: u152 :: u153 :: u154 :: u155 :: u156 :: u157 :: u158 :: u159 :: u160 :: u161 :: u162 :: u163 :: u164 :: u165 :: u166 :: u167 :: u168 :: u169 :: u170 :: u171 :: u172 :: u173 :: u174 :: u175 :: u176 :: u177 :: u178 :: u179 :: u180 :: u181 :: u182 :: u183 :: [])) []) w := by
  conv => enter [2]; whnf
  have hqO := hO.o.each _ (List.mem_of_getElem? hq)
  have hFs : FIv 2047 FI room 0 ((q.rs.map Rw.D).getD 0 []).length g := by rw [hFI]; exact FIv.start hroom.1
  clear hFI
  have hqh : ∀ x, Ofo q.a q.rs x → Qbl (.slice (some ⟨gq, 0, none⟩) 7 cq) qs x := fun x hx => .inr ⟨q, List.mem_of_getElem? hq, ofo_of hqO hx⟩
  have hlow' := hlow
  have hsh : gs ≠ gh := BxS.apart bs bh (by decide)
  have hsQ : gs ≠ gQ := BxS.apart bs bQ (by decide)
  have hrh : gr ≠ gh := BxS.apart br bh (by decide)
  have hrQ : gr ≠ gQ := BxS.apart br bQ (by decide)
  have hlq : ∀ x, Ofo q.a q.rs x → lo ≤ x := fun x hx => (hO.o.hi (hqh x hx)).2
  have hbsl := bs.lt
  refine wp_seq_k fun K1 hK1 => ?_
  have HK1 : Hid _ := hK1
  clear hK1
  go_wp2
  refine HK1.out _ _ ?_
  clear HK1
  refine wp_seq_k fun K2 hK2 => ?_
  have HK2 : Hid _ := hK2
  clear hK2
  go_wp2
  go_loopw [14] (fun ov wr => ∃ (ao : Option Addr) (co : Nat) (D : List Nat) (F2 : Int) (a2 : Option Addr) (n2 c2 : Nat) (rs2 : List Rw) (g2 : Nat), ov = .slice ao D.length co ∧ BxS wr gh 28 #[.int .i64 cr, .int .i64 (ch : Int), .int .i64 ma, .int .i64 ow1, .int .i64 F2] ∧ FIv F2 FI room D.length ((rs2.map Rw.D).getD 0 []).length g2 ∧ BxS wr gQ 83 #[.int .i64 ow, .slice a2 n2 c2, .int .i64 (g2 : Int)] ∧ OwO wr lo a2 n2 c2 rs2 ∧ Ans wr w.heap.size ao D.length co D ∧ TK room DA TP TG D (rs2.map Rw.D) g2 ∧ (∀ x, Ofo a2 rs2 x → (Value.slice ao D.length co).ownBlock ≠ some x) ∧ (∀ x, Ofo a2 rs2 x → Ofo q.a q.rs x ∨ w.heap.size ≤ x) ∧ Fz (fun x => x = gh ∨ x = gQ ∨ Ofo q.a q.rs x) w wr) (fun ov _ => room - slN ov)
  case atStart => exact ⟨_, _, [], 2047, q.a, q.n, q.c, q.rs, g, rfl, bh, hFs, bQ, hqO.wk, ans_nil _ _, hK, (fun x hx e => by cases e), (fun x hx => .inl hx), Fz.refl _ _⟩
  case round =>
    clear hFs bh bQ hK
    obtain ⟨ao, co, D, F2, a2, n2, c2, rs2, g2, rfl, bh, hFI, bQ, hoo, hA, hK, hap, hbl, hF⟩ := hrel
    have hDle := hK.len
    by_cases hlt : D.length < room
    · have hlt' : (D.length : Int) < (room : Int) := by omega
      have HF2 : Hid _ := hFI
      clear hFI
      refine wp_seq_k fun K3 hK3 => ?_
      have HK3 : Hid _ := hK3
      clear hK3
      go_wp2
      refine HK3.out _ _ ?_
      clear HK3
      refine wp_block ?_
      refine rn_t25 _ wr lo w.heap.size gh gQ room n2 c2 a2 ow rs2 ao co D g2 DA TP TG bQ hoo hA hF.size (Nat.le_trans hlow' hF.size) cr (ch : Int) ma ow1 F2 FI bh hroom.2 HF2.out hlt hK hap (fun c a a' wz e h => by cases a; cases a'; cases e; exact h) ?_
      intro z15 z16 z17 z18 z19 z104 z105 z106 z107 z108 z109 z110 z111 z112 z113 z114 z115 z116 z117 z118 z119 z120 z121 z122 z123 z124 z125 z126 z127 z128 z129 z130 z131 z132 z133 z134 z135 z136 z137 z138 z139 z140 z141 z142 z143 z144 z145 z146 z147 z148 z149 z150 z151 z152 z153 z154 z155 z156 z157 z158 z159 z160 z161 z162 z163 z164 z165 z166 z167 z168 w' F3 ao' co' D' a3 n3 c3 rs3 g3 h1 hb3 hf3 h2 h3 h4 h5 h6 h7 h8
      simp only [Exit.inBlock, Exit.then]
      have hsz := hF.size
      refine ⟨?_, ?_⟩
      · repeat apply Exists.intro
        refine ⟨?_, rfl⟩
        refine ⟨ao', co', D', F3, a3, n3, c3, rs3, g3, rfl, hb3, hf3, h2, h3, h4, h5, h6, fun x hx => ?_, hF.trans h8 (fun x hl e => ?_)⟩
        · rcases h7 x hx with h | h
          · exact hbl x h
          · exact .inr (by omega)
        · rcases e with e | e | e | e
          · exact .inl e
          · exact .inr (.inl e)
          · have := hA.new x e; omega
          · rcases hbl x (.inl e) with h | h
            · exact .inr (.inr h)
            · omega
      · have := h5.len
        show room - D'.length < room - D.length
        omega
    · have hlt' : ¬ (D.length : Int) < (room : Int) := by omega
      obtain ⟨rfl, e2, e3, e4⟩ := hK.done hlt
      have HE2 : Hid _ := e2
      have HE3 : Hid _ := e3
      have HE4 : Hid _ := e4
      have HF2 : Hid _ := hFI
      clear e2 e3 e4 hFI
      go_wp2
      refine HK2.out _ _ ?_
      clear HK2
      have e4 := HE4.out
      have hFd := HF2.out
      rw [e4] at hA hFd ⊢
      have hFe := hFd.done
      subst hFe
      have e3 := HE3.out
      subst e3
      refine rn_t41 w0 w wr lo gs gr gh gQ gq cq room n2 c2 ch g2 a2 cr sz ma MA TU ow ow1 F2 st rs2 ao co D Y TP qs q Qs V (bs.fz hF ?_) (br.fz hF ?_) bh bQ hoo HE2.out w.heap.size hA hroom.2 hO hq hF hnh hnQ hbl hs (Nat.le_trans hlow' hF.size) hch ?_ hV hY
      · rintro (e | e | e)
        · exact hsh e
        · exact hsQ e
        · have := hlq _ e; omega
      · rintro (e | e | e)
        · exact hrh e
        · exact hrQ e
        · have := hlq _ e; omega
      · refine Fz.grown G hF (fun i e => ?_)
        rcases e with e | e | e
        · omega
        · omega
        · have := hlq _ e; omega

theorem Try.info_quN : (Try.prog.info? 83).map (fun i => i.size) = some 3 := by kernel_rfl
set_option maxHeartbeats 32000000 in
theorem rn_t18 {u0 u3 u5 u6 u9 u10 u11 u12 u13 u14 u15 u16 u17 u18 u19 u20 u21 u22 u23 u24 u25 u26 u27 u28 u29 u30 u31 u32 u33 u34 u35 u36 u37 u38 u39 u40 u41 u42 u43 u44 u45 u46 u47 u48 u49 u50 u51 u52 u53 u54 u55 u56 u57 u58 u59 u60 u61 u62 u63 u64 u65 u66 u67 u68 u69 u70 u71 u72 u73 u74 u75 u76 u77 u78 u79 u80 u81 u82 u83 u84 u85 u86 u87 u88 u89 u90 u91 u92 u93 u94 u95 u96 u97 u98 u99 u100 u101 u102 u103 u104 u105 u106 u107 u108 u109 u110 u111 u112 u113 u114 u115 u116 u117 u118 u119 u120 u121 u122 u123 u124 u125 u126 u127 u128 u129 u130 u131 u132 u133 u134 u135 u136 u137 u138 u139 u140 u141 u142 u143 u144 u145 u146 u147 u148 u149 u150 u151 u152 u153 u154 u155 u156 u157 u158 u159 u160 u161 u162 u163 u164 u165 u166 u167 u168 u169 u170 u171 u172 u173 u174 u175 u176 u177 u178 u179 u180 u181 u182 u183 : Value} (w0 w : World) (lo gs gr gh gq cq room ch TG g : Nat) (cr sz ma MA tu TU FI st : Int) (DA Y : List Nat) (TP : List (List Nat)) (qs : List Qw) (q : Qw) (Qs V : List Qd) (bs : BxS w gs 38 #[.int .i64 cr, .int .i64 sz, .int .i64 MA, .int .i64 tu, .slice (some ⟨gq, 0, none⟩) 7 cq]) (br : BxS w gr 38 #[.int .i64 0, .int .i64 0, .int .i64 0, .int .i64 0, .slice none 0 0]) (bh : BxS w gh 28 #[.int .i64 cr, .int .i64 (ch : Int), .int .i64 ma, .int .i64 0, .int .i64 2046]) (hroom : 1 ≤ room ∧ room ≤ 2036) (hgo : q.go = (g : Int)) (how : 0 ≤ q.ow ∧ q.ow ≤ 255) (hK : TK room DA TP TG [] (q.rs.map Rw.D) g) (hFI : FI = ((fiT (q.rs.map Rw.D) g room : Nat) : Int)) (hTU : TU = (((ch + 1) % 7 : Nat) : Int)) (hO : OwS w lo (some ⟨gq, 0, none⟩) 7 cq qs Qs) (hq : qs[ch]? = some q) (hs : w0.heap.size ≤ gs ∧ w0.heap.size ≤ gr ∧ gs < lo ∧ gr < lo ∧ gs ≠ gr) (hlow : lo ≤ w.heap.size) (hch : ch < 7) (G : w0.grownBy w none) (hV : V = Qs.set ch ⟨(q.ow + 1) % 256, (TG : Int), TP⟩) (hY : Y = pakL cr (ch : Int) ma q.ow FI st DA) (hn : w0.heap.size ≤ gh) :
    Code.wp Try.prog (tailR 18 (Try.f32.body.getD .skip)) (bodyPost Try.prog Try.f32 (fun e w' => ∃ (a' : Option Addr) (n' c' : Nat) (ya : Option Addr) (yn yc : Nat), e = .returned (.tuple #[.agg #[.int .i64 cr, .int .i64 sz, .int .i64 MA, .int .i64 TU, .slice a' n' c'], .slice ya yn yc, .int .i64 0]) ∧ RdS w' a' n' c' V ∧ Ans w' w0.heap.size ya yn yc Y ∧ w0.grownBy w' none)) (Act.mk (List.toArray (u0 :: (.int .i64 st) :: (.pointer (some ⟨gs, 0, none⟩)) :: u3 :: (.pointer (some ⟨gr, 0, none⟩)) :: u5 :: u6 :: (.pointer (some ⟨gh, 0, none⟩)) :: (.int .i64 (room : Int)) :: u9 :: u10 :: u11 :: u12 :: u13 :: u14 :: u15 :: u16 :: u17 :: u18 :: u19 :: u20 :: u21 :: u22 :: u23 :: u24 :: u25 :: u26 :: u27 :: u28 :: u29 :: u30 :: u31 :: u32 :: u33 :: u34 :: u35 :: u36 :: u37 :: u38 :: u39 :: u40 :: u41 :: u42 :: u43 :: u44 :: u45 :: u46 :: u47 :: u48 :: u49 :: u50 :: u51 :: u52 :: u53 :: u54 :: u55 :: u56 :: u57 :: u58 :: u59 :: u60 :: u61 :: u62 :: u63 :: u64 :: u65 :: u66 :: u67 :: u68 :: u69 :: u70 :: u71 :: u72 :: u73 :: u74 :: u75 :: u76 :: u77 :: u78 :: u79 :: u80 :: u81 :: u82 :: u83 :: u84 :: u85 :: u86 :: u87 :: u88 :: u89 :: u90 :: u91 :: u92 :: u93 :: u94 :: u95 :: u96 :: u97 :: u98 :: u99 :: u100 :: u101 :: u102 :: u103 :: u104 :: u105 :: u106 :: u107 :: u108 :: u109 :: u110 :: u111 :: u112 :: u113 :: u114 :: u115 :: u116 :: u117 :: u118 :: u119 :: u120 :: u121 :: u122 :: u123 :: u124 :: u125 :: u126 :: u127 :: u128 :: u129 :: u130 :: u131 :: u132 :: u133 :: u134 :: u135 :: u136 :: u137 :: u138 :: u139 :: u140 :: u141 :: u142 :: u143 :: u144 :: u145 :: u146 :: u147 :: u148 :: u149 :: u150 :: u151 :: u152 :: u153 :: u154 :: u155 :: u156 :: u157 :: u158 :: u159 :: u160 :: u161 :: u162 :: u163 :: u164 :: u165 :: u166 :: u167 :: u168 :: u169 :: u170 :: u171 :: u172 :: u173 :: u174 :: u175 :: u176 :: u177 :: u178 :: u179 :: u180 :: u181 :: u182 :: u183 :: [])) []) w := by
  conv => enter [2]; whnf
  obtain ⟨qow, qa, qn, qc, qgo, qrs⟩ := q
  have hgo : qgo = (g : Int) := hgo
  subst hgo
  have how : 0 ≤ qow ∧ qow ≤ 255 := how
  have i3 := Try.info_quN
  have hlq := hO.o.len
  have hch' : (ch : Int) < 7 := by omega
  have hnh : ¬ Qbl (.slice (some ⟨gq, 0, none⟩) 7 cq) qs gh := hO.o.box bh (by decide) (by decide) (by decide)
  have hghl := bh.lt
  have hsh : gs ≠ gh := BxS.apart bs bh (by decide)
  have hrh : gr ≠ gh := BxS.apart br bh (by decide)
  have HFI : Hid _ := hFI
  clear hFI
  obtain ⟨OW2, hOW2⟩ : ∃ z : Int, (qow + 1) % 256 = z := ⟨_, rfl⟩
  have hV : V = Qs.set ch ⟨OW2, (TG : Int), TP⟩ := by rw [hV]; show Qs.set ch ⟨(qow + 1) % 256, _, _⟩ = _; rw [hOW2]
  have HV : Hid _ := hV
  clear hV
  have HY : Hid _ := hY
  clear hY
  obtain ⟨TU', hTU'⟩ : ∃ t : Nat, (ch + 1) % 7 = t := ⟨_, rfl⟩
  rw [hTU'] at hTU
  subst hTU
  have hw1 : IntKind.i64.wrap ((ch : Int) + 1) = (ch : Int) + 1 := wrap_i64_in _ (by omega) (by omega)
  have ht1 : ((ch : Int) + 1).tmod 7 = (TU' : Int) := by rw [Int.tmod_eq_emod_of_nonneg (by omega)]; omega
  have ht2 : ((ch : Int) + 1) % 7 = (TU' : Int) := by omega
  have hw2 : IntKind.i64.wrap (qow + 1) = qow + 1 := wrap_i64_in _ (by omega) (by omega)
  have ht3 : (qow + 1).tmod 256 = OW2 := by rw [Int.tmod_eq_emod_of_nonneg (by omega)]; exact hOW2
  have ht4 : (qow + 1) % 256 = OW2 := hOW2
  clear hTU' hOW2
  refine wp_seq_k fun K1 hK1 => ?_
  have HK1 : Hid _ := hK1
  clear hK1
  obtain ⟨x0, x1, x2, x3, x4⟩ := BxS.cell5 bs
  obtain ⟨y0, y1, y2, y3, y4⟩ := BxS.cell5 bh
  obtain ⟨c0, c1, c2⟩ := hO.o.cell hq
  have bn := BxS.new w 83 #[.int .i64 0, .slice none 0 0, .int .i64 0]
  have gn := World.grownBy_alloc w (.cells #[.int .i64 0, .slice none 0 0, .int .i64 0] 83) none
  have s0 : True := trivial
  go_wp2_with (have _t := s0; clear s0; refine wpList_stX _ rfl _ (.tmp 13) (.tmp 85) rfl w.heap.size _ #[.int .i64 qow, .slice qa qn qc, .int .i64 (g : Int)] rfl rfl bn i3 rfl (by simp [Value.oneCell']) ?_; intro w1 bQ1 v1)
  clear x0 x1 x2 x3 x4 y0 y1 y2 y3 y4 c0 c1 c2 bn
  have Y1 := grown_far gn v1 (fun x e => by have e := Option.some.inj e; omega)
  have bs1 := bs.keep Y1 (by simp)
  have br1 := br.keep Y1 (by simp)
  have bh1 := bh.keep Y1 (by simp)
  have hO1 := hO.keep Y1
  have G1 := grown_trans G Y1
  have hs1 := Y1.size
  have hQold : ∀ x, Qbl (.slice (some ⟨gq, 0, none⟩) 7 cq) qs x → x < w.heap.size ∧ lo ≤ x := fun x hx => hO.o.hi hx
  have hnQ : ¬ Qbl (.slice (some ⟨gq, 0, none⟩) 7 cq) qs w.heap.size := fun h => by have := (hQold _ h).1; omega
  have hgsl := bs.lt
  have hgrl := br.lt
  have h0w := G.size
  generalize hgQ : w.heap.size = gQ at *
  refine HK1.out _ _ ?_
  clear HK1
  refine wp_seq_k fun K2 hK2 => ?_
  have HK2 : Hid _ := hK2
  clear hK2
  obtain ⟨x0, x1, x2, x3, x4⟩ := BxS.cell5 bs1
  obtain ⟨y0, y1, y2, y3, y4⟩ := BxS.cell5 bh1
  have s0 : True := trivial
  go_wp2_with (have _t := s0; clear s0; refine wpList_stC _ rfl _ _ _ rfl gs 3 38 _ #[.int .i64 cr, .int .i64 sz, .int .i64 MA, .int .i64 (TU' : Int), .slice (some ⟨gq, 0, none⟩) 7 cq] (.int .i64 (TU' : Int)) rfl rfl bs1 (stc_int _ _ _) (by show 3 < 5; decide) rfl ?_; intro w2 bs2 v2)
  clear x0 x1 x2 x3 x4 y0 y1 y2 y3 y4
  have br2 := br1.keep v2 (fun e => by have e := Option.some.inj e; omega)
  have bh2 := bh1.keep v2 (fun e => by have e := Option.some.inj e; omega)
  have bQ2 := bQ1.keep v2 (fun e => by have e := Option.some.inj e; omega)
  have hO2 := hO1.fz (Fz.of1 v2) (fun x hx e => by have := (hQold x hx).2; omega)
  have G2 := grown_far G1 v2 (fun x e => by have e := Option.some.inj e; omega)
  have hs2 := v2.size
  refine HK2.out _ _ ?_
  clear HK2
  refine wp_seq_k fun K3 hK3 => ?_
  have HK3 : Hid _ := hK3
  clear hK3
  obtain ⟨c0, c1, c2⟩ := BxS.cell3 bQ2
  have s0 : True := trivial
  go_wp2_with (have _t := s0; clear s0; refine wpList_stC _ rfl _ _ _ rfl gh 3 28 _ #[.int .i64 cr, .int .i64 (ch : Int), .int .i64 ma, .int .i64 qow, .int .i64 2046] (.int .i64 qow) rfl rfl bh2 (stc_int _ _ _) (by show 3 < 5; decide) rfl ?_; intro w3 bh3 v3)
  clear c0 c1 c2
  have br3 := br2.keep v3 (fun e => by have e := Option.some.inj e; omega)
  have bs3 := bs2.keep v3 (fun e => by have e := Option.some.inj e; omega)
  have bQ3 := bQ2.keep v3 (fun e => by have e := Option.some.inj e; omega)
  have hO3 := hO2.fz (Fz.of1 v3) (fun x hx e => by rw [e] at hx; exact hnh hx)
  have G3 := grown_far G2 v3 (fun x e => by have e := Option.some.inj e; omega)
  have hs3 := v3.size
  refine HK3.out _ _ ?_
  clear HK3
  refine wp_seq_k fun K4 hK4 => ?_
  have HK4 : Hid _ := hK4
  clear hK4
  obtain ⟨c0, c1, c2⟩ := BxS.cell3 bQ3
  have s0 : True := trivial
  go_wp2_with (have _t := s0; clear s0; refine wpList_stC _ rfl _ _ _ rfl gQ 0 83 _ #[.int .i64 OW2, .slice qa qn qc, .int .i64 (g : Int)] (.int .i64 OW2) rfl rfl bQ3 (stc_int _ _ _) (by show 0 < 3; decide) rfl ?_; intro w4 bQ4 v4)
  clear c0 c1 c2
  have br4 := br3.keep v4 (fun e => by have e := Option.some.inj e; omega)
  have bs4 := bs3.keep v4 (fun e => by have e := Option.some.inj e; omega)
  have bh4 := bh3.keep v4 (fun e => by have e := Option.some.inj e; omega)
  have hO4 := hO3.fz (Fz.of1 v4) (fun x hx e => by rw [e] at hx; exact hnQ hx)
  have G4 := grown_far G3 v4 (fun x e => by have e := Option.some.inj e; omega)
  have hs4 := v4.size
  refine HK4.out _ _ ?_
  clear HK4
  refine wp_seq_k fun K5 hK5 => ?_
  have HK5 : Hid _ := hK5
  clear hK5
  have s0 : True := trivial
  go_wp2_with (have _t := s0; clear s0; refine wpList_stC _ rfl _ _ _ rfl gh 4 28 _ #[.int .i64 cr, .int .i64 (ch : Int), .int .i64 ma, .int .i64 qow, .int .i64 2047] (.int .i64 2047) rfl rfl bh4 (stc_int _ _ _) (by show 4 < 5; decide) rfl ?_; intro w5 bh5 v5)
  have br5 := br4.keep v5 (fun e => by have e := Option.some.inj e; omega)
  have bs5 := bs4.keep v5 (fun e => by have e := Option.some.inj e; omega)
  have bQ5 := bQ4.keep v5 (fun e => by have e := Option.some.inj e; omega)
  have hO5 := hO4.fz (Fz.of1 v5) (fun x hx e => by rw [e] at hx; exact hnh hx)
  have G5 := grown_far G4 v5 (fun x e => by have e := Option.some.inj e; omega)
  have hs5 := v5.size
  refine HK5.out _ _ ?_
  clear HK5
  exact rn_t23 w0 w5 lo gs gr gh gQ gq cq room ch TG g cr sz ma MA _ OW2 qow FI st DA Y TP qs _ Qs V bs5 br5 bh5 bQ5 hroom hK HFI.out hO5 hq hnh hnQ hs (by omega) hch G5 HV.out HY.out ⟨hn, by omega⟩

set_option maxHeartbeats 32000000 in
theorem rn_t15 {u0 u3 u5 u6 u9 u10 u11 u12 u13 u14 u15 u16 u17 u18 u19 u20 u21 u22 u23 u24 u25 u26 u27 u28 u29 u30 u31 u32 u33 u34 u35 u36 u37 u38 u39 u40 u41 u42 u43 u44 u45 u46 u47 u48 u49 u50 u51 u52 u53 u54 u55 u56 u57 u58 u59 u60 u61 u62 u63 u64 u65 u66 u67 u68 u69 u70 u71 u72 u73 u74 u75 u76 u77 u78 u79 u80 u81 u82 u83 u84 u85 u86 u87 u88 u89 u90 u91 u92 u93 u94 u95 u96 u97 u98 u99 u100 u101 u102 u103 u104 u105 u106 u107 u108 u109 u110 u111 u112 u113 u114 u115 u116 u117 u118 u119 u120 u121 u122 u123 u124 u125 u126 u127 u128 u129 u130 u131 u132 u133 u134 u135 u136 u137 u138 u139 u140 u141 u142 u143 u144 u145 u146 u147 u148 u149 u150 u151 u152 u153 u154 u155 u156 u157 u158 u159 u160 u161 u162 u163 u164 u165 u166 u167 u168 u169 u170 u171 u172 u173 u174 u175 u176 u177 u178 u179 u180 u181 u182 u183 : Value} (w0 w : World) (lo gs gr gh gq cq room t : Nat) (cr sz ma CH OW FI MA TU st : Int) (DA Y : List Nat) (qs : List Qw) (Qs V : List Qd) (bs : BxS w gs 38 #[.int .i64 cr, .int .i64 sz, .int .i64 MA, .int .i64 (t : Int), .slice (some ⟨gq, 0, none⟩) 7 cq]) (br : BxS w gr 38 #[.int .i64 0, .int .i64 0, .int .i64 0, .int .i64 0, .slice none 0 0]) (bh : BxS w gh 28 #[.int .i64 cr, .int .i64 CH, .int .i64 ma, .int .i64 0, .int .i64 2046]) (hroom : 1 ≤ room ∧ room ≤ 2036) (hTF : TF room t ma Qs CH OW FI MA TU DA V) (hO : OwS w lo (some ⟨gq, 0, none⟩) 7 cq qs Qs) (hs : w0.heap.size ≤ gs ∧ w0.heap.size ≤ gr ∧ gs < lo ∧ gr < lo ∧ gs ≠ gr) (hlow : lo ≤ w.heap.size) (G : w0.grownBy w none) (hY : Y = pakL cr CH ma OW FI st DA) (hn : w0.heap.size ≤ gh) :
    Code.wp Try.prog (tailR 15 (Try.f32.body.getD .skip)) (bodyPost Try.prog Try.f32 (fun e w' => ∃ (a' : Option Addr) (n' c' : Nat) (ya : Option Addr) (yn yc : Nat), e = .returned (.tuple #[.agg #[.int .i64 cr, .int .i64 sz, .int .i64 MA, .int .i64 TU, .slice a' n' c'], .slice ya yn yc, .int .i64 0]) ∧ RdS w' a' n' c' V ∧ Ans w' w0.heap.size ya yn yc Y ∧ w0.grownBy w' none)) (Act.mk (List.toArray (u0 :: (.int .i64 st) :: (.pointer (some ⟨gs, 0, none⟩)) :: u3 :: (.pointer (some ⟨gr, 0, none⟩)) :: u5 :: u6 :: (.pointer (some ⟨gh, 0, none⟩)) :: (.int .i64 (room : Int)) :: u9 :: u10 :: u11 :: u12 :: u13 :: u14 :: u15 :: u16 :: u17 :: u18 :: u19 :: u20 :: u21 :: u22 :: u23 :: u24 :: u25 :: u26 :: u27 :: u28 :: u29 :: u30 :: u31 :: u32 :: u33 :: u34 :: u35 :: u36 :: u37 :: u38 :: u39 :: u40 :: u41 :: u42 :: u43 :: u44 :: u45 :: u46 :: u47 :: u48 :: u49 :: u50 :: u51 :: u52 :: u53 :: u54 :: u55 :: u56 :: u57 :: u58 :: u59 :: u60 :: u61 :: u62 :: u63 :: u64 :: u65 :: u66 :: u67 :: u68 :: u69 :: u70 :: u71 :: u72 :: u73 :: u74 :: u75 :: u76 :: u77 :: u78 :: u79 :: u80 :: u81 :: u82 :: u83 :: u84 :: u85 :: u86 :: u87 :: u88 :: u89 :: u90 :: u91 :: u92 :: u93 :: u94 :: u95 :: u96 :: u97 :: u98 :: u99 :: u100 :: u101 :: u102 :: u103 :: u104 :: u105 :: u106 :: u107 :: u108 :: u109 :: u110 :: u111 :: u112 :: u113 :: u114 :: u115 :: u116 :: u117 :: u118 :: u119 :: u120 :: u121 :: u122 :: u123 :: u124 :: u125 :: u126 :: u127 :: u128 :: u129 :: u130 :: u131 :: u132 :: u133 :: u134 :: u135 :: u136 :: u137 :: u138 :: u139 :: u140 :: u141 :: u142 :: u143 :: u144 :: u145 :: u146 :: u147 :: u148 :: u149 :: u150 :: u151 :: u152 :: u153 :: u154 :: u155 :: u156 :: u157 :: u158 :: u159 :: u160 :: u161 :: u162 :: u163 :: u164 :: u165 :: u166 :: u167 :: u168 :: u169 :: u170 :: u171 :: u172 :: u173 :: u174 :: u175 :: u176 :: u177 :: u178 :: u179 :: u180 :: u181 :: u182 :: u183 :: [])) []) w := by
  conv => enter [2]; whnf
  have i5 := Try.info_se
  have HTF : Hid _ := hTF
  clear hTF
  have HY : Hid _ := hY
  clear hY
  have h0w := G.size
  refine wp_seq_k fun K1 hK1 => ?_
  have HK1 : Hid _ := hK1
  clear hK1
  obtain ⟨y0, y1, y2, y3, y4⟩ := BxS.cell5 bh
  refine wp_seq_k fun K2 hK2 => ?_
  have HK2 : Hid _ := hK2
  clear hK2
  by_cases h7 : CH = 7
  · subst h7
    go_wp2
    clear y0 y1 y2 y3 y4
    refine HK2.out _ _ ?_
    clear HK2
    refine wp_cond_true rfl ?_
    refine wp_seq_k fun K3 hK3 => ?_
    have HK3 : Hid _ := hK3
    clear hK3
    have SD := grown_drew w none
    have SX : BxS w.drew gh 28 #[.int .i64 cr, .int .i64 7, .int .i64 ma, .int .i64 0, .int .i64 2046] := bh.keep SD (by simp)
    refine wp_regionL (fun wz => BxS wz gh 28 #[.int .i64 cr, .int .i64 7, .int .i64 ma, .int .i64 0, .int .i64 2046]) [] #[false, false, false, false, false, false, false, false, false, false] rfl (by kernel_rfl) ?_
    refine wpAnyZ_take [] 0 (.agg #[.int .i64 cr, .int .i64 7, .int .i64 ma, .int .i64 0, .int .i64 2046]) rfl (by kernel_rfl) (fun _ _ _ h => h) SX rfl (by intro wz hz; obtain ⟨x0, x1, x2, x3, x4⟩ := BxS.cell5 hz; go_simp) ?_
    try simp only [List.getElem_toArray, List.getElem_cons_succ, List.getElem_cons_zero, Act.put, List.setIfInBounds_toArray, List.set_cons_zero, List.set_cons_succ]
    refine wpAnyZ_take [] 1 (.int .i64 (room : Int)) rfl (by kernel_rfl) (fun _ _ _ h => h) SX rfl (by intro wz hz; obtain ⟨x0, x1, x2, x3, x4⟩ := BxS.cell5 hz; go_simp) ?_
    try simp only [List.getElem_toArray, List.getElem_cons_succ, List.getElem_cons_zero, Act.put, List.setIfInBounds_toArray, List.set_cons_zero, List.set_cons_succ]
    refine wpAnyZ_take [] 3 (.int .i64 st) rfl (by kernel_rfl) (fun _ _ _ h => h) SX rfl (by intro wz hz; obtain ⟨x0, x1, x2, x3, x4⟩ := BxS.cell5 hz; go_simp) ?_
    try simp only [List.getElem_toArray, List.getElem_cons_succ, List.getElem_cons_zero, Act.put, List.setIfInBounds_toArray, List.set_cons_zero, List.set_cons_succ]
    have bs2 := bs.keep SD (by simp)
    have br2 := br.keep SD (by simp)
    have hO2 := hO.keep SD
    have G2 := grown_trans G SD
    have hs2 := SD.size
    generalize w.drew = w2 at *
    have hTF := HTF.out
    have hall : OW = 0 ∧ FI = 2046 ∧ TU = (t : Int) ∧ DA = List.replicate room 0 ∧ V = Qs := by
      generalize hc : (7 : Int) = c7 at hTF
      rcases hTF.inv with ⟨h, rfl, rfl, rfl, rfl, rfl, rfl, rfl⟩ | ⟨ch, g, TG, q, TP, h, hch, hq, hg, h0, hne, hK, rfl, rfl, rfl, rfl, rfl, rfl⟩
      · exact ⟨rfl, rfl, rfl, rfl, rfl⟩
      · omega
    obtain ⟨rfl, rfl, rfl, rfl, rfl⟩ := hall
    clear hTF HTF
    refine wpAnyZ_oneB 2 rfl (by kernel_rfl) (fun K hK' => ?_)
    refine step_mkB _ rfl _ _ rfl room rfl rfl (by omega) ?_
    intro w3 hA3 v3
    have bh3 := SX.keep v3 (by simp)
    refine hK' _ _ (fun _ => bh3) ?_
    try simp only [List.getElem_toArray, List.getElem_cons_succ, List.getElem_cons_zero, Act.put, List.setIfInBounds_toArray, List.set_cons_zero, List.set_cons_succ]
    have G3 := grown_trans G2 v3
    have bs3 := bs2.keep v3 (by simp)
    have br3 := br2.keep v3 (by simp)
    have hO3 := hO2.keep v3
    refine wpAnyZ_oneB 4 rfl (by kernel_rfl) (fun K hK' => ?_)
    go_simp
    go_at_call 16
    refine (rpack_any cr 7 ma 0 2046 st _ room room (List.replicate room 0) w3 hA3.rd (by omega)).mono ?_
    rintro e w4 ⟨fa, fn', fc, rfl, hA4, v4⟩
    dsimp only
    have bh4 := bh3.keep v4 (by simp)
    refine hK' _ _ (fun _ => bh4) ?_
    try simp only [List.getElem_toArray, List.getElem_cons_succ, List.getElem_cons_zero, Act.put, List.setIfInBounds_toArray, List.set_cons_zero, List.set_cons_succ]
    refine wpAnyZ_take [] 5 (.tuple #[.slice fa fn' fc, .int .i64 (paE cr 7 ma 0 2046 st room : Nat)]) rfl (by kernel_rfl) (fun _ _ _ h => h) bh4 rfl (by intro wz hz; obtain ⟨x0, x1, x2, x3, x4⟩ := BxS.cell5 hz; go_simp) ?_
    try simp only [List.getElem_toArray, List.getElem_cons_succ, List.getElem_cons_zero, Act.put, List.setIfInBounds_toArray, List.set_cons_zero, List.set_cons_succ]
    refine wpAnyZ_take [] 6 (.slice fa fn' fc) rfl (by kernel_rfl) (fun _ _ _ h => h) bh4 rfl (by intro wz hz; obtain ⟨x0, x1, x2, x3, x4⟩ := BxS.cell5 hz; go_simp) ?_
    try simp only [List.getElem_toArray, List.getElem_cons_succ, List.getElem_cons_zero, Act.put, List.setIfInBounds_toArray, List.set_cons_zero, List.set_cons_succ]
    refine wpAnyZ_take [] 7 (.int .i64 (paE cr 7 ma 0 2046 st room : Nat)) rfl (by kernel_rfl) (fun _ _ _ h => h) bh4 rfl (by intro wz hz; obtain ⟨x0, x1, x2, x3, x4⟩ := BxS.cell5 hz; go_simp) ?_
    try simp only [List.getElem_toArray, List.getElem_cons_succ, List.getElem_cons_zero, Act.put, List.setIfInBounds_toArray, List.set_cons_zero, List.set_cons_succ]
    refine wpAnyZ_take [] 8 (.slice fa fn' fc) rfl (by kernel_rfl) (fun _ _ _ h => h) bh4 rfl (by intro wz hz; obtain ⟨x0, x1, x2, x3, x4⟩ := BxS.cell5 hz; go_simp) ?_
    try simp only [List.getElem_toArray, List.getElem_cons_succ, List.getElem_cons_zero, Act.put, List.setIfInBounds_toArray, List.set_cons_zero, List.set_cons_succ]
    refine wpAnyZ_take [] 9 (.int .i64 (paE cr 7 ma 0 2046 st room : Nat)) rfl (by kernel_rfl) (fun _ _ _ h => h) bh4 rfl (by intro wz hz; obtain ⟨x0, x1, x2, x3, x4⟩ := BxS.cell5 hz; go_simp) ?_
    try simp only [List.getElem_toArray, List.getElem_cons_succ, List.getElem_cons_zero, Act.put, List.setIfInBounds_toArray, List.set_cons_zero, List.set_cons_succ]
    refine wpAnyZ_doneB (by kernel_rfl) ?_ _
    have G4 := grown_trans G3 v4
    have bs4 := bs3.keep v4 (by simp)
    have br4 := br3.keep v4 (by simp)
    have hO4 := hO3.keep v4
    have hz3 := v3.size
    refine HK3.out _ _ ?_
    clear HK3
    refine wp_seq_k fun K3 hK3 => ?_
    have HK3 : Hid _ := hK3
    clear hK3
    obtain ⟨x0, x1, x2, x3, x4⟩ := BxS.cell5 bs4
    have s0 : True := trivial
    go_wp2_with (have _t := s0; clear s0; refine wpList_stX _ rfl _ (.tmp 4) (.tmp 78) rfl gr _ _ rfl rfl br4 i5 rfl (by simp [Value.oneCell']) ?_; intro w5 b9 v5)
    refine HK3.out _ _ ?_
    clear HK3
    refine wp_ret ?_
    simp only [Exit.then]
    refine bodyPost_ret (results_cell3 rfl _ _ _ ⟨gr, 0, none⟩ _ (.slice fa fn' fc) (.int .i64 0) rfl (BxS.load (t := 38) b9 Try.underlying38 i5) rfl rfl) rfl ?_
    refine ⟨_, _, _, fa, fn', fc, rfl, (hO4.wk.far v5 (by omega)).rd, ?_, grown_far G4 v5 (fun x e => by have e := Option.some.inj e; omega)⟩
    rw [HY.out]
    exact (hA4.kept v5 (.inr (fun e => by have := hA4.new _ e; omega))).wide (by omega)
  · go_wp2
    clear y0 y1 y2 y3 y4
    refine HK2.out _ _ ?_
    clear HK2
    refine wp_cond_false (by show Value.bool (CH == 7) = _; rw [(by simp [h7] : (CH == 7) = false)]) ?_
    refine wp_skip ?_
    refine HK1.out _ _ ?_
    clear HK1
    have hTF := HTF.out
    have hY := HY.out
    rcases hTF.inv with ⟨h, rfl, rfl, rfl, rfl, rfl, rfl, rfl⟩ | ⟨ch, g, TG, q, TP, h, hch, hq, hg, h0, hne, hK, rfl, rfl, rfl, rfl, rfl, rfl⟩
    · exact absurd rfl h7
    · skip
      have hd := hO.d
      rw [← hd, List.getElem?_map] at hq
      obtain ⟨qw, hqw, hqd⟩ := Option.map_eq_some_iff.1 hq
      subst hqd
      exact rn_t18 w0 w lo gs gr gh gq cq room ch TG g cr sz ma _ (t : Int) _ _ st DA Y TP qs qw Qs _ bs br bh hroom hg h0 hK rfl rfl hO hqw hs hlow hch G rfl hY hn

set_option maxHeartbeats 32000000 in
theorem rn_t9 {u0 u3 u5 u6 u9 u10 u11 u12 u13 u14 u15 u16 u17 u18 u19 u20 u21 u22 u23 u24 u25 u26 u27 u28 u29 u30 u31 u32 u33 u34 u35 u36 u37 u38 u39 u40 u41 u42 u43 u44 u45 u46 u47 u48 u49 u50 u51 u52 u53 u54 u55 u56 u57 u58 u59 u60 u61 u62 u63 u64 u65 u66 u67 u68 u69 u70 u71 u72 u73 u74 u75 u76 u77 u78 u79 u80 u81 u82 u83 u84 u85 u86 u87 u88 u89 u90 u91 u92 u93 u94 u95 u96 u97 u98 u99 u100 u101 u102 u103 u104 u105 u106 u107 u108 u109 u110 u111 u112 u113 u114 u115 u116 u117 u118 u119 u120 u121 u122 u123 u124 u125 u126 u127 u128 u129 u130 u131 u132 u133 u134 u135 u136 u137 u138 u139 u140 u141 u142 u143 u144 u145 u146 u147 u148 u149 u150 u151 u152 u153 u154 u155 u156 u157 u158 u159 u160 u161 u162 u163 u164 u165 u166 u167 u168 u169 u170 u171 u172 u173 u174 u175 u176 u177 u178 u179 u180 u181 u182 u183 : Value} (w0 w : World) (lo gs gr gh gq cq room t : Nat) (cr sz ma CH OW FI MA TU st : Int) (DA Y : List Nat) (qs : List Qw) (Qs V : List Qd) (bs : BxS w gs 38 #[.int .i64 cr, .int .i64 sz, .int .i64 MA, .int .i64 (t : Int), .slice (some ⟨gq, 0, none⟩) 7 cq]) (br : BxS w gr 38 #[.int .i64 0, .int .i64 0, .int .i64 0, .int .i64 0, .slice none 0 0]) (bh : BxS w gh 28 #[.int .i64 cr, .int .i64 7, .int .i64 ma, .int .i64 0, .int .i64 2046]) (hroom : 1 ≤ room ∧ room ≤ 2036) (hTF : TF room t ma Qs CH OW FI MA TU DA V) (hO : OwS w lo (some ⟨gq, 0, none⟩) 7 cq qs Qs) (hs : w0.heap.size ≤ gs ∧ w0.heap.size ≤ gr ∧ gs < lo ∧ gr < lo ∧ gs ≠ gr) (hlow : lo ≤ w.heap.size) (G : w0.grownBy w none) (hY : Y = pakL cr CH ma OW FI st DA) (hn : w0.heap.size ≤ gh) (htu : t ≤ 6) :
    Code.wp Try.prog (tailR 9 (Try.f32.body.getD .skip)) (bodyPost Try.prog Try.f32 (fun e w' => ∃ (a' : Option Addr) (n' c' : Nat) (ya : Option Addr) (yn yc : Nat), e = .returned (.tuple #[.agg #[.int .i64 cr, .int .i64 sz, .int .i64 MA, .int .i64 TU, .slice a' n' c'], .slice ya yn yc, .int .i64 0]) ∧ RdS w' a' n' c' V ∧ Ans w' w0.heap.size ya yn yc Y ∧ w0.grownBy w' none)) (Act.mk (List.toArray (u0 :: (.int .i64 st) :: (.pointer (some ⟨gs, 0, none⟩)) :: u3 :: (.pointer (some ⟨gr, 0, none⟩)) :: u5 :: u6 :: (.pointer (some ⟨gh, 0, none⟩)) :: (.int .i64 (room : Int)) :: u9 :: u10 :: u11 :: u12 :: u13 :: u14 :: u15 :: u16 :: u17 :: u18 :: u19 :: u20 :: u21 :: u22 :: u23 :: u24 :: u25 :: u26 :: u27 :: u28 :: u29 :: u30 :: u31 :: u32 :: u33 :: u34 :: u35 :: u36 :: u37 :: u38 :: u39 :: u40 :: u41 :: u42 :: u43 :: u44 :: u45 :: u46 :: u47 :: u48 :: u49 :: u50 :: u51 :: u52 :: u53 :: u54 :: u55 :: u56 :: u57 :: u58 :: u59 :: u60 :: u61 :: u62 :: u63 :: u64 :: u65 :: u66 :: u67 :: u68 :: u69 :: u70 :: u71 :: u72 :: u73 :: u74 :: u75 :: u76 :: u77 :: u78 :: u79 :: u80 :: u81 :: u82 :: u83 :: u84 :: u85 :: u86 :: u87 :: u88 :: u89 :: u90 :: u91 :: u92 :: u93 :: u94 :: u95 :: u96 :: u97 :: u98 :: u99 :: u100 :: u101 :: u102 :: u103 :: u104 :: u105 :: u106 :: u107 :: u108 :: u109 :: u110 :: u111 :: u112 :: u113 :: u114 :: u115 :: u116 :: u117 :: u118 :: u119 :: u120 :: u121 :: u122 :: u123 :: u124 :: u125 :: u126 :: u127 :: u128 :: u129 :: u130 :: u131 :: u132 :: u133 :: u134 :: u135 :: u136 :: u137 :: u138 :: u139 :: u140 :: u141 :: u142 :: u143 :: u144 :: u145 :: u146 :: u147 :: u148 :: u149 :: u150 :: u151 :: u152 :: u153 :: u154 :: u155 :: u156 :: u157 :: u158 :: u159 :: u160 :: u161 :: u162 :: u163 :: u164 :: u165 :: u166 :: u167 :: u168 :: u169 :: u170 :: u171 :: u172 :: u173 :: u174 :: u175 :: u176 :: u177 :: u178 :: u179 :: u180 :: u181 :: u182 :: u183 :: [])) []) w := by
  conv => enter [2]; whnf
  have hCH : ((chF t Qs 7 : Nat) : Int) = CH := by
    rcases hTF.inv with ⟨h, rfl, rfl, rfl, rfl, rfl, rfl, rfl⟩ | ⟨ch, g, TG, q, TP, h, hch, hq, hg, h0, hne, hK, rfl, rfl, rfl, rfl, rfl, rfl⟩
    · rw [h]; rfl
    · rw [h]
  have HCH : Hid _ := hCH
  clear hCH
  have HTF : Hid _ := hTF
  clear hTF
  have HY : Hid _ := hY
  clear hY
  have hlq := hO.o.len
  have hnh : ¬ Qbl (.slice (some ⟨gq, 0, none⟩) 7 cq) qs gh := hO.o.box bh (by decide) (by decide) (by decide)
  have hsh : gs ≠ gh := BxS.apart bs bh (by decide)
  have hrh : gr ≠ gh := BxS.apart br bh (by decide)
  obtain ⟨x0, x1, x2, x3, x4⟩ := BxS.cell5 bs
  refine wp_seq_k fun K1 hK1 => ?_
  have HK1 : Hid _ := hK1
  clear hK1
  go_wp2
  go_loopw [9] (fun iv wr => ∃ k : Nat, iv = .int .i64 k ∧ k ≤ 7 ∧ Hid (chF t Qs (7 - k) = chF t Qs 7) ∧ Hid (wr = w)) (fun iv _ => 7 - (intOf iv).toNat)
  case atStart => exact ⟨0, by go_num, by decide, rfl, rfl⟩
  case round =>
    obtain ⟨k, rfl, hk, HC, hwr⟩ := hrel
    have hwr := hwr.out
    subst hwr
    by_cases hlt : k < 7
    · have hlt' : (k : Int) ≤ 6 := by omega
      obtain ⟨ch, hch⟩ : ∃ ch, (t + k) % 7 = ch := ⟨_, rfl⟩
      have hch7 : ch < 7 := by omega
      have hw1 : IntKind.i64.wrap ((t : Int) + (k : Int)) = (t : Int) + (k : Int) := wrap_i64_in _ (by omega) (by omega)
      have ht1 : ((t : Int) + (k : Int)).tmod 7 = (ch : Int) := by rw [Int.tmod_eq_emod_of_nonneg (by omega)]; omega
      have ht2 : ((t : Int) + (k : Int)) % 7 = (ch : Int) := by omega
      have hwk : IntKind.i64.wrap ((k : Int) + 1) = (k : Int) + 1 := wrap_i64_in _ (by omega) (by omega)
      have hqe : qs[ch]? = some (qs[ch]'(by omega)) := List.getElem?_eq_getElem (by omega)
      obtain ⟨y0, y1, y2⟩ := hO.o.cell hqe
      have hc7' : (ch : Int) < 7 := by omega
      have e3 : (Qs.getD ch qd0).P.length = (qs[ch]'(by omega)).n := by
        rw [← hO.d, List.getD_eq_getElem?_getD, List.getElem?_map, hqe]
        show ((qs[ch]'(by omega)).rs.map Rw.D).length = _
        rw [List.length_map]
        exact (hO.o.each _ (List.getElem_mem _)).len
      generalize (qs[ch]'(by omega)) = qc at y0 y1 y2 e3
      have HS : Hid (chF t Qs (7 - k) = if 0 < qc.n then ch else chF t Qs (7 - (k + 1))) := by
        show _ = _
        rw [show 7 - k = (6 - k) + 1 by omega]
        show (if 0 < (Qs.getD ((t + (6 - (6 - k))) % 7) qd0).P.length then (t + (6 - (6 - k))) % 7 else chF t Qs (6 - k)) = _
        rw [show 6 - (6 - k) = k by omega, hch, e3, show 7 - (k + 1) = 6 - k by omega]
      clear e3 hch hqe
      by_cases hp : 0 < qc.n
      · have hp' : (0 : Int) < (qc.n : Int) := by omega
        have s0 : True := trivial
        go_wp2_with (have _t := s0; clear s0; refine wpList_stC _ rfl _ _ _ rfl gh 1 28 _ #[.int .i64 cr, .int .i64 (ch : Int), .int .i64 ma, .int .i64 0, .int .i64 2046] (.int .i64 (ch : Int)) rfl rfl bh (stc_int _ _ _) (by show 1 < 5; decide) rfl ?_; intro w1 bh1 v1)
        have hcc : (ch : Int) = CH := by rw [← HCH.out, ← HC.out, HS.out, if_pos hp]
        rw [hcc] at bh1
        have hs1 := v1.size
        refine HK1.out _ _ ?_
        clear HK1
        exact rn_t15 w0 w1 lo gs gr gh gq cq room t cr sz ma CH OW FI MA TU st DA Y qs Qs V (bs.keep v1 (fun e => by have e := Option.some.inj e; omega)) (br.keep v1 (fun e => by have e := Option.some.inj e; omega)) bh1 hroom HTF.out (hO.fz (Fz.of1 v1) (fun x hx e => by rw [e] at hx; exact hnh hx)) hs (by omega) (grown_far G v1 (fun x e => by have e := Option.some.inj e; omega)) HY.out hn
      · have hp' : ¬ (0 : Int) < (qc.n : Int) := by omega
        go_wp2
        go_roundw
        case rel => exact ⟨k + 1, by go_num, by omega, (by have e := HS.out; rw [if_neg hp] at e; exact (e.symm.trans HC.out : _ = _)), trivial⟩
        case measure => simp [intOf]; omega
    · obtain rfl : k = 7 := by omega
      go_wp2
      have hcc : (7 : Int) = CH := by rw [← HCH.out, ← HC.out]; rfl
      rw [hcc] at bh
      refine HK1.out _ _ ?_
      clear HK1
      exact rn_t15 w0 wr lo gs gr gh gq cq room t cr sz ma CH OW FI MA TU st DA Y qs Qs V bs br bh hroom HTF.out hO hs hlow G HY.out hn

set_option maxHeartbeats 32000000 in
theorem rnext_any (cr sz ma tu st r0 r1 r2 r3 : Int) (Q' : List Qd) (Y : List Nat) (Er : Nat) (a : Option Addr) (n c : Nat) (Qs : List Qd) (w : World) (h : RdS w a n c Qs) (f1 : FitQ 140737488351232 Qs) (f2 : ∀ q, q ∈ Qs → q.P.length * 24 ≤ 140737488351232) (f3 : n * 40 ≤ 140737488351232) (hN : NX cr sz ma tu Qs st r0 r1 r2 r3 Q' Y Er) :
    Calls Try.prog 32 #[.agg #[.int .i64 cr, .int .i64 sz, .int .i64 ma, .int .i64 tu, .slice a n c], .int .i64 st] w fun e w' => ∃ (a' : Option Addr) (n' c' : Nat) (ya : Option Addr) (yn yc : Nat), e = .returned (.tuple #[.agg #[.int .i64 r0, .int .i64 r1, .int .i64 r2, .int .i64 r3, .slice a' n' c'], .slice ya yn yc, .int .i64 (Er : Int)]) ∧ RdS w' a' n' c' Q' ∧ Ans w' w.heap.size ya yn yc Y ∧ w.grownBy w' none := by
  have hlQ := h.len
  have b0 := BxS.new w 38 #[.int .i64 cr, .int .i64 sz, .int .i64 ma, .int .i64 tu, .slice a n c]
  have g0 := World.grownBy_alloc w (.cells #[.int .i64 cr, .int .i64 sz, .int .i64 ma, .int .i64 tu, .slice a n c] 38) none
  generalize hw0 : w.alloc (.cells #[.int .i64 cr, .int .i64 sz, .int .i64 ma, .int .i64 tu, .slice a n c] 38) = w0 at b0 g0
  have hz0 : w0.heap.size = w.heap.size + 1 := by rw [← hw0]; simp
  have b1 := BxS.new w0 38 #[.int .i64 0, .int .i64 0, .int .i64 0, .int .i64 0, .slice none 0 0]
  have g1 := World.grownBy_alloc w0 (.cells #[.int .i64 0, .int .i64 0, .int .i64 0, .int .i64 0, .slice none 0 0] 38) none
  generalize hw1 : w0.alloc (.cells #[.int .i64 0, .int .i64 0, .int .i64 0, .int .i64 0, .slice none 0 0] 38) = w1 at b1 g1
  rw [hz0] at b1
  have sz1 : w.heap.size + 2 ≤ w1.heap.size := by rw [← hw1]; simp [hz0]
  have p0 := b0.keep g1 (by simp)
  have G1 := grown_trans g0 g1
  have i5 := Try.info_se
  have j5 := Try.info_he
  obtain ⟨x0, x1, x2, x3, x4⟩ := BxS.cell5 p0
  have kM := rsenderMay2_any cr sz ma tu a n c Qs w1 (h.keep G1) f1
  have s0 : True := trivial
  rcases hN.inv with ⟨hS, rfl, rfl, rfl, rfl, rfl, rfl, rfl⟩ | ⟨hS, hW, rfl, rfl, rfl, rfl, rfl, rfl, rfl⟩ | ⟨hS, hW, room, t, CH, OW, FI, MA, TU, DA, V, hr, hsz, hma, htu, ht, hT, rfl, rfl, rfl, rfl, rfl, rfl, rfl⟩ <;> clear hN
  · rw [hS] at kM
    go_enter Try.func32, Try.ntmps32
    go_wp2_with (first
      | (go_at_call 53; have _t := s0; clear s0; refine kM.mono ?_; rintro e w2 ⟨rfl, y2⟩; have q0 := p0.keep y2 (by simp); have q1 := b1.keep y2 (by simp); have z2 := y2.size; clear x0 x1 x2 x3 x4; obtain ⟨x0, x1, x2, x3, x4⟩ := BxS.cell5 q0; have s1 : True := trivial)
      | (have _t := s1; clear s1; refine wpList_stX _ rfl _ (.tmp 4) (.tmp 25) rfl (w.heap.size + 1) _ _ rfl rfl q1 i5 rfl (by simp [Value.oneCell']) ?_; intro w9 b9 u9; skip))
    refine bodyPost_ret (results_cell3 rfl _ _ _ ⟨w.heap.size + 1, 0, none⟩ _ (.slice none 0 0) (.int .i64 11) rfl (BxS.load (t := 38) b9 Try.underlying38 i5) rfl rfl) rfl ?_
    exact ⟨none, 0, 0, none, 0, 0, rfl, RdS.nil _, ans_nil _ _, grown_far (grown_trans G1 y2) u9 (fun q e => by have e := Option.some.inj e; omega)⟩
  · rw [hS] at kM
    obtain ⟨hl7, hq7⟩ := seD_ok hS
    have hn7 : n = 7 := by omega
    subst hn7
    have kC := fun wz hz => senderOf_any cr sz ma tu a 7 c Qs wz hz f1 f2 f3
    have hW : ¬ (0 ≤ st ∧ st ≤ 4294967295) := of_decide_eq_false hW
    by_cases hneg : st < 0
    · go_enter Try.func32, Try.ntmps32
      go_wp2_with (first
        | (go_at_call 53; have _t := s0; clear s0; refine kM.mono ?_; rintro e w2 ⟨rfl, y2⟩; have q0 := p0.keep y2 (by simp); have q1 := b1.keep y2 (by simp); have z2 := y2.size; clear x0 x1 x2 x3 x4; obtain ⟨x0, x1, x2, x3, x4⟩ := BxS.cell5 q0; have s1 : True := trivial)
        | (go_at_call 54; have _t := s1; clear s1; refine (kC _ (h.keep (grown_trans G1 y2))).mono ?_; rintro e w3 ⟨aq, cq, qs3, rfl, hO3, y3⟩; have q0 := q0.keep y3 (by simp); have q1 := q1.keep y3 (by simp); have z3 := y3.size; clear x0 x1 x2 x3 x4; have s2 : True := trivial)
        | (have _t := s2; clear s2; refine wpList_stX _ rfl _ (.tmp 2) (.tmp 27) rfl w.heap.size _ _ rfl rfl q0 i5 rfl (by simp [Value.oneCell']) ?_; intro w4 q0 u4; obtain ⟨x0, x1, x2, x3, x4⟩ := BxS.cell5 q0; have hO4 := hO3.far u4 (by omega); have q1 := q1.keep u4 (fun e => by have e := Option.some.inj e; omega); have z4 := u4.size; have G4 := grown_far (grown_trans (grown_trans G1 y2) y3) u4 (fun q e => by have e := Option.some.inj e; omega); have s3 : True := trivial)
        | (have _t := s3; clear s3; refine wpList_stX _ rfl _ (.tmp 4) (.tmp 34) rfl (w.heap.size + 1) _ _ rfl rfl q1 i5 rfl (by simp [Value.oneCell']) ?_; intro w9 b9 u9; skip))
      refine bodyPost_ret (results_cell3 rfl _ _ _ ⟨w.heap.size + 1, 0, none⟩ _ (.slice none 0 0) (.int .i64 2) rfl (BxS.load (t := 38) b9 Try.underlying38 i5) rfl rfl) rfl ?_
      exact ⟨_, _, _, none, 0, 0, rfl, ((hO4.far u9 (by omega)).rd), ans_nil _ _, grown_far G4 u9 (fun q e => by have e := Option.some.inj e; omega)⟩
    · have hbig : st > 4294967295 := by omega
      have hbig' : (4294967295 : Int) < st := by omega
      go_enter Try.func32, Try.ntmps32
      go_wp2_with (first
        | (go_at_call 53; have _t := s0; clear s0; refine kM.mono ?_; rintro e w2 ⟨rfl, y2⟩; have q0 := p0.keep y2 (by simp); have q1 := b1.keep y2 (by simp); have z2 := y2.size; clear x0 x1 x2 x3 x4; obtain ⟨x0, x1, x2, x3, x4⟩ := BxS.cell5 q0; have s1 : True := trivial)
        | (go_at_call 54; have _t := s1; clear s1; refine (kC _ (h.keep (grown_trans G1 y2))).mono ?_; rintro e w3 ⟨aq, cq, qs3, rfl, hO3, y3⟩; have q0 := q0.keep y3 (by simp); have q1 := q1.keep y3 (by simp); have z3 := y3.size; clear x0 x1 x2 x3 x4; have s2 : True := trivial)
        | (have _t := s2; clear s2; refine wpList_stX _ rfl _ (.tmp 2) (.tmp 27) rfl w.heap.size _ _ rfl rfl q0 i5 rfl (by simp [Value.oneCell']) ?_; intro w4 q0 u4; obtain ⟨x0, x1, x2, x3, x4⟩ := BxS.cell5 q0; have hO4 := hO3.far u4 (by omega); have q1 := q1.keep u4 (fun e => by have e := Option.some.inj e; omega); have z4 := u4.size; have G4 := grown_far (grown_trans (grown_trans G1 y2) y3) u4 (fun q e => by have e := Option.some.inj e; omega); have s3 : True := trivial)
        | (have _t := s3; clear s3; refine wpList_stX _ rfl _ (.tmp 4) (.tmp 34) rfl (w.heap.size + 1) _ _ rfl rfl q1 i5 rfl (by simp [Value.oneCell']) ?_; intro w9 b9 u9; skip))
      refine bodyPost_ret (results_cell3 rfl _ _ _ ⟨w.heap.size + 1, 0, none⟩ _ (.slice none 0 0) (.int .i64 2) rfl (BxS.load (t := 38) b9 Try.underlying38 i5) rfl rfl) rfl ?_
      exact ⟨_, _, _, none, 0, 0, rfl, ((hO4.far u9 (by omega)).rd), ans_nil _ _, grown_far G4 u9 (fun q e => by have e := Option.some.inj e; omega)⟩
  · subst ht
    rw [nx_pa hS hW hsz hma hT, show ((0 : Nat) : Int) = 0 from rfl]
    rw [hS] at kM
    have hszS := (seD_sz hS).2
    obtain ⟨hl7, hq7⟩ := seD_ok hS
    have hn7 : n = 7 := by omega
    subst hn7
    have kC := fun wz hz => senderOf_any cr sz ma t a 7 c Qs wz hz f1 f2 f3
    have hW : 0 ≤ st ∧ st ≤ 4294967295 := of_decide_eq_true hW
    have hW1 : ¬ st < 0 := by omega
    have hW2 : ¬ st > 4294967295 := by omega
    have hW3 : ¬ (4294967295 : Int) < st := by omega
    have hwr : IntKind.i64.wrap (sz - 12) = (room : Int) := by rw [wrap_i64_in _ (by omega) (by omega)]; omega
    have hroom : 1 ≤ room ∧ room ≤ 2036 := by omega
    clear hsz hszS
    obtain ⟨MA', hMA'⟩ : ∃ z : Int, (ma + 1) % 256 = z := ⟨_, rfl⟩
    have hMA : MA = MA' := by rw [← hMA']; rcases hT.inv with ⟨h, rfl, rfl, rfl, rfl, rfl, rfl, rfl⟩ | ⟨ch, g, TG, q, TP, h, hch, hq, hg, h0, hne, hK, rfl, rfl, rfl, rfl, rfl, rfl⟩ <;> rfl
    subst hMA
    have hw2 : IntKind.i64.wrap (ma + 1) = ma + 1 := wrap_i64_in _ (by omega) (by omega)
    have ht3 : (ma + 1).tmod 256 = MA := by rw [Int.tmod_eq_emod_of_nonneg (by omega)]; exact hMA'
    have HT : Hid _ := hT
    clear hT
    go_enter Try.func32, Try.ntmps32
    refine wp_seq_k fun K1 hK1 => ?_
    have HK1 : Hid _ := hK1
    clear hK1
    go_wp2
    refine HK1.out _ _ ?_
    clear HK1
    refine wp_seq_k fun K2 hK2 => ?_
    have HK2 : Hid _ := hK2
    clear hK2
    go_wp2_with (go_at_call 53; have _t := s0; clear s0; refine kM.mono ?_; rintro e w2 ⟨rfl, y2⟩; have q0 := p0.keep y2 (by simp); have q1 := b1.keep y2 (by simp); have z2 := y2.size; clear x0 x1 x2 x3 x4; obtain ⟨x0, x1, x2, x3, x4⟩ := BxS.cell5 q0; have s1 : True := trivial)
    refine HK2.out _ _ ?_
    clear HK2
    refine wp_seq_k fun K3 hK3 => ?_
    have HK3 : Hid _ := hK3
    clear hK3
    go_wp2_with (first
      | (go_at_call 54; have _t := s1; clear s1; refine (kC _ (h.keep (grown_trans G1 y2))).mono ?_; rintro e w3 ⟨aq, cq, qs3, rfl, hO3, y3⟩; have q0 := q0.keep y3 (by simp); have q1 := q1.keep y3 (by simp); have z3 := y3.size; clear x0 x1 x2 x3 x4; have s2 : True := trivial)
      | (have _t := s2; clear s2; refine wpList_stX _ rfl _ (.tmp 2) (.tmp 27) rfl w.heap.size _ _ rfl rfl q0 i5 rfl (by simp [Value.oneCell']) ?_; intro w4 q0 u4; obtain ⟨x0, x1, x2, x3, x4⟩ := BxS.cell5 q0; have hO4 := hO3.far u4 (by omega); have q1 := q1.keep u4 (fun e => by have e := Option.some.inj e; omega); have z4 := u4.size; have G4 := grown_far (grown_trans (grown_trans G1 y2) y3) u4 (fun q e => by have e := Option.some.inj e; omega); have s3 : True := trivial))
    obtain ⟨gq, rfl⟩ : ∃ g, aq = some ⟨g, 0, none⟩ := hO4.wk.o.someQ (by decide)
    refine HK3.out _ _ ?_
    clear HK3
    refine wp_seq_k fun K4 hK4 => ?_
    have HK4 : Hid _ := hK4
    clear hK4
    go_wp2
    refine HK4.out _ _ ?_
    clear HK4
    refine wp_seq_k fun K5 hK5 => ?_
    have HK5 : Hid _ := hK5
    clear hK5
    have bn := BxS.new w4 28 #[.int .i64 0, .int .i64 0, .int .i64 0, .int .i64 0, .int .i64 0]
    have gn := World.grownBy_alloc w4 (.cells #[.int .i64 0, .int .i64 0, .int .i64 0, .int .i64 0, .int .i64 0] 28) none
    have s4 : True := trivial
    go_wp2_with (have _t := s4; clear s4; refine wpList_stX _ rfl _ (.tmp 7) (.tmp 39) rfl w4.heap.size _ #[.int .i64 cr, .int .i64 7, .int .i64 ma, .int .i64 0, .int .i64 2046] rfl rfl bn j5 rfl (by simp [Value.oneCell']) ?_; intro w5 bh5 u5)
    have Y5 := grown_far gn u5 (fun x e => by have e := Option.some.inj e; omega)
    clear x0 x1 x2 x3 x4
    have q0 := q0.keep Y5 (by simp)
    have q1 := q1.keep Y5 (by simp)
    have hO5 := hO4.keep Y5
    have G5 := grown_trans G4 Y5
    have z5 := Y5.size
    refine HK5.out _ _ ?_
    clear HK5
    refine wp_seq_k fun K6 hK6 => ?_
    have HK6 : Hid _ := hK6
    clear hK6
    obtain ⟨x0, x1, x2, x3, x4⟩ := BxS.cell5 q0
    have s5 : True := trivial
    go_wp2_with (have _t := s5; clear s5; refine wpList_stC _ rfl _ _ _ rfl w.heap.size 2 38 _ #[.int .i64 cr, .int .i64 sz, .int .i64 MA, .int .i64 (t : Int), .slice (some ⟨gq, 0, none⟩) 7 cq] (.int .i64 MA) rfl rfl q0 (stc_int _ _ _) (by show 2 < 5; decide) rfl ?_; intro w6 bs6 u6)
    clear x0 x1 x2 x3 x4
    have q1 := q1.keep u6 (fun e => by have e := Option.some.inj e; omega)
    have bh6 := bh5.keep u6 (fun e => by have e := Option.some.inj e; omega)
    have hO6 := hO5.far u6 (by omega)
    have G6 := grown_far G5 u6 (fun x e => by have e := Option.some.inj e; omega)
    have z6 := u6.size
    refine HK6.out _ _ ?_
    clear HK6
    refine wp_seq_k fun K7 hK7 => ?_
    have HK7 : Hid _ := hK7
    clear hK7
    obtain ⟨x0, x1, x2, x3, x4⟩ := BxS.cell5 bs6
    go_wp2
    clear x0 x1 x2 x3 x4
    refine HK7.out _ _ ?_
    clear HK7
    exact rn_t9 w w6 w2.heap.size w.heap.size (w.heap.size + 1) w4.heap.size gq cq room t cr sz ma CH OW FI MA TU st DA _ qs3 Qs V bs6 q1 bh6 hroom HT.out hO6 ⟨by omega, by omega, by omega, by omega, by omega⟩ (by omega) G6 rfl (by omega) htu

open Go.ChangeShapes Go.WideShapes
abbrev ShQu : Sh := .fcons 1 (.int .i64) (.fcons 1 (.slice 1 24 (.slice 1 1 (.int .u8))) (.fcons 1 (.int .i64) .fend))
/-- a queue as it is read, with its rows as data -/
structure Qr where
  ow : Int
  a : Option Addr
  n : Nat
  c : Nat
  go : Int
  P : List (List Nat)
def Qr.cells (k : Qr) : List Value := [.int .i64 k.ow, .slice k.a k.n k.c, .int .i64 k.go]
theorem met_queue {w : World} {full : Bool} {n : Nat} {cs : List Value} (h : ShQu.met w full cs n) : ∃ k : Qr, cs = k.cells ∧ RdW w k.a k.n k.c k.P ∧ (full = true → Fit 140737488351232 k.P ∧ k.n * 24 ≤ 140737488351232) := by
  obtain ⟨n0, m0, rfl, ⟨_, ow, e0, k0⟩, n1, m1, rfl, h1, n2, m2, rfl, ⟨_, go, e2, k2⟩, e3, _⟩ := h
  obtain ⟨a, len, cap, P, e1, hr, hf⟩ := met_rowsK h1
  refine ⟨⟨ow, a, len, cap, go, P⟩, ?_, hr, hf⟩
  unfold Qr.cells
  match cs with
  | [] => simp at e0
  | [_] => simp at e1
  | [_, _] => simp at e2
  | [x0, x1, x2] => simp_all
  | x0 :: x1 :: x2 :: x3 :: r => simp at e3
theorem met_queues {w : World} {full : Bool} {N : Nat} {cs : List Value} (h : (Sh.slice 3 40 ShQu).met w full cs N) :
    ∃ a len cap Qs, cs = [.slice a len cap] ∧ RdS w a len cap Qs ∧ (full = true → FitQ 140737488351232 Qs ∧ (∀ q, q ∈ Qs → q.P.length * 24 ≤ 140737488351232) ∧ len * 40 ≤ 140737488351232) := by
  rcases h with ⟨rfl, rfl⟩ | ⟨x, len, cap, G, C, rfl, rfl, hl, hm, hf, hc⟩
  · exact ⟨none, 0, 0, [], rfl, RdS.nil w, fun _ => ⟨(fun k h => by cases h), (fun k h => by cases h), by decide⟩⟩
  · have each : ∀ i, i < cap → ∃ k : Qr, (∀ j, j < 3 → w.cell? (x.add (i * 3 + j)) = k.cells[j]?) ∧ RdW w k.a k.n k.c k.P ∧ (full = true → Fit 140737488351232 k.P ∧ k.n * 24 ≤ 140737488351232) := by
      intro i hi
      obtain ⟨h1, h2, h3⟩ := hc i hi
      obtain ⟨k, e, hk⟩ := met_queue h3
      refine ⟨k, fun j hj => ?_, hk⟩
      rw [h2 j hj, e]
    have hI : Inhabited Qr := ⟨⟨0, none, 0, 0, 0, []⟩⟩
    obtain ⟨K, hK⟩ := Go.Deep.choose_lt each
    have hE : ∀ i, i < cap → ∃ F : Nat → Rw, RdR w (K i).a (K i).n (K i).c F ∧ ∀ j, j < (K i).n → (F j).D = (K i).P.getD j [] := fun i hi => (hK i hi).2.1.ex
    have hI2 : Inhabited (Nat → Rw) := ⟨fun _ => kr0⟩
    obtain ⟨F, hF⟩ := Go.Deep.choose_lt hE
    have hat : ∀ i, i < len → ((List.range len).map (fun i => Qd.mk (K i).ow (K i).go (K i).P)).getD i qd0 = ⟨(K i).ow, (K i).go, (K i).P⟩ := fun i hi => by
      rw [List.getD_eq_getElem?_getD, List.getElem?_map, List.getElem?_range hi]; rfl
    have hmem : ∀ k, k ∈ (List.range len).map (fun i => Qd.mk (K i).ow (K i).go (K i).P) → ∃ i, i < len ∧ (⟨(K i).ow, (K i).go, (K i).P⟩ : Qd) = k := by
      intro k hk
      obtain ⟨i, hi, rfl⟩ := List.mem_map.1 hk
      exact ⟨i, List.mem_range.1 hi, rfl⟩
    refine ⟨some x, len, cap, (List.range len).map (fun i => Qd.mk (K i).ow (K i).go (K i).P), rfl, ⟨by simp, fun i => ⟨(K i).ow, (K i).a, (K i).n, (K i).c, (K i).go, F i⟩, ⟨hl, hm, fun h0 => ?_, fun i hi => (hF i (by omega)).1⟩, fun i hi => ?_⟩, fun hh => ⟨fun k hk => ?_, fun k hk => ?_, ?_⟩⟩
    · obtain ⟨b, off, spot⟩ := x
      have hc0 := (hK 0 (by omega)).1 0 (by decide)
      have h0' : w.cell? (⟨b, off, spot⟩ : Addr) = some (.int .i64 (K 0).ow) := by simpa [Addr.add, Qr.cells] using hc0
      have hspot : spot = none := by simpa using World.cell?_spot h0'
      subst hspot
      refine ⟨b, off, rfl, World.block_lt_of_cell? w _ h0', fun i hi => ?_⟩
      have q0 := (hK i (by omega)).1 0 (by decide)
      have q1 := (hK i (by omega)).1 1 (by decide)
      have q2 := (hK i (by omega)).1 2 (by decide)
      rw [addr_add'] at q0 q1 q2
      exact ⟨q0, q1, q2⟩
    · rw [hat i hi]
      exact ⟨rfl, rfl, (hK i (by omega)).2.1.len.symm, (hF i (by omega)).2⟩
    · obtain ⟨i, hi, rfl⟩ := hmem k hk
      exact ((hK i (by omega)).2.2 hh).1
    · obtain ⟨i, hi, rfl⟩ := hmem k hk
      have h1 := ((hK i (by omega)).2.2 hh).2
      have h2 := (hK i (by omega)).2.1.len
      show (K i).P.length * 24 ≤ _
      omega
    · have := hf hh
      unfold reachBytes at this
      omega
abbrev ShSe : Sh := .fcons 1 (.int .i64) (.fcons 1 (.int .i64) (.fcons 1 (.int .i64) (.fcons 1 (.int .i64) (.fcons 1 (.slice 3 40 ShQu) .fend))))
theorem shown_sender {w : World} {full : Bool} {k : Nat} {v : Value} (h : ShSe.shown w full v k) :
    ∃ (cr sz ma tu : Int) (a : Option Addr) (n c : Nat) (Qs : List Qd), v = .agg #[.int .i64 cr, .int .i64 sz, .int .i64 ma, .int .i64 tu, .slice a n c] ∧ RdS w a n c Qs ∧ (full = true → FitQ 140737488351232 Qs ∧ (∀ q, q ∈ Qs → q.P.length * 24 ≤ 140737488351232) ∧ n * 40 ≤ 140737488351232) := by
  obtain ⟨cs, rfl, hm⟩ := h
  obtain ⟨_, _, rfl, ⟨_, z0, e0, _⟩, _, _, rfl, ⟨_, z1, e1, _⟩, _, _, rfl, ⟨_, z2, e2, _⟩, _, _, rfl, ⟨_, z3, e3, _⟩, _, _, rfl, h4, e5, _⟩ := hm
  obtain ⟨a4, n4, c4, R4, e4, hR4, hf4⟩ := met_queues h4
  refine ⟨z0, z1, z2, z3, a4, n4, c4, R4, ?_, hR4, hf4⟩
  congr 1
  apply Array.toList_inj.1
  generalize cs.toList = l at *
  match l with
  | [] => simp at e0
  | [_] => simp at e1
  | [_, _] => simp at e2
  | [_, _, _] => simp at e3
  | [_, _, _, _] => simp at e4
  | [x0, x1, x2, x3, x4] => simp_all
  | x0 :: x1 :: x2 :: x3 :: x4 :: x5 :: r => simp at e5

theorem below_ofN {w w' : World} (h : w.grownBy w' none) : Below w.heap.size w w' := (Below.refl _ _).grown h (Nat.le_refl _) (fun k hk => by cases hk)
set_option maxHeartbeats 16000000 in
theorem nexts1_any (gch : Nat) (cr sz ma tu st r0 r1 r2 r3 : Int) (Q' : List Qd) (Y : List Nat) (Er : Nat) (a : Option Addr) (n c : Nat) (Qs : List Qd) (w : World) (hv : BxS w gch 3 #[.int .i64 st]) (h : RdS w a n c Qs) (hN : NX cr sz ma tu Qs st r0 r1 r2 r3 Q' Y Er) :
    Calls Try.prog 33 #[.agg #[.int .i64 cr, .int .i64 sz, .int .i64 ma, .int .i64 tu, .slice a n c], .pointer (some ⟨gch, 0, none⟩)] w fun e w' => ∃ (a' : Option Addr) (n' c' : Nat) (qs' : List Qw) (ya : Option Addr) (yn yc : Nat), e = .returned (.tuple #[.agg #[.int .i64 r0, .int .i64 r1, .int .i64 r2, .int .i64 r3, .slice a' n' c'], .slice ya yn yc, .int .i64 (Er : Int)]) ∧ WkS w' w.heap.size a' n' c' qs' Q' ∧ (Ans w' w.heap.size ya yn yc Y ∧ ∀ x, Wbl (.slice a' n' c') qs' x → (Value.slice ya yn yc).ownBlock ≠ some x) ∧ w.grownBy w' none := by
  have b0 := BxS.new w 38 #[.int .i64 cr, .int .i64 sz, .int .i64 ma, .int .i64 tu, .slice a n c]
  have g0 := World.grownBy_alloc w (.cells #[.int .i64 cr, .int .i64 sz, .int .i64 ma, .int .i64 tu, .slice a n c] 38) none
  generalize hw0 : w.alloc (.cells #[.int .i64 cr, .int .i64 sz, .int .i64 ma, .int .i64 tu, .slice a n c] 38) = w0 at b0 g0
  have hz0 : w0.heap.size = w.heap.size + 1 := by rw [← hw0]; simp
  have b1 := BxS.new w0 38 #[.int .i64 0, .int .i64 0, .int .i64 0, .int .i64 0, .slice none 0 0]
  have g1 := World.grownBy_alloc w0 (.cells #[.int .i64 0, .int .i64 0, .int .i64 0, .int .i64 0, .slice none 0 0] 38) none
  generalize hw1 : w0.alloc (.cells #[.int .i64 0, .int .i64 0, .int .i64 0, .int .i64 0, .slice none 0 0] 38) = w1 at b1 g1
  rw [hz0] at b1
  have sz1 : w.heap.size + 2 ≤ w1.heap.size := by rw [← hw1]; simp [hz0]
  have p0 := b0.keep g1 (by simp)
  have G1 := grown_trans g0 g1
  have i5 := Try.info_se
  obtain ⟨x0, x1, x2, x3, x4⟩ := BxS.cell5 p0
  have xc : w1.cell? ⟨gch, 0, none⟩ = some (.int .i64 st) := (hv.keep G1 (by simp)).cell 0 (by show 0 < 1; decide)
  have kD := next_any cr sz ma tu st r0 r1 r2 r3 Q' Y Er a n c Qs w1 (h.keep G1) hN
  have s0 : True := trivial
  go_enter Try.func33, Try.ntmps33
  go_wp2_with (first
    | (go_at_call 34; have _t := s0; clear s0; refine kD.mono ?_; rintro e w2 ⟨a1, n1, c1, k1, ya, yn, yc, rfl, hW, hY, y2⟩; have z2 := y2.size; have q1 := b1.keep y2 (by simp); clear x0 x1 x2 x3 x4 xc; have s1 : True := trivial)
    | (have _t := s1; clear s1; refine wpList_stX _ rfl _ (.tmp 3) (.tmp 9) rfl (w.heap.size + 1) _ _ rfl rfl q1 i5 rfl (by simp [Value.oneCell']) ?_; intro w9 b9 u9))
  refine bodyPost_ret (results_cell3 rfl _ _ _ ⟨w.heap.size + 1, 0, none⟩ _ (.slice ya yn yc) (.int .i64 (Er : Int)) rfl (BxS.load (t := 38) b9 Try.underlying38 i5) rfl rfl) rfl ?_
  exact ⟨_, _, _, _, ya, yn, yc, rfl, (hW.far u9 (by omega)).wide (by omega), ⟨(hY.1.kept u9 (.inr (fun e => by have := hY.1.new _ e; omega))).wide (by omega), hY.2⟩, grown_far (grown_trans G1 y2) u9 (fun q e => by have e := Option.some.inj e; omega)⟩
set_option maxHeartbeats 32000000 in
theorem nexts_walk (cr sz ma tu st : Int) (a : Option Addr) (n c : Nat) (Qs : List Qd) (w : World) (h : RdS w a n c Qs) (f1 : FitQ 140737488351232 Qs) (f2 : ∀ q, q ∈ Qs → q.P.length * 24 ≤ 140737488351232) (f3 : n * 40 ≤ 140737488351232) :
    Calls Try.prog 8 #[.agg #[.int .i64 cr, .int .i64 sz, .int .i64 ma, .int .i64 tu, .slice a n c], .int .i64 st] w fun e w' => e = .returned (.bool true) ∧ Below w.heap.size w w' := by
  obtain ⟨r0, r1, r2, r3, Q', Y, Er, hN⟩ := nx_ex cr sz ma tu Qs st
  obtain ⟨fV1, fV2, fV3, fY⟩ := nx_fit hN f1 f2 (by rw [h.len]; exact f3)
  have b3 := BxS.new w 38 #[.int .i64 cr, .int .i64 sz, .int .i64 ma, .int .i64 tu, .slice a n c]
  have g0 := World.grownBy_alloc w (.cells #[.int .i64 cr, .int .i64 sz, .int .i64 ma, .int .i64 tu, .slice a n c] 38) none
  generalize hw0 : w.alloc (.cells #[.int .i64 cr, .int .i64 sz, .int .i64 ma, .int .i64 tu, .slice a n c] 38) = w0 at b3 g0
  have hz0 : w0.heap.size = w.heap.size + 1 := by rw [← hw0]; simp
  have b4 := BxS.new w0 3 #[.int .i64 st]
  have g1 := World.grownBy_alloc w0 (.cells #[.int .i64 st] 3) none
  generalize hw1 : w0.alloc (.cells #[.int .i64 st] 3) = w1 at b4 g1
  rw [hz0] at b4
  have sz1 : w.heap.size + 2 ≤ w1.heap.size := by rw [← hw1]; simp [hz0]
  have b3 := b3.keep g1 (by simp)
  have G1 := grown_trans g0 g1
  have i5 := Try.info_se
  obtain ⟨x0, x1, x2, x3, x4⟩ := BxS.cell5 b3
  have xc : w1.cell? ⟨w.heap.size + 1, 0, none⟩ = some (.int .i64 st) := b4.cell 0 (by show 0 < 1; decide)
  have hF := rnext_any cr sz ma tu st r0 r1 r2 r3 Q' Y Er a n c Qs w1 (h.keep G1) f1 f2 f3 hN
  have hC := fun wz za zc hv hz => nexts1_any (w.heap.size + 1) cr sz ma tu st r0 r1 r2 r3 Q' Y Er za n zc Qs wz hv hz hN
  have s0 : True := trivial
  go_enter Try.func8, Try.ntmps8
  go_wp2_with (first
    | (go_at_call 32; have _t := s0; clear s0; refine hF.mono ?_; rintro e w2 ⟨a2, n2, c2, ya, yn, yc, rfl, hV, hY, y2⟩; have z2 := y2.size; have b3 := b3.keep y2 (by simp); have b4 := b4.keep y2 (by simp); clear x0 x1 x2 x3 x4 xc; have bn := BxS.new w2 38 #[.int .i64 0, .int .i64 0, .int .i64 0, .int .i64 0, .slice none 0 0]; have gn := World.grownBy_alloc w2 (.cells #[.int .i64 0, .int .i64 0, .int .i64 0, .int .i64 0, .slice none 0 0] 38) none; have s1 : True := trivial)
    | (have _t := s1; clear s1; refine wpList_stX _ rfl _ (.tmp 5) (.tmp 13) rfl w2.heap.size _ _ rfl rfl bn i5 rfl (by simp [Value.oneCell']) ?_; intro w3 b7 u3; have Y3 := grown_far gn u3 (fun q e => by have e := Option.some.inj e; omega); have b3 := b3.keep Y3 (by simp); have b4 := b4.keep Y3 (by simp); have hV := hV.keep Y3; have hY := hY.keep Y3; have z3 := Y3.size; have G3 := grown_trans (grown_trans G1 y2) Y3; obtain ⟨x0, x1, x2, x3, x4⟩ := BxS.cell5 b3; obtain ⟨t0, t1, t2, t3, t4⟩ := BxS.cell5 b7; have s2 : True := trivial)
    | (go_at_call 30; have _t := s2; clear s2; refine (senderAs_next (w.heap.size + 1) cr sz ma tu r0 r1 r2 r3 Y ya yn yc Qs Q' Er a a2 n c n2 c2 w3 (fun wz => BxS wz (w.heap.size + 1) 3 #[.int .i64 st]) (fun x y hx g => hx.keep g (by simp)) b4 (fun wz za zc hI hz => hC wz za zc hI hz) hY.rd (fun g off e => hY.ltB (by rw [e]; rfl)) fY (h.keep G3) hV f1 f2 f3 fV1 fV2 (by rw [← hV.len]; exact fV3)).mono ?_; rintro e w6 ⟨rfl, y6⟩))
  go_ret
  exact ⟨rfl, below_ofN (grown_trans G3 y6)⟩
end Go.Proofs.Ytlmddjkplnbadaa
