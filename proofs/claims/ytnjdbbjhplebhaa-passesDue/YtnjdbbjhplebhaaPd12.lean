import Derived.Deep.CutBlock
import Derived.Test.YtnjdbbjhplebhaaPd11
namespace Go.Proofs.Ytnjdbbjhplebhaa
open Go.RowKit
set_option maxRecDepth 100000
set_option linter.unusedVariables false
set_option linter.unusedSimpArgs false

section
theorem sumF_succ (f : Nat → Nat) (n : Nat) : sumF f (n + 1) = sumF f n + f n := rfl
set_option maxHeartbeats 32000000 in
theorem du_t22 {u0 u1 u2 u3 u4 u5 u6 u9 u10 u11 u12 u14 u15 u16 u17 u18 u19 u20 u21 u22 u23 u24 u25 u26 u27 u28 u29 u30 u31 u32 u33 u34 u35 u36 u37 u38 u39 u40 u41 u42 u43 u44 u45 u46 u47 u48 u49 u50 u51 u52 u53 u54 u55 u56 u57 u58 u59 u60 u61 u62 u63 u64 u65 u66 u67 u68 u69 u70 u71 u72 u73 u74 u75 u76 u77 u78 u79 u80 u81 u82 u83 u84 u85 u86 u87 u88 u89 u90 u91 u92 u93 u94 u95 u96 u97 u98 u99 u100 u101 u102 u103 u104 u105 u106 u107 u108 u109 u110 u111 u112 u113 u114 u115 u116 u117 u118 u119 u120 u121 u122 u123 u124 u125 u126 u127 u128 u129 u130 u131 u132 u133 u134 u135 u136 u137 u138 u139 u140 u141 u142 u143 u144 u145 u146 u147 u148 u149 u150 u151 u152 u153 u154 u155 u156 u157 u158 u159 u160 u161 u162 u163 u164 u165 u166 u167 u168 u169 u170 u171 u172 u173 u174 u175 u176 u177 u178 u179 u180 u181 u182 u183 u184 u185 u186 u187 u188 u189 u190 u191 u192 u193 u194 u195 u196 u197 u198 u199 u200 u201 u202 u203 u204 u205 u206 u207 u208 u209 u210 u211 u212 u213 u214 u215 u216 u217 u218 u219 u220 u221 u222 u223 u224 u225 u226 u227 u228 u229 u230 u231 u232 u233 u234 u235 u236 u237 u238 u239 u240 u241 u242 u243 u244 u245 u246 u247 u248 u249 u250 u251 u252 u253 u254 u255 u256 u257 u258 u259 u260 u261 u262 u263 u264 u265 u266 u267 u268 u269 u270 u271 : Value} (P : Ending → World → Prop) (w : World) (wa ja : Option Addr) (wn wc jn jc g8 : Nat) (W J : Nat → Jb) (hW : RdT w wa wn wc (fun i => tJ (W i))) (hJ : RdT w ja jn jc (fun i => tJ (J i))) (hR : InB w g8 40 (fun t => (rtW W wn t : Int))) (hm : MayS W J wn jn) (hjn : jn ≤ 6) (h40 : ∀ i, i < jn → (J i).fr ≤ (J i).by' ∧ (J i).by' ≤ 40) (hP : ∀ w', w.grownBy w' none → P (.returned (.bool true)) w') :
    Code.wp Try.prog (tailR 22 (Try.f4.body.getD .skip)) (bodyPost Try.prog Try.f4 P) (Act.mk (List.toArray (u0 :: u1 :: u2 :: u3 :: u4 :: u5 :: u6 :: (.slice wa wn wc) :: (.slice (some ⟨g8, 0, none⟩) 40 40) :: u9 :: u10 :: u11 :: u12 :: (.slice ja jn jc) :: u14 :: u15 :: u16 :: u17 :: u18 :: u19 :: u20 :: u21 :: u22 :: u23 :: u24 :: u25 :: u26 :: u27 :: u28 :: u29 :: u30 :: u31 :: u32 :: u33 :: u34 :: u35 :: u36 :: u37 :: u38 :: u39 :: u40 :: u41 :: u42 :: u43 :: u44 :: u45 :: u46 :: u47 :: u48 :: u49 :: u50 :: u51 :: u52 :: u53 :: u54 :: u55 :: u56 :: u57 :: u58 :: u59 :: u60 :: u61 :: u62 :: u63 :: u64 :: u65 :: u66 :: u67 :: u68 :: u69 :: u70 :: u71 :: u72 :: u73 :: u74 :: u75 :: u76 :: u77 :: u78 :: u79 :: u80 :: u81 :: u82 :: u83 :: u84 :: u85 :: u86 :: u87 :: u88 :: u89 :: u90 :: u91 :: u92 :: u93 :: u94 :: u95 :: u96 :: u97 :: u98 :: u99 :: u100 :: u101 :: u102 :: u103 :: u104 :: u105 :: u106 :: u107 :: u108 :: u109 :: u110 :: u111 :: u112 :: u113 :: u114 :: u115 :: u116 :: u117 :: u118 :: u119 :: u120 :: u121 :: u122 :: u123 :: u124 :: u125 :: u126 :: u127 :: u128 :: u129 :: u130 :: u131 :: u132 :: u133 :: u134 :: u135 :: u136 :: u137 :: u138 :: u139 :: u140 :: u141 :: u142 :: u143 :: u144 :: u145 :: u146 :: u147 :: u148 :: u149 :: u150 :: u151 :: u152 :: u153 :: u154 :: u155 :: u156 :: u157 :: u158 :: u159 :: u160 :: u161 :: u162 :: u163 :: u164 :: u165 :: u166 :: u167 :: u168 :: u169 :: u170 :: u171 :: u172 :: u173 :: u174 :: u175 :: u176 :: u177 :: u178 :: u179 :: u180 :: u181 :: u182 :: u183 :: u184 :: u185 :: u186 :: u187 :: u188 :: u189 :: u190 :: u191 :: u192 :: u193 :: u194 :: u195 :: u196 :: u197 :: u198 :: u199 :: u200 :: u201 :: u202 :: u203 :: u204 :: u205 :: u206 :: u207 :: u208 :: u209 :: u210 :: u211 :: u212 :: u213 :: u214 :: u215 :: u216 :: u217 :: u218 :: u219 :: u220 :: u221 :: u222 :: u223 :: u224 :: u225 :: u226 :: u227 :: u228 :: u229 :: u230 :: u231 :: u232 :: u233 :: u234 :: u235 :: u236 :: u237 :: u238 :: u239 :: u240 :: u241 :: u242 :: u243 :: u244 :: u245 :: u246 :: u247 :: u248 :: u249 :: u250 :: u251 :: u252 :: u253 :: u254 :: u255 :: u256 :: u257 :: u258 :: u259 :: u260 :: u261 :: u262 :: u263 :: u264 :: u265 :: u266 :: u267 :: u268 :: u269 :: u270 :: u271 :: [])) []) w := by
  conv => enter [2]; whnf
  have HP : Hid _ := hP
  have HM : Hid _ := hm
  have H40 : Hid _ := h40
  have START : Hid (RdT w wa wn wc (fun i => tJ (W i)) ∧ RdT w ja jn jc (fun i => tJ (J i)) ∧ InB w g8 40 (fun t => (rtW W wn t : Int))) := ⟨hW, hJ, hR⟩
  have HB : Hid (∀ t, sumF (rtW W wn) t ≤ t * 200000000) := fun t => sumF_bd _ _ (fun s => Nat.le_trans (rt_bd W s wn (fun i hi => (hm.w i hi).2.2)) (by have := hm.hw; omega)) t
  have HN : Hid (∀ k a b, need J k a b ≤ k * 1000000) := fun k a b => sumF_bd _ _ (fun i => by
    have := (hm.j i).2.2
    show (if _ then _ else _) ≤ _
    split
    · exact this
    · exact Nat.zero_le _) k
  have HJN : Hid (jn ≤ 6) := hjn
  clear hP hm h40 hW hJ hR hjn
  refine wp_seq_k fun K0 hK0 => ?_
  have HK0 : Hid _ := hK0
  clear hK0
  go_wp2
  refine HK0.out _ _ ?_
  clear HK0
  refine wp_seq_k fun K1 hK1 => ?_
  have HK1 : Hid _ := hK1
  clear hK1
  go_wp2
  go_loopw [18, 17] (fun v18 v17 wr => ∃ (a : Nat) (cb : Bool), a ≤ 41 ∧ v18 = .int .i64 (a : Nat) ∧ v17 = .bool cb ∧ Hid (cb = true ↔ ∀ a', a' < a → ∀ b', a' ≤ b' → b' ≤ 40 → okS W J wn jn a' b') ∧ Hid (RdT wr wa wn wc (fun i => tJ (W i))) ∧ Hid (RdT wr ja jn jc (fun i => tJ (J i))) ∧ Hid (InB wr g8 40 (fun t => (rtW W wn t : Int))) ∧ Hid (w.grownBy wr none)) (fun v18 v17 _ => 41 - (intOf v18).toNat)
  case atStart => exact ⟨0, true, by omega, rfl, rfl, ⟨fun _ a' h => absurd h (by omega), fun _ => rfl⟩, START.out.1, START.out.2.1, START.out.2.2, World.grownBy.refl _ _⟩
  case round =>
    obtain ⟨a, cb, ha, rfl, rfl, hcb, hW, hJ, hR, hGG⟩ := hrel
    by_cases hlt : a ≤ 40
    · have lk : (a : Int) ≤ 40 := by omega
      have HA : Hid (a ≤ 40) := hlt
      clear hlt ha
      go_wp2
      go_loopw [19, 17] (fun v19 v17 wx => ∃ (b : Nat) (cb : Bool), a ≤ b ∧ b ≤ 41 ∧ v19 = .int .i64 (b : Nat) ∧ v17 = .bool cb ∧ Hid (cb = true ↔ (∀ a', a' < a → ∀ b', a' ≤ b' → b' ≤ 40 → okS W J wn jn a' b') ∧ ∀ b', b' < b → a ≤ b' → okS W J wn jn a b') ∧ Hid (RdT wx wa wn wc (fun i => tJ (W i))) ∧ Hid (RdT wx ja jn jc (fun i => tJ (J i))) ∧ Hid (InB wx g8 40 (fun t => (rtW W wn t : Int))) ∧ Hid (w.grownBy wx none)) (fun v19 v17 _ => 41 - (intOf v19).toNat)
      case atStart => exact ⟨a, cb, Nat.le_refl _, by have := HA.out; omega, rfl, rfl, ⟨fun h => ⟨hcb.out.1 h, fun b' h1 h2 => absurd h1 (by omega)⟩, fun h => hcb.out.2 h.1⟩, hW.out, hJ.out, hR.out, hGG.out⟩
      case round =>
        clear hcb hW hJ hR hGG
        obtain ⟨b, cb, hab, hb, rfl, rfl, hcb, hW, hJ, hR, hGG⟩ := hrel
        by_cases hlt2 : b ≤ 40
        · have lk2 : (b : Int) ≤ 40 := by omega
          have HAB : Hid (a ≤ b) := hab
          have HBL : Hid (b ≤ 40) := hlt2
          clear hab hb hlt2
          go_wp2
          go_loopw [22, 20] (fun v22 v20 wy => ∃ (t x : Nat), t ≤ b ∧ a ≤ t ∧ v22 = .int .i64 (t : Nat) ∧ v20 = .int .i64 (x : Nat) ∧ Hid (x + sumF (rtW W wn) a = sumF (rtW W wn) t) ∧ Hid (RdT wy wa wn wc (fun i => tJ (W i))) ∧ Hid (RdT wy ja jn jc (fun i => tJ (J i))) ∧ Hid (InB wy g8 40 (fun t => (rtW W wn t : Int))) ∧ Hid (w.grownBy wy none)) (fun v22 v20 _ => b - (intOf v22).toNat)
          case atStart => exact ⟨a, 0, HAB.out, Nat.le_refl _, rfl, rfl, by show _ = _; omega, hW.out, hJ.out, hR.out, hGG.out⟩
          case round =>
            clear hW hJ hR hGG
            obtain ⟨t, x, htb, hat, rfl, rfl, hx, hW, hJ, hR, hGG⟩ := hrel
            by_cases hlt3 : t < b
            · have lk3 : (t : Int) < (b : Int) := by omega
              have hbl := HBL.out
              have lk4 : (t : Int) < 40 := by omega
              have lk5 : t < 40 := by omega
              have y1 := InB.cell hR.out lk5
              have hbx := HB.out t
              have hxx := hx.out
              obtain ⟨q, hq⟩ : ∃ q, q = rtW W wn t := ⟨_, rfl⟩
              rw [← hq] at y1
              have hqs := sumF_succ (rtW W wn) t
              rw [← hq] at hqs
              have hbq := HB.out (t + 1)
              have hx1 : x ≤ 8000000000 := by omega
              have hq1 : q ≤ 9000000000 := by omega
              have hxi : (x : Int) ≤ 8000000000 := by omega
              have hqi : (q : Int) ≤ 9000000000 := by omega
              have HXN : Hid (x + q + sumF (rtW W wn) a = sumF (rtW W wn) (t + 1)) := by show _ = _; omega
              have HT3 : Hid (t < b) := hlt3
              have HAT : Hid (a ≤ t) := hat
              clear hbl hbx hxx hq hqs hbq lk5 htb hat hlt3 hx
              go_wp2
              exact ⟨⟨t + 1, x + q, HT3.out, by have := HAT.out; omega, by go_num, by go_num, HXN.out, hW.out, hJ.out, hR.out, hGG.out⟩, by have := HT3.out; simp [intOf] <;> omega⟩
            · obtain rfl : b = t := by omega
              have lk3 : ¬ (b : Int) < (b : Int) := by omega
              have hxb : x ≤ 8200000000 := by have := hx.out; have := HB.out b; have := HBL.out; omega
              have hxi : (x : Int) ≤ 8200000000 := by omega
              clear htb hat
              go_wp2
              go_loopw [23, 21] (fun v23 v21 wz => ∃ (i y : Nat), i ≤ jn ∧ v23 = .int .i64 (i : Nat) ∧ v21 = .int .i64 (y : Nat) ∧ Hid (y = need J i a b) ∧ Hid (RdT wz wa wn wc (fun i => tJ (W i))) ∧ Hid (RdT wz ja jn jc (fun i => tJ (J i))) ∧ Hid (InB wz g8 40 (fun t => (rtW W wn t : Int))) ∧ Hid (w.grownBy wz none)) (fun v23 v21 _ => jn - (intOf v23).toNat)
              case atStart => exact ⟨0, 0, Nat.zero_le _, rfl, rfl, (rfl : _ = _), hW.out, hJ.out, hR.out, hGG.out⟩
              case round =>
                clear hW hJ hR hGG
                obtain ⟨i, y, hi, rfl, rfl, hy, hW, hJ, hR, hGG⟩ := hrel
                have hyb : y ≤ 6000000 := by have := hy.out; have := HN.out i a b; have := HJN.out; omega
                have hyi : (y : Int) ≤ 6000000 := by omega
                clear hyb
                by_cases hlt4 : i < jn
                · have lk6 : (i : Int) < (jn : Int) := by omega
                  have hi6 : (i : Int) ≤ 6 := by have := HJN.out; omega
                  obtain ⟨bl, off, hja, _, hr⟩ := hJ.out.at' (by omega)
                  have hr := hr i hlt4
                  have c0 := hr 0 _ rfl
                  have c1 := hr 1 _ rfl
                  have c2 := hr 2 _ rfl
                  simp only [Nat.add_zero, tJ] at c0 c1 c2
                  have hns : Hid (need J (i + 1) a b = y + (if a ≤ (J i).fr ∧ (J i).by' ≤ b then (J i).by8 else 0)) := by show _ = _; rw [hy.out]; rfl
                  have hz := (HM.out.j i).2.2
                  obtain ⟨f, hf⟩ : ∃ f, f = (J i).fr := ⟨_, rfl⟩
                  obtain ⟨t, ht⟩ : ∃ t, t = (J i).by' := ⟨_, rfl⟩
                  obtain ⟨z, hzz⟩ : ∃ z, z = (J i).by8 := ⟨_, rfl⟩
                  rw [← hf] at c0 hns
                  rw [← ht] at c1 hns
                  rw [← hzz] at c2 hns hz
                  have hzi : (z : Int) ≤ 1000000 := by omega
                  have HJA : Hid (ja = some ⟨bl, off, none⟩) := hja
                  have HIL : Hid (i < jn) := hlt4
                  subst hja
                  clear hr hf ht hzz hz hlt4 hi hy
                  by_cases h1 : a ≤ f
                  · have l1 : (a : Int) ≤ (f : Int) := by omega
                    by_cases h2 : t ≤ b
                    · have l2 : (t : Int) ≤ (b : Int) := by omega
                      have HE : Hid (need J (i + 1) a b = y + z) := by show _ = _; rw [hns.out, if_pos ⟨h1, h2⟩]
                      clear h1 h2
                      go_wp2
                      exact ⟨⟨i + 1, y + z, HIL.out, by go_num, by go_num, by show _ = _; rw [HE.out], hW.out, hJ.out, hR.out, hGG.out⟩, by have := HIL.out; simp [intOf] <;> omega⟩
                    · have l2 : ¬ (t : Int) ≤ (b : Int) := by omega
                      have HE : Hid (need J (i + 1) a b = y) := by show _ = _; rw [hns.out, if_neg (fun h => h2 h.2)]; rfl
                      clear h1 h2
                      go_wp2
                      exact ⟨⟨i + 1, y, HIL.out, by go_num, rfl, by show _ = _; rw [HE.out], hW.out, hJ.out, hR.out, hGG.out⟩, by have := HIL.out; simp [intOf] <;> omega⟩
                  · have l1 : ¬ (a : Int) ≤ (f : Int) := by omega
                    have HE : Hid (need J (i + 1) a b = y) := by show _ = _; rw [hns.out, if_neg (fun h => h1 h.1)]; rfl
                    clear h1
                    go_wp2
                    exact ⟨⟨i + 1, y, HIL.out, by go_num, rfl, by show _ = _; rw [HE.out], hW.out, hJ.out, hR.out, hGG.out⟩, by have := HIL.out; simp [intOf] <;> omega⟩
                · obtain rfl : jn = i := by omega
                  have lk6 : ¬ (jn : Int) < (jn : Int) := by omega
                  have hxb2 := hx.out
                  have hyb2 := hy.out
                  have HOK : Hid (okS W J wn jn a b ↔ y ≤ x) := by
                    show _ ↔ _
                    unfold okS
                    omega
                  clear hxb2 hyb2 hi
                  cases cb with
                  | false =>
                    have hno : ¬ ((∀ a', a' < a → ∀ b', a' ≤ b' → b' ≤ 40 → okS W J wn jn a' b') ∧ ∀ b', b' < b → a ≤ b' → okS W J wn jn a b') := fun h => by have := hcb.out.2 h; cases this
                    have HNO : Hid _ := hno
                    clear hno
                    go_wp2
                    exact ⟨⟨b + 1, false, by have := HAB.out; omega, by have := HBL.out; omega, by go_num, rfl, ⟨fun h => (by cases h), fun h => absurd ⟨h.1, fun b' h1 h2 => h.2 b' (by omega) h2⟩ HNO.out⟩, hW.out, hJ.out, hR.out, hGG.out⟩, by have := HBL.out; simp [intOf] <;> omega⟩
                  | true =>
                    have hyes := hcb.out.1 rfl
                    have HYES : Hid _ := hyes
                    clear hyes
                    by_cases hyx : y ≤ x
                    · have l7 : (y : Int) ≤ (x : Int) := by omega
                      have HOY : Hid (okS W J wn jn a b) := HOK.out.2 hyx
                      clear hyx
                      go_wp2
                      exact ⟨⟨b + 1, true, by have := HAB.out; omega, by have := HBL.out; omega, by go_num, rfl, ⟨fun _ => ⟨HYES.out.1, fun b' h1 h2 => by
                        by_cases e : b' = b
                        · rw [e]; exact HOY.out
                        · exact HYES.out.2 b' (by omega) h2⟩, fun _ => rfl⟩, hW.out, hJ.out, hR.out, hGG.out⟩, by have := HBL.out; simp [intOf] <;> omega⟩
                    · have l7 : ¬ (y : Int) ≤ (x : Int) := by omega
                      have HON : Hid (¬ okS W J wn jn a b) := fun h => hyx (HOK.out.1 h)
                      clear hyx
                      go_wp2
                      exact ⟨⟨b + 1, false, by have := HAB.out; omega, by have := HBL.out; omega, by go_num, rfl, ⟨fun h => (by cases h), fun h => absurd (h.2 b (by omega) HAB.out) HON.out⟩, hW.out, hJ.out, hR.out, hGG.out⟩, by have := HBL.out; simp [intOf] <;> omega⟩
        · obtain rfl : b = 41 := by omega
          go_wp2
          exact ⟨⟨a + 1, cb, by have := HA.out; omega, by go_num, rfl, ⟨fun h a' h1 b' h2 h3 => by
            by_cases e : a' = a
            · subst e
              exact (hcb.out.1 h).2 b' (by omega) h2
            · exact (hcb.out.1 h).1 a' (by omega) b' h2 h3, fun h => hcb.out.2 ⟨fun a' h1 => h a' (by omega), fun b' h1 h2 => h a (by omega) b' h2 (by omega)⟩⟩, hW.out, hJ.out, hR.out, hGG.out⟩, by have := HA.out; simp [intOf] <;> omega⟩
    · obtain rfl : a = 41 := by omega
      go_wp2
      (try simp only [Exit.inBlock, Exit.then])
      have e : cb = fitB W J wn jn := by
        have h1 := can_fit W J wn jn H40.out
        cases hf : fitB W J wn jn with
        | true => exact hcb.out.2 (fun a' h2 b' h3 h4 => h1.1 hf a' (by omega) b' h3 h4)
        | false =>
          cases cb with
          | false => rfl
          | true =>
            have := h1.2 (fun a' h2 b' h3 h4 => hcb.out.1 rfl a' (by omega) b' h3 h4)
            rw [hf] at this
            cases this
      refine HK1.out _ _ ?_
      clear HK1
      exact du_t40 P wr wa ja wn wc jn jc W J cb hW.out hJ.out HM.out HJN.out e (fun w' g => HP.out w' (grown_trans hGG.out g))
end

section
set_option maxHeartbeats 32000000 in
theorem du_t13 {u0 u3 u4 u5 u6 u9 u10 u11 u12 u13 u14 u15 u16 u17 u18 u19 u20 u21 u22 u23 u24 u25 u26 u27 u28 u29 u30 u31 u32 u33 u34 u35 u36 u37 u38 u39 u40 u41 u42 u43 u44 u45 u46 u47 u48 u49 u50 u51 u52 u53 u54 u55 u56 u57 u58 u59 u60 u61 u62 u63 u64 u65 u66 u67 u68 u69 u70 u71 u72 u73 u74 u75 u76 u77 u78 u79 u80 u81 u82 u83 u84 u85 u86 u87 u88 u89 u90 u91 u92 u93 u94 u95 u96 u97 u98 u99 u100 u101 u102 u103 u104 u105 u106 u107 u108 u109 u110 u111 u112 u113 u114 u115 u116 u117 u118 u119 u120 u121 u122 u123 u124 u125 u126 u127 u128 u129 u130 u131 u132 u133 u134 u135 u136 u137 u138 u139 u140 u141 u142 u143 u144 u145 u146 u147 u148 u149 u150 u151 u152 u153 u154 u155 u156 u157 u158 u159 u160 u161 u162 u163 u164 u165 u166 u167 u168 u169 u170 u171 u172 u173 u174 u175 u176 u177 u178 u179 u180 u181 u182 u183 u184 u185 u186 u187 u188 u189 u190 u191 u192 u193 u194 u195 u196 u197 u198 u199 u200 u201 u202 u203 u204 u205 u206 u207 u208 u209 u210 u211 u212 u213 u214 u215 u216 u217 u218 u219 u220 u221 u222 u223 u224 u225 u226 u227 u228 u229 u230 u231 u232 u233 u234 u235 u236 u237 u238 u239 u240 u241 u242 u243 u244 u245 u246 u247 u248 u249 u250 u251 u252 u253 u254 u255 u256 u257 u258 u259 u260 u261 u262 u263 u264 u265 u266 u267 u268 u269 u270 u271 : Value} (P : Ending → World → Prop) (w : World) (ma sa wa : Option Addr) (mn mc sn sc wn wc g8 : Nat) (W : Nat → Jb) (M : Nat → Int × Int) (S : Nat → Int) (K : Nat → Int × Int) (hM : RdTu w ma mn mc M) (hS : RdIn w sa sn sc S) (hW : RdT w wa wn wc (fun i => tJ (dW K i))) (hR : InB w g8 40 (fun t => (rtW (dW K) wn t : Int))) (hwn : wn ≤ 6) (hP : ∀ w', w.grownBy w' none → P (.returned (.bool true)) w') :
    Code.wp Try.prog (tailR 13 (Try.f4.body.getD .skip)) (bodyPost Try.prog Try.f4 P) (Act.mk (List.toArray (u0 :: (.slice ma mn mc) :: (.slice sa sn sc) :: u3 :: u4 :: u5 :: u6 :: (.slice wa wn wc) :: (.slice (some ⟨g8, 0, none⟩) 40 40) :: u9 :: u10 :: u11 :: u12 :: u13 :: u14 :: u15 :: u16 :: u17 :: u18 :: u19 :: u20 :: u21 :: u22 :: u23 :: u24 :: u25 :: u26 :: u27 :: u28 :: u29 :: u30 :: u31 :: u32 :: u33 :: u34 :: u35 :: u36 :: u37 :: u38 :: u39 :: u40 :: u41 :: u42 :: u43 :: u44 :: u45 :: u46 :: u47 :: u48 :: u49 :: u50 :: u51 :: u52 :: u53 :: u54 :: u55 :: u56 :: u57 :: u58 :: u59 :: u60 :: u61 :: u62 :: u63 :: u64 :: u65 :: u66 :: u67 :: u68 :: u69 :: u70 :: u71 :: u72 :: u73 :: u74 :: u75 :: u76 :: u77 :: u78 :: u79 :: u80 :: u81 :: u82 :: u83 :: u84 :: u85 :: u86 :: u87 :: u88 :: u89 :: u90 :: u91 :: u92 :: u93 :: u94 :: u95 :: u96 :: u97 :: u98 :: u99 :: u100 :: u101 :: u102 :: u103 :: u104 :: u105 :: u106 :: u107 :: u108 :: u109 :: u110 :: u111 :: u112 :: u113 :: u114 :: u115 :: u116 :: u117 :: u118 :: u119 :: u120 :: u121 :: u122 :: u123 :: u124 :: u125 :: u126 :: u127 :: u128 :: u129 :: u130 :: u131 :: u132 :: u133 :: u134 :: u135 :: u136 :: u137 :: u138 :: u139 :: u140 :: u141 :: u142 :: u143 :: u144 :: u145 :: u146 :: u147 :: u148 :: u149 :: u150 :: u151 :: u152 :: u153 :: u154 :: u155 :: u156 :: u157 :: u158 :: u159 :: u160 :: u161 :: u162 :: u163 :: u164 :: u165 :: u166 :: u167 :: u168 :: u169 :: u170 :: u171 :: u172 :: u173 :: u174 :: u175 :: u176 :: u177 :: u178 :: u179 :: u180 :: u181 :: u182 :: u183 :: u184 :: u185 :: u186 :: u187 :: u188 :: u189 :: u190 :: u191 :: u192 :: u193 :: u194 :: u195 :: u196 :: u197 :: u198 :: u199 :: u200 :: u201 :: u202 :: u203 :: u204 :: u205 :: u206 :: u207 :: u208 :: u209 :: u210 :: u211 :: u212 :: u213 :: u214 :: u215 :: u216 :: u217 :: u218 :: u219 :: u220 :: u221 :: u222 :: u223 :: u224 :: u225 :: u226 :: u227 :: u228 :: u229 :: u230 :: u231 :: u232 :: u233 :: u234 :: u235 :: u236 :: u237 :: u238 :: u239 :: u240 :: u241 :: u242 :: u243 :: u244 :: u245 :: u246 :: u247 :: u248 :: u249 :: u250 :: u251 :: u252 :: u253 :: u254 :: u255 :: u256 :: u257 :: u258 :: u259 :: u260 :: u261 :: u262 :: u263 :: u264 :: u265 :: u266 :: u267 :: u268 :: u269 :: u270 :: u271 :: [])) []) w := by
  conv => enter [2]; whnf
  have HP : Hid _ := hP
  have HW : Hid _ := hW
  have HR : Hid _ := hR
  have HM : Hid _ := hM
  have HS : Hid _ := hS
  have HWN : Hid (wn ≤ 6) := hwn
  obtain ⟨lo, hlo0⟩ : ∃ lo, lo = w.heap.size := ⟨_, rfl⟩
  have HL0 : Hid _ := hlo0
  clear hP hW hR hM hS hwn hlo0
  refine wp_seq_k fun K0 hK0 => ?_
  have HK0 : Hid _ := hK0
  clear hK0
  go_wp2
  refine HK0.out _ _ ?_
  clear HK0
  refine wp_seq_k fun K1 hK1 => ?_
  have HK1 : Hid _ := hK1
  clear hK1
  go_wp2
  go_loopw [14, 13] (fun v14 v13 wr => ∃ (i : Nat) (a : Option Addr) (c : Nat), i ≤ 6 ∧ i ≤ mn ∧ v14 = .int .i64 (i : Nat) ∧ v13 = .slice a i c ∧ Hid (OwT3 34 wr lo a i c (dJ M S sn)) ∧ Hid (lo ≤ wr.heap.size) ∧ Hid (Fz (fun k => lo ≤ k) w wr)) (fun v14 v13 _ => 6 - (intOf v14).toNat)
  case atStart => exact ⟨0, none, 0, by omega, Nat.zero_le _, rfl, rfl, OwT3.nil _ _ _ _, Nat.le_of_eq HL0.out, Fz.refl _ _⟩
  case round =>
    obtain ⟨i, a, c, hi6, him, rfl, rfl, hO, hlo, HF⟩ := hrel
    have hgr : w.grownBy wr none := Fz.grown (World.grownBy.refl _ _) HF.out (fun k e => by have := HL0.out; omega)
    by_cases hlt : i < mn
    · have lk : (i : Int) < (mn : Int) := by omega
      by_cases hl6 : i < 6
      · have lk6 : (i : Int) < 6 := by omega
        have hmm := HM.out
        obtain ⟨b, off, hma, hbl, hc⟩ := hmm.at' (by omega)
        have hok := hmm.ok i hlt
        have c0' := hc i hlt 0 (by decide)
        have c1' := hc i hlt 1 (by decide)
        have c0 : wr.cell? ⟨b, off + i * 2, none⟩ = some (.int .i64 (M i).1) := by
          have h : w.cell? ⟨b, off + (i * 2 + 0), none⟩ = some (.int .i64 (M i).1) := c0'
          rw [Nat.add_zero] at h
          exact (World.cell?_of_block (w := w) (hgr.block b hbl (by simp))).trans h
        have c1 : wr.cell? ⟨b, off + i * 2 + 1, none⟩ = some (.int .i64 (M i).2) := by
          have h : w.cell? ⟨b, off + (i * 2 + 1), none⟩ = some (.int .i64 (M i).2) := c1'
          rw [← Nat.add_assoc] at h
          exact (World.cell?_of_block (w := w) (hgr.block b hbl (by simp))).trans h
        have PF := fun wz => pickL_any (M i).1 30 wz hok.1 (by decide) (by decide)
        have PT := fun wz => pickL_any (M i).2 10 wz hok.2 (by decide) (by decide)
        obtain ⟨f, hf⟩ : ∃ f, f = pkL (M i).1 30 := ⟨_, rfl⟩
        obtain ⟨d, hd⟩ : ∃ d, d = pkL (M i).2 10 := ⟨_, rfl⟩
        have hfl := pkL_lt (M i).1 30 (by decide)
        have hdl := pkL_lt (M i).2 10 (by decide)
        obtain ⟨t, ht⟩ : ∃ t, t = f + d := ⟨_, rfl⟩
        have hti : (f : Int) + (d : Int) = (t : Int) := by omega
        have HI6 : Hid (i < 6) := hl6
        have HIM : Hid (i + 1 ≤ mn) := hlt
        rw [← hf] at PF hfl
        rw [← hd] at PT hdl
        obtain ⟨x0, hx0⟩ : ∃ x0, x0 = (M i).1 := ⟨_, rfl⟩
        obtain ⟨x1, hx1⟩ : ∃ x1, x1 = (M i).2 := ⟨_, rfl⟩
        rw [← hx0] at c0 PF
        rw [← hx1] at c1 PT
        have HMA : Hid (ma = some ⟨b, off, none⟩) := hma
        subst hma
        by_cases hs : i < sn
        · have ls : (i : Int) < (sn : Int) := by omega
          have hss := HS.out
          obtain ⟨b2, off2, hsa, hbl2, hc2⟩ := hss.at' (by omega)
          have d0' := hc2 i hs 0 (by decide)
          have d0 : wr.cell? ⟨b2, off2 + i, none⟩ = some (.int .i64 (S i)) := by
            have h : w.cell? ⟨b2, off2 + (i * 1 + 0), none⟩ = some (.int .i64 (S i)) := d0'
            rw [Nat.add_zero, Nat.mul_one] at h
            exact (World.cell?_of_block (w := w) (hgr.block b2 hbl2 (by simp))).trans h
          have PZ := fun wz => pickL_any (S i) 12 wz (hss.ok i hs) (by decide) (by decide)
          obtain ⟨z, hz⟩ : ∃ z, z = pkL (S i) 12 := ⟨_, rfl⟩
          have hzl := pkL_lt (S i) 12 (by decide)
          rw [← hz] at PZ hzl
          obtain ⟨x2, hx2⟩ : ∃ x2, x2 = S i := ⟨_, rfl⟩
          rw [← hx2] at d0 PZ
          have HDJ : Hid (dJ M S sn i = ⟨f, t, z⟩) := by show _ = _; unfold dJ; rw [if_pos hs, ← hf, ← hd, ← hz, ht]
          subst hsa
          clear hmm hc c0' c1' hf hd ht hl6 hlt hx0 hx1 hss hc2 d0' hz hx2 hs hok him hi6 hgr
          have hb2 : BxS (wr.alloc (.cells #[.int .i64 (f : Nat), .int .i64 (t : Nat), .int .i64 (z : Nat)] 34)) wr.heap.size 34 (cells3 (dJ M S sn i)).toArray := by
            rw [HDJ.out]
            exact BxS.new wr 34 _
          have hO2 := OwT3.keep hO.out (World.grownBy_alloc wr (.cells #[.int .i64 (f : Nat), .int .i64 (t : Nat), .int .i64 (z : Nat)] 34) none)
          have HB2 : Hid _ := hb2
          have HO2 : Hid _ := hO2
          have HLO : Hid (lo ≤ (wr.alloc (.cells #[.int .i64 (f : Nat), .int .i64 (t : Nat), .int .i64 (z : Nat)] 34)).heap.size) := Nat.le_trans hlo.out (World.grownBy_alloc wr (.cells #[.int .i64 (f : Nat), .int .i64 (t : Nat), .int .i64 (z : Nat)] 34) none).size
          clear hb2 hO2
          have s0 : True := trivial
          go_wp2_with (first
            | (have _t := s0; clear s0; go_at_call 11; refine (PF _).mono ?_; rintro e wx ⟨rfl, hwx⟩; rw [hwx]; clear hwx; have s1 : True := trivial)
            | (have _t := s1; clear s1; go_at_call 11; refine (PZ _).mono ?_; rintro e wx ⟨rfl, hwx⟩; rw [hwx]; clear hwx; have s2 : True := trivial)
            | (have _t := s2; clear s2; go_at_call 11; refine (PT _).mono ?_; rintro e wx ⟨rfl, hwx⟩; rw [hwx]; clear hwx; have s3 : True := trivial)
            | (have _t := s3; clear s3; refine wpList_psT3 rfl (.tmp 116) (.tmp 128) 23 34 Try.underlying23 Try.info_joF rfl a i c lo (dJ M S sn) rfl HO2.out HLO.out wr.heap.size rfl HB2.out (by have := HI6.out; omega) ?_; intro a2 c2 w2 hO3 hor g3))
          have gtot : Fz (fun k => lo ≤ k) w w2 := (HF.out.step (World.grownBy_alloc wr (.cells #[.int .i64 (f : Nat), .int .i64 (t : Nat), .int .i64 (z : Nat)] 34) none) (fun k e => by cases e)).step g3 (fun k e _ => hO.out.new k e)
          exact ⟨⟨i + 1, a2, c2, by have := HI6.out; omega, HIM.out, by go_num, rfl, hO3, Nat.le_trans HLO.out g3.size, gtot⟩, by have := HI6.out; simp [intOf] <;> omega⟩
        · have ls : ¬ (i : Int) < (sn : Int) := by omega
          obtain ⟨z, hz⟩ : ∃ z, z = 0 := ⟨_, rfl⟩
          have HDJ : Hid (dJ M S sn i = ⟨f, t, 0⟩) := by show _ = _; unfold dJ; rw [if_neg hs, ← hf, ← hd, ht]
          clear hmm hc c0' c1' hf hd ht hl6 hlt hx0 hx1 hs hok him hi6 hgr
          have hb2 : BxS (wr.alloc (.cells #[.int .i64 (f : Nat), .int .i64 (t : Nat), .int .i64 (0 : Nat)] 34)) wr.heap.size 34 (cells3 (dJ M S sn i)).toArray := by
            rw [HDJ.out]
            exact BxS.new wr 34 _
          have hO2 := OwT3.keep hO.out (World.grownBy_alloc wr (.cells #[.int .i64 (f : Nat), .int .i64 (t : Nat), .int .i64 (0 : Nat)] 34) none)
          have HB2 : Hid _ := hb2
          have HO2 : Hid _ := hO2
          have HLO : Hid (lo ≤ (wr.alloc (.cells #[.int .i64 (f : Nat), .int .i64 (t : Nat), .int .i64 (0 : Nat)] 34)).heap.size) := Nat.le_trans hlo.out (World.grownBy_alloc wr (.cells #[.int .i64 (f : Nat), .int .i64 (t : Nat), .int .i64 (0 : Nat)] 34) none).size
          clear hb2 hO2
          have s0 : True := trivial
          go_wp2_with (first
            | (have _t := s0; clear s0; go_at_call 11; refine (PF _).mono ?_; rintro e wx ⟨rfl, hwx⟩; rw [hwx]; clear hwx; have s1 : True := trivial)
            | (have _t := s1; clear s1; go_at_call 11; refine (PT _).mono ?_; rintro e wx ⟨rfl, hwx⟩; rw [hwx]; clear hwx; have s3 : True := trivial)
            | (have _t := s3; clear s3; refine wpList_psT3 rfl (.tmp 116) (.tmp 128) 23 34 Try.underlying23 Try.info_joF rfl a i c lo (dJ M S sn) rfl HO2.out HLO.out wr.heap.size rfl HB2.out (by have := HI6.out; omega) ?_; intro a2 c2 w2 hO3 hor g3))
          have gtot : Fz (fun k => lo ≤ k) w w2 := (HF.out.step (World.grownBy_alloc wr (.cells #[.int .i64 (f : Nat), .int .i64 (t : Nat), .int .i64 (0 : Nat)] 34) none) (fun k e => by cases e)).step g3 (fun k e _ => hO.out.new k e)
          exact ⟨⟨i + 1, a2, c2, by have := HI6.out; omega, HIM.out, by go_num, rfl, hO3, Nat.le_trans HLO.out g3.size, gtot⟩, by have := HI6.out; simp [intOf] <;> omega⟩
      · obtain rfl : i = 6 := by omega
        have hgr2 : Hid (w.grownBy wr none) := hgr
        have hO9 : Hid (OwT3 34 wr lo a 6 c (dJ M S sn)) := hO.out
        clear hgr hO
        go_wp2
        (try simp only [Exit.inBlock, Exit.then])
        refine HK1.out _ _ ?_
        clear HK1
        exact du_t22 P wr wa a wn wc 6 c g8 (dW K) (dJ M S sn) (HW.out.keep hgr2.out) hO9.out.rd (InB.keep HR.out hgr2.out (by simp)) (d_may K M S sn wn 6 HWN.out (by omega)) (by omega) (fun j _ => by have := dJ_bd M S sn j; omega) (fun w' g => HP.out w' (grown_trans hgr2.out g))
    · obtain rfl : i = mn := by omega
      have lk : ¬ (i : Int) < (i : Int) := by omega
      have hgr2 : Hid (w.grownBy wr none) := hgr
      have hO9 : Hid (OwT3 34 wr lo a i c (dJ M S sn)) := hO.out
      clear hgr hO
      go_wp2
      (try simp only [Exit.inBlock, Exit.then])
      refine HK1.out _ _ ?_
      clear HK1
      exact du_t22 P wr wa a wn wc i c g8 (dW K) (dJ M S sn) (HW.out.keep hgr2.out) hO9.out.rd (InB.keep HR.out hgr2.out (by simp)) (d_may K M S sn wn i HWN.out (by omega)) (by omega) (fun j _ => by have := dJ_bd M S sn j; omega) (fun w' g => HP.out w' (grown_trans hgr2.out g))
end
end Go.Proofs.Ytnjdbbjhplebhaa
