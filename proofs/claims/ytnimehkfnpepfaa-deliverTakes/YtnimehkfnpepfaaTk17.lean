import Derived.Test.YtnimehkfnpepfaaTk16
import Derived.Test.YtnimehkfnpepfaaTk4
import Derived.Test.YtnimehkfnpepfaaTk7
import Derived.Test.YtnimehkfnpepfaaTk9
import Derived.Test.YtnimehkfnpepfaaTk6
namespace Go.Proofs.Ytnimehkfnpepfaa
open Go.RowKit
set_option maxRecDepth 100000
set_option linter.unusedVariables false
set_option linter.unusedSimpArgs false

section
set_option maxHeartbeats 16000000 in
theorem tm_t18 {u0 u2 u3 u4 u6 u7 u8 u9 u10 u11 u12 u13 u14 u15 u16 u17 u18 u19 u20 u21 u22 u23 u24 u25 u26 u27 u28 u29 u30 u31 u32 u33 u34 u35 u36 u37 u38 u39 u40 u41 u42 u43 u44 u45 u46 u47 u48 u49 u50 u51 u52 u53 u54 u55 u56 u57 u58 u59 u60 u61 u62 u63 u64 u65 u66 u67 u68 u69 u70 u71 u72 u73 u74 u75 u76 u77 u78 u79 u80 u81 u82 u83 u84 u85 u86 u87 u88 u89 u90 u91 u92 u93 u94 u95 u96 u97 u98 u99 u100 u101 u102 u103 u104 u105 u106 u107 u108 u109 u110 u111 u112 u113 u114 u115 u116 u117 u118 u119 u120 u121 u122 u123 u124 u125 u126 u127 u128 u129 u130 u131 u132 u133 u134 u135 u136 u137 u138 u139 u140 u141 u142 u143 u144 u145 u146 u147 u148 u149 u150 u151 u152 u153 u154 u155 u156 u157 u158 u159 u160 u161 u162 u163 u164 u165 u166 u167 u168 u169 u170 u171 u172 u173 u174 u175 u176 u177 u178 u179 u180 u181 u182 u183 u184 u185 u186 : Value} (P : Ending → World → Prop) (id : Int) (kn : Bool) (nm : ByteArray) (si : Int) (en : Bool) (la su : Int) (q : Option Addr) (m d : Nat) (a : Option Addr) (n c : Nat) (st ti pa tr li : Int) (F : Nat → Int × Int) (L : List Nat) (w : World) (g1 : Nat) (b1 : BxS w g1 48 #[.int .i64 id, .bool kn, .string nm, .int .i64 si, .bool en, .int .i64 la, .int .i64 su, .slice q m d, .slice a n c, .int .i64 st, .int .i64 ti, .int .i64 pa, .int .i64 tr, .int .i64 li]) (hL : Rd w a n c L) (hG : RdG w q m d F) (hR : Rise F m) (hm0 : m ≤ 8796093021952) (hpa : 1 ≤ pa ∧ pa ≤ 1000) (rc : Int)
    (hP : ∀ w', w.grownBy w' none → P (.returned (.bool (decide ((n : Int) = rc ∧ rc ≤ 65536) && (byB L (fun i => cvB F i m) n && (kwB ti 0 (pa - 1) && kwB tr 0 li))))) w') :
    Code.wp Try.prog (tailR 18 (Try.f71.body.getD .skip)) (bodyPost Try.prog Try.f71 P) (Act.mk (List.toArray (u0 :: (.pointer (some ⟨g1, 0, none⟩)) :: u2 :: u3 :: u4 :: (.int .i64 rc) :: u6 :: u7 :: u8 :: u9 :: u10 :: u11 :: u12 :: u13 :: u14 :: u15 :: u16 :: u17 :: u18 :: u19 :: u20 :: u21 :: u22 :: u23 :: u24 :: u25 :: u26 :: u27 :: u28 :: u29 :: u30 :: u31 :: u32 :: u33 :: u34 :: u35 :: u36 :: u37 :: u38 :: u39 :: u40 :: u41 :: u42 :: u43 :: u44 :: u45 :: u46 :: u47 :: u48 :: u49 :: u50 :: u51 :: u52 :: u53 :: u54 :: u55 :: u56 :: u57 :: u58 :: u59 :: u60 :: u61 :: u62 :: u63 :: u64 :: u65 :: u66 :: u67 :: u68 :: u69 :: u70 :: u71 :: u72 :: u73 :: u74 :: u75 :: u76 :: u77 :: u78 :: u79 :: u80 :: u81 :: u82 :: u83 :: u84 :: u85 :: u86 :: u87 :: u88 :: u89 :: u90 :: u91 :: u92 :: u93 :: u94 :: u95 :: u96 :: u97 :: u98 :: u99 :: u100 :: u101 :: u102 :: u103 :: u104 :: u105 :: u106 :: u107 :: u108 :: u109 :: u110 :: u111 :: u112 :: u113 :: u114 :: u115 :: u116 :: u117 :: u118 :: u119 :: u120 :: u121 :: u122 :: u123 :: u124 :: u125 :: u126 :: u127 :: u128 :: u129 :: u130 :: u131 :: u132 :: u133 :: u134 :: u135 :: u136 :: u137 :: u138 :: u139 :: u140 :: u141 :: u142 :: u143 :: u144 :: u145 :: u146 :: u147 :: u148 :: u149 :: u150 :: u151 :: u152 :: u153 :: u154 :: u155 :: u156 :: u157 :: u158 :: u159 :: u160 :: u161 :: u162 :: u163 :: u164 :: u165 :: u166 :: u167 :: u168 :: u169 :: u170 :: u171 :: u172 :: u173 :: u174 :: u175 :: u176 :: u177 :: u178 :: u179 :: u180 :: u181 :: u182 :: u183 :: u184 :: u185 :: u186 :: [])) []) w := by
  conv => enter [2]; whnf
  have HP : Hid _ := hP
  clear hP
  have HPA : Hid _ := hpa
  have HR : Hid _ := hR
  clear hpa hR
  have x8 : w.cell? ⟨g1, 8, none⟩ = some (.slice a n c) := b1.cell 8 (by show 8 < 14; decide)
  by_cases h1 : (n : Int) = rc
  · subst h1
    by_cases h2 : (n : Int) ≤ 65536
    · have h2' : ¬ (65536 : Int) < (n : Int) := by omega
      have HF : Hid (decide ((n : Int) = (n : Int) ∧ (n : Int) ≤ 65536) = true) := decide_eq_true ⟨rfl, h2⟩
      have HN : Hid (n ≤ 65536) := by show n ≤ 65536; omega
      refine wp_seq_k fun K1 hK1 => ?_
      have HK1 : Hid _ := hK1
      clear hK1
      go_wp2
      try simp only [Exit.then]
      refine HK1.out _ _ ?_
      clear HK1
      refine tm_t20 P id kn nm si en la su q m d a n c st ti pa tr li F L w g1 b1 hL hG HR.out hm0 HN.out HPA.out ?_
      intro w' g'
      have := HP.out w' g'
      rw [HF.out, Bool.true_and] at this
      exact this
    · have h2' : (65536 : Int) < (n : Int) := by omega
      have HF : Hid (decide ((n : Int) = (n : Int) ∧ (n : Int) ≤ 65536) = false) := decide_eq_false (fun h => h2 h.2)
      go_wp2
      try simp only [Exit.then]
      try go_ret
      have := HP.out w (World.grownBy.refl _ _)
      rw [HF.out, Bool.false_and] at this
      exact this
  · have HF : Hid (decide ((n : Int) = rc ∧ rc ≤ 65536) = false) := decide_eq_false (fun h => h1 h.1)
    have hb : ((n : Int) == rc) = false := beq_eq_false_iff_ne.2 h1
    have hb' : ((n : Int) != rc) = true := by simp [h1]
    go_wp2
    try simp only [Exit.then]
    try go_ret
    have := HP.out w (World.grownBy.refl _ _)
    rw [HF.out, Bool.false_and] at this
    exact this

set_option maxHeartbeats 32000000 in
theorem tm_t16 {u0 u2 u3 u4 u6 u7 u8 u9 u10 u11 u12 u13 u14 u15 u16 u17 u18 u19 u20 u21 u22 u23 u24 u25 u26 u27 u28 u29 u30 u31 u32 u33 u34 u35 u36 u37 u38 u39 u40 u41 u42 u43 u44 u45 u46 u47 u48 u49 u50 u51 u52 u53 u54 u55 u56 u57 u58 u59 u60 u61 u62 u63 u64 u65 u66 u67 u68 u69 u70 u71 u72 u73 u74 u75 u76 u77 u78 u79 u80 u81 u82 u83 u84 u85 u86 u87 u88 u89 u90 u91 u92 u93 u94 u95 u96 u97 u98 u99 u100 u101 u102 u103 u104 u105 u106 u107 u108 u109 u110 u111 u112 u113 u114 u115 u116 u117 u118 u119 u120 u121 u122 u123 u124 u125 u126 u127 u128 u129 u130 u131 u132 u133 u134 u135 u136 u137 u138 u139 u140 u141 u142 u143 u144 u145 u146 u147 u148 u149 u150 u151 u152 u153 u154 u155 u156 u157 u158 u159 u160 u161 u162 u163 u164 u165 u166 u167 u168 u169 u170 u171 u172 u173 u174 u175 u176 u177 u178 u179 u180 u181 u182 u183 u184 u185 u186 : Value} (P : Ending → World → Prop) (id : Int) (kn : Bool) (nm : ByteArray) (si : Int) (en : Bool) (la su : Int) (q : Option Addr) (m d : Nat) (a : Option Addr) (n c : Nat) (st ti pa tr li : Int) (F : Nat → Int × Int) (L : List Nat) (w : World) (g1 : Nat) (b1 : BxS w g1 48 #[.int .i64 id, .bool kn, .string nm, .int .i64 si, .bool en, .int .i64 la, .int .i64 su, .slice q m d, .slice a n c, .int .i64 st, .int .i64 ti, .int .i64 pa, .int .i64 tr, .int .i64 li]) (hL : Rd w a n c L) (hG : RdG w q m d F) (hR : Rise F m) (hm0 : m ≤ 8796093021952) (hpa : 1 ≤ pa ∧ pa ≤ 1000) (rc : Int) (hsi : 0 ≤ si ∧ si ≤ 65536)
    (hP : ∀ w', w.grownBy w' none → P (.returned (.bool (dvB st kn F si m && (decide ((n : Int) = rc ∧ rc ≤ 65536) && (byB L (fun i => cvB F i m) n && (kwB ti 0 (pa - 1) && kwB tr 0 li)))))) w') :
    Code.wp Try.prog (tailR 16 (Try.f71.body.getD .skip)) (bodyPost Try.prog Try.f71 P) (Act.mk (List.toArray (u0 :: (.pointer (some ⟨g1, 0, none⟩)) :: u2 :: u3 :: u4 :: (.int .i64 rc) :: u6 :: u7 :: u8 :: u9 :: u10 :: u11 :: u12 :: u13 :: u14 :: u15 :: u16 :: u17 :: u18 :: u19 :: u20 :: u21 :: u22 :: u23 :: u24 :: u25 :: u26 :: u27 :: u28 :: u29 :: u30 :: u31 :: u32 :: u33 :: u34 :: u35 :: u36 :: u37 :: u38 :: u39 :: u40 :: u41 :: u42 :: u43 :: u44 :: u45 :: u46 :: u47 :: u48 :: u49 :: u50 :: u51 :: u52 :: u53 :: u54 :: u55 :: u56 :: u57 :: u58 :: u59 :: u60 :: u61 :: u62 :: u63 :: u64 :: u65 :: u66 :: u67 :: u68 :: u69 :: u70 :: u71 :: u72 :: u73 :: u74 :: u75 :: u76 :: u77 :: u78 :: u79 :: u80 :: u81 :: u82 :: u83 :: u84 :: u85 :: u86 :: u87 :: u88 :: u89 :: u90 :: u91 :: u92 :: u93 :: u94 :: u95 :: u96 :: u97 :: u98 :: u99 :: u100 :: u101 :: u102 :: u103 :: u104 :: u105 :: u106 :: u107 :: u108 :: u109 :: u110 :: u111 :: u112 :: u113 :: u114 :: u115 :: u116 :: u117 :: u118 :: u119 :: u120 :: u121 :: u122 :: u123 :: u124 :: u125 :: u126 :: u127 :: u128 :: u129 :: u130 :: u131 :: u132 :: u133 :: u134 :: u135 :: u136 :: u137 :: u138 :: u139 :: u140 :: u141 :: u142 :: u143 :: u144 :: u145 :: u146 :: u147 :: u148 :: u149 :: u150 :: u151 :: u152 :: u153 :: u154 :: u155 :: u156 :: u157 :: u158 :: u159 :: u160 :: u161 :: u162 :: u163 :: u164 :: u165 :: u166 :: u167 :: u168 :: u169 :: u170 :: u171 :: u172 :: u173 :: u174 :: u175 :: u176 :: u177 :: u178 :: u179 :: u180 :: u181 :: u182 :: u183 :: u184 :: u185 :: u186 :: [])) []) w := by
  conv => enter [2]; whnf
  have HP : Hid _ := hP
  clear hP
  have HPA : Hid _ := hpa
  have HR : Hid _ := hR
  clear hpa
  obtain ⟨s, rfl⟩ : ∃ s : Nat, si = (s : Int) := ⟨si.toNat, by omega⟩
  have hs9 : s ≤ 65536 := by omega
  clear hsi
  obtain ⟨e0, e1, e2, e3, e4, e5, e6, e7, e8, e9, e10, e11, e12, e13⟩ := (b1).cell14
  by_cases h3 : st = 3
  · subst h3
    cases kn with
    | false =>
      have HF : Hid (dvB 3 false F (s : Int) m = false) := decide_eq_false (fun h => absurd (h rfl).1 (by decide))
      clear hR
      go_wp2
      try simp only [Exit.then]
      try go_ret
      have := HP.out w (World.grownBy.refl _ _)
      rw [HF.out, Bool.false_and] at this
      exact this
    | true =>
      have kH := has_any q m d s F w hG hR hm0 (by omega)
      have HV : Hid (dvB 3 true F (s : Int) m = decide ((rwN (fun i => cvB F i m) false s).length = 0)) := by
        show decide (_ → true = true ∧ (rwN (fun i => cvB F i m) false ((s : Int)).toNat).length = 0) = _
        rw [Int.toNat_natCast]
        exact decide_eq_decide.2 ⟨fun h => (h rfl).2, fun h _ => ⟨rfl, h⟩⟩
      clear hR
      have kR := fun g8 w2 (hB : BoR w2 g8 s (fun i => cvB F i m)) => rowsIn_any g8 s (fun i => cvB F i m) false w2 hB (by omega)
      obtain ⟨f, hf⟩ : ∃ f, f = (fun i => cvB F i m) := ⟨_, rfl⟩
      obtain ⟨l, hl⟩ : ∃ l, (rwN (fun i => cvB F i m) false s).length = l := ⟨_, rfl⟩
      rw [hl] at HV kR
      have HB : Hid _ := hf
      have HLL : Hid _ := hl
      clear hf hl
      have s0' : True := trivial
      by_cases hl0 : l = 0
      · have HF : Hid (dvB 3 true F (s : Int) m = true) := by show _ = _; rw [HV.out]; exact decide_eq_true hl0
        subst hl0
        refine wp_seq_k fun K1 hK1 => ?_
        have HK1 : Hid _ := hK1
        clear hK1
        go_wp2_with (first
          | (go_at_call 75; have _t := s0'; clear s0'; refine Calls.mono kH ?_; rintro e w2 ⟨g8, rfl, hg8, hB, y2⟩; have s1' : True := trivial)
          | (go_at_call 74; have _t := s1'; clear s1'; refine Calls.mono (kR g8 w2 hB) ?_; rintro e w3 ⟨q3, d3, rfl, hO3, y3⟩))
        try simp only [Exit.then]
        refine HK1.out _ _ ?_
        clear HK1
        have G3 := grown_trans y2 y3
        refine tm_t18 P id _ nm _ en la su q m d a n c _ ti pa tr li F L w3 g1 (b1.keep G3 (by simp)) (hL.keep G3) (hG.keep G3) HR.out hm0 HPA.out rc ?_
        intro w' g'
        have := HP.out w' (grown_trans G3 g')
        rw [HF.out, Bool.true_and] at this
        exact this
      · have HF : Hid (dvB 3 true F (s : Int) m = false) := by show _ = _; rw [HV.out]; exact decide_eq_false hl0
        have hl1 : (0 : Int) < (l : Int) := by omega
        go_wp2_with (first
          | (go_at_call 75; have _t := s0'; clear s0'; refine Calls.mono kH ?_; rintro e w2 ⟨g8, rfl, hg8, hB, y2⟩; have s1' : True := trivial)
          | (go_at_call 74; have _t := s1'; clear s1'; refine Calls.mono (kR g8 w2 hB) ?_; rintro e w3 ⟨q3, d3, rfl, hO3, y3⟩))
        try simp only [Exit.then]
        try go_ret
        have := HP.out w3 (grown_trans y2 y3)
        rw [HF.out, Bool.false_and] at this
        exact this
  · have HF : Hid (dvB st kn F (s : Int) m = true) := decide_eq_true (fun h => absurd h h3)
    have hb : (st == 3) = false := beq_eq_false_iff_ne.2 h3
    clear hR
    refine wp_seq_k fun K1 hK1 => ?_
    have HK1 : Hid _ := hK1
    clear hK1
    go_wp2
    try simp only [Exit.then]
    refine HK1.out _ _ ?_
    clear HK1
    refine tm_t18 P id kn nm _ en la su q m d a n c st ti pa tr li F L w g1 b1 hL hG HR.out hm0 HPA.out rc ?_
    intro w' g'
    have := HP.out w' g'
    rw [HF.out, Bool.true_and] at this
    exact this
end

section
set_option maxHeartbeats 32000000 in
theorem tm_t6 {u0 u2 u3 u4 u5 u6 u7 u8 u9 u10 u11 u12 u13 u14 u15 u16 u17 u18 u19 u20 u21 u22 u23 u24 u25 u26 u27 u28 u29 u30 u31 u32 u33 u34 u35 u36 u37 u38 u39 u40 u41 u42 u43 u44 u45 u46 u47 u48 u49 u50 u51 u52 u53 u54 u55 u56 u57 u58 u59 u60 u61 u62 u63 u64 u65 u66 u67 u68 u69 u70 u71 u72 u73 u74 u75 u76 u77 u78 u79 u80 u81 u82 u83 u84 u85 u86 u87 u88 u89 u90 u91 u92 u93 u94 u95 u96 u97 u98 u99 u100 u101 u102 u103 u104 u105 u106 u107 u108 u109 u110 u111 u112 u113 u114 u115 u116 u117 u118 u119 u120 u121 u122 u123 u124 u125 u126 u127 u128 u129 u130 u131 u132 u133 u134 u135 u136 u137 u138 u139 u140 u141 u142 u143 u144 u145 u146 u147 u148 u149 u150 u151 u152 u153 u154 u155 u156 u157 u158 u159 u160 u161 u162 u163 u164 u165 u166 u167 u168 u169 u170 u171 u172 u173 u174 u175 u176 u177 u178 u179 u180 u181 u182 u183 u184 u185 u186 : Value} (P : Ending → World → Prop) (id : Int) (kn : Bool) (nm : ByteArray) (si : Int) (en : Bool) (la su : Int) (q : Option Addr) (m d : Nat) (a : Option Addr) (n c : Nat) (st ti pa tr li : Int) (F : Nat → Int × Int) (L : List Nat) (w : World) (g1 : Nat) (b1 : BxS w g1 48 #[.int .i64 id, .bool kn, .string nm, .int .i64 si, .bool en, .int .i64 la, .int .i64 su, .slice q m d, .slice a n c, .int .i64 st, .int .i64 ti, .int .i64 pa, .int .i64 tr, .int .i64 li]) (hL : Rd w a n c L) (hG : RdG w q m d F) (hm0 : m ≤ 8796093021952) (hpa : 1 ≤ pa ∧ pa ≤ 1000) (hsi : 0 ≤ si ∧ si ≤ 65536)
    (hP : ∀ w', w.grownBy w' none → P (.returned (.bool (reB F m && (dvB st kn F si m && (decide ((n : Int) = rcN F m ∧ rcN F m ≤ 65536) && (byB L (fun i => cvB F i m) n && (kwB ti 0 (pa - 1) && kwB tr 0 li))))))) w') :
    Code.wp Try.prog (tailR 6 (Try.f71.body.getD .skip)) (bodyPost Try.prog Try.f71 P) (Act.mk (List.toArray (u0 :: (.pointer (some ⟨g1, 0, none⟩)) :: u2 :: u3 :: u4 :: u5 :: u6 :: u7 :: u8 :: u9 :: u10 :: u11 :: u12 :: u13 :: u14 :: u15 :: u16 :: u17 :: u18 :: u19 :: u20 :: u21 :: u22 :: u23 :: u24 :: u25 :: u26 :: u27 :: u28 :: u29 :: u30 :: u31 :: u32 :: u33 :: u34 :: u35 :: u36 :: u37 :: u38 :: u39 :: u40 :: u41 :: u42 :: u43 :: u44 :: u45 :: u46 :: u47 :: u48 :: u49 :: u50 :: u51 :: u52 :: u53 :: u54 :: u55 :: u56 :: u57 :: u58 :: u59 :: u60 :: u61 :: u62 :: u63 :: u64 :: u65 :: u66 :: u67 :: u68 :: u69 :: u70 :: u71 :: u72 :: u73 :: u74 :: u75 :: u76 :: u77 :: u78 :: u79 :: u80 :: u81 :: u82 :: u83 :: u84 :: u85 :: u86 :: u87 :: u88 :: u89 :: u90 :: u91 :: u92 :: u93 :: u94 :: u95 :: u96 :: u97 :: u98 :: u99 :: u100 :: u101 :: u102 :: u103 :: u104 :: u105 :: u106 :: u107 :: u108 :: u109 :: u110 :: u111 :: u112 :: u113 :: u114 :: u115 :: u116 :: u117 :: u118 :: u119 :: u120 :: u121 :: u122 :: u123 :: u124 :: u125 :: u126 :: u127 :: u128 :: u129 :: u130 :: u131 :: u132 :: u133 :: u134 :: u135 :: u136 :: u137 :: u138 :: u139 :: u140 :: u141 :: u142 :: u143 :: u144 :: u145 :: u146 :: u147 :: u148 :: u149 :: u150 :: u151 :: u152 :: u153 :: u154 :: u155 :: u156 :: u157 :: u158 :: u159 :: u160 :: u161 :: u162 :: u163 :: u164 :: u165 :: u166 :: u167 :: u168 :: u169 :: u170 :: u171 :: u172 :: u173 :: u174 :: u175 :: u176 :: u177 :: u178 :: u179 :: u180 :: u181 :: u182 :: u183 :: u184 :: u185 :: u186 :: [])) []) w := by
  conv => enter [2]; whnf
  have HP : Hid _ := hP
  clear hP
  have HPA : Hid _ := hpa
  have HSI : Hid _ := hsi
  clear hpa hsi
  have i2 := Try.info_sp
  have u2 := Try.underlying82
  refine wp_seq_k fun K1 hK1 => ?_
  have HK1 : Hid _ := hK1
  clear hK1
  go_wp2
  refine HK1.out _ _ ?_
  clear HK1
  refine wp_seq_k fun K1 hK1 => ?_
  have HK1 : Hid _ := hK1
  clear hK1
  go_wp2
  go_loopw [6, 5] (fun iv ev wr => ∃ i : Nat, i ≤ m ∧ iv = .int .i64 i ∧ ev = .int .i64 (edN F i) ∧ Hid (reB F i = true) ∧ w.grownBy wr none) (fun iv _ _ => m - (intOf iv).toNat)
  case atStart => exact ⟨0, Nat.zero_le _, rfl, rfl, rfl, World.grownBy.refl _ _⟩
  case round =>
    obtain ⟨i, hi9, rfl, rfl, HBY, Gr⟩ := hrel
    have b3 := b1.keep Gr (by simp)
    by_cases hlt : i < m
    · have li' : (i : Int) < (m : Int) := by omega
      have HST : Hid (reB F (i + 1) = (reB F i && decide (0 ≤ (F i).1 ∧ edN F i < (F i).1 ∧ (F i).1 < (F i).2))) := rfl
      have HNO : Hid (¬ (0 ≤ (F i).1 ∧ edN F i < (F i).1 ∧ (F i).1 < (F i).2) → reB F m = false) := fun h9 => reB_no h9 m hlt
      have HED : Hid (edN F (i + 1) = (F i).2) := by show _ = _; unfold edN; rw [if_neg (by omega)]; rfl
      obtain ⟨bq, oq, rfl, hbq, hcq⟩ := (hG.keep Gr).at' (by omega)
      obtain ⟨p0, p1⟩ := hcq i hlt
      have x7 : wr.cell? ⟨g1, 7, none⟩ = some (.slice (some ⟨bq, oq, none⟩) m d) := b3.cell 7 (by show 7 < 14; decide)
      obtain ⟨x, hx⟩ : ∃ x, (F i).1 = x := ⟨_, rfl⟩
      obtain ⟨y, hy⟩ : ∃ y, (F i).2 = y := ⟨_, rfl⟩
      obtain ⟨ed, hed⟩ : ∃ ed, edN F i = ed := ⟨_, rfl⟩
      rw [hx] at p0 HST HNO
      rw [hy] at p1 HST HNO HED
      rw [hed] at HST HNO ⊢
      clear hx hy hed hcq
      refine wp_seq_k fun K2 hK2 => ?_
      have HK2 : Hid _ := hK2
      clear hK2
      go_wp2
      try simp only [Exit.then]
      refine HK2.out _ _ ?_
      clear HK2
      refine wp_seq_k fun K2 hK2 => ?_
      have HK2 : Hid _ := hK2
      clear hK2
      refine wp_block ?_
      refine wp_seq_k fun K3 hK3 => ?_
      have HK3 : Hid _ := hK3
      clear hK3
      have bn0 := BxS.new wr 82 #[.int .i64 0, .int .i64 0]
      have gn0 := World.grownBy_alloc wr (.cells #[.int .i64 0, .int .i64 0] 82) none
      generalize hw5 : wr.alloc (.cells #[.int .i64 0, .int .i64 0] 82) = w5 at bn0 gn0
      have s0 : True := trivial
      go_wp2_with (have _t := s0; clear s0; refine wpList_stX _ rfl _ (.tmp 7) (.tmp 104) rfl wr.heap.size _ _ rfl rfl bn0 i2 rfl (by simp [Value.oneCell']) ?_; intro w6 b46 u6)
      refine HK3.out _ _ ?_
      clear HK3
      have G6 : wr.grownBy w6 none := grown_far gn0 u6 (fun z e => by have e := Option.some.inj e; omega)
      obtain ⟨g4, hg4⟩ : ∃ g4, wr.heap.size = g4 := ⟨_, rfl⟩
      rw [hg4] at b46 ⊢
      clear u6 bn0 gn0 hw5 p0 p1 hg4 x7
      obtain ⟨v0, v1⟩ := b46.cell2
      by_cases h0 : x < 0
      · have HN : Hid (reB F m = false) := HNO.out (by intro h; omega)
        clear HST HNO
        go_wp2
        try simp only [Exit.then]
        try go_ret
        have := HP.out w6 (grown_trans Gr G6)
        rw [HN.out, Bool.false_and] at this
        exact this
      · have h0' : 0 ≤ x := by omega
        by_cases h1 : x ≤ ed
        · have HN : Hid (reB F m = false) := HNO.out (by intro h; omega)
          clear HST HNO
          go_wp2
          try simp only [Exit.then]
          try go_ret
          have := HP.out w6 (grown_trans Gr G6)
          rw [HN.out, Bool.false_and] at this
          exact this
        · have h1' : ed < x := by omega
          by_cases h2 : y ≤ x
          · have HN : Hid (reB F m = false) := HNO.out (by intro h; omega)
            clear HST HNO
            go_wp2
            try simp only [Exit.then]
            try go_ret
            have := HP.out w6 (grown_trans Gr G6)
            rw [HN.out, Bool.false_and] at this
            exact this
          · have h2' : x < y := by omega
            have HN : Hid (reB F (i + 1) = true) := by show _ = _; rw [HST.out, HBY.out, decide_eq_true ⟨h0', h1', h2'⟩]; rfl
            clear HST HNO
            go_wp2
            try simp only [Exit.inBlock, Exit.then]
            refine HK2.out _ _ ?_
            clear HK2
            go_wp2
            go_roundw
            case rel => exact ⟨i + 1, by omega, by go_num, by rw [HED.out], HN, grown_trans Gr G6⟩
            case measure => simp [intOf] <;> omega
    · obtain rfl : i = m := by omega
      have li' : ¬ (i : Int) < (i : Int) := by omega
      have x7 : wr.cell? ⟨g1, 7, none⟩ = some (.slice q i d) := b3.cell 7 (by show 7 < 14; decide)
      have HR : Hid _ := (reB_rise i).1 HBY.out
      have hrc := (rise_rc HR.out).1
      have hee : (i = 0 ∧ edN F i = -1 ∧ rcN F i = 0) ∨ (0 < i ∧ edN F i = rcN F i) := by
        unfold edN rcN
        by_cases h : i = 0
        · rw [if_pos h, if_pos h]; exact .inl ⟨h, rfl, rfl⟩
        · rw [if_neg h, if_neg h]; exact .inr ⟨by omega, rfl⟩
      have HEE : Hid _ := hee
      have HRC : Hid _ := hrc
      obtain ⟨ed, hed⟩ : ∃ ed, edN F i = ed := ⟨_, rfl⟩
      rw [hed] at HEE ⊢
      clear hee hed hrc
      go_wp2
      try simp only [Exit.inBlock, Exit.then]
      refine HK1.out _ _ ?_
      clear HK1
      refine wp_seq_k fun K1 hK1 => ?_
      have HK1 : Hid _ := hK1
      clear hK1
      have hfin : ∀ {u0 u2 u3 u4 u6 u7 u8 u9 u10 u11 u12 u13 u14 u15 u16 u17 u18 u19 u20 u21 u22 u23 u24 u25 u26 u27 u28 u29 u30 u31 u32 u33 u34 u35 u36 u37 u38 u39 u40 u41 u42 u43 u44 u45 u46 u47 u48 u49 u50 u51 u52 u53 u54 u55 u56 u57 u58 u59 u60 u61 u62 u63 u64 u65 u66 u67 u68 u69 u70 u71 u72 u73 u74 u75 u76 u77 u78 u79 u80 u81 u82 u83 u84 u85 u86 u87 u88 u89 u90 u91 u92 u93 u94 u95 u96 u97 u98 u99 u100 u101 u102 u103 u104 u105 u106 u107 u108 u109 u110 u111 u112 u113 u114 u115 u116 u117 u118 u119 u120 u121 u122 u123 u124 u125 u126 u127 u128 u129 u130 u131 u132 u133 u134 u135 u136 u137 u138 u139 u140 u141 u142 u143 u144 u145 u146 u147 u148 u149 u150 u151 u152 u153 u154 u155 u156 u157 u158 u159 u160 u161 u162 u163 u164 u165 u166 u167 u168 u169 u170 u171 u172 u173 u174 u175 u176 u177 u178 u179 u180 u181 u182 u183 u184 u185 u186 : Value}, Code.wp Try.prog (tailR 16 (Try.f71.body.getD .skip)) (bodyPost Try.prog Try.f71 P) (Act.mk (List.toArray (u0 :: (.pointer (some ⟨g1, 0, none⟩)) :: u2 :: u3 :: u4 :: (.int .i64 (rcN F i)) :: u6 :: u7 :: u8 :: u9 :: u10 :: u11 :: u12 :: u13 :: u14 :: u15 :: u16 :: u17 :: u18 :: u19 :: u20 :: u21 :: u22 :: u23 :: u24 :: u25 :: u26 :: u27 :: u28 :: u29 :: u30 :: u31 :: u32 :: u33 :: u34 :: u35 :: u36 :: u37 :: u38 :: u39 :: u40 :: u41 :: u42 :: u43 :: u44 :: u45 :: u46 :: u47 :: u48 :: u49 :: u50 :: u51 :: u52 :: u53 :: u54 :: u55 :: u56 :: u57 :: u58 :: u59 :: u60 :: u61 :: u62 :: u63 :: u64 :: u65 :: u66 :: u67 :: u68 :: u69 :: u70 :: u71 :: u72 :: u73 :: u74 :: u75 :: u76 :: u77 :: u78 :: u79 :: u80 :: u81 :: u82 :: u83 :: u84 :: u85 :: u86 :: u87 :: u88 :: u89 :: u90 :: u91 :: u92 :: u93 :: u94 :: u95 :: u96 :: u97 :: u98 :: u99 :: u100 :: u101 :: u102 :: u103 :: u104 :: u105 :: u106 :: u107 :: u108 :: u109 :: u110 :: u111 :: u112 :: u113 :: u114 :: u115 :: u116 :: u117 :: u118 :: u119 :: u120 :: u121 :: u122 :: u123 :: u124 :: u125 :: u126 :: u127 :: u128 :: u129 :: u130 :: u131 :: u132 :: u133 :: u134 :: u135 :: u136 :: u137 :: u138 :: u139 :: u140 :: u141 :: u142 :: u143 :: u144 :: u145 :: u146 :: u147 :: u148 :: u149 :: u150 :: u151 :: u152 :: u153 :: u154 :: u155 :: u156 :: u157 :: u158 :: u159 :: u160 :: u161 :: u162 :: u163 :: u164 :: u165 :: u166 :: u167 :: u168 :: u169 :: u170 :: u171 :: u172 :: u173 :: u174 :: u175 :: u176 :: u177 :: u178 :: u179 :: u180 :: u181 :: u182 :: u183 :: u184 :: u185 :: u186 :: [])) []) wr := by
        intro u0 u2 u3 u4 u6 u7 u8 u9 u10 u11 u12 u13 u14 u15 u16 u17 u18 u19 u20 u21 u22 u23 u24 u25 u26 u27 u28 u29 u30 u31 u32 u33 u34 u35 u36 u37 u38 u39 u40 u41 u42 u43 u44 u45 u46 u47 u48 u49 u50 u51 u52 u53 u54 u55 u56 u57 u58 u59 u60 u61 u62 u63 u64 u65 u66 u67 u68 u69 u70 u71 u72 u73 u74 u75 u76 u77 u78 u79 u80 u81 u82 u83 u84 u85 u86 u87 u88 u89 u90 u91 u92 u93 u94 u95 u96 u97 u98 u99 u100 u101 u102 u103 u104 u105 u106 u107 u108 u109 u110 u111 u112 u113 u114 u115 u116 u117 u118 u119 u120 u121 u122 u123 u124 u125 u126 u127 u128 u129 u130 u131 u132 u133 u134 u135 u136 u137 u138 u139 u140 u141 u142 u143 u144 u145 u146 u147 u148 u149 u150 u151 u152 u153 u154 u155 u156 u157 u158 u159 u160 u161 u162 u163 u164 u165 u166 u167 u168 u169 u170 u171 u172 u173 u174 u175 u176 u177 u178 u179 u180 u181 u182 u183 u184 u185 u186
        refine tm_t16 P id kn nm si en la su q i d a n c st ti pa tr li F L wr g1 b3 (hL.keep Gr) (hG.keep Gr) HR.out hm0 HPA.out (rcN F i) HSI.out ?_
        intro w' g'
        have := HP.out w' (grown_trans Gr g')
        rw [HBY.out, Bool.true_and] at this
        exact this
      rcases HEE.out with ⟨h0, h1, h2⟩ | ⟨h0, h1⟩
      · rw [h2] at hfin
        subst h1
        clear HEE h0 h2
        have HFI : Hid _ := @hfin
        clear hfin
        go_wp2
        try simp only [Exit.then]
        refine HK1.out _ _ ?_
        clear HK1
        exact HFI.out
      · have hn9 : ¬ ed < 0 := by have := HRC.out; omega
        rw [← h1] at hfin
        clear HEE h0 h1
        have HFI : Hid _ := @hfin
        clear hfin
        go_wp2
        try simp only [Exit.then]
        refine HK1.out _ _ ?_
        clear HK1
        exact HFI.out
end
end Go.Proofs.Ytnimehkfnpepfaa
