import Derived.Test.YtnimehkfnpepfaaTk17
import Derived.Test.YtnimehkfnpepfaaTk4
import Derived.Test.YtnimehkfnpepfaaTk7
import Derived.Test.YtnimehkfnpepfaaTk9
import Derived.Test.YtnimehkfnpepfaaTk6
namespace Go.Proofs.Ytnimehkfnpepfaa
open Go.RowKit
set_option maxRecDepth 100000
set_option linter.unusedVariables false
set_option linter.unusedSimpArgs false

section
set_option maxHeartbeats 32000000 in
theorem tm_t4 {u0 u2 u3 u4 u5 u6 u7 u8 u9 u10 u11 u12 u13 u14 u15 u16 u17 u18 u19 u20 u21 u22 u23 u24 u25 u26 u27 u28 u29 u30 u31 u32 u33 u34 u35 u36 u37 u38 u39 u40 u41 u42 u43 u44 u45 u46 u47 u48 u49 u50 u51 u52 u53 u54 u55 u56 u57 u58 u59 u60 u61 u62 u63 u64 u65 u66 u67 u68 u69 u70 u71 u72 u73 u74 u75 u76 u77 u78 u79 u80 u81 u82 u83 u84 u85 u86 u87 u88 u89 u90 u91 u92 u93 u94 u95 u96 u97 u98 u99 u100 u101 u102 u103 u104 u105 u106 u107 u108 u109 u110 u111 u112 u113 u114 u115 u116 u117 u118 u119 u120 u121 u122 u123 u124 u125 u126 u127 u128 u129 u130 u131 u132 u133 u134 u135 u136 u137 u138 u139 u140 u141 u142 u143 u144 u145 u146 u147 u148 u149 u150 u151 u152 u153 u154 u155 u156 u157 u158 u159 u160 u161 u162 u163 u164 u165 u166 u167 u168 u169 u170 u171 u172 u173 u174 u175 u176 u177 u178 u179 u180 u181 u182 u183 u184 u185 u186 : Value} (P : Ending → World → Prop) (id : Int) (kn : Bool) (nm : ByteArray) (si : Int) (en : Bool) (la su : Int) (q : Option Addr) (m d : Nat) (a : Option Addr) (n c : Nat) (st ti pa tr li : Int) (F : Nat → Int × Int) (L : List Nat) (w : World) (g1 : Nat) (b1 : BxS w g1 48 #[.int .i64 id, .bool kn, .string nm, .int .i64 si, .bool en, .int .i64 la, .int .i64 su, .slice q m d, .slice a n c, .int .i64 st, .int .i64 ti, .int .i64 pa, .int .i64 tr, .int .i64 li]) (hL : Rd w a n c L) (hG : RdG w q m d F) (hm0 : m ≤ 8796093021952) (hpa : 1 ≤ pa ∧ pa ≤ 1000)
    (hP : ∀ w', w.grownBy w' none → P (.returned (.bool (dzB kn si en la su && (reB F m && (dvB st kn F si m && (decide ((n : Int) = rcN F m ∧ rcN F m ≤ 65536) && (byB L (fun i => cvB F i m) n && (kwB ti 0 (pa - 1) && kwB tr 0 li)))))))) w') :
    Code.wp Try.prog (tailR 4 (Try.f71.body.getD .skip)) (bodyPost Try.prog Try.f71 P) (Act.mk (List.toArray (u0 :: (.pointer (some ⟨g1, 0, none⟩)) :: u2 :: u3 :: u4 :: u5 :: u6 :: u7 :: u8 :: u9 :: u10 :: u11 :: u12 :: u13 :: u14 :: u15 :: u16 :: u17 :: u18 :: u19 :: u20 :: u21 :: u22 :: u23 :: u24 :: u25 :: u26 :: u27 :: u28 :: u29 :: u30 :: u31 :: u32 :: u33 :: u34 :: u35 :: u36 :: u37 :: u38 :: u39 :: u40 :: u41 :: u42 :: u43 :: u44 :: u45 :: u46 :: u47 :: u48 :: u49 :: u50 :: u51 :: u52 :: u53 :: u54 :: u55 :: u56 :: u57 :: u58 :: u59 :: u60 :: u61 :: u62 :: u63 :: u64 :: u65 :: u66 :: u67 :: u68 :: u69 :: u70 :: u71 :: u72 :: u73 :: u74 :: u75 :: u76 :: u77 :: u78 :: u79 :: u80 :: u81 :: u82 :: u83 :: u84 :: u85 :: u86 :: u87 :: u88 :: u89 :: u90 :: u91 :: u92 :: u93 :: u94 :: u95 :: u96 :: u97 :: u98 :: u99 :: u100 :: u101 :: u102 :: u103 :: u104 :: u105 :: u106 :: u107 :: u108 :: u109 :: u110 :: u111 :: u112 :: u113 :: u114 :: u115 :: u116 :: u117 :: u118 :: u119 :: u120 :: u121 :: u122 :: u123 :: u124 :: u125 :: u126 :: u127 :: u128 :: u129 :: u130 :: u131 :: u132 :: u133 :: u134 :: u135 :: u136 :: u137 :: u138 :: u139 :: u140 :: u141 :: u142 :: u143 :: u144 :: u145 :: u146 :: u147 :: u148 :: u149 :: u150 :: u151 :: u152 :: u153 :: u154 :: u155 :: u156 :: u157 :: u158 :: u159 :: u160 :: u161 :: u162 :: u163 :: u164 :: u165 :: u166 :: u167 :: u168 :: u169 :: u170 :: u171 :: u172 :: u173 :: u174 :: u175 :: u176 :: u177 :: u178 :: u179 :: u180 :: u181 :: u182 :: u183 :: u184 :: u185 :: u186 :: [])) []) w := by
  conv => enter [2]; whnf
  have HP : Hid _ := hP
  clear hP
  have HPA : Hid _ := hpa
  clear hpa
  have k3 := fun wz => inRange_any si 0 65536 wz
  have k4 := fun wz => inRange_any la 0 65536 wz
  have k5 := fun wz => inRange_any su 0 4294967295 wz
  obtain ⟨e0, e1, e2, e3, e4, e5, e6, e7, e8, e9, e10, e11, e12, e13⟩ := (b1).cell14
  have s3 : True := trivial
  cases hb3 : kwB si 0 65536 with
  | false =>
    rw [hb3] at k3
    have H3 : Hid _ := hb3
    clear hb3
    have HF : Hid (dzB kn si en la su = false) := decide_eq_false (fun h => by have := h.1.1; rw [H3.out] at this; exact absurd this (by decide))
    go_wp2_with (
      first
        | (go_at_call 55; have _t := s3; clear s3; refine (k3 _).mono ?_; rintro e wx ⟨rfl, hwx⟩; have hwx := hwx.symm; subst hwx; have s4 : True := trivial)
        | (go_at_call 55; have _t := s4; clear s4; refine (k4 _).mono ?_; rintro e wx ⟨rfl, hwx⟩; have hwx := hwx.symm; subst hwx; have s5 : True := trivial)
        | (go_at_call 55; have _t := s5; clear s5; refine (k5 _).mono ?_; rintro e wx ⟨rfl, hwx⟩; have hwx := hwx.symm; subst hwx))
    try simp only [Exit.then]
    try go_ret
    have := HP.out w (World.grownBy.refl _ _)
    rw [HF.out, Bool.false_and] at this
    exact this
  | true =>
    rw [hb3] at k3
    have H3 : Hid _ := hb3
    clear hb3
    cases hb4 : kwB la 0 65536 with
    | false =>
      rw [hb4] at k4
      have H4 : Hid _ := hb4
      clear hb4
      have HF : Hid (dzB kn si en la su = false) := decide_eq_false (fun h => by have := h.1.2.1; rw [H4.out] at this; exact absurd this (by decide))
      go_wp2_with (
        first
          | (go_at_call 55; have _t := s3; clear s3; refine (k3 _).mono ?_; rintro e wx ⟨rfl, hwx⟩; have hwx := hwx.symm; subst hwx; have s4 : True := trivial)
          | (go_at_call 55; have _t := s4; clear s4; refine (k4 _).mono ?_; rintro e wx ⟨rfl, hwx⟩; have hwx := hwx.symm; subst hwx; have s5 : True := trivial)
          | (go_at_call 55; have _t := s5; clear s5; refine (k5 _).mono ?_; rintro e wx ⟨rfl, hwx⟩; have hwx := hwx.symm; subst hwx))
      try simp only [Exit.then]
      try go_ret
      have := HP.out w (World.grownBy.refl _ _)
      rw [HF.out, Bool.false_and] at this
      exact this
    | true =>
      rw [hb4] at k4
      have H4 : Hid _ := hb4
      clear hb4
      cases hb5 : kwB su 0 4294967295 with
      | false =>
        rw [hb5] at k5
        have H5 : Hid _ := hb5
        clear hb5
        have HF : Hid (dzB kn si en la su = false) := decide_eq_false (fun h => by have := h.1.2.2; rw [H5.out] at this; exact absurd this (by decide))
        go_wp2_with (
          first
            | (go_at_call 55; have _t := s3; clear s3; refine (k3 _).mono ?_; rintro e wx ⟨rfl, hwx⟩; have hwx := hwx.symm; subst hwx; have s4 : True := trivial)
            | (go_at_call 55; have _t := s4; clear s4; refine (k4 _).mono ?_; rintro e wx ⟨rfl, hwx⟩; have hwx := hwx.symm; subst hwx; have s5 : True := trivial)
            | (go_at_call 55; have _t := s5; clear s5; refine (k5 _).mono ?_; rintro e wx ⟨rfl, hwx⟩; have hwx := hwx.symm; subst hwx))
        try simp only [Exit.then]
        try go_ret
        have := HP.out w (World.grownBy.refl _ _)
        rw [HF.out, Bool.false_and] at this
        exact this
      | true =>
        rw [hb5] at k5
        have H5 : Hid _ := hb5
        clear hb5
        cases kn with
        | true =>
          cases en with
          | true =>
            have HF : Hid (dzB true si true la su = true) := decide_eq_true ⟨⟨H3.out, H4.out, H5.out⟩, .inl rfl, .inl rfl⟩
            refine wp_seq_k fun K1 hK1 => ?_
            have HK1 : Hid _ := hK1
            clear hK1
            go_wp2_with (
              first
                | (go_at_call 55; have _t := s3; clear s3; refine (k3 _).mono ?_; rintro e wx ⟨rfl, hwx⟩; have hwx := hwx.symm; subst hwx; have s4 : True := trivial)
                | (go_at_call 55; have _t := s4; clear s4; refine (k4 _).mono ?_; rintro e wx ⟨rfl, hwx⟩; have hwx := hwx.symm; subst hwx; have s5 : True := trivial)
                | (go_at_call 55; have _t := s5; clear s5; refine (k5 _).mono ?_; rintro e wx ⟨rfl, hwx⟩; have hwx := hwx.symm; subst hwx))
            try simp only [Exit.then]
            refine HK1.out _ _ ?_
            clear HK1
            refine tm_t6 P id _ nm _ _ _ _ q m d a n c st ti pa tr li F L w g1 b1 hL hG hm0 HPA.out (kwB_ok H3.out) ?_
            intro w' g'
            have := HP.out w' g'
            rw [HF.out, Bool.true_and] at this
            exact this
          | false =>
            by_cases h5 : la = 0
            · subst h5
              by_cases h6 : su = 0
              · subst h6
                have HF : Hid (dzB true si false 0 0 = true) := decide_eq_true ⟨⟨H3.out, H4.out, H5.out⟩, .inl rfl, .inr ⟨rfl, rfl⟩⟩
                refine wp_seq_k fun K1 hK1 => ?_
                have HK1 : Hid _ := hK1
                clear hK1
                go_wp2_with (
                  first
                    | (go_at_call 55; have _t := s3; clear s3; refine (k3 _).mono ?_; rintro e wx ⟨rfl, hwx⟩; have hwx := hwx.symm; subst hwx; have s4 : True := trivial)
                    | (go_at_call 55; have _t := s4; clear s4; refine (k4 _).mono ?_; rintro e wx ⟨rfl, hwx⟩; have hwx := hwx.symm; subst hwx; have s5 : True := trivial)
                    | (go_at_call 55; have _t := s5; clear s5; refine (k5 _).mono ?_; rintro e wx ⟨rfl, hwx⟩; have hwx := hwx.symm; subst hwx))
                try simp only [Exit.then]
                refine HK1.out _ _ ?_
                clear HK1
                refine tm_t6 P id _ nm _ _ _ _ q m d a n c st ti pa tr li F L w g1 b1 hL hG hm0 HPA.out (kwB_ok H3.out) ?_
                intro w' g'
                have := HP.out w' g'
                rw [HF.out, Bool.true_and] at this
                exact this
              · have b6 : (su == 0) = false := beq_eq_false_iff_ne.2 h6
                have HF : Hid (dzB true si false 0 su = false) := decide_eq_false (fun h => by rcases h.2.2 with e | e; exact absurd e (by decide); exact h6 e.2)
                go_wp2_with (
                  first
                    | (go_at_call 55; have _t := s3; clear s3; refine (k3 _).mono ?_; rintro e wx ⟨rfl, hwx⟩; have hwx := hwx.symm; subst hwx; have s4 : True := trivial)
                    | (go_at_call 55; have _t := s4; clear s4; refine (k4 _).mono ?_; rintro e wx ⟨rfl, hwx⟩; have hwx := hwx.symm; subst hwx; have s5 : True := trivial)
                    | (go_at_call 55; have _t := s5; clear s5; refine (k5 _).mono ?_; rintro e wx ⟨rfl, hwx⟩; have hwx := hwx.symm; subst hwx))
                try simp only [Exit.then]
                try go_ret
                have := HP.out w (World.grownBy.refl _ _)
                rw [HF.out, Bool.false_and] at this
                exact this
            · have b5 : (la == 0) = false := beq_eq_false_iff_ne.2 h5
              have HF : Hid (dzB true si false la su = false) := decide_eq_false (fun h => by rcases h.2.2 with e | e; exact absurd e (by decide); exact h5 e.1)
              go_wp2_with (
                first
                  | (go_at_call 55; have _t := s3; clear s3; refine (k3 _).mono ?_; rintro e wx ⟨rfl, hwx⟩; have hwx := hwx.symm; subst hwx; have s4 : True := trivial)
                  | (go_at_call 55; have _t := s4; clear s4; refine (k4 _).mono ?_; rintro e wx ⟨rfl, hwx⟩; have hwx := hwx.symm; subst hwx; have s5 : True := trivial)
                  | (go_at_call 55; have _t := s5; clear s5; refine (k5 _).mono ?_; rintro e wx ⟨rfl, hwx⟩; have hwx := hwx.symm; subst hwx))
              try simp only [Exit.then]
              try go_ret
              have := HP.out w (World.grownBy.refl _ _)
              rw [HF.out, Bool.false_and] at this
              exact this
        | false =>
          by_cases h3 : si = 0
          · subst h3
            cases en with
            | true =>
              have HF : Hid (dzB false 0 true la su = true) := decide_eq_true ⟨⟨H3.out, H4.out, H5.out⟩, .inr rfl, .inl rfl⟩
              refine wp_seq_k fun K1 hK1 => ?_
              have HK1 : Hid _ := hK1
              clear hK1
              go_wp2_with (
                first
                  | (go_at_call 55; have _t := s3; clear s3; refine (k3 _).mono ?_; rintro e wx ⟨rfl, hwx⟩; have hwx := hwx.symm; subst hwx; have s4 : True := trivial)
                  | (go_at_call 55; have _t := s4; clear s4; refine (k4 _).mono ?_; rintro e wx ⟨rfl, hwx⟩; have hwx := hwx.symm; subst hwx; have s5 : True := trivial)
                  | (go_at_call 55; have _t := s5; clear s5; refine (k5 _).mono ?_; rintro e wx ⟨rfl, hwx⟩; have hwx := hwx.symm; subst hwx))
              try simp only [Exit.then]
              refine HK1.out _ _ ?_
              clear HK1
              refine tm_t6 P id _ nm _ _ _ _ q m d a n c st ti pa tr li F L w g1 b1 hL hG hm0 HPA.out (kwB_ok H3.out) ?_
              intro w' g'
              have := HP.out w' g'
              rw [HF.out, Bool.true_and] at this
              exact this
            | false =>
              by_cases h5 : la = 0
              · subst h5
                by_cases h6 : su = 0
                · subst h6
                  have HF : Hid (dzB false 0 false 0 0 = true) := decide_eq_true ⟨⟨H3.out, H4.out, H5.out⟩, .inr rfl, .inr ⟨rfl, rfl⟩⟩
                  refine wp_seq_k fun K1 hK1 => ?_
                  have HK1 : Hid _ := hK1
                  clear hK1
                  go_wp2_with (
                    first
                      | (go_at_call 55; have _t := s3; clear s3; refine (k3 _).mono ?_; rintro e wx ⟨rfl, hwx⟩; have hwx := hwx.symm; subst hwx; have s4 : True := trivial)
                      | (go_at_call 55; have _t := s4; clear s4; refine (k4 _).mono ?_; rintro e wx ⟨rfl, hwx⟩; have hwx := hwx.symm; subst hwx; have s5 : True := trivial)
                      | (go_at_call 55; have _t := s5; clear s5; refine (k5 _).mono ?_; rintro e wx ⟨rfl, hwx⟩; have hwx := hwx.symm; subst hwx))
                  try simp only [Exit.then]
                  refine HK1.out _ _ ?_
                  clear HK1
                  refine tm_t6 P id _ nm _ _ _ _ q m d a n c st ti pa tr li F L w g1 b1 hL hG hm0 HPA.out (kwB_ok H3.out) ?_
                  intro w' g'
                  have := HP.out w' g'
                  rw [HF.out, Bool.true_and] at this
                  exact this
                · have b6 : (su == 0) = false := beq_eq_false_iff_ne.2 h6
                  have HF : Hid (dzB false 0 false 0 su = false) := decide_eq_false (fun h => by rcases h.2.2 with e | e; exact absurd e (by decide); exact h6 e.2)
                  go_wp2_with (
                    first
                      | (go_at_call 55; have _t := s3; clear s3; refine (k3 _).mono ?_; rintro e wx ⟨rfl, hwx⟩; have hwx := hwx.symm; subst hwx; have s4 : True := trivial)
                      | (go_at_call 55; have _t := s4; clear s4; refine (k4 _).mono ?_; rintro e wx ⟨rfl, hwx⟩; have hwx := hwx.symm; subst hwx; have s5 : True := trivial)
                      | (go_at_call 55; have _t := s5; clear s5; refine (k5 _).mono ?_; rintro e wx ⟨rfl, hwx⟩; have hwx := hwx.symm; subst hwx))
                  try simp only [Exit.then]
                  try go_ret
                  have := HP.out w (World.grownBy.refl _ _)
                  rw [HF.out, Bool.false_and] at this
                  exact this
              · have b5 : (la == 0) = false := beq_eq_false_iff_ne.2 h5
                have HF : Hid (dzB false 0 false la su = false) := decide_eq_false (fun h => by rcases h.2.2 with e | e; exact absurd e (by decide); exact h5 e.1)
                go_wp2_with (
                  first
                    | (go_at_call 55; have _t := s3; clear s3; refine (k3 _).mono ?_; rintro e wx ⟨rfl, hwx⟩; have hwx := hwx.symm; subst hwx; have s4 : True := trivial)
                    | (go_at_call 55; have _t := s4; clear s4; refine (k4 _).mono ?_; rintro e wx ⟨rfl, hwx⟩; have hwx := hwx.symm; subst hwx; have s5 : True := trivial)
                    | (go_at_call 55; have _t := s5; clear s5; refine (k5 _).mono ?_; rintro e wx ⟨rfl, hwx⟩; have hwx := hwx.symm; subst hwx))
                try simp only [Exit.then]
                try go_ret
                have := HP.out w (World.grownBy.refl _ _)
                rw [HF.out, Bool.false_and] at this
                exact this
          · have b3 : (si == 0) = false := beq_eq_false_iff_ne.2 h3
            have HF : Hid (dzB false si en la su = false) := decide_eq_false (fun h => by rcases h.2.1 with e | e; exact absurd e (by decide); exact h3 e)
            go_wp2_with (
              first
                | (go_at_call 55; have _t := s3; clear s3; refine (k3 _).mono ?_; rintro e wx ⟨rfl, hwx⟩; have hwx := hwx.symm; subst hwx; have s4 : True := trivial)
                | (go_at_call 55; have _t := s4; clear s4; refine (k4 _).mono ?_; rintro e wx ⟨rfl, hwx⟩; have hwx := hwx.symm; subst hwx; have s5 : True := trivial)
                | (go_at_call 55; have _t := s5; clear s5; refine (k5 _).mono ?_; rintro e wx ⟨rfl, hwx⟩; have hwx := hwx.symm; subst hwx))
            try simp only [Exit.then]
            try go_ret
            have := HP.out w (World.grownBy.refl _ _)
            rw [HF.out, Bool.false_and] at this
            exact this

set_option maxHeartbeats 32000000 in
theorem tm_t2 {u0 u2 u3 u5 u6 u7 u8 u9 u10 u11 u12 u13 u14 u15 u16 u17 u18 u19 u20 u21 u22 u23 u24 u25 u26 u27 u28 u29 u30 u31 u32 u33 u34 u35 u36 u37 u38 u39 u40 u41 u42 u43 u44 u45 u46 u47 u48 u49 u50 u51 u52 u53 u54 u55 u56 u57 u58 u59 u60 u61 u62 u63 u64 u65 u66 u67 u68 u69 u70 u71 u72 u73 u74 u75 u76 u77 u78 u79 u80 u81 u82 u83 u84 u85 u86 u87 u88 u89 u90 u91 u92 u93 u94 u95 u96 u97 u98 u99 u100 u101 u102 u103 u104 u105 u106 u107 u108 u109 u110 u111 u112 u113 u114 u115 u116 u117 u118 u119 u120 u121 u122 u123 u124 u125 u126 u127 u128 u129 u130 u131 u132 u133 u134 u135 u136 u137 u138 u139 u140 u141 u142 u143 u144 u145 u146 u147 u148 u149 u150 u151 u152 u153 u154 u155 u156 u157 u158 u159 u160 u161 u162 u163 u164 u165 u166 u167 u168 u169 u170 u171 u172 u173 u174 u175 u176 u177 u178 u179 u180 u181 u182 u183 u184 u185 u186 : Value} (P : Ending → World → Prop) (id : Int) (kn : Bool) (nm : ByteArray) (si : Int) (en : Bool) (la su : Int) (q : Option Addr) (m d : Nat) (a : Option Addr) (n c : Nat) (st ti pa tr li : Int) (F : Nat → Int × Int) (L : List Nat) (w : World) (g1 : Nat) (b1 : BxS w g1 48 #[.int .i64 id, .bool kn, .string nm, .int .i64 si, .bool en, .int .i64 la, .int .i64 su, .slice q m d, .slice a n c, .int .i64 st, .int .i64 ti, .int .i64 pa, .int .i64 tr, .int .i64 li]) (hL : Rd w a n c L) (hG : RdG w q m d F) (hm0 : m ≤ 8796093021952) (hpa : 1 ≤ pa ∧ pa ≤ 1000)
    (hP : ∀ w', w.grownBy w' none → P (.returned (.bool (dnB st kn nm && (dzB kn si en la su && (reB F m && (dvB st kn F si m && (decide ((n : Int) = rcN F m ∧ rcN F m ≤ 65536) && (byB L (fun i => cvB F i m) n && (kwB ti 0 (pa - 1) && kwB tr 0 li))))))))) w') :
    Code.wp Try.prog (tailR 2 (Try.f71.body.getD .skip)) (bodyPost Try.prog Try.f71 P) (Act.mk (List.toArray (u0 :: (.pointer (some ⟨g1, 0, none⟩)) :: u2 :: u3 :: (.int .i64 0) :: u5 :: u6 :: u7 :: u8 :: u9 :: u10 :: u11 :: u12 :: u13 :: u14 :: u15 :: u16 :: u17 :: u18 :: u19 :: u20 :: u21 :: u22 :: u23 :: u24 :: u25 :: u26 :: u27 :: u28 :: u29 :: u30 :: u31 :: u32 :: u33 :: u34 :: u35 :: u36 :: u37 :: u38 :: u39 :: u40 :: u41 :: u42 :: u43 :: u44 :: u45 :: u46 :: u47 :: u48 :: u49 :: u50 :: u51 :: u52 :: u53 :: u54 :: u55 :: u56 :: u57 :: u58 :: u59 :: u60 :: u61 :: u62 :: u63 :: u64 :: u65 :: u66 :: u67 :: u68 :: u69 :: u70 :: u71 :: u72 :: u73 :: u74 :: u75 :: u76 :: u77 :: u78 :: u79 :: u80 :: u81 :: u82 :: u83 :: u84 :: u85 :: u86 :: u87 :: u88 :: u89 :: u90 :: u91 :: u92 :: u93 :: u94 :: u95 :: u96 :: u97 :: u98 :: u99 :: u100 :: u101 :: u102 :: u103 :: u104 :: u105 :: u106 :: u107 :: u108 :: u109 :: u110 :: u111 :: u112 :: u113 :: u114 :: u115 :: u116 :: u117 :: u118 :: u119 :: u120 :: u121 :: u122 :: u123 :: u124 :: u125 :: u126 :: u127 :: u128 :: u129 :: u130 :: u131 :: u132 :: u133 :: u134 :: u135 :: u136 :: u137 :: u138 :: u139 :: u140 :: u141 :: u142 :: u143 :: u144 :: u145 :: u146 :: u147 :: u148 :: u149 :: u150 :: u151 :: u152 :: u153 :: u154 :: u155 :: u156 :: u157 :: u158 :: u159 :: u160 :: u161 :: u162 :: u163 :: u164 :: u165 :: u166 :: u167 :: u168 :: u169 :: u170 :: u171 :: u172 :: u173 :: u174 :: u175 :: u176 :: u177 :: u178 :: u179 :: u180 :: u181 :: u182 :: u183 :: u184 :: u185 :: u186 :: [])) []) w := by
  conv => enter [2]; whnf
  have HP : Hid _ := hP
  clear hP
  have HPA : Hid _ := hpa
  clear hpa
  obtain ⟨e0, e1, e2, e3, e4, e5, e6, e7, e8, e9, e10, e11, e12, e13⟩ := (b1).cell14
  by_cases h0 : st = 0
  · subst h0
    by_cases hs : nm.size ≤ 32
    · have HS : Hid _ := hs
      have hs' : ¬ (32 : Int) < (nm.size : Int) := by omega
      by_cases hp : 0 < nm.size
      · have hp' : (0 : Int) < (nm.size : Int) := by omega
        cases kn with
        | true =>
          have HF : Hid (dnB 0 true nm = true) := decide_eq_true ⟨.inl rfl, HS.out, ⟨fun _ => hp, fun _ => rfl⟩⟩
          refine wp_seq_k fun K1 hK1 => ?_
          have HK1 : Hid _ := hK1
          clear hK1
          go_wp2
          try simp only [Exit.then]
          refine HK1.out _ _ ?_
          clear HK1
          refine tm_t4 P id _ nm _ _ _ _ q m d a n c _ ti pa tr li F L w g1 b1 hL hG hm0 HPA.out ?_
          intro w' g'
          have := HP.out w' g'
          rw [HF.out, Bool.true_and] at this
          exact this
        | false =>
          have HF : Hid (dnB 0 false nm = false) := decide_eq_false (fun h => absurd (h.2.2.2 hp) (by decide))
          go_wp2
          try simp only [Exit.then]
          try go_ret
          have := HP.out w (World.grownBy.refl _ _)
          rw [HF.out, Bool.false_and] at this
          exact this
      · have hp' : ¬ (0 : Int) < (nm.size : Int) := by omega
        cases kn with
        | true =>
          have HF : Hid (dnB 0 true nm = false) := decide_eq_false (fun h => hp (h.2.2.1 rfl))
          go_wp2
          try simp only [Exit.then]
          try go_ret
          have := HP.out w (World.grownBy.refl _ _)
          rw [HF.out, Bool.false_and] at this
          exact this
        | false =>
          have HF : Hid (dnB 0 false nm = true) := decide_eq_true ⟨.inl rfl, HS.out, ⟨fun e => absurd e (by decide), fun e => absurd e hp⟩⟩
          refine wp_seq_k fun K1 hK1 => ?_
          have HK1 : Hid _ := hK1
          clear hK1
          go_wp2
          try simp only [Exit.then]
          refine HK1.out _ _ ?_
          clear HK1
          refine tm_t4 P id _ nm _ _ _ _ q m d a n c _ ti pa tr li F L w g1 b1 hL hG hm0 HPA.out ?_
          intro w' g'
          have := HP.out w' g'
          rw [HF.out, Bool.true_and] at this
          exact this
    · have hs' : (32 : Int) < (nm.size : Int) := by omega
      have HF : Hid (dnB 0 kn nm = false) := decide_eq_false (fun h => hs h.2.1)
      go_wp2
      try simp only [Exit.then]
      try go_ret
      have := HP.out w (World.grownBy.refl _ _)
      rw [HF.out, Bool.false_and] at this
      exact this
  · by_cases h3 : st = 3
    · subst h3
      by_cases hs : nm.size ≤ 32
      · have HS : Hid _ := hs
        have hs' : ¬ (32 : Int) < (nm.size : Int) := by omega
        by_cases hp : 0 < nm.size
        · have hp' : (0 : Int) < (nm.size : Int) := by omega
          cases kn with
          | true =>
            have HF : Hid (dnB 3 true nm = true) := decide_eq_true ⟨.inr (.inl rfl), HS.out, ⟨fun _ => hp, fun _ => rfl⟩⟩
            refine wp_seq_k fun K1 hK1 => ?_
            have HK1 : Hid _ := hK1
            clear hK1
            go_wp2
            try simp only [Exit.then]
            refine HK1.out _ _ ?_
            clear HK1
            refine tm_t4 P id _ nm _ _ _ _ q m d a n c _ ti pa tr li F L w g1 b1 hL hG hm0 HPA.out ?_
            intro w' g'
            have := HP.out w' g'
            rw [HF.out, Bool.true_and] at this
            exact this
          | false =>
            have HF : Hid (dnB 3 false nm = false) := decide_eq_false (fun h => absurd (h.2.2.2 hp) (by decide))
            go_wp2
            try simp only [Exit.then]
            try go_ret
            have := HP.out w (World.grownBy.refl _ _)
            rw [HF.out, Bool.false_and] at this
            exact this
        · have hp' : ¬ (0 : Int) < (nm.size : Int) := by omega
          cases kn with
          | true =>
            have HF : Hid (dnB 3 true nm = false) := decide_eq_false (fun h => hp (h.2.2.1 rfl))
            go_wp2
            try simp only [Exit.then]
            try go_ret
            have := HP.out w (World.grownBy.refl _ _)
            rw [HF.out, Bool.false_and] at this
            exact this
          | false =>
            have HF : Hid (dnB 3 false nm = true) := decide_eq_true ⟨.inr (.inl rfl), HS.out, ⟨fun e => absurd e (by decide), fun e => absurd e hp⟩⟩
            refine wp_seq_k fun K1 hK1 => ?_
            have HK1 : Hid _ := hK1
            clear hK1
            go_wp2
            try simp only [Exit.then]
            refine HK1.out _ _ ?_
            clear HK1
            refine tm_t4 P id _ nm _ _ _ _ q m d a n c _ ti pa tr li F L w g1 b1 hL hG hm0 HPA.out ?_
            intro w' g'
            have := HP.out w' g'
            rw [HF.out, Bool.true_and] at this
            exact this
      · have hs' : (32 : Int) < (nm.size : Int) := by omega
        have HF : Hid (dnB 3 kn nm = false) := decide_eq_false (fun h => hs h.2.1)
        go_wp2
        try simp only [Exit.then]
        try go_ret
        have := HP.out w (World.grownBy.refl _ _)
        rw [HF.out, Bool.false_and] at this
        exact this
    · by_cases h4 : st = 4
      · subst h4
        by_cases hs : nm.size ≤ 32
        · have HS : Hid _ := hs
          have hs' : ¬ (32 : Int) < (nm.size : Int) := by omega
          by_cases hp : 0 < nm.size
          · have hp' : (0 : Int) < (nm.size : Int) := by omega
            cases kn with
            | true =>
              have HF : Hid (dnB 4 true nm = true) := decide_eq_true ⟨.inr (.inr rfl), HS.out, ⟨fun _ => hp, fun _ => rfl⟩⟩
              refine wp_seq_k fun K1 hK1 => ?_
              have HK1 : Hid _ := hK1
              clear hK1
              go_wp2
              try simp only [Exit.then]
              refine HK1.out _ _ ?_
              clear HK1
              refine tm_t4 P id _ nm _ _ _ _ q m d a n c _ ti pa tr li F L w g1 b1 hL hG hm0 HPA.out ?_
              intro w' g'
              have := HP.out w' g'
              rw [HF.out, Bool.true_and] at this
              exact this
            | false =>
              have HF : Hid (dnB 4 false nm = false) := decide_eq_false (fun h => absurd (h.2.2.2 hp) (by decide))
              go_wp2
              try simp only [Exit.then]
              try go_ret
              have := HP.out w (World.grownBy.refl _ _)
              rw [HF.out, Bool.false_and] at this
              exact this
          · have hp' : ¬ (0 : Int) < (nm.size : Int) := by omega
            cases kn with
            | true =>
              have HF : Hid (dnB 4 true nm = false) := decide_eq_false (fun h => hp (h.2.2.1 rfl))
              go_wp2
              try simp only [Exit.then]
              try go_ret
              have := HP.out w (World.grownBy.refl _ _)
              rw [HF.out, Bool.false_and] at this
              exact this
            | false =>
              have HF : Hid (dnB 4 false nm = true) := decide_eq_true ⟨.inr (.inr rfl), HS.out, ⟨fun e => absurd e (by decide), fun e => absurd e hp⟩⟩
              refine wp_seq_k fun K1 hK1 => ?_
              have HK1 : Hid _ := hK1
              clear hK1
              go_wp2
              try simp only [Exit.then]
              refine HK1.out _ _ ?_
              clear HK1
              refine tm_t4 P id _ nm _ _ _ _ q m d a n c _ ti pa tr li F L w g1 b1 hL hG hm0 HPA.out ?_
              intro w' g'
              have := HP.out w' g'
              rw [HF.out, Bool.true_and] at this
              exact this
        · have hs' : (32 : Int) < (nm.size : Int) := by omega
          have HF : Hid (dnB 4 kn nm = false) := decide_eq_false (fun h => hs h.2.1)
          go_wp2
          try simp only [Exit.then]
          try go_ret
          have := HP.out w (World.grownBy.refl _ _)
          rw [HF.out, Bool.false_and] at this
          exact this
      · have b0 : (st == 0) = false := beq_eq_false_iff_ne.2 h0
        have b3 : (st == 3) = false := beq_eq_false_iff_ne.2 h3
        have b4 : (st == 4) = false := beq_eq_false_iff_ne.2 h4
        have HF : Hid (dnB st kn nm = false) := decide_eq_false (fun h => by rcases h.1 with e | e | e; exact h0 e; exact h3 e; exact h4 e)
        go_wp2
        try simp only [Exit.then]
        try go_ret
        have := HP.out w (World.grownBy.refl _ _)
        rw [HF.out, Bool.false_and] at this
        exact this
end

section
set_option maxHeartbeats 32000000 in
theorem takerMayR_any (id : Int) (kn : Bool) (nm : ByteArray) (si : Int) (en : Bool) (la su : Int) (q : Option Addr) (m d : Nat) (a : Option Addr) (n c : Nat) (st ti pa tr li : Int) (F : Nat → Int × Int) (L : List Nat) (w : World) (hL : Rd w a n c L) (hG : RdG w q m d F) (hm0 : m ≤ 8796093021952) :
    Calls Try.prog 71 #[.agg (tkA id kn nm si en la su (.slice q m d) (.slice a n c) st ti pa tr li)] w fun e w' => e = .returned (.bool (tmB id kn nm si en la su F m L st ti pa tr li)) ∧ w.grownBy w' none := by
  rw [tm_dm]
  have i14 := Try.info_tk
  have u14 := Try.underlying48
  have hLn : L.length = n := hL.len
  have HX : Hid (dmB id kn nm si en la su F m L st ti pa tr li = (decide (dsE id pa li = 0) && (dnB st kn nm && (dzB kn si en la su && (reB F m && (dvB st kn F si m && (decide ((n : Int) = rcN F m ∧ rcN F m ≤ 65536) && (byB L (fun i => cvB F i m) n && (kwB ti 0 (pa - 1) && kwB tr 0 li))))))))) := by show _ = _; unfold dmB; rw [hLn]
  rw [HX.out]
  clear HX hLn
  have hpa : dsE id pa li = 0 → 1 ≤ pa ∧ pa ≤ 1000 := ds_pa
  have HPA : Hid _ := hpa
  clear hpa
  obtain ⟨E, hE⟩ : ∃ E, dsE id pa li = E := ⟨_, rfl⟩
  obtain ⟨xi, hxi⟩ : ∃ x, ofX (dsE id pa li) id = x := ⟨_, rfl⟩
  obtain ⟨xp, hxp⟩ : ∃ x, ofX (dsE id pa li) pa = x := ⟨_, rfl⟩
  obtain ⟨xl, hxl⟩ : ∃ x, ofX (dsE id pa li) li = x := ⟨_, rfl⟩
  have kE : ∀ wz, Calls Try.prog 26 #[.int .i64 id, .int .i64 pa, .int .i64 li] wz fun e w' => e = .returned (.tuple #[.agg #[.int .i64 xi, .bool false, .string ⟨#[]⟩, .int .i64 0, .bool false, .int .i64 0, .int .i64 0, .slice none 0 0, .slice none 0 0, .int .i64 0, .int .i64 0, .int .i64 xp, .int .i64 0, .int .i64 xl], .int .i64 (E : Nat)]) ∧ wz.grownBy w' none := by
    intro wz
    have := expected_any id pa li wz
    unfold ExA tkA at this
    rw [hxi, hxp, hxl, hE] at this
    exact this
  rw [hE] at HPA ⊢
  clear hE hxi hxp hxl
  have b1 := BxS.new w 48 #[.int .i64 id, .bool kn, .string nm, .int .i64 si, .bool en, .int .i64 la, .int .i64 su, .slice q m d, .slice a n c, .int .i64 st, .int .i64 ti, .int .i64 pa, .int .i64 tr, .int .i64 li]
  have y1 := World.grownBy_alloc w (.cells #[.int .i64 id, .bool kn, .string nm, .int .i64 si, .bool en, .int .i64 la, .int .i64 su, .slice q m d, .slice a n c, .int .i64 st, .int .i64 ti, .int .i64 pa, .int .i64 tr, .int .i64 li] 48) none
  unfold tkA
  generalize hw1 : w.alloc (.cells #[.int .i64 id, .bool kn, .string nm, .int .i64 si, .bool en, .int .i64 la, .int .i64 su, .slice q m d, .slice a n c, .int .i64 st, .int .i64 ti, .int .i64 pa, .int .i64 tr, .int .i64 li] 48) = w1 at b1 y1
  obtain ⟨e0, e1, e2, e3, e4, e5, e6, e7, e8, e9, e10, e11, e12, e13⟩ := (b1).cell14
  have s0 : True := trivial
  go_enter Try.func71, Try.ntmps71
  refine wp_seq_k fun K1 hK1 => ?_
  have HK1 : Hid _ := hK1
  clear hK1
  go_wp2
  refine HK1.out _ _ ?_
  clear HK1
  clear hw1
  obtain ⟨g1, hg1⟩ : ∃ g1, w.heap.size = g1 := ⟨_, rfl⟩
  rw [hg1] at e0 e1 e2 e3 e4 e5 e6 e7 e8 e9 e10 e11 e12 e13 b1 ⊢
  clear hg1
  refine wp_seq_k fun K1 hK1 => ?_
  have HK1 : Hid _ := hK1
  clear hK1
  go_wp2_with (first
    | (go_at_call 26; have _t := s0; clear s0; refine Calls.mono (kE w1) ?_; rintro e w2 ⟨rfl, y2⟩; have bz := BxS.new w2 48 #[.int .i64 0, .bool false, .string ⟨#[]⟩, .int .i64 0, .bool false, .int .i64 0, .int .i64 0, .slice none 0 0, .slice none 0 0, .int .i64 0, .int .i64 0, .int .i64 0, .int .i64 0, .int .i64 0]; have gz := World.grownBy_alloc w2 (.cells #[.int .i64 0, .bool false, .string ⟨#[]⟩, .int .i64 0, .bool false, .int .i64 0, .int .i64 0, .slice none 0 0, .slice none 0 0, .int .i64 0, .int .i64 0, .int .i64 0, .int .i64 0, .int .i64 0] 48) none; generalize hwz : w2.alloc (.cells #[.int .i64 0, .bool false, .string ⟨#[]⟩, .int .i64 0, .bool false, .int .i64 0, .int .i64 0, .slice none 0 0, .slice none 0 0, .int .i64 0, .int .i64 0, .int .i64 0, .int .i64 0, .int .i64 0] 48) = wz at bz gz; have s1 : True := trivial)
    | (have _t := s1; clear s1; refine wpList_stX _ rfl _ (.tmp 3) (.tmp 18) rfl w2.heap.size _ _ rfl rfl bz i14 rfl (by simp [Value.oneCell']) ?_; intro w6 b6 u6))
  refine HK1.out _ _ ?_
  clear HK1
  have G6 : w1.grownBy w6 none := grown_trans y2 (grown_far gz u6 (fun z e => by have e := Option.some.inj e; omega))
  clear u6 bz gz hwz b6 kE e0 e1 e2 e3 e4 e5 e6 e7 e8 e9 e10 e11 e12 e13
  obtain ⟨g3, hg3⟩ : ∃ g3, w2.heap.size = g3 := ⟨_, rfl⟩
  rw [hg3]
  clear hg3
  have b6 := b1.keep G6 (by simp)
  have G9 := grown_trans y1 G6
  by_cases hE : E = 0
  · subst hE
    refine tm_t2 _ id kn nm si en la su q m d a n c st ti pa tr li F L w6 g1 b6 (hL.keep G9) (hG.keep G9) hm0 (HPA.out rfl) ?_
    intro w' g'
    exact ⟨by rw [show decide ((0 : Nat) = 0) = true from rfl, Bool.true_and], grown_trans G9 g'⟩
  · have hEi : ¬ (E : Int) = 0 := by omega
    have hEb : ((E : Int) == 0) = false := beq_eq_false_iff_ne.2 hEi
    rw [decide_eq_false hE, Bool.false_and]
    go_wp2
    try simp only [Exit.then]
    try go_ret
    exact ⟨rfl, G9⟩
end
end Go.Proofs.Ytnimehkfnpepfaa
