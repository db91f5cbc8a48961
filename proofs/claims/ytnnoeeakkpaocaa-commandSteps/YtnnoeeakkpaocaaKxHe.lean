import Derived.Test.YtnnoeeakkpaocaaKxMay
import Derived.Test.YtnnoeeakkpaocaaKxTm
namespace Go.Proofs.Ytnnoeeakkpaocaa
open Go.RowKit
set_option maxRecDepth 100000
set_option linter.unusedVariables false
set_option linter.unusedSimpArgs false

theorem bit_any (b : Bool) (w : World) : Calls Try.prog 47 #[.bool b] w fun e w' => e = .returned (.int .i64 (b.toNat : Nat)) ∧ w' = w := by
  cases b
  · go_enter Try.func47, Try.ntmps47
    go_wp2
    go_ret
    exact ⟨rfl, rfl⟩
  · go_enter Try.func47, Try.ntmps47
    go_wp2
    go_ret
    exact ⟨rfl, rfl⟩
/-- the head of a packet, as a number and as bytes -/
def hd1 (u s : Nat) : Nat := u * 2 + s
def hdN (u s ap pt ct n : Nat) : Nat := (((hd1 u s * 2048 + ap) * 4 + pt) * 16384 + ct) * 65536 + (n - 1)
def hdB (H i : Nat) : Nat := H / 2 ^ (40 - 8 * i) % 256
theorem hdB_lt (H i : Nat) : hdB H i < 256 := Nat.mod_lt _ (by decide)
def hdL (u s ap pt ct n : Nat) : List Nat := tab 6 (hdB (hdN u s ap pt ct n))
theorem shr_val (H k : Nat) (hH : H < 18446744073709551616) (hk : k < 6) : IntKind.u8.wrap ((H : Int) / 2 ^ (40 - 8 * k)) = (hdB H k : Int) := by
  rw [IntKind.wrap_u8']
  unfold hdB
  have e : ((H : Int) / 2 ^ (40 - 8 * k)) = ((H / 2 ^ (40 - 8 * k) : Nat) : Int) := by simp
  rw [e]
  omega
theorem toNat_le (b : Bool) : b.toNat < 2 := by cases b <;> decide
/-- 'append(v, x...)', v an answer, x other bytes, in a region that draws -/
theorem step_join (w0 w : World) {ops : Array Oper} {o : Oper} {a : Act} {K : Act → World → Prop} {Q : Exit → Act → World → Prop} {E : Prop} (hg : o.guard = none) (s x : Operand)
    (hop : o.op = Op.call { callee := .builtin .append, args := #[s, x], argTypes := #[22, 22] }) (ao : Option Addr) (m co lo : Nat) (r : Option Nat) (D : List Nat) (hs : a.eval s = .slice ao m co)
    (hA : Ans w lo ao m co D) (hG : w0.grownBy w r) (hM : Mine w0 r ao m co) (hlo : lo ≤ w0.heap.size) (ax : Option Addr) (nx cx : Nat) (X : List Nat) (hx : a.eval x = .slice ax nx cx) (hR : Rd w ax nx cx X) (h0 : 0 < nx) (hb : m + nx ≤ 140737488355328)
    (hK : ∀ gx cx w', Ans w' lo (some ⟨gx, 0, none⟩) (m + nx) cx (D ++ X) → w0.grownBy w' r → Mine w0 r (some ⟨gx, 0, none⟩) (m + nx) cx → K (a.put o.dst (.slice (some ⟨gx, 0, none⟩) (m + nx) cx)) w') :
    if Region.wanted o (yielded ops a.tmps) = true then Oper.wp Try.prog o a w K Q else E := by
  obtain ⟨b, off, rfl, _, _⟩ := hR.at' h0
  refine step_apB _ hg s x hop (.slice ao m co) m (bys D) hs hA.own ⟨b, off, none⟩ nx cx (bys X) hx (by rw [bys_length, hR.len]) (rd_news hR h0) (bys_one _) h0 hb ?_
  intro gx cx' w2 hgx hgr2 hown2 _
  rw [bys_app] at hown2
  have hG2 := grown_mine hG hgr2 hM
  have hsz := hG.size
  refine hK gx cx' w2 ⟨hown2, isB_append hA.byte hR.byte, fun g h => ?_⟩ hG2 (fun g h => ?_)
  · have e : gx = g := Option.some.inj h
    subst e
    rcases hgx with h | h
    · exact hA.new gx h
    · exact Nat.le_trans hlo (Nat.le_trans hsz h)
  · have e : gx = g := Option.some.inj h
    subst e
    rcases hgx with h | h
    · exact hM gx h
    · exact .inr (Nat.le_trans hsz h)
/-- what Encode answers -/
def encP (up se : Bool) (ap pt ct : Int) (D : List Nat) : List Nat := if mayE ap pt ct D.length = 0 then hdL up.toNat se.toNat ap.toNat pt.toNat ct.toNat D.length ++ D else []
theorem mayE_ok {ap pt ct : Int} {n : Nat} (h : mayE ap pt ct n = 0) : ((0 ≤ ap ∧ ap ≤ 2047) ∧ (0 ≤ pt ∧ pt ≤ 3) ∧ (0 ≤ ct ∧ ct ≤ 16383)) ∧ 1 ≤ n ∧ n ≤ 65536 := by
  unfold mayE at h
  by_cases h1 : (0 ≤ ap ∧ ap ≤ 2047) ∧ (0 ≤ pt ∧ pt ≤ 3) ∧ (0 ≤ ct ∧ ct ≤ 16383)
  · rw [if_pos h1] at h
    by_cases h2 : n = 0 ∨ 65536 < n
    · rw [if_pos h2] at h; omega
    · exact ⟨h1, by omega, by omega⟩
  · rw [if_neg h1] at h; omega
theorem hdL_len (u s ap pt ct n : Nat) : (hdL u s ap pt ct n).length = 6 := tab_len _ _
end Go.Proofs.Ytnnoeeakkpaocaa
