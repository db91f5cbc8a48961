import Derived.Test.YthdjpbfknbafgaaProg
import Derived.WalkKit
namespace Go.Proofs.Ythdjpbfknbafgaa
open Go.RowKit
set_option maxRecDepth 100000
/-- the number of the first region of a piece of code (0: none; n + 1: region n) -/
def fstR : Code → Nat
  | .region id _ _ => id + 1
  | .seq a _ => fstR a
  | .block _ b => fstR b
  | .loop b => fstR b
  | _ => 0
/-- the piece of code that begins with region n, as long as can be -/
def tailR (n : Nat) : Code → Code
  | .seq a b => if fstR a = n + 1 then .seq a b else match tailR n a with
    | .skip => tailR n b
    | c => c
  | .cond _ t e => match tailR n t with
    | .skip => tailR n e
    | c => c
  | .block _ b => tailR n b
  | .loop b => tailR n b
  | .region id o d => if id = n then .region id o d else .skip
  | _ => .skip
end Go.Proofs.Ythdjpbfknbafgaa
