import Derived.Test.YtpdehdomilnmeaaGreatDoorRows
import Derived.WalkKit
import Derived.ProofKit
import Derived.OpenShut
namespace Go.Proofs.YtpdehdomilnmeaaGreatDoor
open Go.ChangeShapes Go.WideShapes Go.ChangeAt Go.RowKit
set_option maxRecDepth 100000
theorem wrap_i64 (v:BitVec 64):IntKind.i64.wrap (v.toNat:Int)=v.toInt:=by
 have:=v.isLt
 rw [BitVec.toInt_eq_toNat_cond]
 have e:(v.toNat:Int) % 2 ^ 64=v.toNat:=by omega
 simp only [IntKind.wrap,IntKind.bits,IntKind.signed,e,Bool.true_and,decide_eq_true_eq]
 by_cases h:2 * v.toNat < 2 ^ 64
 ·rw [if_pos h,if_neg (by omega)]
 ·rw [if_neg h,if_pos (by omega)];omega
theorem wrap64_fit {n:Int} (h1:-9223372036854775808<=n) (h2:n<=9223372036854775807):wrap64 n=n:=by unfold wrap64;omega
theorem ret2 {a b:Int} {p q:Bool} (h1:a=b) (h2:p=q):Ending.returned (.tuple #[.int .i64 a,.bool p])=.returned (.tuple #[.int .i64 b,.bool q]):=by rw [h1,h2]
theorem tdm (a b:Int) (hb:1<=b):(a.tmod b < 0/\a.tdiv b=a / b+1/\a.tmod b=a % b - b/\0 < a % b) ∨ (0<=a.tmod b/\a.tdiv b=a / b/\a.tmod b=a % b):=by
 have h0:=Int.emod_nonneg a (by omega:b ≠ 0)
 have h1:=Int.emod_lt_of_pos a (by omega:0 < b)
 rw [Int.tdiv_eq_ediv,Int.tmod_eq_emod]
 by_cases h:0<=a ∨ b ∣ a
 ·rw [if_pos h,if_pos h];right;omega
 ·rw [if_neg h,if_neg h]
  have hs:b.sign=1:=Int.sign_eq_one_of_pos (by omega)
  have hz:a % b ≠ 0:=fun e=>h (Or.inr (Int.dvd_of_emod_eq_zero e))
  left;omega
theorem div_range (a b:Int) (hb:1<=b) (a1:-9223372036854775808<=a) (a2:a<=9223372036854775807):-9223372036854775808<=a / b/\a / b<=9223372036854775807:=by
 constructor
 ·apply Int.le_ediv_of_mul_le (by omega)
  omega
 ·by_cases h:a < 0
  ·have:=Int.ediv_neg_of_neg_of_pos h (by omega:0 < b);omega
  ·have:=Int.ediv_le_self b (by omega:0<=a);omega
end Go.Proofs.YtpdehdomilnmeaaGreatDoor
