/-
  Own text: entries, by their parts. Nothing of the program but the equality of two requests.
-/
import Derived.Test.YtbbbfnfpmaogoaaBlk
import Derived.Test.YtbbbfnfpmaogoaaEqualR
namespace Go.Proofs.Ytbbbfnfpmaogoaa.Own
open Go.RowKit
set_option linter.unusedVariables false

/-- Two entries are one. -/
def likeE (n n' : Bool) (p p' : P2) (xs ys zs us : List P2) (v k v' k' : Int) : Bool := n == n' && eq2 p p' && sameRun xs ys zs us v k v' k'
theorem likeE_none {n n' : Bool} (p p' : P2) (xs ys zs us : List P2) (v k v' k' : Int) (h : (n == n') = false) : likeE n n' p p' xs ys zs us v k v' k' = false := by simp [likeE, h]
theorem likeE_req {n n' : Bool} {p p' : P2} (xs ys zs us : List P2) (v k v' k' : Int) (h : eq2 p p' = false) : likeE n n' p p' xs ys zs us v k v' k' = false := by simp [likeE, h]
theorem likeE_run {n n' : Bool} {p p' : P2} (xs ys zs us : List P2) (v k v' k' : Int) (h : (n == n') = true) (h2 : eq2 p p' = true) : likeE n n' p p' xs ys zs us v k v' k' = sameRun xs ys zs us v k v' k' := by simp [likeE, h, h2]

theorem eqReq1 (d : Nat) (a b a' b' : Int) (w : World) : (Op.equalIn (d+2) 28 (.agg #[.int .i64 a, .int .i64 b]) (.agg #[.int .i64 a', .int .i64 b'])).run Try.prog w = .ok (eq2 (a, b) (a', b')) w := by
  unfold eq2
  go_simp
  by_cases h : a = a'
  · by_cases h1 : b = b' <;> simp [h, h1]
  · simp [h]
theorem eqlReq (a b a' b' : Int) (w : World) : (binOp .eql 28 (.agg #[.int .i64 a, .int .i64 b]) (.agg #[.int .i64 a', .int .i64 b'])).run Try.prog w = .ok (.bool (eq2 (a, b) (a', b'))) w := by
  rw [run_eql_struct, eqReq1 9998]; rfl
end Go.Proofs.Ytbbbfnfpmaogoaa.Own
