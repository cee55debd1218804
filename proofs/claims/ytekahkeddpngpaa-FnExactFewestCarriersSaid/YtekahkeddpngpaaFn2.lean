/-
  What is proved: impl.PlaceAt, impl.StepCount, impl.GapOf and the model's answer alike. Conditions: those of each contract.
-/
import Derived.Test.YtekahkeddpngpaaFn1
namespace Go.Proofs.Ytekahkeddpngpaa
open Go.RowKit

theorem ret_R {R : Int × Bool} {a : Int} {b : Bool} (h : R = (a, b)) : Ending.returned (.tuple #[.int .i64 a, .bool b]) = .returned (.tuple #[.int .i64 R.1, .bool R.2]) := by rw [h]
end Go.Proofs.Ytekahkeddpngpaa
