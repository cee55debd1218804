/-
  What is proved: the listed variable noMeeting gives the cells that the program reads. Conditions: it is as it was laid.
-/
import Derived.Test.YtiokgnabiidlbaaDoorNee
import Derived.ProofKit
import Derived.OpenShut
import Derived.ShutString
import Derived.OpenVars
import Derived.Deep.DeepHandedRow
import Derived.Deep.DeepWitnessRowRef
import Derived.Lib.LaidTab
import Derived.LaidMore
import Derived.LaidSub
import Derived.MakeChecks
namespace Go.Proofs.YtiokgnabiidlbaaDoor
open Go.ChangeShapes Go.WideShapes Go.ChangeAt Go.RowKit

theorem nm_of_laid {W : World} (h : laidMetH Tryd.prog [("loop.example/g01148/impl.noMeeting", Lib.tabData .i64 [-1, -1])] W) : NM W := by
  rw [MakeChecks.laidMetH_plain _ _ _ (by kernel_rfl)] at h
  have ht := Lib.tabIs_of_head (rest := []) (g := 0) (by kernel_rfl) (by kernel_rfl) Tryd.underlying64 Tryd.underlying3 (by kernel_rfl) (by kernel_rfl) h
  exact ⟨ht.cell (by kernel_rfl) 0 (by decide), ht.cell (by kernel_rfl) 1 (by decide)⟩
end Go.Proofs.YtiokgnabiidlbaaDoor
