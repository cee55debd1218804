/-
  What is proved: what a drawn region leaves that lays an answer's struct into new cells (MirrorWalker's law), and that its parts stay. No condition.
-/
import Derived.Test.YtcpembfioelnlaaMej
namespace Go.Proofs.Ytcpembfioelnlaa
open Go.RowKit
set_option linter.unusedVariables false
set_option linter.unusedSimpArgs false

/-- the walker k lies in new cells at a, its moves in a row of their own -/
def GotW (k : Wk) (b : Bool) (p c : Value) (w0 wx : World) : Prop :=
  ∃ (a : Nat) (v : Value), p = .pointer (some ⟨a, 0, none⟩) ∧ c = .bool b ∧ (w0.heap.size ≤ a ∧ a < wx.heap.size) ∧ Blk wx a #[.int .i64 k.s, .int .i64 k.f, .int .i64 k.d, v] 32 ∧
    wx.ownsRow w0.heap.size 3 1 v k.ms.length (k.ms.map iv) ∧ (∀ b, v.ownBlock = some b → w0.heap.size ≤ b ∧ b < wx.heap.size ∧ b ≠ a) ∧ Below w0.heap.size w0 wx
theorem own_apart4 {base b m : Nat} {v : Value} {xs : List Value} {W : World} (h : W.ownsRow base 3 1 v m xs) (hne : ∀ c, v.ownBlock = some c → c ≠ b) (v0 v1 v2 v3 : Value) :
    ((((W.setCell ⟨b, 0, none⟩ v0).setCell ⟨b, 1, none⟩ v1).setCell ⟨b, 2, none⟩ v2).setCell ⟨b, 3, none⟩ v3).ownsRow base 3 1 v m xs := by
  obtain ⟨hl, h2⟩ := h
  refine ⟨hl, ?_⟩
  obtain h2 | ⟨g, cap, cur, hv, hg, hh, h3⟩ := h2
  · exact .inl h2
  · refine .inr ⟨g, cap, cur, hv, hg, ?_, h3⟩
    have hn : g ≠ b := hne g (by rw [hv]; rfl)
    exact (Below.heap_setCell _ ⟨b, 3, none⟩ v3 g hn).trans ((Below.heap_setCell _ ⟨b, 2, none⟩ v2 g hn).trans ((Below.heap_setCell _ ⟨b, 1, none⟩ v1 g hn).trans ((Below.heap_setCell W ⟨b, 0, none⟩ v0 g hn).trans hh)))
theorem size_set4 (W : World) (b : Nat) (v0 v1 v2 v3 : Value) : ((((W.setCell ⟨b, 0, none⟩ v0).setCell ⟨b, 1, none⟩ v1).setCell ⟨b, 2, none⟩ v2).setCell ⟨b, 3, none⟩ v3).heap.size = W.heap.size := by simp
end Go.Proofs.Ytcpembfioelnlaa
