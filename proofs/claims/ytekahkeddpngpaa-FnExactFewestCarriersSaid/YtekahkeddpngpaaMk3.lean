/-
  What is proved: the laws' marking of a list whose first number is up to 4194304 (three lists). Conditions: those of the marking.
-/
import Derived.Test.YtekahkeddpngpaaInt
namespace Go.Proofs.Ytekahkeddpngpaa
open Go.RowKit
set_option linter.unusedVariables false
set_option linter.unusedSimpArgs false

set_option maxHeartbeats 800000 in
theorem mark_any3 (v : Value) (ys : List Value) (base K : Nat) (w : World) (ho : w.ownsRow base 3 1 v ys.length ys) (hn : ys.length ≤ 1048576) (hK : K ≤ 4194304) :
    Calls Try.prog 19 #[v, .int .i64 K] w (MarkPost K base v ys.length w) := by
  obtain ⟨a, c, rfl, ha⟩ := owns_shape ho
  have Ho := Lib.hid ho
  have Ha := Lib.hid ha
  clear ho ha
  go_enter Try.func19, Try.ntmps19
  go_wp2
  go_loopw [1, 5] (fun kk i wr => MarkRel K base (.slice a ys.length c) ys w kk i wr) (fun _ i _ => ys.length - (intOf i).toNat)
  case atStart => exact ⟨0, K, Nat.zero_le _, rfl, rfl, rfl, by rw [markTo_zero]; exact Ho.out, grown_refl _ _⟩
  case round =>
    obtain ⟨k, j, hk, hj, rfl, rfl, ho, hb⟩ := hrel
    have hjn : j ≤ 5242880 := by omega
    have Hj := Lib.hid hj
    have Hb := Lib.hid hb
    clear hj hb
    by_cases hlt : k < ys.length
    · obtain ⟨g, rfl, _, _⟩ := Ha.out (by omega)
      obtain ⟨u, hu⟩ := markTo_some K k ys hlt
      have hc0 : wr.cell? ⟨g, k, none⟩ = some u := (ho.cellAt k (by omega)).trans hu
      have hf0 := ho.frozenAt k
      have Hset := Lib.hid (markTo_set K k ys hlt)
      have Hst := Lib.hid (ho.stored k (.int .i64 j))
      clear hu ho
      go_wp2
      go_roundw
      case rel =>
        refine ⟨k + 1, j + 1, by omega, by have := Hj.out; omega, by congr 1, by congr 1, ?_, grown_trans Hb.out Hst.out.2⟩
        rw [← Hset.out, ← Hj.out]
        exact Hst.out.1
      case measure => simp [intOf]; omega
    · have hke : k = ys.length := by omega
      subst hke
      rw [markTo_all] at ho
      have Ho2 := Lib.hid ho
      clear ho
      go_wp2
      go_ret
      exact ⟨ret_int (by rw [Hj.out]), Hb.out, Ho2.out⟩
theorem mark_list3 (v : Value) (xs : List Int) (base K : Nat) (w : World) (ho : w.ownsRow base 3 1 v xs.length (xs.map iv)) (hn : xs.length ≤ 1048576) (hK : K ≤ 4194304) :
    Calls Try.prog 19 #[v, .int .i64 K] w (MarkPost K base v xs.length w) := by
  have hl : (xs.map iv).length = xs.length := by simp
  have := mark_any3 v (xs.map iv) base K w (by rw [hl]; exact ho) (by omega) hK
  rw [hl] at this
  exact this
end Go.Proofs.Ytekahkeddpngpaa
