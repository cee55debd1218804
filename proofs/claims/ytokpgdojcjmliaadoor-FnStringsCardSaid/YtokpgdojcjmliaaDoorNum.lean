/-
  What is proved: the contracts of spec.l1Num, spec.l1In, spec.FormatInt.
-/
import Derived.Test.YtokpgdojcjmliaaDoorProg
import Derived.WalkKit
import Derived.WalkLawsBesides
import Derived.LoopTactic
import Derived.Lib.Hide
import Derived.Lib.ItoaNum
import Derived.Deep.QuietTactic
import Derived.BigQuiet
import Derived.Laws.Concat
namespace Go.Proofs.YtokpgdojcjmliaaDoor
open Go.RowKit

def digitOf (n : Int) : ByteArray := ⟨#[UInt8.ofNat (48 + n.toNat)]⟩
theorem slice_digit0 (w : World) : (Instr.slice 9 (.string { data := #[48, 49, 50, 51, 52, 53, 54, 55, 56, 57] }) (some (.int .i64 0)) (some (.int .i64 1)) none).run Tryd.prog w = .ok (.string ⟨#[48]⟩) w := by kernel_rfl
theorem slice_digit1 (w : World) : (Instr.slice 9 (.string { data := #[48, 49, 50, 51, 52, 53, 54, 55, 56, 57] }) (some (.int .i64 1)) (some (.int .i64 2)) none).run Tryd.prog w = .ok (.string ⟨#[49]⟩) w := by kernel_rfl
theorem slice_digit2 (w : World) : (Instr.slice 9 (.string { data := #[48, 49, 50, 51, 52, 53, 54, 55, 56, 57] }) (some (.int .i64 2)) (some (.int .i64 3)) none).run Tryd.prog w = .ok (.string ⟨#[50]⟩) w := by kernel_rfl
theorem slice_digit3 (w : World) : (Instr.slice 9 (.string { data := #[48, 49, 50, 51, 52, 53, 54, 55, 56, 57] }) (some (.int .i64 3)) (some (.int .i64 4)) none).run Tryd.prog w = .ok (.string ⟨#[51]⟩) w := by kernel_rfl
theorem slice_digit4 (w : World) : (Instr.slice 9 (.string { data := #[48, 49, 50, 51, 52, 53, 54, 55, 56, 57] }) (some (.int .i64 4)) (some (.int .i64 5)) none).run Tryd.prog w = .ok (.string ⟨#[52]⟩) w := by kernel_rfl
theorem slice_digit5 (w : World) : (Instr.slice 9 (.string { data := #[48, 49, 50, 51, 52, 53, 54, 55, 56, 57] }) (some (.int .i64 5)) (some (.int .i64 6)) none).run Tryd.prog w = .ok (.string ⟨#[53]⟩) w := by kernel_rfl
theorem slice_digit6 (w : World) : (Instr.slice 9 (.string { data := #[48, 49, 50, 51, 52, 53, 54, 55, 56, 57] }) (some (.int .i64 6)) (some (.int .i64 7)) none).run Tryd.prog w = .ok (.string ⟨#[54]⟩) w := by kernel_rfl
theorem slice_digit7 (w : World) : (Instr.slice 9 (.string { data := #[48, 49, 50, 51, 52, 53, 54, 55, 56, 57] }) (some (.int .i64 7)) (some (.int .i64 8)) none).run Tryd.prog w = .ok (.string ⟨#[55]⟩) w := by kernel_rfl
theorem slice_digit8 (w : World) : (Instr.slice 9 (.string { data := #[48, 49, 50, 51, 52, 53, 54, 55, 56, 57] }) (some (.int .i64 8)) (some (.int .i64 9)) none).run Tryd.prog w = .ok (.string ⟨#[56]⟩) w := by kernel_rfl
theorem slice_digit9 (w : World) : (Instr.slice 9 (.string { data := #[48, 49, 50, 51, 52, 53, 54, 55, 56, 57] }) (some (.int .i64 9)) (some (.int .i64 10)) none).run Tryd.prog w = .ok (.string ⟨#[57]⟩) w := by kernel_rfl
theorem slice_digit (n : Int) (w : World) (h0 : 0 ≤ n) (h9 : n < 10) :
    (Instr.slice 9 (.string { data := #[48, 49, 50, 51, 52, 53, 54, 55, 56, 57] }) (some (.int .i64 n)) (some (.int .i64 (n + 1))) none).run Tryd.prog w = .ok (.string (digitOf n)) w := by
  have h : n = 0 ∨ n = 1 ∨ n = 2 ∨ n = 3 ∨ n = 4 ∨ n = 5 ∨ n = 6 ∨ n = 7 ∨ n = 8 ∨ n = 9 := by omega
  rcases h with rfl | rfl | rfl | rfl | rfl | rfl | rfl | rfl | rfl | rfl
  · exact slice_digit0 w
  · exact slice_digit1 w
  · exact slice_digit2 w
  · exact slice_digit3 w
  · exact slice_digit4 w
  · exact slice_digit5 w
  · exact slice_digit6 w
  · exact slice_digit7 w
  · exact slice_digit8 w
  · exact slice_digit9 w
theorem dec_small (n : Int) (h0 : 0 ≤ n) (h9 : n < 10) : (⟨(Lib.decDigits n.toNat).toArray⟩ : ByteArray) = digitOf n := by
  rw [Lib.decDigits, dif_pos (by omega)]; rfl
theorem ret_str {a b : ByteArray} (h : a = b) : Ending.returned (.string a) = .returned (.string b) := by rw [h]
theorem num_small (n : Int) (w : World) (h0 : 0 ≤ n) (h9 : n < 10) :
    Calls Tryd.prog 25 #[.int .i64 n] w fun e w' => e = .returned (.string ⟨(Lib.decDigits n.toNat).toArray⟩) ∧ ∃ m, w' = w.drewN m := by
  have hs := fun w => slice_digit n w h0 h9
  go_enter Tryd.func25, Tryd.ntmps25
  go_wp2_with fail
  go_ret
  exact ⟨ret_str (dec_small n h0 h9).symm, 0, rfl⟩

theorem dec_step (n : Int) (h9 : 10 ≤ n) : (⟨(Lib.decDigits n.toNat).toArray⟩ : ByteArray) = ⟨(Lib.decDigits (n / 10).toNat).toArray⟩ ++ digitOf (n % 10) := by
  rw [Lib.decDigits, dif_neg (by omega)]
  apply ByteArray.ext
  have e1 : n.toNat / 10 = (n / 10).toNat := by omega
  have e2 : n.toNat % 10 = (n % 10).toNat := by omega
  rw [e1, e2]
  simp [digitOf]
theorem nDigits_le (u : Nat) : Lib.nDigits u ≤ u + 1 := by
  induction u using Nat.strongRecOn with
  | _ u ih =>
    by_cases h : u < 10
    · rw [Lib.nDigits_small h]; omega
    · rw [Lib.nDigits_big h]; have := ih (u / 10) (by omega); omega
theorem dec_size (u : Nat) : (⟨(Lib.decDigits u).toArray⟩ : ByteArray).size ≤ u + 1 := by
  have := nDigits_le u
  show (Lib.decDigits u).toArray.size ≤ _
  simp [Lib.decDigits_length]; omega
theorem cat_digit (n : Int) (w : World) (h0 : 0 ≤ n) (hm : n ≤ 9223372036854775807) :
    (Op.stringOp .add ⟨(Lib.decDigits (n / 10).toNat).toArray⟩ (digitOf (n % 10))).run Tryd.prog w = .ok (.string (⟨(Lib.decDigits (n / 10).toNat).toArray⟩ ++ digitOf (n % 10))) w := by
  refine run_string_add_sum _ _ _ ?_
  have := dec_size (n / 10).toNat
  have e : (digitOf (n % 10)).size = 1 := rfl
  omega
theorem num_nat (k : Nat) : ∀ (n : Int) (w : World), n.toNat ≤ k → 0 ≤ n → n ≤ 9223372036854775807 →
    Calls Tryd.prog 25 #[.int .i64 n] w fun e w' => e = .returned (.string ⟨(Lib.decDigits n.toNat).toArray⟩) ∧ ∃ m, w' = w.drewN m := by
  induction k with
  | zero => intro n w hk h0 _; exact num_small n w h0 (by omega)
  | succ k ih =>
    intro n w hk h0 hm
    by_cases h9 : n < 10
    · exact num_small n w h0 h9
    · have ih' := Lib.hid (fun w => ih (n / 10) w (by omega) (by omega) (by omega))
      have hs := fun w => slice_digit (n % 10) w (by omega) (by omega)
      have hm0 : 0 ≤ n % 10 := by omega
      have hm1 : n % 10 < 10 := by omega
      have fin := dec_step n (by omega)
      have Hfin := Lib.hid fin
      have q2 : n.tmod 10 = n % 10 := Int.tmod_eq_emod_of_nonneg h0
      have q4 : n.tdiv 10 = n / 10 := Int.tdiv_eq_ediv_of_nonneg h0
      have q1 : IntKind.i64.wrap (n.tdiv 10) = n / 10 := by rw [q4]; exact IntWalk.i64_in _ (by omega)
      have q3 : IntKind.i64.wrap (n % 10 + 1) = n % 10 + 1 := IntWalk.i64_in _ (by omega)
      have hcat := fun w => cat_digit n w h0 hm
      clear ih fin q4
      go_enter Tryd.func25, Tryd.ntmps25
      go_wp2_with fail
      go_quiet ((go_at_call 25; exact Calls.quiet_of (ih'.out _)))
      clear q1 q2 q3
      go_wp2
      go_ret
      exact ⟨ret_str Hfin.out.symm, nq, rfl⟩

theorem itoa_neg (n : Int) (h : n < 0) : (⟨(Lib.itoa n).toArray⟩ : ByteArray) = ⟨#[45]⟩ ++ ⟨(Lib.decDigits (-n).toNat).toArray⟩ := by
  unfold Lib.itoa
  rw [if_pos h, show (-n).toNat = n.natAbs by omega]
  apply ByteArray.ext
  simp
theorem itoa_pos (n : Int) (h : 0 ≤ n) : (⟨(Lib.itoa n).toArray⟩ : ByteArray) = ⟨(Lib.decDigits n.toNat).toArray⟩ := by
  unfold Lib.itoa
  rw [if_neg (by omega)]
theorem cat_minus (n : Int) (w : World) (h0 : 0 ≤ n) (hm : n ≤ 1000000000000) :
    (Op.stringOp .add ⟨#[45]⟩ ⟨(Lib.decDigits n.toNat).toArray⟩).run Tryd.prog w = .ok (.string (⟨#[45]⟩ ++ ⟨(Lib.decDigits n.toNat).toArray⟩)) w := by
  refine run_string_add_sum _ _ _ ?_
  have := dec_size n.toNat
  have e : (⟨#[45]⟩ : ByteArray).size = 1 := rfl
  omega
theorem num_any (n : Int) (w : World) (h0 : -1000000000000 ≤ n) (h1 : n ≤ 1000000000000) :
    Calls Tryd.prog 25 #[.int .i64 n] w fun e w' => e = .returned (.string ⟨(Lib.itoa n).toArray⟩) ∧ ∃ m, w' = w.drewN m := by
  by_cases h : n < 0
  · have hcat := fun w => cat_minus (-n) w (by omega) (by omega)
    have Hfin := Lib.hid (itoa_neg n h)
    go_enter Tryd.func25, Tryd.ntmps25
    go_wp2_with (go_at_call 25; refine (num_nat (-n).toNat _ _ (by omega) (by omega) (by omega)).mono ?_; rintro e w' ⟨rfl, m, rfl⟩)
    go_ret
    exact ⟨ret_str Hfin.out.symm, m, rfl⟩
  · rw [itoa_pos n (by omega)]
    exact num_nat n.toNat n w (by omega) (by omega) (by omega)
theorem model_fmt_yes (n : Int) (w : World) (h0 : -999999 ≤ n) (h1 : n ≤ 999999) :
    Calls Tryd.prog 11 #[.int .i64 n] w fun e w' => e = .returned (.tuple #[.string ⟨(Lib.itoa n).toArray⟩, .bool true]) ∧ ∃ m, w' = w.drewN m := by
  go_enter Tryd.func11, Tryd.ntmps11
  go_wp2_with (first | (go_at_call 25; refine (num_any _ _ (by omega) (by omega)).mono ?_; rintro e w' ⟨rfl, m, rfl⟩) | go_in)
  go_ret2
  exact ⟨rfl, m, rfl⟩
theorem model_fmt_no (n : Int) (w : World) (h0 : n < -999999 ∨ 999999 < n) :
    Calls Tryd.prog 11 #[.int .i64 n] w fun e w' => e = .returned (.tuple #[.string ⟨#[]⟩, .bool false]) ∧ w = w' := by
  rcases h0 with h | h
  · go_enter Tryd.func11, Tryd.ntmps11
    go_wp2
    go_ret2
    exact ⟨rfl, rfl⟩
  · have h0 : -999999 ≤ n := by omega
    have hd : decide (n ≤ 999999) = false := decide_eq_false (by omega)
    go_enter Tryd.func11, Tryd.ntmps11
    go_wp2
    go_ret2
    exact ⟨rfl, rfl⟩
end Go.Proofs.YtokpgdojcjmliaaDoor
