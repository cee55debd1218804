/-
  What is proved: the contracts of the checksum functions: impl.Checksum, spec.l1Sum, spec.l1Stands, spec.l1Seal, impl.AppendChecksum, spec.AppendChecksum. Conditions: those of each contract.
-/
import Derived.Test.YtokpgdojcjmliaaDoorFc
namespace Go.Proofs.YtokpgdojcjmliaaDoor
open Go.RowKit

def ckStep (h : Int) (c : UInt8) : Int := (41 * h + c.toNat + 1) % 999979
def ck (l : List UInt8) : Int := l.foldl ckStep 7
theorem ckStep_bd (h : Int) (c : UInt8) : 0 ≤ ckStep h c ∧ ckStep h c < 999979 := by unfold ckStep; omega
theorem ck_snoc (l : List UInt8) (c : UInt8) : ck (l ++ [c]) = ckStep (ck l) c := by simp [ck]
theorem foldl_bd (l : List UInt8) : ∀ h : Int, 0 ≤ h → h < 999979 → 0 ≤ l.foldl ckStep h ∧ l.foldl ckStep h < 999979 := by
  induction l with
  | nil => intro h h1 h2; exact ⟨h1, h2⟩
  | cons c l ih => intro h _ _; exact ih _ (ckStep_bd h c).1 (ckStep_bd h c).2
theorem ck_bd (l : List UInt8) : 0 ≤ ck l ∧ ck l < 999979 := foldl_bd l 7 (by omega) (by omega)
theorem take_snoc (s : ByteArray) (k : Nat) (h : k < s.size) : s.data.toList.take (k + 1) = s.data.toList.take k ++ [s[k]] := by
  rw [List.take_succ_eq_append_getElem (by simpa using h)]; rfl
theorem ck_take (s : ByteArray) (k : Nat) (h : k < s.size) : ck (s.data.toList.take (k + 1)) = (41 * ck (s.data.toList.take k) + s[k].toNat + 1) % 999979 := by
  rw [take_snoc s k h, ck_snoc]; rfl
theorem ret_int {k : IntKind} {a b : Int} (h : a = b) : Ending.returned (.int k a) = .returned (.int k b) := by rw [h]
theorem ret_int2 {k : IntKind} {a b : Int} {v : Value} (h : a = b) : Ending.returned (.tuple #[.int k a, v]) = .returned (.tuple #[.int k b, v]) := by rw [h]
theorem ret_str2 {a b : ByteArray} {v : Value} (h : a = b) : Ending.returned (.tuple #[.string a, v]) = .returned (.tuple #[.string b, v]) := by rw [h]

set_option maxHeartbeats 400000 in
theorem l1Sum_any (s : ByteArray) (w : World) (hs : s.size ≤ maxLen) :
    Calls Tryd.prog 42 #[.string s] w fun e w' => e = .returned (.int .i64 (ck s.data.toList)) ∧ w = w' := by
  unfold maxLen at hs
  go_enter Tryd.func42, Tryd.ntmps42
  go_wp2
  go_loop [3, 4] (fun n i => ∃ k : Nat, k ≤ s.size ∧ i = .int .i64 k ∧ n = .int .i64 (ck (s.data.toList.take k))) (fun _ i => s.size - (intOf i).toNat)
  case atStart => exact ⟨0, Nat.zero_le _, rfl, rfl⟩
  case round =>
    obtain ⟨k, hk, rfl, rfl⟩ := hrel
    have hd := ck_bd (s.data.toList.take k)
    by_cases hlt : k < s.size
    · have hb := s[k].toNat_lt
      have HS := Lib.hid (ck_take s k hlt)
      go_wp2
      go_round
      case rel => exact ⟨k + 1, by omega, by go_num, by rw [HS.out]⟩
      case measure => simp [intOf]; omega
    · go_wp2
      go_ret
      exact ⟨ret_int (by rw [List.take_of_length_le (by simp; omega)]), rfl⟩
set_option maxHeartbeats 400000 in
theorem checksum_yes (s : ByteArray) (w : World) (hs : s.size ≤ 4000) :
    Calls Tryd.prog 31 #[.string s] w fun e w' => e = .returned (.tuple #[.int .i64 (ck s.data.toList), .bool true]) ∧ w = w' := by
  go_enter Tryd.func31, Tryd.ntmps31
  go_wp2
  go_loop [4, 5, 11] (fun n _ i => ∃ k : Nat, k ≤ s.size ∧ i = .int .i64 k ∧ n = .int .i64 (ck (s.data.toList.take k))) (fun _ _ i => s.size - (intOf i).toNat)
  case atStart => exact ⟨0, Nat.zero_le _, rfl, rfl⟩
  case round =>
    obtain ⟨k, hk, rfl, rfl⟩ := hrel
    have hd := ck_bd (s.data.toList.take k)
    by_cases hlt : k < s.size
    · have hb := s[k].toNat_lt
      have HS := Lib.hid (ck_take s k hlt)
      go_wp2
      go_round
      case rel => exact ⟨k + 1, by omega, by go_num, by rw [HS.out]⟩
      case measure => simp [intOf]; omega
    · go_wp2
      go_ret2
      exact ⟨ret_int2 (by rw [List.take_of_length_le (by simp; omega)]), rfl⟩
theorem checksum_no (s : ByteArray) (w : World) (hs : 4000 < s.size) (hm : s.size ≤ maxLen) :
    Calls Tryd.prog 31 #[.string s] w fun e w' => e = .returned (.tuple #[.int .i64 0, .bool false]) ∧ w = w' := by
  unfold maxLen at hm
  go_enter Tryd.func31, Tryd.ntmps31
  go_wp2
  go_ret2
  exact ⟨rfl, rfl⟩

/-- the byte c stands in s -/
def hasB (s : ByteArray) (c : UInt8) : Bool := s.data.toList.contains c
theorem hasB_at {s : ByteArray} {c : UInt8} (h : hasB s c = false) (k : Nat) (hk : k < s.size) : s[k] ≠ c := by
  intro e
  have h2 : c ∈ s.data.toList := by
    rw [List.mem_iff_getElem]
    exact ⟨k, by simpa using hk, by rw [← e]; rfl⟩
  simp [hasB] at h
  exact h (by simpa using h2)
theorem hasB_ix {s : ByteArray} {c : UInt8} (h : hasB s c = true) : ∃ k, ∃ hk : k < s.size, s[k] = c := by
  have h2 : c ∈ s.data.toList := by simpa [hasB] using h
  obtain ⟨k, hk, e⟩ := List.mem_iff_getElem.1 h2
  exact ⟨k, by simpa using hk, e⟩
theorem ne_u8 {a b : UInt8} (h : a ≠ b) : ((a.toNat : Int) == (b.toNat : Int)) = false := by
  simp only [beq_eq_false_iff_ne, ne_eq]
  intro e
  exact h (UInt8.toNat_inj.1 (by omega))

set_option maxHeartbeats 400000 in
theorem stands_no (s : ByteArray) (c : UInt8) (w : World) (hs : s.size ≤ 1048576) (h : hasB s c = false) :
    Calls Tryd.prog 33 #[.string s, .int .u8 c.toNat] w fun e w' => e = .returned (.bool false) ∧ w = w' := by
  go_enter Tryd.func33, Tryd.ntmps33
  go_wp2
  go_loop [5] (fun i => ∃ k : Nat, k ≤ s.size ∧ i = .int .i64 k) (fun i => s.size - (intOf i).toNat)
  case atStart => exact ⟨0, Nat.zero_le _, rfl⟩
  case round =>
    obtain ⟨k, hk, rfl⟩ := hrel
    by_cases hlt : k < s.size
    · have hne := ne_u8 (hasB_at h k hlt)
      go_wp2
      go_round
      case rel => exact ⟨k + 1, by omega, by go_num⟩
      case measure => simp [intOf]; omega
    · go_wp2
      go_ret
      exact ⟨rfl, rfl⟩
set_option maxHeartbeats 400000 in
theorem stands_yes (s : ByteArray) (c : UInt8) (w : World) (hs : s.size ≤ 1048576) (h : hasB s c = true) :
    Calls Tryd.prog 33 #[.string s, .int .u8 c.toNat] w fun e w' => e = .returned (.bool true) ∧ w = w' := by
  obtain ⟨j, hj, hc⟩ := hasB_ix h
  go_enter Tryd.func33, Tryd.ntmps33
  go_wp2
  go_loop [5] (fun i => ∃ k : Nat, k ≤ j ∧ i = .int .i64 k) (fun i => s.size - (intOf i).toNat)
  case atStart => exact ⟨0, Nat.zero_le _, rfl⟩
  case round =>
    obtain ⟨k, hk, rfl⟩ := hrel
    have hlt : k < s.size := by omega
    by_cases he : s[k] = c
    · have heq : ((s[k].toNat : Int) == (c.toNat : Int)) = true := by rw [he]; simp
      clear he
      go_wp2
      go_ret
      exact ⟨rfl, rfl⟩
    · have hne := ne_u8 he
      have hkj : k ≠ j := by intro e; subst e; exact he hc
      clear he
      go_wp2
      go_round
      case rel => exact ⟨k + 1, by omega, by go_num⟩
      case measure => simp [intOf]; omega

/-- s, the mark and its checksum -/
def sealOf (s : ByteArray) : ByteArray := s ++ ⟨#[35]⟩ ++ ⟨(Lib.itoa (ck s.data.toList)).toArray⟩
theorem sealOf_size (s : ByteArray) : (sealOf s).size = s.size + 1 + (⟨(Lib.itoa (ck s.data.toList)).toArray⟩ : ByteArray).size := by
  unfold sealOf
  rw [ByteArray.size_append, ByteArray.size_append]
  rfl
theorem itoa_ck_size (s : ByteArray) : (⟨(Lib.itoa (ck s.data.toList)).toArray⟩ : ByteArray).size ≤ 1000000 := by
  have hb := ck_bd s.data.toList
  rw [itoa_pos _ hb.1]
  have := dec_size (ck s.data.toList).toNat
  omega
theorem cat_any (a b : ByteArray) (w : World) (h : a.size + b.size ≤ 9223372036854775807) : (Op.stringOp .add a b).run Tryd.prog w = .ok (.string (a ++ b)) w := run_string_add_sum _ _ _ h

theorem seal_any (s : ByteArray) (w : World) (hs : s.size ≤ 1048576) :
    Calls Tryd.prog 34 #[.string s] w fun e w' => e = .returned (.string (sealOf s)) ∧ ∃ m, w' = w.drewN m := by
  have hb := ck_bd s.data.toList
  have hsz := itoa_ck_size s
  have h1 := fun w => cat_any s ⟨#[35]⟩ w (by show s.size + 1 ≤ _; omega)
  have h2 := fun w => cat_any (s ++ ⟨#[35]⟩) ⟨(Lib.itoa (ck s.data.toList)).toArray⟩ w (by rw [ByteArray.size_append]; show s.size + 1 + _ ≤ _; omega)
  have Hn := fun w => num_any (ck s.data.toList) w (by omega) (by omega)
  have hfin : s ++ ⟨#[35]⟩ ++ ⟨(Lib.itoa (ck s.data.toList)).toArray⟩ = sealOf s := rfl
  have Hfin := Lib.hid hfin
  clear hfin
  generalize (⟨(Lib.itoa (ck s.data.toList)).toArray⟩ : ByteArray) = d at *
  have HN := Lib.hid Hn
  clear Hn
  go_enter Tryd.func34, Tryd.ntmps34
  go_wp2_with (first | (go_at_call 42; refine (l1Sum_any _ _ (by unfold maxLen; omega)).mono ?_; rintro e w' ⟨rfl, rfl⟩) | (go_at_call 25; refine (HN.out _).mono ?_; rintro e w' ⟨rfl, m, rfl⟩))
  go_ret
  exact ⟨ret_str Hfin.out, m, rfl⟩

theorem model_seal_long (s : ByteArray) (w : World) (h : 4000 < s.size) (hm : s.size ≤ 1048576) :
    Calls Tryd.prog 17 #[.string s] w fun e w' => e = .returned (.tuple #[.string ⟨#[]⟩, .bool false]) ∧ ∃ m, w' = w.drewN m := by
  go_enter Tryd.func17, Tryd.ntmps17
  go_wp2
  go_ret2
  exact ⟨rfl, 0, rfl⟩
theorem model_seal_has (s : ByteArray) (w : World) (h : s.size ≤ 4000) (hh : hasB s 35 = true) :
    Calls Tryd.prog 17 #[.string s] w fun e w' => e = .returned (.tuple #[.string ⟨#[]⟩, .bool false]) ∧ ∃ m, w' = w.drewN m := by
  have Hs := Lib.hid (fun w => stands_yes s 35 w (by omega) hh)
  clear hh
  go_enter Tryd.func17, Tryd.ntmps17
  go_wp2_with (go_at_call 33; refine (Hs.out _).mono ?_; rintro e w' ⟨rfl, rfl⟩)
  go_ret2
  exact ⟨rfl, 0, rfl⟩
theorem model_seal_wide (s : ByteArray) (w : World) (h : s.size ≤ 4000) (hh : hasB s 35 = false) (hz : 4000 < (sealOf s).size) :
    Calls Tryd.prog 17 #[.string s] w fun e w' => e = .returned (.tuple #[.string ⟨#[]⟩, .bool false]) ∧ ∃ m, w' = w.drewN m := by
  have Hs := Lib.hid (fun w => stands_no s 35 w (by omega) hh)
  have Hl := Lib.hid (fun w => seal_any s w (by omega))
  have hmx : (sealOf s).size ≤ 2000000 := by rw [sealOf_size]; have := itoa_ck_size s; omega
  clear hh
  go_enter Tryd.func17, Tryd.ntmps17
  go_wp2_with (first | (go_at_call 33; refine (Hs.out _).mono ?_; rintro e w' ⟨rfl, rfl⟩) | (go_at_call 34; refine (Hl.out _).mono ?_; rintro e w' ⟨rfl, m, rfl⟩))
  go_ret2
  exact ⟨rfl, m, rfl⟩
theorem model_seal_yes (s : ByteArray) (w : World) (h : s.size ≤ 4000) (hh : hasB s 35 = false) (hz : (sealOf s).size ≤ 4000) :
    Calls Tryd.prog 17 #[.string s] w fun e w' => e = .returned (.tuple #[.string (sealOf s), .bool true]) ∧ ∃ m, w' = w.drewN m := by
  have Hs := Lib.hid (fun w => stands_no s 35 w (by omega) hh)
  have Hl := Lib.hid (fun w => seal_any s w (by omega))
  clear hh
  go_enter Tryd.func17, Tryd.ntmps17
  go_wp2_with fail
  refine (Hs.out _).mono ?_
  rintro e w' ⟨rfl, rfl⟩
  go_wp2_with fail
  refine (Hl.out _).mono ?_
  rintro e w' ⟨rfl, m, rfl⟩
  go_wp2_with fail
  refine (Hl.out _).mono ?_
  rintro e w' ⟨rfl, k, rfl⟩
  go_wp2_with fail
  go_ret2
  exact ⟨rfl, m + k, rfl⟩

abbrev PowTab (w : World) : Prop := Lib.TabIs Tryd.prog w "internal/strconv.uint64pow10" .u64 Lib.pow10Tab
theorem has_index (l : List UInt8) (c : UInt8) : decide (0 ≤ Lib.indexByte l c) = l.contains c := by
  induction l with
  | nil => simp [Lib.indexByte]
  | cons b l ih =>
    have hge := Lib.indexByte_ge l c
    by_cases h : b = c
    · subst h; simp [Lib.indexByte]
    · have hb : (b == c) = false := by simpa using h
      have hb' : (c == b) = false := by simpa using fun e => h e.symm
      rw [List.contains_cons, hb', Bool.false_or, ← ih]
      simp only [Lib.indexByte, hb]
      by_cases h2 : Lib.indexByte l c = -1
      · simp [h2]
      · have e : (Lib.indexByte l c == -1) = false := by simpa using h2
        simp only [e]
        simp
        omega
theorem contains_mark (s : ByteArray) (w : World) (b : Bool) (h : hasB s 35 = b) :
    Calls Tryd.prog 32 #[.string s, .string ⟨#[35]⟩] w fun e w' => e = .returned (.bool b) ∧ w = w' :=
  (Tryd.strings_Contains_one s 35 w).mono fun _ _ ⟨he, hw⟩ => ⟨by rw [he, has_index, ← h]; rfl, hw.symm⟩

theorem impl_seal_long (s : ByteArray) (w : World) (h : 4000 < s.size) (hm : s.size ≤ maxLen) :
    Calls Tryd.prog 16 #[.string s] w fun e w' => e = .returned (.tuple #[.string ⟨#[]⟩, .bool false]) ∧ Below w.heap.size w w' := by
  have Hm := Lib.hid hm
  clear hm
  go_enter Tryd.func16, Tryd.ntmps16
  go_wp2_with (go_at_call 31; refine (checksum_no _ _ h Hm.out).mono ?_; rintro e w' ⟨rfl, rfl⟩)
  go_ret2
  exact ⟨rfl, Below.refl _ _⟩
theorem impl_seal_has (s : ByteArray) (w : World) (h : s.size ≤ 4000) (hh : hasB s 35 = true) :
    Calls Tryd.prog 16 #[.string s] w fun e w' => e = .returned (.tuple #[.string ⟨#[]⟩, .bool false]) ∧ Below w.heap.size w w' := by
  have Hs := Lib.hid (fun w => contains_mark s w true hh)
  clear hh
  go_enter Tryd.func16, Tryd.ntmps16
  go_wp2_with (first | (go_at_call 31; refine (checksum_yes _ _ h).mono ?_; rintro e w' ⟨rfl, rfl⟩) | (go_at_call 32; refine (Hs.out _).mono ?_; rintro e w' ⟨rfl, rfl⟩))
  go_ret2
  exact ⟨rfl, Below.refl _ _⟩
theorem impl_seal_wide (s : ByteArray) (w : World) (h : s.size ≤ 4000) (hh : hasB s 35 = false) (hz : 4000 < (sealOf s).size) (htab : PowTab w) :
    Calls Tryd.prog 16 #[.string s] w fun e w' => e = .returned (.tuple #[.string ⟨#[]⟩, .bool false]) ∧ Below w.heap.size w w' := by
  have Hs := Lib.hid (fun w => contains_mark s w false hh)
  have hb := ck_bd s.data.toList
  have hsz := itoa_ck_size s
  rw [sealOf_size] at hz
  have Hf := impl_fmt_yes (ck s.data.toList) w (by omega) (by omega) htab
  generalize (⟨(Lib.itoa (ck s.data.toList)).toArray⟩ : ByteArray) = d at *
  have HF := Lib.hid Hf
  clear hh Hf htab
  go_enter Tryd.func16, Tryd.ntmps16
  go_wp2_with (first | (go_at_call 31; refine (checksum_yes _ _ h).mono ?_; rintro e w' ⟨rfl, rfl⟩) | (go_at_call 32; refine (Hs.out _).mono ?_; rintro e w' ⟨rfl, rfl⟩) | (go_at_call 10; refine HF.out.mono ?_; rintro e w' ⟨rfl, hg⟩))
  go_ret2
  exact ⟨rfl, hg⟩
theorem impl_seal_yes (s : ByteArray) (w : World) (h : s.size ≤ 4000) (hh : hasB s 35 = false) (hz : (sealOf s).size ≤ 4000) (htab : PowTab w) :
    Calls Tryd.prog 16 #[.string s] w fun e w' => e = .returned (.tuple #[.string (sealOf s), .bool true]) ∧ Below w.heap.size w w' := by
  have Hs := Lib.hid (fun w => contains_mark s w false hh)
  have hb := ck_bd s.data.toList
  have hsz := itoa_ck_size s
  rw [sealOf_size] at hz
  have Hf := impl_fmt_yes (ck s.data.toList) w (by omega) (by omega) htab
  have h1 := fun w => cat_any s ⟨#[35]⟩ w (by show s.size + 1 ≤ _; omega)
  have h2 := fun w => cat_any (s ++ ⟨#[35]⟩) ⟨(Lib.itoa (ck s.data.toList)).toArray⟩ w (by rw [ByteArray.size_append]; show s.size + 1 + _ ≤ _; omega)
  have hfin : s ++ ⟨#[35]⟩ ++ ⟨(Lib.itoa (ck s.data.toList)).toArray⟩ = sealOf s := rfl
  have Hfin := Lib.hid hfin
  clear hfin
  generalize (⟨(Lib.itoa (ck s.data.toList)).toArray⟩ : ByteArray) = d at *
  have HF := Lib.hid Hf
  clear hh Hf htab
  go_enter Tryd.func16, Tryd.ntmps16
  go_wp2_with (first | (go_at_call 31; refine (checksum_yes _ _ h).mono ?_; rintro e w' ⟨rfl, rfl⟩) | (go_at_call 32; refine (Hs.out _).mono ?_; rintro e w' ⟨rfl, rfl⟩) | (go_at_call 10; refine HF.out.mono ?_; rintro e w' ⟨rfl, hg⟩))
  go_ret2
  exact ⟨ret_str2 Hfin.out, hg⟩
end Go.Proofs.YtokpgdojcjmliaaDoor
