/-
  What is proved: the contracts of spec.ParseInt and impl.ParseInt: each tells the int of a decimal numeral from -999999 to 999999, and fails at every other text. Conditions: a text of at most 1048576 bytes; impl.ParseInt reads the listed variables.
-/
import Derived.Test.YtokpgdojcjmliaaDoorPar
import Derived.Test.YtokpgdojcjmliaaDoorShelfA
import Derived.Stop.LaidErr
import Derived.LaidSub
import Derived.MakeChecks
namespace Go.Proofs.YtokpgdojcjmliaaDoor
open Go.RowKit

/-- the numeral of n -/
def numStr (n : Int) : ByteArray := ⟨(Lib.itoa n).toArray⟩
theorem pre_of (s : ByteArray) : ∃ t b, Pre s t b ∧ t.size ≤ s.size := by
  by_cases h : 1 < s.size
  · by_cases hc : ((s[0].toNat : Int) == 45) = true
    · exact ⟨s.extract 1 s.size, true, .inl ⟨h, rfl, hc, rfl⟩, by rw [ByteArray.size_extract]; omega⟩
    · exact ⟨s, false, .inr (.inr ⟨rfl, rfl, h, by simpa using hc⟩), Nat.le_refl _⟩
  · exact ⟨s, false, .inr (.inl ⟨rfl, rfl, by omega⟩), Nat.le_refl _⟩
theorem read_no (s : ByteArray) (w : World) (hs : s.size ≤ 1048576) (h : ∀ n : Int, -999999 ≤ n → n ≤ 999999 → numStr n ≠ s) :
    Calls Tryd.prog 29 #[.string s] w fun e w' => e = .returned (.tuple #[.int .i64 0, .bool false]) ∧ ∃ m, w' = w.drewN m := by
  obtain ⟨t, b, hp, hl⟩ := pre_of s
  by_cases h1 : t.size < 1 ∨ 6 < t.size
  · exact read_size s t b w hs (by omega) hp h1
  · cases hd : t.data.toList.all isDig
    · exact read_bad s t b w hs hp (by omega) (by omega) hd
    · have hr := rd_small _ hd (by simp; omega)
      refine read_other s t b w hs hp (by omega) (by omega) hd (h _ ?_ ?_)
      · cases b <;> simp <;> omega
      · cases b <;> simp <;> omega
theorem bytes_size (l : List UInt8) : (⟨l.toArray⟩ : ByteArray).size = l.length := by
  show l.toArray.size = _
  simp
theorem pre_num (n : Int) (h0 : -999999 ≤ n) (h1 : n ≤ 999999) : Pre (numStr n) ⟨(Lib.decDigits n.natAbs).toArray⟩ (decide (n < 0)) := by
  obtain ⟨hl1, hl2⟩ := dec_len6 n.natAbs (by omega)
  by_cases h : n < 0
  · have e : numStr n = ⟨(45 :: Lib.decDigits n.natAbs).toArray⟩ := by unfold numStr Lib.itoa; rw [if_pos h]
    have hz : (numStr n).size = (Lib.decDigits n.natAbs).length + 1 := by rw [e, bytes_size]; rfl
    refine .inl ⟨by omega, by simpa using h, ?_, ?_⟩
    · have : (numStr n)[0]'(by omega) = 45 := by simp only [e]; rfl
      rw [this]; rfl
    · apply ByteArray.ext
      apply Array.toList_inj.1
      rw [extract_list, hz]
      simp [e]
  · have e : numStr n = ⟨(Lib.decDigits n.natAbs).toArray⟩ := by unfold numStr Lib.itoa; rw [if_neg h, show n.toNat = n.natAbs by omega]
    by_cases hz : (numStr n).size ≤ 1
    · exact .inr (.inl ⟨by simpa using h, e.symm, hz⟩)
    · refine .inr (.inr ⟨by simpa using h, e.symm, by omega, ?_⟩)
      obtain ⟨c, r, hd, hc⟩ := dec_cons n.natAbs
      have : (numStr n)[0]'(by omega) = c := by simp only [e, hd]; rfl
      rw [this]
      simp only [isDig, Bool.and_eq_true, decide_eq_true_eq] at hc
      simp; omega
theorem read_num (n : Int) (w : World) (h0 : -999999 ≤ n) (h1 : n ≤ 999999) :
    Calls Tryd.prog 29 #[.string (numStr n)] w fun e w' => e = .returned (.tuple #[.int .i64 n, .bool true]) ∧ ∃ m, w' = w.drewN m := by
  obtain ⟨hl1, hl2⟩ := dec_len6 n.natAbs (by omega)
  obtain ⟨hd1, hd2⟩ := dec_digits n.natAbs
  have hp := pre_num n h0 h1
  have hv : (if decide (n < 0) = true then -(rd (Lib.decDigits n.natAbs)) else rd (Lib.decDigits n.natAbs)) = n := by
    rw [hd2]; by_cases h : n < 0 <;> simp [h] <;> omega
  have hz : (numStr n).size ≤ 1048576 := by
    unfold numStr Lib.itoa
    rw [bytes_size]
    by_cases h : n < 0
    · rw [if_pos h]; simp; omega
    · rw [if_neg h, show n.toNat = n.natAbs by omega]; omega
  have := read_yes (numStr n) ⟨(Lib.decDigits n.natAbs).toArray⟩ (decide (n < 0)) w hz hp (by rw [bytes_size]; omega) (by rw [bytes_size]; omega) hd1 (by show (⟨(Lib.itoa (if decide (n < 0) = true then -(rd (Lib.decDigits n.natAbs)) else rd (Lib.decDigits n.natAbs))).toArray⟩ : ByteArray) = _; rw [hv]; rfl)
  have e2 : (if decide (n < 0) = true then -(rd (Lib.decDigits n.natAbs)) else rd (Lib.decDigits n.natAbs)) = n := hv
  exact this.mono fun _ _ ⟨he, hw⟩ => ⟨by rw [he]; exact ret_int2 e2, hw⟩
theorem model_parse_no (s : ByteArray) (w : World) (hs : s.size ≤ 1048576) (h : ∀ n : Int, -999999 ≤ n → n ≤ 999999 → numStr n ≠ s) :
    Calls Tryd.prog 14 #[.string s] w fun e w' => e = .returned (.tuple #[.int .i64 0, .bool false]) ∧ ∃ m, w' = w.drewN m := by
  have H := Lib.hid (read_no s w hs h)
  clear h
  go_enter Tryd.func14, Tryd.ntmps14
  go_wp2_with (go_at_call 29; refine H.out.mono ?_; rintro e w' ⟨rfl, m, rfl⟩)
  go_ret2
  exact ⟨rfl, m, rfl⟩
theorem model_parse_yes (n : Int) (s : ByteArray) (he : numStr n = s) (w : World) (h0 : -999999 ≤ n) (h1 : n ≤ 999999) :
    Calls Tryd.prog 14 #[.string s] w fun e w' => e = .returned (.tuple #[.int .i64 n, .bool true]) ∧ ∃ m, w' = w.drewN m := by
  have H0 := read_num n w h0 h1
  rw [he] at H0
  have H := Lib.hid H0
  clear he H0
  go_enter Tryd.func14, Tryd.ntmps14
  go_wp2_with (go_at_call 29; refine H.out.mono ?_; rintro e w' ⟨rfl, m, rfl⟩)
  go_ret2
  exact ⟨rfl, m, rfl⟩

/-- a variable of type error that holds an error -/
abbrev ErrAt (g : Nat) (w : World) : Prop := ∃ te pe, w.cell? ⟨g, 0, none⟩ = some (.iface te pe)
theorem row86 (u : TypeId) (h : Tryd.prog.typeName? 3 u = some "*errors.errorString") : u = 86 :=
  typeName_ptr_named (nm := "errors.errorString") (by rw [show "*" ++ "errors.errorString" = "*errors.errorString" by decide]; kernel_rfl) (by kernel_rfl) (by decide) u (by rw [show "*" ++ "errors.errorString" = "*errors.errorString" by decide]; exact h)
theorem errSyntax_of {W : World} {text : List UInt8} (l : List (String × DataW Unit)) (e : (l.filter fun x => x.1 == "strconv.ErrSyntax") = [("strconv.ErrSyntax", .iface "*errors.errorString" (.ptr (.agg [.lit (.string text)])))]) (h : laidMetH Tryd.prog l W) : ErrAt 0 W := by
  have h1 := laidMetH.filter (fun x => x.1 == "strconv.ErrSyntax") h
  rw [e, MakeChecks.laidMetH_plain _ _ _ (by kernel_rfl)] at h1
  have hg : Tryd.prog.globalNamed "strconv.ErrSyntax" = some 0 := by kernel_rfl
  obtain ⟨a0, s0, hv0, -, -, -⟩ := laid_sentinel h1 hg (by kernel_rfl) Tryd.underlying46 row86 Tryd.underlying86 Tryd.underlying88 rfl rfl Tryd.underlying9 (by kernel_rfl) (by kernel_rfl)
  exact ⟨_, _, by have h0 := World.var?_cell hg hv0 0; simpa using h0⟩
theorem errRange_of {W : World} {text : List UInt8} (l : List (String × DataW Unit)) (e : (l.filter fun x => x.1 == "strconv.ErrRange") = [("strconv.ErrRange", .iface "*errors.errorString" (.ptr (.agg [.lit (.string text)])))]) (h : laidMetH Tryd.prog l W) : ErrAt 1 W := by
  have h1 := laidMetH.filter (fun x => x.1 == "strconv.ErrRange") h
  rw [e, MakeChecks.laidMetH_plain _ _ _ (by kernel_rfl)] at h1
  have hg : Tryd.prog.globalNamed "strconv.ErrRange" = some 1 := by kernel_rfl
  obtain ⟨a0, s0, hv0, -, -, -⟩ := laid_sentinel h1 hg (by kernel_rfl) Tryd.underlying46 row86 Tryd.underlying86 Tryd.underlying88 rfl rfl Tryd.underlying9 (by kernel_rfl) (by kernel_rfl)
  exact ⟨_, _, by have h0 := World.var?_cell hg hv0 0; simpa using h0⟩

/-- what Atoi gives: the number and no error; or some number and an error -/
theorem atoi_ok (s : ByteArray) (v : Int) (w : World) (hs : s.size ≤ 1048576) (h : Lib.atoiAll s.data.toList = .ok v) :
    Calls Tryd.prog 28 #[.string s] w fun e w' => e = .returned (.tuple #[.int .i64 v, .nilIface]) ∧ Below w.heap.size w w' :=
  (Tryd.strconv_Atoi_ok s (by omega) v h w).mono fun _ _ ⟨he, hw⟩ => ⟨he, by
    rcases hw with rfl | ⟨t, rfl⟩
    · exact Below.refl _ _
    · exact Lib.bytesWorld_below _ _ _⟩
theorem atoi_fail (s : ByteArray) (w : World) (hs : s.size ≤ 1048576) (h : ∀ v, Lib.atoiAll s.data.toList ≠ .ok v) (h0 : ErrAt 0 w) (h1 : ErrAt 1 w) :
    Calls Tryd.prog 28 #[.string s] w fun e w' => (∃ (v : Int) (N : Nat), e = .returned (.tuple #[.int .i64 v, .iface 65 (.pointer (some ⟨N, 0, none⟩))])) ∧ Below w.heap.size w w' := by
  obtain ⟨te0, pe0, hc0⟩ := h0
  obtain ⟨te1, pe1, hc1⟩ := h1
  cases hh : Lib.atoiAll s.data.toList
  · exact absurd hh (h _)
  · refine (Any.strconv_Atoi_syntax Tryd.laysC172 s (by omega) hh _ w hc0 (.inr ⟨te0, pe0, rfl⟩)).mono ?_
    rintro e w' ⟨N, he, _, _, hb⟩
    exact ⟨⟨_, N, he⟩, hb⟩
  · refine (Any.strconv_Atoi_range Tryd.laysC172 s (by omega) hh _ w hc1 (.inr ⟨te1, pe1, rfl⟩)).mono ?_
    rintro e w' ⟨N, he, _, _, hb⟩
    exact ⟨⟨_, N, he⟩, hb⟩

theorem impl_parse_fail (s : ByteArray) (w : World) (hs : s.size ≤ 1048576) (h : ∀ v, Lib.atoiAll s.data.toList ≠ .ok v) (h0 : ErrAt 0 w) (h1 : ErrAt 1 w) :
    Calls Tryd.prog 13 #[.string s] w fun e w' => e = .returned (.tuple #[.int .i64 0, .bool false]) ∧ Below w.heap.size w w' := by
  have H := Lib.hid (atoi_fail s w hs h h0 h1)
  clear h h0 h1
  go_enter Tryd.func13, Tryd.ntmps13
  go_wp2_with fail
  refine H.out.mono ?_
  rintro e w' ⟨⟨v, N, rfl⟩, hb⟩
  go_wp2_with fail
  go_ret2
  exact ⟨rfl, hb⟩
theorem impl_parse_wide (s : ByteArray) (v : Int) (w : World) (hs : s.size ≤ 1048576) (h : Lib.atoiAll s.data.toList = .ok v) (hv : v < -999999 ∨ 999999 < v) :
    Calls Tryd.prog 13 #[.string s] w fun e w' => e = .returned (.tuple #[.int .i64 0, .bool false]) ∧ Below w.heap.size w w' := by
  have H := Lib.hid (atoi_ok s v w hs h)
  have Hv := Lib.hid hv
  clear h hv
  go_enter Tryd.func13, Tryd.ntmps13
  go_wp2_with fail
  refine H.out.mono ?_
  rintro e w' ⟨rfl, hb⟩
  go_wp2_with fail
  refine (impl_fmt_no _ _ Hv.out).mono ?_
  rintro e w2 ⟨rfl, rfl⟩
  go_wp2_with fail
  go_ret2
  exact ⟨rfl, hb⟩
theorem impl_parse_other (s : ByteArray) (v : Int) (w : World) (hs : s.size ≤ 1048576) (h : Lib.atoiAll s.data.toList = .ok v) (hv0 : -999999 ≤ v) (hv1 : v ≤ 999999) (hne : numStr v ≠ s) (htab : PowTab w) :
    Calls Tryd.prog 13 #[.string s] w fun e w' => e = .returned (.tuple #[.int .i64 0, .bool false]) ∧ Below w.heap.size w w' := by
  have H := Lib.hid (atoi_ok s v w hs h)
  have hF0 : ∀ w' : World, Below w.heap.size w w' → Calls Tryd.prog 10 #[.int .i64 v] w' fun e w2 => e = .returned (.tuple #[.string (numStr v), .bool true]) ∧ Below w'.heap.size w' w2 := fun w' hb => impl_fmt_yes v w' hv0 hv1 (pow_below htab hb)
  have hF := Lib.hid hF0
  have hn := ne_str hne
  clear h hne htab hF0
  generalize numStr v = d at *
  go_enter Tryd.func13, Tryd.ntmps13
  go_wp2_with fail
  refine H.out.mono ?_
  rintro e w' ⟨rfl, hb⟩
  go_wp2_with fail
  refine (hF.out _ hb).mono ?_
  rintro e w2 ⟨rfl, hb2⟩
  go_wp2_with fail
  go_ret2
  exact ⟨rfl, hb.trans (hb2.mono hb.size)⟩
theorem impl_parse_num (n : Int) (s : ByteArray) (he : numStr n = s) (w : World) (hs : s.size ≤ 1048576) (h0 : -999999 ≤ n) (h1 : n ≤ 999999) (htab : PowTab w) :
    Calls Tryd.prog 13 #[.string s] w fun e w' => e = .returned (.tuple #[.int .i64 n, .bool true]) ∧ Below w.heap.size w w' := by
  have h : Lib.atoiAll s.data.toList = .ok n := by rw [← he]; exact atoi_itoa n h0 h1
  have H := Lib.hid (atoi_ok s n w hs h)
  have hF0 : ∀ w' : World, Below w.heap.size w w' → Calls Tryd.prog 10 #[.int .i64 n] w' fun e w2 => e = .returned (.tuple #[.string s, .bool true]) ∧ Below w'.heap.size w' w2 := fun w' hb => by
    have := impl_fmt_yes n w' h0 h1 (pow_below htab hb)
    rw [← he]; exact this
  have hF := Lib.hid hF0
  have hn := eq_str s
  clear h htab hF0 he
  go_enter Tryd.func13, Tryd.ntmps13
  go_wp2_with fail
  refine H.out.mono ?_
  rintro e w' ⟨rfl, hb⟩
  go_wp2_with fail
  refine (hF.out _ hb).mono ?_
  rintro e w2 ⟨rfl, hb2⟩
  go_wp2_with fail
  go_ret2
  exact ⟨rfl, hb.trans (hb2.mono hb.size)⟩
/-- at every text that is no numeral -/
theorem impl_parse_no (s : ByteArray) (w : World) (hs : s.size ≤ 1048576) (h : ∀ n : Int, -999999 ≤ n → n ≤ 999999 → numStr n ≠ s) (htab : PowTab w) (h0 : ErrAt 0 w) (h1 : ErrAt 1 w) :
    Calls Tryd.prog 13 #[.string s] w fun e w' => e = .returned (.tuple #[.int .i64 0, .bool false]) ∧ Below w.heap.size w w' := by
  by_cases hv : ∃ v, Lib.atoiAll s.data.toList = .ok v
  · obtain ⟨v, hv⟩ := hv
    by_cases hr : -999999 ≤ v ∧ v ≤ 999999
    · exact impl_parse_other s v w hs hv hr.1 hr.2 (h v hr.1 hr.2) htab
    · exact impl_parse_wide s v w hs hv (by omega)
  · exact impl_parse_fail s w hs (fun v e => hv ⟨v, e⟩) h0 h1
end Go.Proofs.YtokpgdojcjmliaaDoor
