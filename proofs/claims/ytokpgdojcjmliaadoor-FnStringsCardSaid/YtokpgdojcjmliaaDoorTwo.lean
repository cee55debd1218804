/-
  What is proved: the program's functions on texts and the model's answer alike; what FormatInt tells, ParseInt reads back; a sealed text verifies, and no text does that is not sealed. Conditions: the variables that the contracts read.
-/
import Derived.Test.YtokpgdojcjmliaaDoorPrs
import Derived.Test.YtokpgdojcjmliaaDoorFlip
namespace Go.Proofs.YtokpgdojcjmliaaDoor
open Go.RowKit

/-- the variables that the program's functions read are as they were laid -/
def Gd (w : World) : Prop := PowTab w ∧ MaxIs w ∧ ErrAt 0 w ∧ ErrAt 1 w
theorem err_below {g : Nat} {w w' : World} (h : ErrAt g w) (hb : Below w.heap.size w w') : ErrAt g w' := by
  obtain ⟨te, pe, hc⟩ := h
  exact ⟨te, pe, (hb.cell (p := ⟨g, 0, none⟩) (World.block_lt_of_cell? _ _ hc)).trans hc⟩
theorem Gd.below {w w' : World} (h : Gd w) (hb : Below w.heap.size w w') : Gd w' := ⟨pow_below h.1 hb, max_below h.2.1 hb, err_below h.2.2.1 hb, err_below h.2.2.2 hb⟩
/-- the call f(v) answers with r and leaves what was there as it was -/
def Gives (f : Nat) (v r : Value) (w : World) : Prop := Calls Tryd.prog f #[v] w fun e w' => e = .returned r ∧ Below w.heap.size w w'
abbrev pairS (z : ByteArray) (b : Bool) : Value := .tuple #[.string z, .bool b]
abbrev pairI (z : Int) (b : Bool) : Value := .tuple #[.int .i64 z, .bool b]
theorem gives_drew {f : Nat} {v r : Value} {w : World} (h : Calls Tryd.prog f #[v] w fun e w' => e = .returned r ∧ ∃ m, w' = w.drewN m) : Gives f v r w :=
  h.mono fun _ _ ⟨he, m, hw⟩ => ⟨he, hw ▸ below_drewN _ m⟩
theorem gives_same {f : Nat} {v r : Value} {w : World} (h : Calls Tryd.prog f #[v] w fun e w' => e = .returned r ∧ w = w') : Gives f v r w :=
  h.mono fun _ _ ⟨he, hw⟩ => ⟨he, hw ▸ Below.refl _ _⟩
theorem numStr_small (n : Int) (h0 : -999999 ≤ n) (h1 : n ≤ 999999) : (numStr n).size ≤ 1048576 := by
  unfold numStr
  by_cases h : n < 0
  · rw [itoa_neg n h, ByteArray.size_append]
    have := dec_size (-n).toNat
    have e : (⟨#[45]⟩ : ByteArray).size = 1 := rfl
    omega
  · rw [itoa_pos n (by omega)]
    have := dec_size n.toNat
    omega
theorem numStr_some (n : Int) (h0 : -999999 ≤ n) (h1 : n ≤ 999999) : numStr n ≠ ⟨#[]⟩ := by
  intro e
  have h := atoi_itoa n h0 h1
  have e2 : Lib.itoa n = [] := by
    have := congrArg (fun b => b.data.toList) e
    simpa [numStr] using this
  rw [e2] at h
  simp [Lib.atoiAll] at h
theorem prs_both (s : ByteArray) (hs : s.size ≤ 1048576) : ∃ (m : Int) (b : Bool), (∀ w, Gd w → Gives 13 (.string s) (pairI m b) w) ∧ (∀ w, Gives 14 (.string s) (pairI m b) w) := by
  by_cases h : ∃ n : Int, -999999 ≤ n ∧ n ≤ 999999 ∧ numStr n = s
  · obtain ⟨n, h0, h1, hn⟩ := h
    exact ⟨n, true, fun w hg => impl_parse_num n s hn w hs h0 h1 hg.1, fun w => gives_drew (model_parse_yes n s hn w h0 h1)⟩
  · have h' : ∀ n : Int, -999999 ≤ n → n ≤ 999999 → numStr n ≠ s := fun n a b e => h ⟨n, a, b, e⟩
    exact ⟨0, false, fun w hg => impl_parse_no s w hs h' hg.1 hg.2.2.1 hg.2.2.2, fun w => gives_drew (model_parse_no s w hs h')⟩
/-- FormatInt, its model, and ParseInt of the answer -/
theorem fmt_both (n : Int) : ∃ (s : ByteArray) (b : Bool) (m : Int) (bb : Bool), (∀ w, Gd w → Gives 10 (.int .i64 n) (pairS s b) w) ∧ (∀ w, Gives 11 (.int .i64 n) (pairS s b) w) ∧
    (∀ w, Gd w → Gives 13 (.string s) (pairI m bb) w) ∧ ((b = true ∧ m = n ∧ bb = true) ∨ b = false) := by
  by_cases h : -999999 ≤ n ∧ n ≤ 999999
  · obtain ⟨h0, h1⟩ := h
    exact ⟨numStr n, true, n, true, fun w hg => impl_fmt_yes n w h0 h1 hg.1, fun w => gives_drew (model_fmt_yes n w h0 h1), fun w hg => impl_parse_num n _ rfl w (numStr_small n h0 h1) h0 h1 hg.1, .inl ⟨rfl, rfl, rfl⟩⟩
  · have h' : n < -999999 ∨ 999999 < n := by omega
    exact ⟨⟨#[]⟩, false, 0, false, fun w _ => gives_same (impl_fmt_no n w h'), fun w => gives_same (model_fmt_no n w h'), fun w hg => impl_parse_no _ w (by show (0 : Nat) ≤ _; omega) numStr_some hg.1 hg.2.2.1 hg.2.2.2, .inr rfl⟩
theorem seal_both (x : ByteArray) (hx : x.size ≤ 4000) : ∃ (y : ByteArray) (b : Bool), (∀ w, Gd w → Gives 16 (.string x) (pairS y b) w) ∧ (∀ w, Gives 17 (.string x) (pairS y b) w) ∧
    ((b = false ∧ y = ⟨#[]⟩) ∨ (b = true ∧ y = sealOf x ∧ hasB x 35 = false ∧ y.size ≤ 4000)) := by
  cases hh : hasB x 35
  · by_cases hz : (sealOf x).size ≤ 4000
    · exact ⟨_, true, fun w hg => impl_seal_yes x w hx hh hz hg.1, fun w => gives_drew (model_seal_yes x w hx hh hz), .inr ⟨rfl, rfl, rfl, hz⟩⟩
    · exact ⟨_, false, fun w hg => impl_seal_wide x w hx hh (by omega) hg.1, fun w => gives_drew (model_seal_wide x w hx hh (by omega)), .inl ⟨rfl, rfl⟩⟩
  · exact ⟨_, false, fun w _ => impl_seal_has x w hx hh, fun w => gives_drew (model_seal_has x w hx hh), .inl ⟨rfl, rfl⟩⟩
theorem ahead_seal (l r : List UInt8) (h : l.contains 35 = false) : ahead 35 (l ++ 35 :: r) = l := by
  unfold ahead
  induction l with
  | nil => simp
  | cons b l ih =>
    rw [List.contains_cons, Bool.or_eq_false_iff] at h
    have hb : (b != 35) = true := by
      have := h.1
      rw [beq_eq_false_iff_ne] at this
      exact bne_iff_ne.2 (fun e => this e.symm)
    rw [List.cons_append, List.takeWhile_cons, if_pos hb, ih h.2]
theorem textOf_seal (x : ByteArray) (h : hasB x 35 = false) : textOf (sealOf x) = x := by
  unfold textOf
  rw [sealOf_list]
  unfold sealL
  rw [ahead_seal _ _ h]
theorem ver_ok (x y : ByteArray) (hy : y = sealOf x) (h : hasB x 35 = false) (hx : x.size ≤ 4000) (hz : y.size ≤ 4000) (w : World) (hg : Gd w) : Gives 18 (.string y) (pairS x true) w := by
  subst hy
  have ht := textOf_seal x h
  have := impl_ver_yes (sealOf x) w (by omega) hg.2.1 (has_of_seal rfl) fun n => by rw [ht]; exact impl_seal_yes x (w.drewN n) hx h hz (tab_drewN n hg.1)
  rw [ht] at this
  exact this
theorem ver_bad (s : ByteArray) (hs : s.size ≤ 4000) (hne : ∀ t, hasB t 35 = false → sealOf t ≠ s) (w : World) (hg : Gd w) : Gives 18 (.string s) (pairS ⟨#[]⟩ false) w := by
  have hts := textOf_size s
  have hth := textOf_has s
  cases h3 : hasB s 35
  · exact impl_ver_miss s w (by omega) hg.2.1 h3
  · by_cases h5 : (sealOf (textOf s)).size ≤ 4000
    · exact impl_ver_other s (sealOf (textOf s)) w (by omega) hg.2.1 h3 (hne _ hth) fun n => impl_seal_yes (textOf s) (w.drewN n) (by omega) hth h5 (tab_drewN n hg.1)
    · exact impl_ver_fail s w (by omega) hg.2.1 h3 fun n => impl_seal_wide (textOf s) (w.drewN n) (by omega) hth (by omega) (tab_drewN n hg.1)
end Go.Proofs.YtokpgdojcjmliaaDoor
