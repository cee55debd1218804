/-
  What is proved: the contracts of impl.VerifyChecksum and spec.VerifyChecksum.
-/
import Derived.Test.YtokpgdojcjmliaaDoorSpl
namespace Go.Proofs.YtokpgdojcjmliaaDoor
open Go.RowKit
/-- what stands ahead of the first byte c, or all -/
def ahead (c : UInt8) (l : List UInt8) : List UInt8 := l.takeWhile (· != c)
theorem fold_first (c : UInt8) (l : List UInt8) : ∀ (p : List UInt8) (acc : List (List UInt8)) (cur : List UInt8), ((l.foldl (splStep c) (p :: acc, cur)).1 ++ [(l.foldl (splStep c) (p :: acc, cur)).2])[0]? = some p := by
  induction l with
  | nil => intro p acc cur; simp
  | cons b l ih =>
    intro p acc cur
    simp only [List.foldl_cons]
    by_cases h : b = c
    · simp only [splStep, if_pos h, List.cons_append]; exact ih _ _ _
    · simp only [splStep, if_neg h]; exact ih _ _ _
theorem fold_ahead (c : UInt8) (l : List UInt8) : ∀ (cur : List UInt8), ((l.foldl (splStep c) ([], cur)).1 ++ [(l.foldl (splStep c) ([], cur)).2])[0]? = some (cur ++ ahead c l) := by
  induction l with
  | nil => intro cur; simp [ahead]
  | cons b l ih =>
    intro cur
    simp only [List.foldl_cons]
    by_cases h : b = c
    · subst h
      simp only [splStep, if_true, List.nil_append]
      rw [fold_first]
      simp [ahead]
    · have hb : (b != c) = true := by simpa using h
      simp only [splStep, if_neg h]
      rw [ih]
      simp [ahead, hb]
theorem split_first (c : UInt8) (l : List UInt8) : (splitL c l)[0]? = some (ahead c l) := by
  unfold splitL splFold; rw [fold_ahead]; simp
theorem split_pos (c : UInt8) (l : List UInt8) : (splitL c l).length = (splFold c l).1.length + 1 := by simp [splitL]
theorem ahead_of_index (c : UInt8) (l : List UInt8) : (0 ≤ Lib.indexByte l c → l.take (Lib.indexByte l c).toNat = ahead c l) ∧ (¬ 0 ≤ Lib.indexByte l c → ahead c l = l) := by
  induction l with
  | nil => simp [Lib.indexByte, ahead]
  | cons b l ih =>
    have hge := Lib.indexByte_ge l c
    by_cases h : b = c
    · subst h; simp [Lib.indexByte, ahead]
    · have hb : (b == c) = false := by simpa using h
      have hb2 : (b != c) = true := by simpa using h
      by_cases h2 : Lib.indexByte l c = -1
      · have hn : ahead c l = l := ih.2 (by omega)
        simp only [Lib.indexByte, hb, h2]
        refine ⟨by simp, fun _ => ?_⟩
        unfold ahead at hn ⊢
        simp [hb2, hn]
      · have e : (Lib.indexByte l c == -1) = false := by simpa using h2
        have hp := ih.1 (by omega)
        simp only [Lib.indexByte, hb, e]
        refine ⟨fun _ => ?_, fun h3 => by simp at h3; omega⟩
        have e2 : (Lib.indexByte l c + 1).toNat = (Lib.indexByte l c).toNat + 1 := by omega
        simp only [Bool.false_eq_true, if_false, e2, List.take_succ_cons, hp]
        simp [ahead, hb2]
theorem cut_yes (l : List UInt8) (c : UInt8) (h : l.contains c = true) : (Lib.cut l [c]).1 = ahead c l ∧ (Lib.cut l [c]).2.2 = true := by
  rw [← has_index] at h
  have h' : 0 ≤ Lib.indexByte l c := by simpa using h
  unfold Lib.cut
  rw [Lib.index_one, if_pos h']
  exact ⟨(ahead_of_index c l).1 h', rfl⟩
theorem cut_no (l : List UInt8) (c : UInt8) (h : l.contains c = false) : (Lib.cut l [c]).2.2 = false := by
  rw [← has_index] at h
  have h' : ¬ 0 ≤ Lib.indexByte l c := by simpa using h
  unfold Lib.cut
  rw [Lib.index_one, if_neg h']
theorem ahead_none (c : UInt8) (l : List UInt8) : (ahead c l).contains c = false := by
  induction l with
  | nil => simp [ahead]
  | cons b l ih =>
    by_cases h : b = c
    · subst h; simp [ahead]
    · have hb2 : (b != c) = true := by simpa using h
      have h3 : ¬ c = b := fun e => h e.symm
      unfold ahead at ih ⊢
      simp only [List.takeWhile_cons, hb2, if_true]
      rw [List.contains_cons, ih]
      simpa using h3
theorem ahead_len (c : UInt8) (l : List UInt8) : (ahead c l).length ≤ l.length := by
  unfold ahead; exact (List.takeWhile_sublist _).length_le
theorem ne_str {a b : ByteArray} (h : a ≠ b) : (a.toList == b.toList) = false := by
  simp only [beq_eq_false_iff_ne, ne_eq]
  intro e
  rw [Lib.toList_data, Lib.toList_data] at e
  exact h (ByteArray.ext (Array.toList_inj.1 e))
theorem eq_str (a : ByteArray) : (a.toList == a.toList) = true := by simp
theorem owns_head {w : World} {base : Nat} {e : TypeId} {v x : Value} {n : Nat} {xs : List Value} (h : w.ownsRow base e 1 v n xs) (hx : xs[0]? = some x) :
    ∃ g cap, v = .slice (some ⟨g, 0, none⟩) n cap ∧ w.cell? ⟨g, 0, none⟩ = some x := by
  have h' := h
  obtain ⟨hl, h2⟩ := h
  have hpos : 0 < xs.length := by
    cases xs with
    | nil => simp at hx
    | cons _ _ => simp
  rcases h2 with ⟨rfl, rfl⟩ | ⟨g, cap, cur, rfl, _⟩
  · rw [Nat.zero_mul] at hl; omega
  · exact ⟨g, cap, rfl, by rw [h'.cellAt 0 (by rw [← hl]; exact hpos), hx]⟩

/-- the text ahead of the mark -/
def textOf (s : ByteArray) : ByteArray := ⟨(ahead 35 s.data.toList).toArray⟩
theorem textOf_size (s : ByteArray) : (textOf s).size ≤ s.size := by
  have h := ahead_len 35 s.data.toList
  have e1 : (textOf s).size = (ahead 35 s.data.toList).length := by show (ahead 35 s.data.toList).toArray.size = _; simp
  have e2 : s.size = s.data.toList.length := by simp
  omega
theorem textOf_has (s : ByteArray) : hasB (textOf s) 35 = false := by
  unfold hasB textOf; simpa using ahead_none 35 s.data.toList
theorem first_strV (s : ByteArray) : ((splitL 35 s.data.toList).map strV)[0]? = some (.string (textOf s)) := by
  rw [List.getElem?_map, split_first]; rfl

/-- what l1Split's contract leaves, its first element in sight -/
def FirstIs (base n : Nat) (t : ByteArray) (w : World) (e : Ending) (w' : World) : Prop :=
  ∃ g cap, e = .returned (.slice (some ⟨g, 0, none⟩) n cap) ∧ w'.cell? ⟨g, 0, none⟩ = some (.string t) ∧ Below base w w'
theorem split_front (s : ByteArray) (w : World) (hs : s.size ≤ 1048576) :
    Calls Tryd.prog 36 #[.string s, .int .u8 35] w (FirstIs w.heap.size ((splFold 35 s.data.toList).1.length + 1) (textOf s) w) := by
  refine (split_any s 35 w hs).mono ?_
  rintro e w' ⟨v, rfl, hown, hb⟩
  obtain ⟨g, cap, rfl, hc⟩ := owns_head hown (first_strV s)
  exact ⟨g, cap, by rw [split_pos], hc, hb⟩

theorem model_ver_long (s : ByteArray) (w : World) (h : 4000 < s.size) (hm : s.size ≤ 1048576) :
    Calls Tryd.prog 20 #[.string s] w fun e w' => e = .returned (.tuple #[.string ⟨#[]⟩, .bool false]) ∧ Below w.heap.size w w' := by
  go_enter Tryd.func20, Tryd.ntmps20
  go_wp2
  go_ret2
  exact ⟨rfl, Below.refl _ _⟩
theorem model_ver_no (s : ByteArray) (w : World) (h : s.size ≤ 4000) (hne : sealOf (textOf s) ≠ s) :
    Calls Tryd.prog 20 #[.string s] w fun e w' => e = .returned (.tuple #[.string ⟨#[]⟩, .bool false]) ∧ Below w.heap.size w w' := by
  have hts := textOf_size s
  have hn := ne_str hne
  have Hl := Lib.hid (fun w => seal_any (textOf s) w (by omega))
  have Hs := Lib.hid (split_front s w (by omega))
  clear hne
  go_enter Tryd.func20, Tryd.ntmps20
  go_wp2_with fail
  refine Hs.out.mono ?_
  rintro e w1 ⟨g, cap, rfl, hc, hb⟩
  go_wp2_with fail
  refine (Hl.out _).mono ?_
  rintro e w' ⟨rfl, m, rfl⟩
  go_wp2_with fail
  go_ret2
  exact ⟨rfl, hb.trans ⟨rfl, rfl, rfl, Nat.le_refl _, fun _ _ => rfl⟩⟩
theorem model_ver_yes (s : ByteArray) (w : World) (h : s.size ≤ 4000) (he : sealOf (textOf s) = s) :
    Calls Tryd.prog 20 #[.string s] w fun e w' => e = .returned (.tuple #[.string (textOf s), .bool true]) ∧ Below w.heap.size w w' := by
  have hts := textOf_size s
  have Hl' : ∀ w, Calls Tryd.prog 34 #[.string (textOf s)] w fun e w' => e = .returned (.string s) ∧ ∃ m, w' = w.drewN m := fun w => by
    have := seal_any (textOf s) w (by omega)
    rwa [he] at this
  have Hl := Lib.hid Hl'
  have Hs := Lib.hid (split_front s w (by omega))
  clear he Hl'
  go_enter Tryd.func20, Tryd.ntmps20
  go_wp2_with fail
  refine Hs.out.mono ?_
  rintro e w1 ⟨g, cap, rfl, hc, hb⟩
  go_wp2_with fail
  refine (Hl.out _).mono ?_
  rintro e w' ⟨rfl, m, rfl⟩
  go_wp2_with fail
  go_ret2
  exact ⟨rfl, hb.trans ⟨rfl, rfl, rfl, Nat.le_refl _, fun _ _ => rfl⟩⟩

/-- some int lies in the variable MaxLen -/
abbrev MaxIs (w : World) : Prop := ∃ m : Int, w.cell? ⟨2, 0, none⟩ = some (.int .i64 m)
theorem cut_hit (s : ByteArray) (w : World) (hs : s.size ≤ 1048576) (hm : MaxIs w) (h : hasB s 35 = true) :
    Calls Tryd.prog 35 #[.string s, .string ⟨#[35]⟩] w fun e w' => (∃ z : ByteArray, e = .returned (.tuple #[.string (textOf s), .string z, .bool true])) ∧ ∃ n, w' = w.drewN n := by
  obtain ⟨m, hm⟩ := hm
  refine (Tryd.strings_Cut s ⟨#[35]⟩ m w (by omega) hm).mono ?_
  rintro e w' ⟨rfl, hw⟩
  obtain ⟨h1, h2⟩ := cut_yes s.data.toList 35 h
  refine ⟨⟨⟨(Lib.cut s.data.toList [35]).2.1.toArray⟩, ?_⟩, hw⟩
  show Ending.returned (.tuple #[.string ⟨(Lib.cut s.data.toList [35]).1.toArray⟩, _, .bool (Lib.cut s.data.toList [35]).2.2]) = _
  rw [h1, h2] <;> rfl
theorem cut_miss (s : ByteArray) (w : World) (hs : s.size ≤ 1048576) (hm : MaxIs w) (h : hasB s 35 = false) :
    Calls Tryd.prog 35 #[.string s, .string ⟨#[35]⟩] w fun e w' => (∃ t z : ByteArray, e = .returned (.tuple #[.string t, .string z, .bool false])) ∧ ∃ n, w' = w.drewN n := by
  obtain ⟨m, hm⟩ := hm
  refine (Tryd.strings_Cut s ⟨#[35]⟩ m w (by omega) hm).mono ?_
  rintro e w' ⟨rfl, hw⟩
  have h2 := cut_no s.data.toList 35 h
  refine ⟨⟨⟨(Lib.cut s.data.toList [35]).1.toArray⟩, ⟨(Lib.cut s.data.toList [35]).2.1.toArray⟩, ?_⟩, hw⟩
  show Ending.returned (.tuple #[_, _, .bool (Lib.cut s.data.toList [35]).2.2]) = _
  rw [h2] <;> rfl
theorem impl_ver_miss (s : ByteArray) (w : World) (hs : s.size ≤ 1048576) (hm : MaxIs w) (h : hasB s 35 = false) :
    Calls Tryd.prog 18 #[.string s] w fun e w' => e = .returned (.tuple #[.string ⟨#[]⟩, .bool false]) ∧ Below w.heap.size w w' := by
  have H := Lib.hid (cut_miss s w hs hm h)
  clear hm h
  go_enter Tryd.func18, Tryd.ntmps18
  go_wp2_with fail
  refine H.out.mono ?_
  rintro e w' ⟨⟨t, z, rfl⟩, n, rfl⟩
  go_wp2_with fail
  go_ret2
  exact ⟨rfl, below_drewN w n⟩
/-- AppendChecksum said no -/
theorem impl_ver_fail (s : ByteArray) (w : World) (hs : s.size ≤ 1048576) (hm : MaxIs w) (h : hasB s 35 = true)
    (hf : ∀ n, Calls Tryd.prog 16 #[.string (textOf s)] (w.drewN n) fun e w' => e = .returned (.tuple #[.string ⟨#[]⟩, .bool false]) ∧ Below (w.drewN n).heap.size (w.drewN n) w') :
    Calls Tryd.prog 18 #[.string s] w fun e w' => e = .returned (.tuple #[.string ⟨#[]⟩, .bool false]) ∧ Below w.heap.size w w' := by
  have H := Lib.hid (cut_hit s w hs hm h)
  have Hf := Lib.hid hf
  clear hm h hf
  go_enter Tryd.func18, Tryd.ntmps18
  go_wp2_with fail
  refine H.out.mono ?_
  rintro e w' ⟨⟨z, rfl⟩, n, rfl⟩
  go_wp2_with fail
  refine (Hf.out _).mono ?_
  rintro e w' ⟨rfl, hg⟩
  go_wp2_with fail
  go_ret2
  exact ⟨rfl, (below_drewN w n).trans hg⟩
theorem impl_ver_other (s z0 : ByteArray) (w : World) (hs : s.size ≤ 1048576) (hm : MaxIs w) (h : hasB s 35 = true) (hne : z0 ≠ s)
    (hf : ∀ n, Calls Tryd.prog 16 #[.string (textOf s)] (w.drewN n) fun e w' => e = .returned (.tuple #[.string z0, .bool true]) ∧ Below (w.drewN n).heap.size (w.drewN n) w') :
    Calls Tryd.prog 18 #[.string s] w fun e w' => e = .returned (.tuple #[.string ⟨#[]⟩, .bool false]) ∧ Below w.heap.size w w' := by
  have H := Lib.hid (cut_hit s w hs hm h)
  have Hf := Lib.hid hf
  have hn := ne_str hne
  clear hm h hf hne
  go_enter Tryd.func18, Tryd.ntmps18
  go_wp2_with fail
  refine H.out.mono ?_
  rintro e w' ⟨⟨z, rfl⟩, n, rfl⟩
  go_wp2_with fail
  refine (Hf.out _).mono ?_
  rintro e w' ⟨rfl, hg⟩
  go_wp2_with fail
  go_ret2
  exact ⟨rfl, (below_drewN w n).trans hg⟩
theorem impl_ver_yes (s : ByteArray) (w : World) (hs : s.size ≤ 1048576) (hm : MaxIs w) (h : hasB s 35 = true)
    (hf : ∀ n, Calls Tryd.prog 16 #[.string (textOf s)] (w.drewN n) fun e w' => e = .returned (.tuple #[.string s, .bool true]) ∧ Below (w.drewN n).heap.size (w.drewN n) w') :
    Calls Tryd.prog 18 #[.string s] w fun e w' => e = .returned (.tuple #[.string (textOf s), .bool true]) ∧ Below w.heap.size w w' := by
  have H := Lib.hid (cut_hit s w hs hm h)
  have Hf := Lib.hid hf
  clear hm h hf
  go_enter Tryd.func18, Tryd.ntmps18
  go_wp2_with fail
  refine H.out.mono ?_
  rintro e w' ⟨⟨z, rfl⟩, n, rfl⟩
  go_wp2_with fail
  refine (Hf.out _).mono ?_
  rintro e w' ⟨rfl, hg⟩
  go_wp2_with fail
  go_ret2
  exact ⟨rfl, (below_drewN w n).trans hg⟩
theorem maxIs_shaped (w : World) (h : w.ShapedOpen Tryd.prog) : MaxIs w := (show ∀ w : World, w.ShapedOpen Tryd.prog → ∃ m : Int, w.cell? ⟨2, 0, none⟩ = some (.int .i64 m) from fun w h => Go.Proofs.cell_of_shapedOpen_int (zero := #[.int .i64 0]) (t := 3) h (of_decide_eq_true (by kernel_rfl)) (by kernel_rfl) rfl (by kernel_rfl) (by kernel_rfl) Tryd.underlying3) w h
theorem gPow3 : Tryd.prog.globalNamed "internal/strconv.uint64pow10" = some 3 := by kernel_rfl
theorem pow_below {w w' : World} (h : PowTab w) (hb : Below w.heap.size w w') : PowTab w' := by
  have hc := Lib.TabIs.cell h gPow3 0 (by decide)
  have hlt := World.block_lt_of_cell? _ _ hc
  have h' := h
  unfold PowTab Lib.TabIs World.var? at h' ⊢
  simp only [gPow3, Option.bind_some] at h' ⊢
  rw [hb.block 3 hlt]
  exact h'
theorem max_below {w w' : World} (h : MaxIs w) (hb : Below w.heap.size w w') : MaxIs w' := by
  obtain ⟨m, hm⟩ := h
  have hlt := World.block_lt_of_cell? _ _ hm
  exact ⟨m, (hb.cell (p := ⟨2, 0, none⟩) hlt).trans hm⟩
theorem has_of_seal {t s : ByteArray} (h : sealOf t = s) : hasB s 35 = true := by
  rw [← h]
  unfold hasB sealOf
  simp
end Go.Proofs.YtokpgdojcjmliaaDoor
