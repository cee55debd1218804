/-
  What is proved: the contracts of spec.l1Stands, spec.JoinStrings, impl.canJoin and impl.JoinStrings. Conditions: a slice that reads as a list of strings.
-/
import Derived.Test.YtokpgdojcjmliaaStr
import Derived.Test.YtokpgdojcjmliaaShelf
namespace Go.Proofs.Ytokpgdojcjmliaa
open Go.RowKit

/-- the byte c stands in s -/
def hasB (s : ByteArray) (c : UInt8) : Bool := s.data.toList.contains c
theorem hasB_at {s : ByteArray} {c : UInt8} (h : hasB s c = false) (k : Nat) (hk : k < s.size) : s[k] ≠ c := by
  intro e
  have h2 : c ∈ s.data.toList := by
    rw [List.mem_iff_getElem]
    exact ⟨k, by simpa using hk, by rw [← e]; rfl⟩
  simp [hasB] at h
  exact h (by simpa using h2)
theorem hasB_ix {s : ByteArray} {c : UInt8} (h : hasB s c = true) : ∃ k, ∃ hk : k < s.size, s[k] = c := by
  have h2 : c ∈ s.data.toList := by simpa [hasB] using h
  obtain ⟨k, hk, e⟩ := List.mem_iff_getElem.1 h2
  exact ⟨k, by simpa using hk, e⟩
theorem ne_u8 {a b : UInt8} (h : a ≠ b) : ((a.toNat : Int) == (b.toNat : Int)) = false := by
  simp only [beq_eq_false_iff_ne, ne_eq]
  intro e
  exact h (UInt8.toNat_inj.1 (by omega))
set_option maxHeartbeats 400000 in
theorem stands_no (s : ByteArray) (c : UInt8) (w : World) (hs : s.size ≤ 1048576) (h : hasB s c = false) :
    Calls Try.prog 32 #[.string s, .int .u8 c.toNat] w fun e w' => e = .returned (.bool false) ∧ w' = w := by
  go_enter Try.func32, Try.ntmps32
  go_wp2
  go_loop [5] (fun i => ∃ k : Nat, k ≤ s.size ∧ i = .int .i64 k) (fun i => s.size - (intOf i).toNat)
  case atStart => exact ⟨0, Nat.zero_le _, rfl⟩
  case round =>
    obtain ⟨k, hk, rfl⟩ := hrel
    by_cases hlt : k < s.size
    · have hne := ne_u8 (hasB_at h k hlt)
      go_wp2
      go_round
      case rel => exact ⟨k + 1, by omega, by go_num⟩
      case measure => simp [intOf]; omega
    · go_wp2
      go_ret
      exact ⟨rfl, rfl⟩
set_option maxHeartbeats 400000 in
theorem stands_yes (s : ByteArray) (c : UInt8) (w : World) (hs : s.size ≤ 1048576) (h : hasB s c = true) :
    Calls Try.prog 32 #[.string s, .int .u8 c.toNat] w fun e w' => e = .returned (.bool true) ∧ w' = w := by
  obtain ⟨j, hj, hc⟩ := hasB_ix h
  go_enter Try.func32, Try.ntmps32
  go_wp2
  go_loop [5] (fun i => ∃ k : Nat, k ≤ j ∧ i = .int .i64 k) (fun i => s.size - (intOf i).toNat)
  case atStart => exact ⟨0, Nat.zero_le _, rfl⟩
  case round =>
    obtain ⟨k, hk, rfl⟩ := hrel
    have hlt : k < s.size := by omega
    by_cases he : s[k] = c
    · have heq : ((s[k].toNat : Int) == (c.toNat : Int)) = true := by rw [he]; simp
      clear he
      go_wp2
      go_ret
      exact ⟨rfl, rfl⟩
    · have hne := ne_u8 he
      have hkj : k ≠ j := by intro e; subst e; exact he hc
      clear he
      go_wp2
      go_round
      case rel => exact ⟨k + 1, by omega, by go_num⟩
      case measure => simp [intOf]; omega
theorem stands_any (s : ByteArray) (c : UInt8) (w : World) (hs : s.size ≤ 1048576) :
    Calls Try.prog 32 #[.string s, .int .u8 c.toNat] w fun e w' => e = .returned (.bool (hasB s c)) ∧ w' = w := by
  cases h : hasB s c
  · exact stands_no s c w hs h
  · exact stands_yes s c w hs h

/-- the joined bytes -/
def jn (c : UInt8) (xs : List ByteArray) : ByteArray := ⟨(Lib.join (xs.map (·.data.toList)) [c]).toArray⟩
theorem jn_one (c : UInt8) (x : ByteArray) : jn c [x] = x := by
  unfold jn
  rw [List.map_cons, List.map_nil, Lib.join_one]
theorem jn_snoc (c : UInt8) (xs : List ByteArray) (x : ByteArray) (h : xs ≠ []) : jn c (xs ++ [x]) = jn c xs ++ ⟨#[c]⟩ ++ x := by
  cases xs with
  | nil => exact absurd rfl h
  | cons y r =>
    apply ByteArray.ext
    apply Array.toList_inj.1
    unfold jn
    simp [Lib.join_cons, Lib.joinTail]
theorem jn_size (c : UInt8) (xs : List ByteArray) (h : xs ≠ []) : (jn c xs).size + 1 = sumS xs + xs.length := by
  cases xs with
  | nil => exact absurd rfl h
  | cons y r =>
    have e : (jn c (y :: r)).size = (Lib.join ((y :: r).map (·.data.toList)) [c]).length := by
      unfold jn; show (Lib.join _ _).toArray.size = _; simp
    have e2 : Lib.lens (r.map (·.data.toList)) = sumS r := by
      unfold Lib.lens sumS; rw [List.map_map]; rfl
    rw [e, List.map_cons, Lib.join_cons, List.length_append, Lib.joinTail_length, e2]
    simp only [sumS, List.map_cons, List.sum_cons, List.length_cons, List.length_nil, List.length_map]
    have e3 : y.data.toList.length = y.size := by simp
    omega
/-- whether xs can be joined with c -/
def joinGood (c : UInt8) (xs : List ByteArray) : Bool := xs.all (fun x => !hasB x c) && decide (sumS xs + xs.length ≤ 4001)
theorem bad_has {c : UInt8} {xs : List ByteArray} {k : Nat} {x : ByteArray} (h : xs[k]? = some x) (hh : hasB x c = true) : joinGood c xs = false := by
  have hm := List.mem_of_getElem? h
  unfold joinGood
  have : xs.all (fun x => !hasB x c) = false := by
    rw [List.all_eq_false]
    exact ⟨x, hm, by simp [hh]⟩
  rw [this]; rfl
theorem bad_long {c : UInt8} {xs : List ByteArray} {k : Nat} (hk : k ≤ xs.length) (h : 4001 < sumS (xs.take k) + k) : joinGood c xs = false := by
  have h1 := sumS_take_le xs k
  unfold joinGood
  have : decide (sumS xs + xs.length ≤ 4001) = false := by simp; omega
  rw [this, Bool.and_false]
theorem good_of {c : UInt8} {xs : List ByteArray} (h1 : ∀ x ∈ xs, hasB x c = false) (h2 : sumS xs + xs.length ≤ 4001) : joinGood c xs = true := by
  unfold joinGood
  rw [Bool.and_eq_true]
  exact ⟨by rw [List.all_eq_true]; intro x hx; simp [h1 x hx], by simpa using h2⟩
def joinRes (c : UInt8) (xs : List ByteArray) : Value := if joinGood c xs then .tuple #[.string (jn c xs), .bool true] else .tuple #[.string ⟨#[]⟩, .bool false]
def JPost (c : UInt8) (xs : List ByteArray) (w : World) (e : Ending) (w' : World) : Prop := e = .returned (joinRes c xs) ∧ ∃ m, w' = w.drewN m
theorem jpost_no {c : UInt8} {xs : List ByteArray} {w w' : World} (h : joinGood c xs = false) (hw : ∃ m, w' = w.drewN m) : JPost c xs w (.returned (.tuple #[.string ⟨#[]⟩, .bool false])) w' :=
  ⟨by unfold joinRes; rw [h]; rfl, hw⟩
theorem jpost_yes {c : UInt8} {xs : List ByteArray} {w w' : World} {z : ByteArray} (h : joinGood c xs = true) (hz : z = jn c xs) (hw : ∃ m, w' = w.drewN m) : JPost c xs w (.returned (.tuple #[.string z, .bool true])) w' :=
  ⟨by unfold joinRes; rw [h, hz]; rfl, hw⟩
theorem cat_any (a b : ByteArray) (w : World) (h : a.size + b.size ≤ 9223372036854775807) : (Op.stringOp .add a b).run Try.prog w = .ok (.string (a ++ b)) w := run_string_add_sum _ _ _ h
/-- what holds of spec.JoinStrings' slots after k elements -/
def JRel (c : UInt8) (xs : List ByteArray) (w : World) (out i : Value) (wr : World) : Prop :=
  ∃ k m : Nat, k ≤ xs.length ∧ i = .int .i64 k ∧ out = .string (jn c (xs.take k)) ∧ (∀ x ∈ xs.take k, hasB x c = false) ∧ sumS (xs.take k) + k ≤ 4001 ∧ wr = w.drewN m
theorem take_snoc_get {α : Type} {xs : List α} {k : Nat} {x : α} (h : xs[k]? = some x) : xs.take (k + 1) = xs.take k ++ [x] := by
  obtain ⟨hk, rfl⟩ := List.getElem?_eq_some_iff.1 h
  rw [List.take_succ_eq_append_getElem hk]
theorem jrel_step {c : UInt8} {xs : List ByteArray} {w : World} {k m : Nat} {x z : ByteArray} (hk : k < xs.length) (hx : xs[k]? = some x) (hh : hasB x c = false)
    (hall : ∀ x ∈ xs.take k, hasB x c = false) (hs : sumS (xs.take k) + x.size + (k + 1) ≤ 4001) (hz : z = jn c (xs.take (k + 1))) : JRel c xs w (.string z) (.int .i64 ((k : Int) + 1)) (w.drewN m) := by
  refine ⟨k + 1, m, by omega, by congr 1, by rw [hz], ?_, by rw [sumS_take xs k x hx]; omega, rfl⟩
  intro y hy
  rw [take_snoc_get hx, List.mem_append] at hy
  rcases hy with hy | hy
  · exact hall y hy
  · rw [List.mem_singleton] at hy; rw [hy]; exact hh

theorem jrel_step' {c : UInt8} {xs : List ByteArray} {w wr : World} {k m n : Nat} {x z : ByteArray} (hw : wr = w.drewN m) (hk : k < xs.length) (hx : xs[k]? = some x) (hh : hasB x c = false)
    (hall : ∀ x ∈ xs.take k, hasB x c = false) (hs : sumS (xs.take k) + x.size + (k + 1) ≤ 4001) (hz : z = jn c (xs.take (k + 1))) : JRel c xs w (.string z) (.int .i64 ((k : Int) + 1)) (wr.drewN n) := by
  have := jrel_step (w := w) (m := m + n) hk hx hh hall hs hz
  rw [hw, World.drewN_drewN]; exact this
theorem sep_eq {sep : ByteArray} (h0 : 0 < sep.size) (h1 : sep.size ≤ 1) : sep = ⟨#[sep[0]]⟩ := by
  apply ByteArray.ext
  apply Array.ext
  · show sep.data.size = 1
    have : sep.size = sep.data.size := rfl
    omega
  · intro i hi1 hi2
    have : i = 0 := by simp at hi2; omega
    subst this
    rfl
theorem jn_none (c : UInt8) : jn c [] = ⟨#[]⟩ := rfl
theorem jn_step {c : UInt8} {xs : List ByteArray} {k : Nat} {x sep : ByteArray} (hx : xs[k]? = some x) (hk : 0 < k) (hs : sep = ⟨#[c]⟩) : jn c (xs.take k) ++ sep ++ x = jn c (xs.take (k + 1)) := by
  obtain ⟨hk2, _⟩ := List.getElem?_eq_some_iff.1 hx
  rw [take_snoc_get hx, jn_snoc c _ x (by intro e; have := congrArg List.length e; simp at this; rcases this with h | h; omega; rw [h] at hk2; simp at hk2), hs]
theorem jn_first {c : UInt8} {xs : List ByteArray} {x : ByteArray} (hx : xs[0]? = some x) : jn c (xs.take 0) ++ x = jn c (xs.take (0 + 1)) := by
  rw [take_snoc_get hx, List.take_zero, List.nil_append, jn_one, jn_none]
  apply ByteArray.ext; simp
theorem jn_take_size {c : UInt8} {xs : List ByteArray} {k : Nat} (hk : 0 < k) (hk2 : k ≤ xs.length) : (jn c (xs.take k)).size + 1 = sumS (xs.take k) + k := by
  have := jn_size c (xs.take k) (by intro e; have := congrArg List.length e; simp at this; rcases this with h | h; omega; rw [h] at hk2; simp at hk2; omega)
  rw [this, List.length_take, Nat.min_eq_left hk2]
set_option maxHeartbeats 1600000 in
theorem model_join (v : Value) (xs : List ByteArray) (sep : ByteArray) (w : World) (hv : ReadsS w v xs) (hs0 : 0 < sep.size) (hs1 : sep.size ≤ 1) (hne : 0 < xs.length) (hsx : ∀ x ∈ xs, x.size ≤ 1048576) :
    Calls Try.prog 13 #[v, .string sep] w (JPost sep[0] xs w) := by
  obtain ⟨a, c, rfl, hc, hm, hx⟩ := hv
  have HX := Lib.hid hx
  have HSX := Lib.hid hsx
  have Hsep := Lib.hid (sep_eq hs0 hs1)
  clear hx hsx
  unfold maxLen at hm
  have t1 : ((sep.size : Int) == 1) = true := by rw [beq_iff_eq]; omega
  have t2 : ((xs.length : Int) == 0) = false := by rw [beq_eq_false_iff_ne]; omega
  go_enter Try.func13, Try.ntmps13
  go_wp2
  go_loopw [4, 5, 6, 7] (fun r b out i wr => r = .string ⟨#[]⟩ ∧ b = .bool false ∧ JRel sep[0] xs w out i wr) (fun _ _ _ i _ => xs.length - (intOf i).toNat)
  case atStart => exact ⟨rfl, rfl, 0, 0, Nat.zero_le _, rfl, rfl, by simp, by simp [sumS], rfl⟩
  case round =>
    obtain ⟨rfl, rfl, k, m, hk, rfl, rfl, hall, hsum, hwr⟩ := hrel
    have HW := Lib.hid hwr
    clear hwr
    have Hall := Lib.hid hall
    clear hall
    by_cases hlt : k < xs.length
    · obtain ⟨x, hxk⟩ := get_some hlt
      obtain ⟨b, o, rfl, hb, hcell0⟩ := HX.out k x hxk
      have hcell : wr.cell? ⟨b, o + k, none⟩ = some (.string x) := by rw [HW.out]; exact hcell0
      clear hcell0
      have hxz := HSX.out x (List.mem_of_getElem? hxk)
      have Hxk := Lib.hid hxk
      clear hxk
      have Hst := Lib.hid (fun w => stands_any x sep[0] w hxz)
      have hi0 : 0 ≤ (k : Int) := by omega
      have hi1 : (k : Int) < xs.length := by omega
      obtain ⟨z0, hz0⟩ : ∃ z0, z0 = jn sep[0] (xs.take k) := ⟨_, rfl⟩
      rw [← hz0]
      have Hz0 := Lib.hid hz0
      clear hz0
      cases hh : hasB x sep[0]
      · rw [hh] at Hst
        have Hh := Lib.hid hh
        clear hh
        by_cases hk0 : k = 0
        · subst hk0
          have hcell1 : wr.cell? ⟨b, o, none⟩ = some (.string x) := by simpa using hcell
          have hzz : z0.size ≤ 0 := by rw [Hz0.out]; exact Nat.le_refl _
          have h2 := fun w => cat_any z0 x w (by omega)
          have Hfin := Lib.hid (jn_first (c := sep[0]) Hxk.out)
          by_cases hbig : 4000 < x.size
          · go_wp2
            go_quiet ((go_at_call 32; exact Calls.quiet_of_same (Hst.out _)))
            go_wp2
            go_ret2
            exact jpost_no (bad_long (k := 1) (by omega) (by rw [sumS_take xs 0 x Hxk.out]; omega)) ⟨m + nq, by rw [HW.out, World.drewN_drewN]⟩
          · have hbig' : x.size ≤ 4000 := by omega
            clear hbig
            go_wp2
            go_quiet ((go_at_call 32; exact Calls.quiet_of_same (Hst.out _)))
            go_wp2
            go_roundw
            case rel => exact ⟨rfl, rfl, jrel_step' HW.out hlt Hxk.out Hh.out Hall.out (by simp [sumS]; omega) (by rw [Hz0.out]; exact Hfin.out)⟩
            case measure => simp [intOf]; omega
        · have hkp : 0 < k := by omega
          have hzs := jn_take_size (c := sep[0]) hkp hk
          rw [← Hz0.out] at hzs
          have hz1 : z0.size + 1 ≤ sumS (xs.take k) + k := by omega
          have hz2 : sumS (xs.take k) + k ≤ z0.size + 1 := by omega
          clear hzs hk0
          have h1 := fun w => cat_any z0 sep w (by omega)
          have h2 := fun w => cat_any (z0 ++ sep) x w (by rw [ByteArray.size_append]; omega)
          have Hfin := Lib.hid (jn_step (c := sep[0]) Hxk.out hkp Hsep.out)
          by_cases hbig : 4000 < z0.size + sep.size + x.size
          · go_wp2
            go_quiet ((go_at_call 32; exact Calls.quiet_of_same (Hst.out _)))
            go_wp2
            go_ret2
            exact jpost_no (bad_long (k := k + 1) (by omega) (by rw [sumS_take xs k x Hxk.out]; omega)) ⟨m + nq, by rw [HW.out, World.drewN_drewN]⟩
          · have hbig' : z0.size + sep.size + x.size ≤ 4000 := by omega
            clear hbig
            go_wp2
            go_quiet ((go_at_call 32; exact Calls.quiet_of_same (Hst.out _)))
            go_wp2
            go_roundw
            case rel => exact ⟨rfl, rfl, jrel_step' HW.out hlt Hxk.out Hh.out Hall.out (by omega) (by rw [← Hfin.out, Hz0.out])⟩
            case measure => simp [intOf]; omega
      · rw [hh] at Hst
        have Hh := Lib.hid hh
        clear hh
        go_wp2
        go_quiet ((go_at_call 32; exact Calls.quiet_of_same (Hst.out _)))
        go_wp2
        go_ret2
        exact jpost_no (bad_has Hxk.out Hh.out) ⟨m + nq, by rw [HW.out, World.drewN_drewN]⟩
    · have hke : k = xs.length := by omega
      subst hke
      have hg : joinGood sep[0] xs = true := good_of (fun x hx => Hall.out x (by rw [List.take_length]; exact hx)) (by rw [List.take_length] at hsum; exact hsum)
      have Hg := Lib.hid hg
      clear hg
      go_wp2
      go_ret2
      exact jpost_yes Hg.out (by rw [List.take_length]) ⟨m, HW.out⟩

theorem ret_bool {a b : Bool} (h : b = a) : Ending.returned (.bool a) = .returned (.bool b) := by rw [h]
theorem has_index (l : List UInt8) (c : UInt8) : decide (0 ≤ Lib.indexByte l c) = l.contains c := by
  induction l with
  | nil => simp [Lib.indexByte]
  | cons b l ih =>
    have hge := Lib.indexByte_ge l c
    by_cases h : b = c
    · subst h; simp [Lib.indexByte]
    · have hb : (b == c) = false := by simpa using h
      have hb' : (c == b) = false := by simpa using fun e => h e.symm
      rw [List.contains_cons, hb', Bool.false_or, ← ih]
      simp only [Lib.indexByte, hb]
      by_cases h2 : Lib.indexByte l c = -1
      · simp [h2]
      · have e : (Lib.indexByte l c == -1) = false := by simpa using h2
        simp only [e]
        simp
        omega
theorem u8_back (c : UInt8) : ((c.toNat : Int)).toNat.toUInt8 = c := by
  rw [Int.toNat_natCast]; simp
theorem ix_no (x : ByteArray) (c : UInt8) (w : World) (h : hasB x c = false) :
    Calls Try.prog 37 #[.string x, .int .u8 c.toNat] w fun e w' => e = .returned (.int .i64 (-1)) ∧ w = w' := by
  refine (Try.strings_IndexByte x c.toNat w).mono ?_
  rintro e w' ⟨rfl, rfl⟩
  refine ⟨?_, rfl⟩
  rw [u8_back]
  have h2 := has_index x.data.toList c
  have h3 : x.data.toList.contains c = false := h
  rw [h3] at h2
  have h4 : ¬ 0 ≤ Lib.indexByte x.data.toList c := by simpa using h2
  have h5 := Lib.indexByte_ge x.data.toList c
  exact ret_int (by omega)
theorem ix_yes (x : ByteArray) (c : UInt8) (w : World) (h : hasB x c = true) :
    Calls Try.prog 37 #[.string x, .int .u8 c.toNat] w fun e w' => (∃ r : Nat, e = .returned (.int .i64 r)) ∧ w = w' := by
  refine (Try.strings_IndexByte x c.toNat w).mono ?_
  rintro e w' ⟨rfl, rfl⟩
  refine ⟨⟨(Lib.indexByte x.data.toList c).toNat, ?_⟩, rfl⟩
  rw [u8_back]
  have h2 := has_index x.data.toList c
  have h3 : x.data.toList.contains c = true := h
  rw [h3] at h2
  have h4 : 0 ≤ Lib.indexByte x.data.toList c := by simpa using h2
  exact ret_int (by omega)
def CRel (c : UInt8) (xs : List ByteArray) (len i : Value) : Prop :=
  ∃ k : Nat, k ≤ xs.length ∧ i = .int .i64 k ∧ len = .int .i64 ((xs.length : Int) - 1 + sumS (xs.take k)) ∧ (∀ x ∈ xs.take k, hasB x c = false) ∧ (0 < k → sumS (xs.take k) + xs.length ≤ 4001)
set_option maxHeartbeats 1600000 in
theorem canJoin_any (v : Value) (xs : List ByteArray) (c : UInt8) (w : World) (hv : ReadsS w v xs) (hn0 : 0 < xs.length) (hn : xs.length ≤ 1048576) (hsx : ∀ x ∈ xs, x.size ≤ 1048576) :
    Calls Try.prog 30 #[v, .int .u8 c.toNat] w fun e w' => e = .returned (.bool (joinGood c xs)) ∧ w = w' := by
  obtain ⟨a, cp, rfl, hc, hm, hx⟩ := hv
  have HX := Lib.hid hx
  have HSX := Lib.hid hsx
  clear hx hsx hm
  go_enter Try.func30, Try.ntmps30
  go_wp2
  go_loop [4, 5, 7, 13] (fun r l _ i => r = .bool false ∧ CRel c xs l i) (fun _ _ _ i => xs.length - (intOf i).toNat)
  case atStart => exact ⟨rfl, 0, Nat.zero_le _, rfl, by simp [sumS], by simp, by omega⟩
  case round =>
    obtain ⟨rfl, k, hk, rfl, rfl, hall, hsum⟩ := hrel
    have Hall := Lib.hid hall
    have hs1 : sumS (xs.take k) ≤ 4001 := by
      by_cases h : 0 < k
      · have := hsum h; omega
      · have e : k = 0 := by omega
        subst e; simp [sumS]
    have Hsum := Lib.hid hsum
    clear hall hsum
    by_cases hlt : k < xs.length
    · obtain ⟨x, hxk⟩ := get_some hlt
      obtain ⟨b, o, rfl, hb, hcell⟩ := HX.out k x hxk
      have hxz := HSX.out x (List.mem_of_getElem? hxk)
      have Hxk := Lib.hid hxk
      clear hxk
      by_cases hbig : 4000 < (xs.length : Int) - 1 + sumS (xs.take k) + x.size
      · go_wp2
        go_ret
        refine ⟨?_, rfl⟩
        have h1 := sumS_take xs k x Hxk.out
        have h2 := sumS_take_le xs (k + 1)
        have hg : joinGood c xs = false := bad_long (k := xs.length) (Nat.le_refl _) (by rw [List.take_length]; omega)
        exact ret_bool hg
      · have hbig' : (xs.length : Int) - 1 + sumS (xs.take k) + x.size ≤ 4000 := by omega
        clear hbig
        cases hh : hasB x c
        · have Hi := Lib.hid (fun w => ix_no x c w hh)
          have Hh := Lib.hid hh
          clear hh
          go_wp2_with (go_at_call 37; refine (Hi.out _).mono ?_; rintro e w' ⟨rfl, rfl⟩)
          go_round
          case rel =>
            have h1 := sumS_take xs k x Hxk.out
            refine ⟨rfl, k + 1, by omega, by go_num, by rw [h1]; congr 1; omega, ?_, fun _ => by rw [h1]; omega⟩
            intro y hy
            rw [take_snoc_get Hxk.out, List.mem_append] at hy
            rcases hy with hy | hy
            · exact Hall.out y hy
            · rw [List.mem_singleton] at hy; rw [hy]; exact Hh.out
          case measure => simp [intOf]; omega
        · have Hi := Lib.hid (fun w => ix_yes x c w hh)
          have Hg := Lib.hid (bad_has Hxk.out hh)
          clear hh
          go_wp2_with (go_at_call 37; refine (Hi.out _).mono ?_; rintro e w' ⟨⟨r, rfl⟩, rfl⟩)
          go_ret
          exact ⟨ret_bool Hg.out, rfl⟩
    · have hke : k = xs.length := by omega
      subst hke
      have hg : joinGood c xs = true := good_of (fun x hx => Hall.out x (by rw [List.take_length]; exact hx)) (by have := Hsum.out hn0; rw [List.take_length] at this; exact this)
      have Hg := Lib.hid hg
      clear hg
      go_wp2
      go_ret
      exact ⟨ret_bool Hg.out, rfl⟩

theorem model_join_sep (v : Value) (xs : List ByteArray) (sep : ByteArray) (w : World) (hv : ReadsS w v xs) (_hsm : sep.size ≤ 1048576) (hs : sep.size < 1 ∨ 1 < sep.size) :
    Calls Try.prog 13 #[v, .string sep] w fun e w' => e = .returned (.tuple #[.string ⟨#[]⟩, .bool false]) ∧ w = w' := by
  obtain ⟨a, c, rfl, hc, hm, hx⟩ := hv
  unfold maxLen at hm
  have t1 : ((sep.size : Int) == 1) = false := by rw [beq_eq_false_iff_ne]; omega
  clear hx hs
  go_enter Try.func13, Try.ntmps13
  go_wp2
  go_ret2
  exact ⟨rfl, rfl⟩
theorem model_join_none (v : Value) (sep : ByteArray) (w : World) (hv : ReadsS w v []) (hs0 : 0 < sep.size) (hs1 : sep.size ≤ 1) :
    Calls Try.prog 13 #[v, .string sep] w fun e w' => e = .returned (.tuple #[.string ⟨#[]⟩, .bool false]) ∧ w = w' := by
  obtain ⟨a, c, rfl, hc, hm, hx⟩ := hv
  have t1 : ((sep.size : Int) == 1) = true := by rw [beq_iff_eq]; omega
  clear hx
  go_enter Try.func13, Try.ntmps13
  go_wp2
  go_ret2
  exact ⟨rfl, rfl⟩
theorem impl_join_sep (v : Value) (xs : List ByteArray) (sep : ByteArray) (w : World) (hv : ReadsS w v xs) (hn : 0 < xs.length) (_hsm : sep.size ≤ 1048576) (hs : sep.size < 1 ∨ 1 < sep.size) :
    Calls Try.prog 12 #[v, .string sep] w fun e w' => e = .returned (.tuple #[.string ⟨#[]⟩, .bool false]) ∧ Below w.heap.size w w' := by
  obtain ⟨a, c, rfl, hc, hm, hx⟩ := hv
  unfold maxLen at hm
  have t1 : ((sep.size : Int) == 1) = false := by rw [beq_eq_false_iff_ne]; omega
  have t2 : ((xs.length : Int) == 0) = false := by rw [beq_eq_false_iff_ne]; omega
  have t3 : ¬ ((sep.size : Int) = 1) := by omega
  clear hx hs
  go_enter Try.func12, Try.ntmps12
  go_wp2
  go_ret2
  exact ⟨rfl, Below.refl _ _⟩
theorem impl_join_none (v : Value) (sep : ByteArray) (w : World) (hv : ReadsS w v []) :
    Calls Try.prog 12 #[v, .string sep] w fun e w' => e = .returned (.tuple #[.string ⟨#[]⟩, .bool false]) ∧ Below w.heap.size w w' := by
  obtain ⟨a, c, rfl, hc, hm, hx⟩ := hv
  clear hx
  go_enter Try.func12, Try.ntmps12
  go_wp2
  go_ret2
  exact ⟨rfl, Below.refl _ _⟩
theorem join_call (v : Value) (xs : List ByteArray) (sep : ByteArray) (w : World) (hv : ReadsS w v xs) (hs0 : 0 < sep.size) (hs1 : sep.size ≤ 1) (hn0 : 0 < xs.length) (hz : sumS xs + xs.length ≤ 4001) :
    Calls Try.prog 31 #[v, .string sep] w fun e w' => e = .returned (.string (jn sep[0] xs)) ∧ Below w.heap.size w w' := by
  obtain ⟨a, c, rfl, hc, hm, hx⟩ := hv
  obtain ⟨x0, hx0⟩ := get_some hn0
  obtain ⟨b, o, rfl, hb, _⟩ := hx 0 x0 hx0
  have hcells : ∀ (j : Nat) x, xs[j]? = some x → w.cell? ⟨b, o + j, none⟩ = some (.string x) := by
    intro j x hj
    obtain ⟨b', o', he, _, hcell⟩ := hx j x hj
    cases he
    exact hcell
  have hse := sep_eq hs0 hs1
  have hsl : sep.data.toList = [sep[0]] := by
    have := congrArg (fun b : ByteArray => b.data.toList) hse
    simpa using this
  have hjs := jn_size sep[0] xs (by intro e; rw [e] at hn0; simp at hn0)
  have e : (jn sep[0] xs).size = (Lib.join (xs.map (·.data.toList)) [sep[0]]).length := by
    unfold jn; show (Lib.join _ _).toArray.size = _; simp
  have := Try.strings_Join b o c xs sep w hcells hb (by omega) hc (by rw [hsl]; omega)
  refine this.mono ?_
  rintro e2 w' ⟨rfl, hb2⟩
  refine ⟨?_, hb2⟩
  rw [hsl]; rfl
theorem impl_join (v : Value) (xs : List ByteArray) (sep : ByteArray) (w : World) (hv : ReadsS w v xs) (hs0 : 0 < sep.size) (hs1 : sep.size ≤ 1) (hn0 : 0 < xs.length) (hn : xs.length ≤ 1048576) (hsx : ∀ x ∈ xs, x.size ≤ 1048576) :
    Calls Try.prog 12 #[v, .string sep] w fun e w' => e = .returned (joinRes sep[0] xs) ∧ Below w.heap.size w w' := by
  have HC := Lib.hid (fun c w (hv : ReadsS w v xs) => canJoin_any v xs c w hv hn0 hn hsx)
  have HV := Lib.hid hv
  have t1 : ((sep.size : Int) == 1) = true := by rw [beq_iff_eq]; omega
  have t2 : ((xs.length : Int) == 0) = false := by rw [beq_eq_false_iff_ne]; omega
  cases hg : joinGood sep[0] xs
  · have hcj := HC.out sep[0] w HV.out
    rw [hg] at hcj
    have Hcj := Lib.hid hcj
    have hres : joinRes sep[0] xs = .tuple #[.string ⟨#[]⟩, .bool false] := by unfold joinRes; rw [hg]; rfl
    rw [hres]
    obtain ⟨a, c, rfl, hc, hm, hx⟩ := hv
    clear hx hcj hg hres hsx hm
    go_enter Try.func12, Try.ntmps12
    go_wp2_with (go_at_call 30; refine Hcj.out.mono ?_; rintro e w' ⟨rfl, rfl⟩)
    go_ret2
    exact ⟨rfl, Below.refl _ _⟩
  · have hcj := HC.out sep[0] w HV.out
    rw [hg] at hcj
    have Hcj := Lib.hid hcj
    have hz : sumS xs + xs.length ≤ 4001 := by
      unfold joinGood at hg
      rw [Bool.and_eq_true] at hg
      simpa using hg.2
    have hres : joinRes sep[0] xs = .tuple #[.string (jn sep[0] xs), .bool true] := by unfold joinRes; rw [hg]; rfl
    rw [hres]
    have Hj := Lib.hid (join_call v xs sep w hv hs0 hs1 hn0 hz)
    obtain ⟨a, c, rfl, hc, hm, hx⟩ := hv
    clear hx hcj hg hres hsx hm
    go_enter Try.func12, Try.ntmps12
    go_wp2_with (first | (go_at_call 30; refine Hcj.out.mono ?_; rintro e w' ⟨rfl, rfl⟩) | (go_at_call 31; refine Hj.out.mono ?_; rintro e w' ⟨rfl, hb⟩))
    go_ret2
    exact ⟨rfl, hb⟩
end Go.Proofs.Ytokpgdojcjmliaa
