/-
  What is proved: splitting a text and joining its parts gives the text; the order of texts is strict; and the contracts of laws.vBig, impl.LessString and spec.LessString. Conditions: those of each contract.
-/
import Derived.Test.YtokpgdojcjmliaaDrj
import Derived.Test.YtokpgdojcjmliaaIter
import Derived.WalkLawsBesides
namespace Go.Proofs.Ytokpgdojcjmliaa
open Go.RowKit

theorem join_snoc (c : UInt8) (xs : List (List UInt8)) (p : List UInt8) (h : xs ≠ []) : Lib.join (xs ++ [p]) [c] = Lib.join xs [c] ++ c :: p := by
  cases xs with
  | nil => exact absurd rfl h
  | cons y r => rw [List.cons_append, Lib.join_cons, Lib.join_cons]; simp [Lib.joinTail]
theorem join_grow (c : UInt8) (xs : List (List UInt8)) (p : List UInt8) (b : UInt8) : Lib.join (xs ++ [p ++ [b]]) [c] = Lib.join (xs ++ [p]) [c] ++ [b] := by
  cases xs with
  | nil => simp [Lib.join_one]
  | cons y r => rw [join_snoc _ _ _ (by simp), join_snoc _ _ _ (by simp)]; simp
theorem fold_join (c : UInt8) (l : List UInt8) : ∀ (acc : List (List UInt8)) (cur : List UInt8), Lib.join ((l.foldl (splStep c) (acc, cur)).1 ++ [(l.foldl (splStep c) (acc, cur)).2]) [c] = Lib.join (acc ++ [cur]) [c] ++ l := by
  induction l with
  | nil => intro acc cur; simp
  | cons b l ih =>
    intro acc cur
    simp only [List.foldl_cons]
    by_cases h : b = c
    · subst h
      simp only [splStep, if_true]
      rw [ih, join_snoc _ _ _ (by simp)]
      simp
    · simp only [splStep, if_neg h]
      rw [ih, join_grow]
      simp
theorem split_join (c : UInt8) (l : List UInt8) : Lib.join (splitL c l) [c] = l := by
  unfold splitL splFold
  rw [fold_join]
  simp [Lib.join_one]
theorem fold_free (c : UInt8) (l : List UInt8) : ∀ (acc : List (List UInt8)) (cur : List UInt8), (∀ p ∈ acc, p.contains c = false) → cur.contains c = false →
    (∀ p ∈ (l.foldl (splStep c) (acc, cur)).1, p.contains c = false) ∧ (l.foldl (splStep c) (acc, cur)).2.contains c = false := by
  induction l with
  | nil => intro acc cur h1 h2; exact ⟨h1, h2⟩
  | cons b l ih =>
    intro acc cur h1 h2
    simp only [List.foldl_cons]
    by_cases h : b = c
    · simp only [splStep, if_pos h]
      refine ih _ _ (fun p hp => ?_) rfl
      rw [List.mem_append] at hp
      rcases hp with hp | hp
      · exact h1 p hp
      · rw [List.mem_singleton] at hp; rw [hp]; exact h2
    · simp only [splStep, if_neg h]
      refine ih _ _ h1 ?_
      have hne : ¬ c = b := fun e => h e.symm
      simp at h2 ⊢
      exact ⟨h2, hne⟩
theorem jn_split (c : UInt8) (s : ByteArray) : jn c (splitB c s) = s := by
  unfold jn splitB
  rw [List.map_map]
  have e : (List.map ((fun x : ByteArray => x.data.toList) ∘ fun p : List UInt8 => (⟨p.toArray⟩ : ByteArray)) (splitL c s.data.toList)) = splitL c s.data.toList := by
    have : ((fun x : ByteArray => x.data.toList) ∘ fun p : List UInt8 => (⟨p.toArray⟩ : ByteArray)) = id := by funext p; simp
    rw [this, List.map_id]
  rw [e, split_join]
theorem split_ne (c : UInt8) (s : ByteArray) : splitB c s ≠ [] := by
  intro e
  have := congrArg List.length e
  rw [splitB_len] at this
  simp [splitL] at this
theorem good_split (c : UInt8) (s : ByteArray) (h : s.size ≤ 4000) : joinGood c (splitB c s) = true := by
  refine good_of (fun x hx => ?_) ?_
  · unfold splitB at hx
    obtain ⟨p, hp, rfl⟩ := List.mem_map.1 hx
    have hf := fold_free c s.data.toList [] [] (by simp) rfl
    have : p.contains c = false := by
      unfold splitL splFold at hp
      rw [List.mem_append] at hp
      rcases hp with hp | hp
      · exact hf.1 p hp
      · rw [List.mem_singleton] at hp; rw [hp]; exact hf.2
    exact this
  · have := jn_size c (splitB c s) (split_ne c s)
    rw [jn_split] at this
    omega
theorem part_small (c : UInt8) (s : ByteArray) (h : s.size ≤ 4000) : ∀ x ∈ splitB c s, x.size ≤ 1048576 := by
  intro x hx
  have hg := good_split c s h
  unfold joinGood at hg
  rw [Bool.and_eq_true] at hg
  have h2 : sumS (splitB c s) + (splitB c s).length ≤ 4001 := by simpa using hg.2
  obtain ⟨k, hk⟩ := List.getElem?_of_mem hx
  have h3 := sumS_take _ k x hk
  have h4 := sumS_take_le (splitB c s) (k + 1)
  omega
theorem less_strict : ∀ (x y : List UInt8), Op.bytesLess x y = true → Op.bytesLess y x = false
  | _, [], h => by simp [Op.bytesLess] at h
  | [], _ :: _, _ => by simp [Op.bytesLess]
  | a :: x, b :: y, h => by
    simp only [Op.bytesLess, Bool.or_eq_true, Bool.and_eq_true, decide_eq_true_eq, beq_iff_eq] at h
    simp only [Op.bytesLess, Bool.or_eq_false_iff, Bool.and_eq_false_iff, decide_eq_false_iff_not]
    rcases h with h | ⟨rfl, h⟩
    · have h' : a.toNat < b.toNat := UInt8.lt_iff_toNat_lt.1 h
      refine ⟨fun h2 => by have := UInt8.lt_iff_toNat_lt.1 h2; omega, .inl ?_⟩
      rw [beq_eq_false_iff_ne]
      intro e
      rw [e] at h'
      omega
    · exact ⟨fun h2 => by have := UInt8.lt_iff_toNat_lt.1 h2; omega, .inr (less_strict x y h)⟩
theorem less_impl (a b : ByteArray) (w : World) : Calls Try.prog 15 #[.string a, .string b] w fun e w' => e = .returned (.bool (Op.bytesLess a.toList b.toList)) ∧ w = w' := by
  go_enter Try.func15, Try.ntmps15
  go_wp2
  go_ret
  exact ⟨rfl, rfl⟩
theorem less_model (a b : ByteArray) (w : World) : Calls Try.prog 16 #[.string a, .string b] w fun e w' => e = .returned (.bool (Op.bytesLess a.toList b.toList)) ∧ w = w' := by
  go_enter Try.func16, Try.ntmps16
  go_wp2
  go_ret
  exact ⟨rfl, rfl⟩
theorem vBig_no (a : Option Addr) (n cp : Nat) (w : World) (h : n ≤ 65536) : Calls Try.prog 8 #[.slice a n cp] w fun e w' => e = .returned (.bool false) ∧ w = w' := by
  have hd : decide (65536 < (n : Int)) = false := decide_eq_false (by omega)
  go_enter Try.func8, Try.ntmps8
  go_wp2
  go_ret
  exact ⟨by simp, rfl⟩
theorem vBig_yes (a : Option Addr) (n cp : Nat) (w : World) (h : 65536 < n) (hn : n ≤ maxLen) : Calls Try.prog 8 #[.slice a n cp] w fun e w' => e = .returned (.bool true) ∧ w = w' := by
  unfold maxLen at hn
  have hd : decide (65536 < (n : Int)) = true := decide_eq_true (by omega)
  go_enter Try.func8, Try.ntmps8
  go_wp2
  go_ret
  exact ⟨by simp, rfl⟩
end Go.Proofs.Ytokpgdojcjmliaa
