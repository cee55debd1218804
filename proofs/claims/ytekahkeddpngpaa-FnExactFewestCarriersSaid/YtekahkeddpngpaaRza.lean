/-
  What is proved: plain facts: the fewest carriers of a set that reach a place are as many as the first order that reaches it has. Conditions: those of each fact.
-/
import Derived.Test.YtekahkeddpngpaaRyc
import Derived.Test.YtekahkeddpngpaaRlu
namespace Go.Proofs.Ytekahkeddpngpaa
open Go.RowKit
set_option linter.unusedVariables false
set_option linter.unusedSimpArgs false

/-- how many carriers of the first i a set has -/
def cntF (c : Nat) : Nat → Int
  | 0 => 0
  | i + 1 => cntF c i + (if c.testBit i then 1 else 0)
theorem bits_sub : ∀ m : Fin 7, ∀ c : Fin 64, ∀ x : Fin 6, c.val < 2 ^ m.val → x.val < m.val → c.val.testBit x.val = true → (∀ i : Fin 6, (c.val - 2 ^ x.val).testBit i.val = (c.val.testBit i.val && decide (i.val ≠ x.val))) ∧ cntF (c.val - 2 ^ x.val) m.val + 1 = cntF c.val m.val ∧ 2 ^ x.val ≤ c.val := by decide +kernel
theorem bits_add : ∀ m : Fin 7, ∀ c : Fin 64, ∀ x : Fin 6, c.val < 2 ^ m.val → x.val < m.val → c.val.testBit x.val = false → (∀ i : Fin 6, (c.val + 2 ^ x.val).testBit i.val = (c.val.testBit i.val || decide (i.val = x.val))) ∧ cntF (c.val + 2 ^ x.val) m.val = cntF c.val m.val + 1 ∧ c.val + 2 ^ x.val < 2 ^ m.val := by decide +kernel
theorem cnt_nn (c : Nat) : ∀ i, 0 ≤ cntF c i
  | 0 => Int.le_refl _
  | i + 1 => by
    have := cnt_nn c i
    unfold cntF
    split <;> omega
theorem cnt_zero : ∀ i, cntF 0 i = 0
  | 0 => rfl
  | i + 1 => by simp [cntF, cnt_zero i]
theorem onw_mono {n : Int} {c : Cr} {x y : Int} (hx : x ≤ y) : onw n c x ≤ onw n c y := by
  unfold onw endI appI
  omega
/-- the reach of a set -/
def tvF (n : Int) (cs : List Cr) (a : Int) (c : Nat) : Int := bestF n cs a (tabF n cs a c) c cs.length
theorem tab_get (n : Int) (cs : List Cr) (a : Int) (c : Nat) : ∀ k, c < k → (tabF n cs a k).getD c 0 = tvF n cs a c
  | 0, h => by omega
  | k + 1, h => by
    have hl := tabF_len n cs a k
    rw [tabF]
    by_cases hc : c < k
    · rw [List.getD_eq_getElem?_getD, List.getElem?_append_left (by omega), ← List.getD_eq_getElem?_getD]
      exact tab_get n cs a c k hc
    · have : c = k := by omega
      subst this
      rw [List.getD_eq_getElem?_getD, List.getElem?_append_right (by omega), hl]
      simp [tvF]
theorem best_ge (n : Int) (cs : List Cr) (a : Int) (T : List Int) (c : Nat) : ∀ i, a ≤ bestF n cs a T c i
  | 0 => Int.le_refl _
  | i + 1 => by
    have := best_ge n cs a T c i
    cases hb : c.testBit i
    · rw [bestF_no hb]; exact this
    · rw [bestF_yes hb]; omega
theorem best_bit {n : Int} {cs : List Cr} {a : Int} {T : List Int} {c x : Nat} (hx : c.testBit x = true) : ∀ i, x < i → onw n (crAt cs (x : Int)) (T.getD (c - 2 ^ x) 0) ≤ bestF n cs a T c i
  | 0, h => by omega
  | i + 1, h => by
    by_cases hxi : x < i
    · have := best_bit (n := n) (cs := cs) (a := a) (T := T) hx i hxi
      cases hb : c.testBit i
      · rw [bestF_no hb]; exact this
      · rw [bestF_yes hb]; omega
    · have : x = i := by omega
      subst this
      rw [bestF_yes hx]
      omega
theorem best_some (n : Int) (cs : List Cr) (a : Int) (T : List Int) (c : Nat) : ∀ i, bestF n cs a T c i = a ∨ ∃ x, x < i ∧ c.testBit x = true ∧ bestF n cs a T c i = onw n (crAt cs (x : Int)) (T.getD (c - 2 ^ x) 0)
  | 0 => .inl rfl
  | i + 1 => by
    have ih := best_some n cs a T c i
    cases hb : c.testBit i
    · rw [bestF_no hb]
      rcases ih with h | ⟨x, h1, h2, h3⟩
      · exact .inl h
      · exact .inr ⟨x, by omega, h2, h3⟩
    · rw [bestF_yes hb]
      by_cases hm : bestF n cs a T c i ≤ onw n (crAt cs (i : Int)) (T.getD (c - 2 ^ i) 0)
      · exact .inr ⟨i, by omega, hb, by omega⟩
      · rcases ih with h | ⟨x, h1, h2, h3⟩
        · exact .inl (by omega)
        · exact .inr ⟨x, by omega, h2, by omega⟩
theorem tv_ge (n : Int) (cs : List Cr) (a : Int) (c : Nat) : a ≤ tvF n cs a c := best_ge _ _ _ _ _ _
theorem tv_bit {n : Int} {cs : List Cr} {a : Int} {c x : Nat} (hl : cs.length ≤ 6) (hc : c < 2 ^ cs.length) (hx : x < cs.length) (hb : c.testBit x = true) : onw n (crAt cs (x : Int)) (tvF n cs a (c - 2 ^ x)) ≤ tvF n cs a c := by
  have h := best_bit (n := n) (cs := cs) (a := a) (T := tabF n cs a c) hb cs.length hx
  have hp : 0 < 2 ^ x := Nat.two_pow_pos x
  have hge : 2 ^ x ≤ c := Nat.ge_two_pow_of_testBit hb
  rw [tab_get n cs a (c - 2 ^ x) c (by omega)] at h
  exact h
theorem tv_some (n : Int) (cs : List Cr) (a : Int) (c : Nat) : tvF n cs a c = a ∨ ∃ x, x < cs.length ∧ c.testBit x = true ∧ tvF n cs a c = onw n (crAt cs (x : Int)) (tvF n cs a (c - 2 ^ x)) := by
  rcases best_some n cs a (tabF n cs a c) c cs.length with h | ⟨x, h1, h2, h3⟩
  · exact .inl h
  · refine .inr ⟨x, h1, h2, ?_⟩
    have hp : 0 < 2 ^ x := Nat.two_pow_pos x
    have hge : 2 ^ x ≤ c := Nat.ge_two_pow_of_testBit h2
    rw [tab_get n cs a (c - 2 ^ x) c (by omega)] at h3
    exact h3
theorem rchF_last (n : Int) (cs : List Cr) (a : Int) (o : List Int) (x : Int) : rchF n cs a (o ++ [x]) = onw n (crAt cs x) (rchF n cs a o) := by
  unfold rchF
  rw [List.foldl_append]
  rfl
theorem ordC_init {m : Nat} {o : List Int} {x : Int} (h : ordC m (o ++ [x]) = true) : ordC m o = true ∧ 0 ≤ x ∧ x < m ∧ x ∉ o := by
  rw [ordC_iff] at h
  obtain ⟨h1, h2⟩ := h
  rw [List.nodup_append] at h2
  have hx := h1 o.length x (by simp)
  refine ⟨(ordC_iff m o).2 ⟨fun j i hj => h1 j i (by rw [List.getElem?_append_left (List.getElem?_eq_some_iff.1 hj).1]; exact hj), h2.1⟩, hx.1, hx.2, fun hm => ?_⟩
  exact h2.2.2 x hm x (by simp) rfl
/-- every order has a set, with as many carriers, and the set reaches as far -/
theorem ord_set {n : Int} {cs : List Cr} {a : Int} (hl : cs.length ≤ 6) : ∀ (m : Nat) (o : List Int), o.length = m → ordC cs.length o = true → ∃ c, c < 2 ^ cs.length ∧ (∀ i, i < cs.length → (c.testBit i = true ↔ (i : Int) ∈ o)) ∧ cntF c cs.length = o.length ∧ rchF n cs a o ≤ tvF n cs a c
  | 0, o, hm, _ => by
    have : o = [] := List.length_eq_zero_iff.1 hm
    subst this
    exact ⟨0, Nat.two_pow_pos _, fun i _ => by simp, by rw [cnt_zero]; rfl, tv_ge _ _ _ _⟩
  | m + 1, o, hm, ho => by
    rcases List.eq_nil_or_concat o with h | ⟨p, x, h⟩
    · subst h; simp at hm
    · rw [List.concat_eq_append] at h
      subst h
      obtain ⟨h1, h2, h3, h4⟩ := ordC_init ho
      obtain ⟨c, c1, c2, c3, c4⟩ := ord_set (n := n) (a := a) hl m p (by simpa using hm) h1
      obtain ⟨y, rfl⟩ := Int.eq_ofNat_of_zero_le h2
      have hy : y < cs.length := by omega
      have hcb : c.testBit y = false := by
        cases hb : c.testBit y
        · rfl
        · exact absurd ((c2 y hy).1 hb) h4
      have hc64 : c < 64 := Nat.lt_of_lt_of_le c1 (Nat.pow_le_pow_right (by omega) hl)
      obtain ⟨b1, b2, b3⟩ := bits_add ⟨cs.length, by omega⟩ ⟨c, hc64⟩ ⟨y, by omega⟩ c1 hy hcb
      simp only at b1 b2 b3
      have hbt : (c + 2 ^ y).testBit y = true := by rw [b1 ⟨y, by omega⟩]; simp
      refine ⟨c + 2 ^ y, b3, fun i hi => ?_, ?_, ?_⟩
      · have := b1 ⟨i, by omega⟩
        simp only at this
        rw [this, Bool.or_eq_true, c2 i hi, List.mem_append, decide_eq_true_iff, List.mem_singleton]
        constructor <;> rintro (h | h) <;> first | exact .inl h | exact .inr (by omega)
      · rw [b2, c3]; simp
      · rw [rchF_last]
        have h := tv_bit (n := n) (cs := cs) (a := a) (c := c + 2 ^ y) hl b3 hy hbt
        rw [Nat.add_sub_cancel] at h
        have := onw_mono (n := n) (c := crAt cs (y : Int)) c4
        exact Int.le_trans this h
/-- every set has an order, with no more carriers, that reaches as far -/
theorem set_ord {n : Int} {cs : List Cr} {a : Int} (hl : cs.length ≤ 6) : ∀ (k c : Nat), c ≤ k → c < 2 ^ cs.length → ∃ o, ordC cs.length o = true ∧ (∀ i : Nat, (i : Int) ∈ o → i < cs.length ∧ c.testBit i = true) ∧ (o.length : Int) ≤ cntF c cs.length ∧ rchF n cs a o = tvF n cs a c
  | k, c, hk, hc => by
    rcases tv_some n cs a c with h | ⟨x, h1, h2, h3⟩
    · exact ⟨[], (ordC_iff _ _).2 ⟨fun j i hj => by simp at hj, List.nodup_nil⟩, fun i hi => by simp at hi, cnt_nn _ _, h.symm⟩
    · have hc64 : c < 64 := Nat.lt_of_lt_of_le hc (Nat.pow_le_pow_right (by omega) hl)
      obtain ⟨b1, b2, b3⟩ := bits_sub ⟨cs.length, by omega⟩ ⟨c, hc64⟩ ⟨x, by omega⟩ hc h1 h2
      simp only at b1 b2 b3
      have hp : 0 < 2 ^ x := Nat.two_pow_pos x
      match k, hk with
      | 0, hk => omega
      | k + 1, hk =>
        obtain ⟨o, o1, o2, o3, o4⟩ := set_ord (n := n) (a := a) hl k (c - 2 ^ x) (by omega) (by omega)
        have hxo : (x : Int) ∉ o := fun hm => by
          have h4 := (o2 x hm).2
          have := b1 ⟨x, by omega⟩
          simp only at this
          rw [this] at h4
          simp at h4
        have hcn : o.contains (x : Int) = false := by simpa using hxo
        refine ⟨o ++ [(x : Int)], ordC_more o1 h1 hcn, fun i hi => ?_, ?_, ?_⟩
        · rcases List.mem_append.1 hi with hi | hi
          · obtain ⟨i1, i2⟩ := o2 i hi
            have := b1 ⟨i, by omega⟩
            simp only at this
            rw [this, Bool.and_eq_true] at i2
            exact ⟨i1, i2.1⟩
          · have hix : (i : Int) = x := by simpa using hi
            have : i = x := by omega
            subst this
            exact ⟨h1, h2⟩
        · rw [List.length_append]
          simp
          omega
        · rw [rchF_last, o4, h3]
/-- all orders are among those of their length -/
theorem lvl_mem {n : Nat} : ∀ (m : Nat) (o : List Int), o.length = m → ordC n o = true → o ∈ lvl n m
  | 0, o, hm, _ => by
    have : o = [] := List.length_eq_zero_iff.1 hm
    subst this
    simp [lvl]
  | m + 1, o, hm, ho => by
    rcases List.eq_nil_or_concat o with h | ⟨p, x, h⟩
    · subst h; simp at hm
    · rw [List.concat_eq_append] at h
      subst h
      obtain ⟨h1, h2, h3, h4⟩ := ordC_init ho
      obtain ⟨y, rfl⟩ := Int.eq_ofNat_of_zero_le h2
      rw [lvl, List.mem_flatMap]
      refine ⟨p, lvl_mem m p (by simpa using hm) h1, ?_⟩
      unfold extO
      rw [List.mem_flatMap]
      refine ⟨y, by simp; omega, ?_⟩
      rw [if_neg (by simpa using h4)]
      simp
theorem roN_least {n : Nat} {p : List Int → Bool} : ∀ {k : Nat} {o : List Int}, roN n p k = some o → p o = true ∧ ∃ m, m < k ∧ o ∈ lvl n m ∧ ∀ q, q < m → ∀ y, y ∈ lvl n q → p y = false
  | 0, o, h => by simp [roN] at h
  | k + 1, o, h => by
    rw [roN] at h
    cases hr : roN n p k with
    | some y =>
      rw [hr] at h
      cases h
      obtain ⟨h1, m, h2, h3⟩ := roN_least hr
      exact ⟨h1, m, by omega, h3⟩
    | none =>
      rw [hr] at h
      exact ⟨List.find?_some h, k, by omega, List.mem_of_find?_eq_some h, fun q hq y hy => roN_miss hr q hq y hy⟩
where
  roN_miss {n : Nat} {p : List Int → Bool} : ∀ {k : Nat}, roN n p k = none → ∀ q, q < k → ∀ y, y ∈ lvl n q → p y = false
  | 0, _, q, hq, _, _ => by omega
  | k + 1, h, q, hq, y, hy => by
    rw [roN] at h
    cases hr : roN n p k with
    | some z => rw [hr] at h; cases h
    | none =>
      rw [hr] at h
      by_cases hqk : q < k
      · exact roN_miss hr q hqk y hy
      · have : q = k := by omega
        subst this
        have := (List.find?_eq_none.1 h) y hy
        simpa using this
theorem ord_short {n : Nat} {o : List Int} (h : ordC n o = true) : o.length ≤ n := by
  obtain ⟨h1, h2⟩ := (ordC_iff n o).1 h
  exact few_below n o h2 (fun x hx => by obtain ⟨j, hj, rfl⟩ := List.mem_iff_getElem.1 hx; exact h1 j _ (List.getElem?_eq_getElem hj))
/-- the fewest carriers of the first k sets that reach b -/
def fewS (n : Int) (cs : List Cr) (a b : Int) : Nat → Int
  | 0 => -1
  | k + 1 => if b ≤ tvF n cs a k ∧ (fewS n cs a b k < 0 ∨ cntF k cs.length < fewS n cs a b k) then cntF k cs.length else fewS n cs a b k
theorem few_range (n : Int) (cs : List Cr) (a b : Int) : ∀ k, -1 ≤ fewS n cs a b k
  | 0 => by unfold fewS; omega
  | k + 1 => by
    have := few_range n cs a b k
    have := cnt_nn k cs.length
    unfold fewS
    split <;> omega
theorem few_least (n : Int) (cs : List Cr) (a b : Int) : ∀ k j, j < k → b ≤ tvF n cs a j → 0 ≤ fewS n cs a b k ∧ fewS n cs a b k ≤ cntF j cs.length
  | 0, j, h, _ => by omega
  | k + 1, j, h, hb => by
    have hn := cnt_nn k cs.length
    by_cases hj : j < k
    · have ih := few_least n cs a b k j hj hb
      unfold fewS
      split <;> omega
    · have : j = k := by omega
      subst this
      have hr := few_range n cs a b j
      unfold fewS
      split <;> omega
theorem few_some (n : Int) (cs : List Cr) (a b : Int) : ∀ k, 0 ≤ fewS n cs a b k → ∃ j, j < k ∧ b ≤ tvF n cs a j ∧ fewS n cs a b k = cntF j cs.length
  | 0, h => by unfold fewS at h; omega
  | k + 1, h => by
    unfold fewS at h ⊢
    split
    · rename_i hc
      exact ⟨k, by omega, hc.1, rfl⟩
    · rename_i hc
      rw [if_neg hc] at h
      obtain ⟨j, h1, h2, h3⟩ := few_some n cs a b k h
      exact ⟨j, by omega, h2, h3⟩
/-- the two answers are alike -/
theorem few_ro {n : Int} {cs : List Cr} {a b : Int} (hl : cs.length ≤ 6) : fewS n cs a b (2 ^ cs.length) = match roF n cs a b with | some o => (o.length : Int) | none => -1 := by
  have hr := few_range n cs a b (2 ^ cs.length)
  cases h : roF n cs a b with
  | none =>
    show _ = (-1 : Int)
    rcases Int.lt_or_le (fewS n cs a b (2 ^ cs.length)) 0 with h0 | h0
    · omega
    · exfalso
      obtain ⟨j, h1, h2, h3⟩ := few_some n cs a b _ h0
      obtain ⟨o, o1, _, o3, o4⟩ := set_ord (n := n) (a := a) hl j j (Nat.le_refl _) h1
      have hs := ord_short o1
      have := roN_least.roN_miss h o.length (by omega) o (lvl_mem _ o rfl o1)
      unfold goesP at this
      simp [o4] at this
      omega
  | some o =>
    show _ = (o.length : Int)
    obtain ⟨h1, m, h2, h3, h4⟩ := roN_least h
    have ho := lvl_ord h3
    have hm := lvl_elt h3
    obtain ⟨c, c1, _, c3, c4⟩ := ord_set (n := n) (a := a) hl _ o rfl ho
    unfold goesP at h1
    rw [decide_eq_true_iff] at h1
    have hle := few_least n cs a b _ c c1 (by omega)
    obtain ⟨j, j1, j2, j3⟩ := few_some n cs a b _ hle.1
    obtain ⟨o', p1, _, p3, p4⟩ := set_ord (n := n) (a := a) hl j j (Nat.le_refl _) j1
    have hge : o.length ≤ o'.length := by
      rcases Nat.lt_or_ge o'.length o.length with hlt | hge
      · exfalso
        have := h4 o'.length (by omega) o' (lvl_mem _ o' rfl p1)
        unfold goesP at this
        simp [p4] at this
        omega
      · exact hge
    omega
end Go.Proofs.Ytekahkeddpngpaa
