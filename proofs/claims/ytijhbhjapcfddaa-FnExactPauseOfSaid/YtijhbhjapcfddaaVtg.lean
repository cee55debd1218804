/-
  What is proved: plain facts on times that are kept by posts: sorted, those of all posts with a place are the place's times. Conditions: none.
-/
import Derived.Test.YtijhbhjapcfddaaVtf
namespace Go.Proofs.Ytijhbhjapcfddaa
open Go.RowKit
set_option linter.unusedVariables false
set_option linter.unusedSimpArgs false

/-- the times, kept by posts: one more time at a post -/
def gputV (es : List (List Int × List Int)) (k : List Int) (x : Int) : List (List Int × List Int) :=
  match es with
  | [] => [(k, [x])]
  | e :: r => if e.1 = k then (e.1, e.2 ++ [x]) :: r else e :: gputV r k x
/-- the times below t, kept by posts -/
def grpV (K : Nat → List Int) : Nat → List (List Int × List Int)
  | 0 => []
  | t + 1 => gputV (grpV K t) (K t) (t : Int)
/-- the times of all posts with the place p, in some order -/
def visL (p : Int) (es : List (List Int × List Int)) : List Int := (es.filter (fun e => e.1.contains p)).flatMap (fun e => e.2)
theorem visL_cons (p : Int) (e : List Int × List Int) (r : List (List Int × List Int)) : visL p (e :: r) = (if e.1.contains p then e.2 else []) ++ visL p r := by
  unfold visL
  rw [List.filter_cons]
  split
  · rfl
  · rfl
theorem visL_put (p : Int) (k : List Int) (x : Int) : ∀ es : List (List Int × List Int), (visL p (gputV es k x)).Perm (visL p es ++ (if k.contains p then [x] else []))
  | [] => by
    show (visL p ((k, [x]) :: [])).Perm _
    rw [visL_cons]
    show List.Perm ((if k.contains p = true then [x] else []) ++ []) ([] ++ _)
    rw [List.append_nil, List.nil_append]
  | e :: r => by
    unfold gputV
    by_cases h : e.1 = k
    · rw [if_pos h, visL_cons, visL_cons]
      subst h
      show List.Perm ((if e.1.contains p = true then e.2 ++ [x] else []) ++ visL p r) _
      by_cases hp : e.1.contains p = true
      · rw [if_pos hp, if_pos hp, if_pos hp, List.append_assoc, List.append_assoc]
        exact List.Perm.append_left _ List.perm_append_comm
      · rw [if_neg hp, if_neg hp, if_neg hp, List.append_nil]
    · rw [if_neg h, visL_cons, visL_cons, List.append_assoc]
      exact List.Perm.append_left _ (visL_put p k x r)
theorem visL_grp (p : Int) (K : Nat → List Int) : ∀ t, (visL p (grpV K t)).Perm (pickV (fun j => (K j).contains p) t)
  | 0 => List.Perm.refl _
  | t + 1 => by
    refine (visL_put p (K t) (t : Int) (grpV K t)).trans ?_
    by_cases h : (K t).contains p = true
    · rw [if_pos h, pickV_yes (P := fun j => (K j).contains p) h]
      exact List.Perm.append_right _ (visL_grp p K t)
    · rw [if_neg h, List.append_nil, pickV_no (P := fun j => (K j).contains p) (by simpa using h)]
      exact visL_grp p K t
theorem visL_perm {p : Int} {es es' : List (List Int × List Int)} (h : es.Perm es') : (visL p es).Perm (visL p es') := (h.filter _).flatMap_right _
theorem pickV_sorted (P : Nat → Bool) : ∀ k, (pickV P k).Pairwise (fun x y => x ≤ y)
  | 0 => List.Pairwise.nil
  | k + 1 => by
    by_cases hp : P k = true
    · rw [pickV_yes hp, List.pairwise_append]
      refine ⟨pickV_sorted P k, List.pairwise_singleton _ _, fun x hx y hy => ?_⟩
      have := pickV_in P k x hx
      simp at hy
      omega
    · rw [pickV_no (by simpa using hp)]
      exact pickV_sorted P k
/-- sorted, any order of the picked numbers is their own -/
theorem sort_pick {P : Nat → Bool} {L : Nat} {l : List Int} (h : l.Perm (pickV P L)) : l.mergeSort (fun x y => decide (x ≤ y)) = pickV P L := by
  have hs : (l.mergeSort (fun x y => decide (x ≤ y))).Pairwise (fun x y => x ≤ y) := by
    have := List.pairwise_mergeSort (le := fun x y : Int => decide (x ≤ y)) (fun a b c h1 h2 => by simp at *; omega) (fun a b => by simp; omega) l
    exact this.imp (fun h => by simpa using h)
  exact ((List.mergeSort_perm l _).trans h).eq_of_pairwise (fun a b _ _ h1 h2 => by omega) hs (pickV_sorted P L)
/-- no key twice -/
theorem grpV_keys {es : List (List Int × List Int)} {k : List Int} {x : Int} (h : (es.map (·.1)).Nodup) : ((gputV es k x).map (·.1)).Nodup := by
  have mem : ∀ es : List (List Int × List Int), ∀ q, q ∈ (gputV es k x).map (·.1) → q ∈ es.map (·.1) ∨ q = k := by
    intro es
    induction es with
    | nil => intro q hq; simp [gputV] at hq; exact .inr hq
    | cons e r ih =>
      intro q hq
      unfold gputV at hq
      split at hq
      · exact .inl hq
      · rw [List.map_cons, List.mem_cons] at hq
        rcases hq with hq | hq
        · exact .inl (by rw [List.map_cons, List.mem_cons]; exact .inl hq)
        · rcases ih q hq with h | h
          · exact .inl (by rw [List.map_cons, List.mem_cons]; exact .inr h)
          · exact .inr h
  induction es with
  | nil => simp [gputV]
  | cons e r ih =>
    unfold gputV
    rw [List.map_cons, List.nodup_cons] at h
    split
    · rw [List.map_cons, List.nodup_cons]; exact h
    · rename_i hne
      rw [List.map_cons, List.nodup_cons]
      refine ⟨fun hm => ?_, ih h.2⟩
      rcases mem r _ hm with h2 | h2
      · exact h.1 h2
      · exact hne h2
/-- the post of a time holds a place just if a guard is there -/
def postL (xss : List (List Int)) (t : Nat) : List Int := (List.range 6).map (pstF xss t)
theorem postL_hit {xss : List (List Int)} {p : Int} {t L : Nat} (hk : xss.length ≤ 6) (hr : ∀ (j : Nat) xs, xss[j]? = some xs → xs.length = L) (ht : t < L) (hp : 0 ≤ p) : (postL xss t).contains p = hitV xss p t := by
  have hiff : (postL xss t).contains p = true ↔ hitV xss p t = true := by
    unfold postL hitV
    rw [List.contains_iff_mem, List.mem_map, List.any_eq_true]
    constructor
    · rintro ⟨i, _, hi⟩
      by_cases h : i < xss.length
      · obtain ⟨xs, hxs⟩ := get_some h
        obtain ⟨x, hx⟩ := get_some (xs := xs) (k := t) (by rw [hr i xs hxs]; exact ht)
        refine ⟨xs, List.mem_of_getElem? hxs, ?_⟩
        rw [pstF_in hxs hx] at hi
        simp [List.getD, hx, hi]
      · rw [pstF_out h] at hi; omega
    · rintro ⟨xs, hm, he⟩
      obtain ⟨i, hi⟩ := List.getElem?_of_mem hm
      obtain ⟨x, hx⟩ := get_some (xs := xs) (k := t) (by rw [hr i xs hi]; exact ht)
      have hil : i < xss.length := (List.getElem?_eq_some_iff.1 hi).1
      refine ⟨i, List.mem_range.2 (by omega), ?_⟩
      rw [pstF_in hi hx]
      simpa [List.getD, hx] using he
  cases h1 : (postL xss t).contains p <;> cases h2 : hitV xss p t <;> simp_all
theorem pickV_congr {P Q : Nat → Bool} : ∀ {k : Nat}, (∀ j, j < k → P j = Q j) → pickV P k = pickV Q k
  | 0, _ => rfl
  | k + 1, h => by
    show (if P k then pickV P k ++ [(k : Int)] else pickV P k) = (if Q k then pickV Q k ++ [(k : Int)] else pickV Q k)
    rw [h k (Nat.lt_succ_self _), pickV_congr (fun j hj => h j (Nat.lt_succ_of_lt hj))]
/-- what visitsOf finds among the kept times, in whatever order the map is ranged over -/
theorem vis_sorted {xss : List (List Int)} {p : Int} {L : Nat} {es : List (List Int × List Int)} (hk : xss.length ≤ 6) (hr : ∀ (j : Nat) xs, xss[j]? = some xs → xs.length = L) (hp : 0 ≤ p) (h : es.Perm (grpV (postL xss) L)) :
    (visL p es).mergeSort (fun x y => decide (x ≤ y)) = timV xss p L := by
  have h2 := (visL_perm (p := p) h).trans (visL_grp p (postL xss) L)
  rw [sort_pick h2]
  exact pickV_congr (fun j hj => postL_hit hk hr hj hp)
end Go.Proofs.Ytijhbhjapcfddaa
