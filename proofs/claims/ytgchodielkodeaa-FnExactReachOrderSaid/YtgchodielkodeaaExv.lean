/-
  What is proved: plain facts: all orders in their order (ordF), what the explorers of an order take together (dnS), the first order that takes all places, found depth first (srch). Conditions: none.
-/
import Derived.Test.YtgchodielkodeaaExn
namespace Go.Proofs.Ytgchodielkodeaa
open Go.RowKit
set_option linter.unusedVariables false
set_option linter.unusedSimpArgs false

/-- all orders of K explorers that begin as b does, f being those that are left -/
def ordF (K : Nat) : Nat → List Int → List (List Int)
  | 0, b => [b]
  | f + 1, b => (List.range K).flatMap (fun (x : Nat) => if b.contains (x : Int) then [] else ordF K f (b ++ [(x : Int)]))
/-- what is done behind an order, T i d being what i takes where d is done -/
def dnS (T : Int → Nat → Nat) : Nat → List Int → Nat
  | d, [] => d
  | d, i :: is => dnS T (d + T i d) is
theorem dnS_append (T : Int → Nat → Nat) : ∀ (xs ys : List Int) d, dnS T d (xs ++ ys) = dnS T (dnS T d xs) ys
  | [], ys, d => rfl
  | i :: is, ys, d => dnS_append T is ys _
/-- the first order of those that are left with which n places are done, depth first -/
def srch (T : Int → Nat → Nat) (n K : Nat) : Nat → List Int → Nat → Option (List Int)
  | 0, b, d => if d = n then some [] else none
  | f + 1, b, d => (List.range K).findSome? (fun (x : Nat) => if b.contains (x : Int) then none else (srch T n K f (b ++ [(x : Int)]) (d + T (x : Int) d)).map (fun r => (x : Int) :: r))
/-- it is the first one of all orders -/
theorem srch_first (T : Int → Nat → Nat) (n K : Nat) : ∀ f b, (ordF K f b).find? (fun os => dnS T 0 os == n) = (srch T n K f b (dnS T 0 b)).map (fun r => b ++ r)
  | 0, b => by
    unfold ordF srch
    by_cases h : dnS T 0 b = n
    · simp [h]
    · simp [h]
  | f + 1, b => by
    unfold ordF srch
    rw [List.find?_flatMap, List.map_findSome?]
    congr 1
    funext x
    simp only [Function.comp]
    by_cases h : b.contains (x : Int) = true
    · rw [if_pos h, if_pos h]
      rfl
    · rw [if_neg h, if_neg h, srch_first T n K f (b ++ [(x : Int)]), dnS_append]
      show Option.map _ (srch T n K f (b ++ [(x : Int)]) (dnS T 0 b + T x (dnS T 0 b))) = _
      rw [Option.map_map]
      congr 1
      funext r
      simp
/-- what is left to find depends on who has gone alone -/
theorem srch_congr (T : Int → Nat → Nat) (n K : Nat) : ∀ f b b' d, (∀ x : Nat, x < K → b.contains (x : Int) = b'.contains (x : Int)) → srch T n K f b d = srch T n K f b' d
  | 0, b, b', d, h => rfl
  | f + 1, b, b', d, h => by
    unfold srch
    have e : ∀ x ∈ List.range K, (if b.contains (x : Int) then none else (srch T n K f (b ++ [(x : Int)]) (d + T (x : Int) d)).map (fun r => (x : Int) :: r)) = (if b'.contains (x : Int) then none else (srch T n K f (b' ++ [(x : Int)]) (d + T x d)).map (fun r => (x : Int) :: r)) := by
      intro x hx
      rw [h x (List.mem_range.1 hx), srch_congr T n K f (b ++ [(x : Int)]) (b' ++ [(x : Int)]) _ (fun y hy => by
        have h1 := h y hy
        simp only [List.contains_eq_mem] at h1 ⊢
        simp only [List.mem_append, List.mem_singleton]
        have h2 : ((y : Int) ∈ b) ↔ ((y : Int) ∈ b') := by
          constructor <;> intro h3 <;> simp [h3] at h1 <;> exact h1
        simp [h2])]
    generalize List.range K = l at e
    clear h
    induction l with
    | nil => rfl
    | cons x l ih =>
      rw [List.findSome?_cons, List.findSome?_cons, e x (List.mem_cons_self ..), ih (fun y hy => e y (List.mem_cons_of_mem _ hy))]
/-- what explorer i takes where d is done, from x -/
def tkT (n : Int) (g : Bool) (ss bs : List Int) (x : Int) (back : Bool) (i : Int) (d : Nat) : Nat := tkN (fun m => runT n g (ss.getD i.toNat 0) ((x + d) % n) m back) (bs.getD i.toNat 0) (n.toNat - d)
theorem tkS_dnS (n : Int) (g : Bool) (ss bs : List Int) (x : Int) (os : List Int) (back : Bool) : ∀ k, k ≤ os.length → (tkS n g ss bs x os back k).1 = dnS (tkT n g ss bs x back) 0 (os.take k)
  | 0, _ => by simp [tkS, dnS]
  | k + 1, h => by
    have hk : k < os.length := h
    rw [List.take_succ_eq_append_getElem hk, dnS_append, ← tkS_dnS n g ss bs x os back k (by omega)]
    have e : os.getD k 0 = os[k] := by simp [List.getD, hk]
    show (tkS n g ss bs x os back k).1 + tkN _ _ _ = (tkS n g ss bs x os back k).1 + tkT n g ss bs x back os[k] (tkS n g ss bs x os back k).1
    unfold tkT
    rw [e]
/-- the first place and order with which all places are visited -/
def firstR (n : Int) (g : Bool) (ss bs : List Int) (back : Bool) : Option (Nat × List Int) :=
  (List.range (if g then n.toNat else 1)).findSome? (fun (x : Nat) => (srch (tkT n g ss bs x back) n.toNat ss.length ss.length [] 0).map (fun os => (x, os)))
end Go.Proofs.Ytgchodielkodeaa
