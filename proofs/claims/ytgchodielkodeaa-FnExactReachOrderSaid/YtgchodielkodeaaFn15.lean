/-
  What is proved: impl.TourTime and the model's answer alike. Conditions: a slice that reads as a list of numbers.
-/
import Derived.Test.YtgchodielkodeaaFn9
namespace Go.Proofs.Ytgchodielkodeaa
open Go.RowKit
set_option linter.unusedVariables false
set_option linter.unusedSimpArgs false

/-- the greatest of f at the first k numbers, and 0 -/
def topF (f : Int → Int) (ps : List Int) : Nat → Int
  | 0 => 0
  | k + 1 => max (topF f ps k) (f (ps.getD k 0))
theorem topF_next {f : Int → Int} {ps : List Int} {k : Nat} {p : Int} (h : ps[k]? = some p) : topF f ps (k + 1) = max (topF f ps k) (f p) := by
  show max (topF f ps k) (f (ps.getD k 0)) = _
  simp [List.getD, h]
theorem topF_range {f : Int → Int} {ps : List Int} {b : Int} (hb : 0 ≤ b) (h : ∀ (k : Nat) p, ps[k]? = some p → f p ≤ b) : ∀ k, k ≤ ps.length → 0 ≤ topF f ps k ∧ topF f ps k ≤ b
  | 0, _ => ⟨Int.le_refl _, hb⟩
  | k + 1, hk => by
    have h1 := topF_range hb h k (by omega)
    have h2 := h k ps[k] (List.getElem?_eq_getElem (by omega))
    rw [topF_next (List.getElem?_eq_getElem (by omega : k < ps.length))]
    omega
/-- how far down the numbers lie that are more than up steps up -/
def farF (n a up p : Int) : Int := if up < riseI n true a p then riseI n true p a else 0
def beyond (n a : Int) (ps : List Int) (up : Int) (k : Nat) : Int := topF (farF n a up) ps k
def tourI (l r : Int) : Int := l + r + min l r
def bestTo (z n a : Int) (ps : List Int) : Nat → Int
  | 0 => z
  | k + 1 => min (bestTo z n a ps k) (tourI (beyond n a ps k ps.length) k)
theorem rise_range {n a b : Int} (ha : 0 ≤ a ∧ a < n) (hb : 0 ≤ b ∧ b < n) : 0 ≤ riseI n true a b ∧ riseI n true a b < n := by
  simp only [riseI, if_true]
  rw [rise_val n a b ha hb]
  split <;> omega
theorem rise_back {n a b : Int} (ha : 0 ≤ a ∧ a < n) (hb : 0 ≤ b ∧ b < n) (h : 0 < riseI n true a b) : riseI n true b a = n - riseI n true a b := by
  simp only [riseI, if_true] at *
  rw [rise_val n a b ha hb] at *
  rw [rise_val n b a hb ha]
  by_cases c : a ≤ b
  · rw [if_pos c] at *
    rw [if_neg (by omega)]
    omega
  · rw [if_neg c] at *
    rw [if_pos (by omega)]
    omega
theorem farF_range {n a up p : Int} (ha : 0 ≤ a ∧ a < n) (hp : 0 ≤ p ∧ p < n) : 0 ≤ farF n a up p ∧ farF n a up p ≤ n := by
  unfold farF
  have := rise_range hp ha
  split <;> omega
theorem beyond_range {n a up : Int} {ps : List Int} (ha : 0 ≤ a ∧ a < n) (hin : Inside n ps) (k : Nat) (hk : k ≤ ps.length) : 0 ≤ beyond n a ps up k ∧ beyond n a ps up k ≤ n :=
  topF_range (by omega) (fun j p hj => (farF_range ha (hin j p hj)).2) k hk
theorem bestTo_min (n a : Int) (ps : List Int) : ∀ k, bestTo (n - 1) n a ps k = min (n - 1) (bestTo n n a ps k)
  | 0 => by show n - 1 = min (n - 1) n; omega
  | k + 1 => by
    have := bestTo_min n a ps k
    show min (bestTo (n - 1) n a ps k) _ = min (n - 1) (min (bestTo n n a ps k) _)
    omega
theorem beyond_last {n a : Int} {ps : List Int} (ha : 0 ≤ a ∧ a < n) (hin : Inside n ps) : ∀ k, k ≤ ps.length → beyond n a ps (n - 1) k = 0
  | 0, _ => rfl
  | k + 1, hk => by
    have h1 := beyond_last ha hin k (by omega)
    have hpk : ps[k]? = some ps[k] := List.getElem?_eq_getElem (by omega)
    have h2 := rise_range ha (hin k _ hpk)
    unfold beyond at *
    rw [topF_next hpk, h1]
    unfold farF
    rw [if_neg (by omega)]
    rfl
theorem best_eq {n a : Int} {ps : List Int} {N : Nat} (hN : n = N) (hn : 2 ≤ n) (ha : 0 ≤ a ∧ a < n) (hin : Inside n ps) : bestTo n n a ps N = bestTo (n - 1) n a ps N := by
  rw [bestTo_min]
  obtain ⟨M, rfl⟩ : ∃ M, N = M + 1 := ⟨N - 1, by omega⟩
  have h1 := beyond_last ha hin ps.length (Nat.le_refl _)
  have hM : (M : Int) = n - 1 := by omega
  show min (bestTo n n a ps M) (tourI (beyond n a ps M ps.length) M) = min (n - 1) (min (bestTo n n a ps M) (tourI (beyond n a ps M ps.length) M))
  rw [hM, h1]
  unfold tourI
  omega
def tourOk (n : Int) (g : Bool) (a : Int) (ps : List Int) : Prop := roadB n g = true ∧ (0 ≤ a ∧ a < n) ∧ Inside n ps
open Classical in
/-- what TourTime answers -/
noncomputable def tourR (n : Int) (g : Bool) (a : Int) (ps : List Int) : Int × Bool :=
  if tourOk n g a ps then (if g then bestTo (n - 1) n a ps n.toNat else tourI (topF (fun p => a - p) ps ps.length) (topF (fun p => p - a) ps ps.length), true) else (0, false)
theorem tourR_no {n : Int} {g : Bool} {a : Int} {ps : List Int} (h : ¬ tourOk n g a ps) : tourR n g a ps = (0, false) := by unfold tourR; rw [if_neg h]
theorem tourR_line {n a : Int} {ps : List Int} (h : tourOk n false a ps) : tourR n false a ps = (tourI (topF (fun p => a - p) ps ps.length) (topF (fun p => p - a) ps ps.length), true) := by unfold tourR; rw [if_pos h]; rfl
theorem tourR_ring {n a : Int} {ps : List Int} (h : tourOk n true a ps) : tourR n true a ps = (bestTo (n - 1) n a ps n.toNat, true) := by unfold tourR; rw [if_pos h]; rfl
theorem line_range {n a : Int} {ps : List Int} (ha : 0 ≤ a ∧ a < n) (hin : Inside n ps) (k : Nat) (hk : k ≤ ps.length) : (0 ≤ topF (fun p => a - p) ps k ∧ topF (fun p => a - p) ps k ≤ n) ∧ (0 ≤ topF (fun p => p - a) ps k ∧ topF (fun p => p - a) ps k ≤ n) :=
  ⟨topF_range (by omega) (fun j p hj => by have := hin j p hj; omega) k hk, topF_range (by omega) (fun j p hj => by have := hin j p hj; omega) k hk⟩
theorem best_range {n a z : Int} {ps : List Int} (hz : 0 ≤ z ∧ z ≤ n) (ha : 0 ≤ a ∧ a < n) (hin : Inside n ps) : ∀ k : Nat, 0 ≤ bestTo z n a ps k ∧ bestTo z n a ps k ≤ n
  | 0 => hz
  | k + 1 => by
    have h1 := best_range hz ha hin k
    have h2 := beyond_range (up := (k : Int)) ha hin ps.length (Nat.le_refl _)
    show 0 ≤ min (bestTo z n a ps k) (tourI (beyond n a ps k ps.length) k) ∧ min (bestTo z n a ps k) (tourI (beyond n a ps k ps.length) k) ≤ n
    unfold tourI
    omega
theorem bothWays_any (l r : Int) (w : World) (hl : 0 ≤ l ∧ l ≤ 100) (hr : 0 ≤ r ∧ r ≤ 100) :
    Calls Try.prog 161 #[.int .i64 l, .int .i64 r] w fun e w' => e = .returned (.int .i64 (tourI l r)) ∧ w = w' := by
  rcases Int.lt_trichotomy l r with h | rfl | h
  all_goals
    go_enter Try.func161, Try.ntmps161
    go_wp2
    go_ret
    exact ⟨ret_int (by unfold tourI; omega), rfl⟩
end Go.Proofs.Ytgchodielkodeaa
