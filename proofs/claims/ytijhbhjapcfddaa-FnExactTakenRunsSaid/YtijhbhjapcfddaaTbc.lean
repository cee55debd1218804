/-
  What is proved: plain facts on rows and tables that a loop makes, and the end of a round that appends a row. Conditions: those of each fact.
-/
import Derived.Test.YtijhbhjapcfddaaTba
import Derived.Test.YtijhbhjapcfddaaFn19
namespace Go.Proofs.Ytijhbhjapcfddaa
open Go.RowKit
set_option linter.unusedVariables false
set_option linter.unusedSimpArgs false

/-- the first t numbers of a row -/
def rowF (f : Nat → Int) (t : Nat) : List Int := (List.range t).map f
theorem rowF_len (f : Nat → Int) (t : Nat) : (rowF f t).length = t := by simp [rowF]
theorem rowF_next (f : Nat → Int) (t : Nat) : rowF f (t + 1) = rowF f t ++ [f t] := by simp [rowF, List.range_succ]
theorem rowF_snoc (f : Nat → Int) (t : Nat) : (rowF f t).map iv ++ [Value.int .i64 (f t)] = (rowF f (t + 1)).map iv := by rw [rowF_next, List.map_append]; rfl
theorem rowF_at (f : Nat → Int) (t k : Nat) (h : k < t) : (rowF f t)[k]? = some (f k) := by simp [rowF, h]
theorem rowF_wlk (f : Nat → Int) (m : Nat) : rowF f (m + 1) = (List.range (m + 1)).map f := rfl
/-- the first k rows of a table -/
def tabF (F : Nat → List Int) (k : Nat) : List (List Int) := (List.range k).map F
theorem tabF_len (F : Nat → List Int) (k : Nat) : (tabF F k).length = k := by simp [tabF]
theorem tabF_next (F : Nat → List Int) (k : Nat) : tabF F (k + 1) = tabF F k ++ [F k] := by simp [tabF, List.range_succ]
theorem tabF_at (F : Nat → List Int) (k j : Nat) (h : j < k) : (tabF F k)[j]? = some (F j) := by simp [tabF, h]
theorem tabF_congr {F G : Nat → List Int} {k : Nat} (h : ∀ j, j < k → F j = G j) : tabF F k = tabF G k := by
  unfold tabF
  exact List.map_congr_left fun j hj => h j (List.mem_range.1 hj)
theorem lenTo_le {xss : List (List Int)} {L : Nat} (h : ∀ (j : Nat) xs, xss[j]? = some xs → xs.length ≤ L) : ∀ k, k ≤ xss.length → lenTo xss k ≤ k * L
  | 0, _ => by simp [lenTo]
  | k + 1, hk => by
    obtain ⟨xs, hx⟩ := get_some (xs := xss) (k := k) (by omega)
    have h1 := lenTo_le h k (by omega)
    have h2 := h k xs hx
    rw [lenTo_next hx, Nat.succ_mul]
    omega
theorem size_le {xss : List (List Int)} {L K : Nat} (h : ∀ (j : Nat) xs, xss[j]? = some xs → xs.length ≤ L) (hk : xss.length ≤ K) : sizeT xss ≤ K + K * L := by
  have := lenTo_le h xss.length (Nat.le_refl _)
  have := Nat.mul_le_mul_right L hk
  unfold sizeT
  omega
/-- a row that grows in memory of its own behind base -/
def RowRel (f : Nat → Int) (m base : Nat) (w0 : World) (v i : Value) (wr : World) : Prop :=
  Below base w0 wr ∧ base ≤ wr.heap.size ∧ ∃ t : Nat, t ≤ m ∧ i = .int .i64 t ∧ wr.ownsRow base 3 1 v t ((rowF f t).map iv)
/-- a table that grows in memory of its own behind the road's box -/
def TabRel (n : Int) (g : Bool) (F : Nat → List Int) (m base : Nat) (w : World) (z i : Value) (wr : World) : Prop :=
  Boxed base n g w wr ∧ ∃ k : Nat, k ≤ m ∧ i = .int .i64 k ∧ ∃ us, OwnT (base + 1) wr.heap.size z us (tabF F k) wr
theorem one_news {base : Nat} {n : Int} {g : Bool} {w wc : World} {x : Value} {t : TypeId} (_h : Boxed base n g w wc) (k : Nat) (hk : wc.heap.size = k) :
    ∀ (j : Nat) u, [x][j]? = some u → (wc.alloc (.cells #[x] t)).cell? ((⟨k, 0, none⟩ : Addr).add j) = some u := by
  subst hk
  intro j u hj
  match j, hj with
  | 0, hj =>
    cases hj
    have e : (⟨wc.heap.size, 0, none⟩ : Addr).add 0 = ⟨wc.heap.size, 0, none⟩ := rfl
    rw [e, cell_new]
    rfl
theorem tab_next {n : Int} {g : Bool} {F : Nat → List Int} {m base k b0 : Nat} {w wr w' : World} {z z' u i : Value} {us : List Value} {hi : Nat} {t : TypeId} (hx : Boxed base n g w wr) (ho : OwnT (base + 1) hi z us (tabF F k) wr) (hh : hi ≤ b0) (hb0 : base + 1 ≤ b0)
    (hu : wr.ownsRow b0 3 1 u (F k).length ((F k).map iv)) (hk : k < m) (hi2 : i = .int .i64 ((k + 1 : Nat) : Int))
    (hown : w'.ownsRow (base + 1) 24 1 z' (k + 1) (us ++ [u])) (hg : (wr.alloc (.cells #[u] t)).grownBy w' z.ownBlock) : TabRel n g F m base w z' i w' := by
  have hl : (tabF F k).length = k := tabF_len F k
  refine ⟨hx.nextAt (Nat.lt_succ_self _) (((Below.refl _ _).alloc (Nat.succ_le_of_lt hx.size) _).trans (below_grown hg (fun b hb => (row_block ho.top b hb).1) (by have := hx.size; simp; omega))), k + 1, hk, hi2, us ++ [u], ?_⟩
  rw [tabF_next]
  exact ownT_append ho hu hh hb0 (by rw [hl]; exact hown) hg
end Go.Proofs.Ytijhbhjapcfddaa
