/-
  What is proved: the contracts of LabelMoves and DoubleLabel of the model and of the program. Conditions: slices that read as lists of numbers.
-/
import Derived.Test.YtcpembfioelnlaaDoorMec
import Derived.Test.YtcpembfioelnlaaDoorFn4
import Derived.Test.YtcpembfioelnlaaDoorFn24
namespace Go.Proofs.YtcpembfioelnlaaDoor
open Go.RowKit
set_option linter.unusedVariables false
set_option linter.unusedSimpArgs false

theorem cell_new_all (w : World) (cs : Array Value) (t : TypeId) : ∀ j u, cs.toList[j]? = some u → (w.alloc (.cells cs t)).cell? ((⟨w.heap.size, 0, none⟩ : Addr).add j) = some u :=
  World.news_of_block (fr := (0, 0)) (heap_alloc_new w _)
/-- the moves of the first k bits of a label -/
def toldL (xs : List Int) (m k : Nat) : List Int := (xs.take k).flatMap fun b => List.replicate m b
theorem toldL_next {xs : List Int} {m k : Nat} {x : Int} (h : xs[k]? = some x) : toldL xs m (k + 1) = toldL xs m k ++ List.replicate m x := by
  obtain ⟨hk, rfl⟩ := List.getElem?_eq_some_iff.1 h
  unfold toldL
  rw [List.take_succ_eq_append_getElem hk, List.flatMap_append]
  simp
theorem toldL_len (xs : List Int) (m : Nat) : ∀ k, k ≤ xs.length → (toldL xs m k).length = k * m
  | 0, _ => by simp [toldL]
  | k + 1, hk => by
    obtain ⟨x, hx⟩ := get_some (xs := xs) (k := k) (by omega)
    rw [toldL_next hx, List.length_append, toldL_len xs m k (by omega), List.length_replicate, Nat.add_mul, Nat.one_mul]
/-- the label in which each of the first k bits stands twice -/
def dblL (xs : List Int) (k : Nat) : List Int := (xs.take k).flatMap fun b => [b, b]
theorem dblL_next {xs : List Int} {k : Nat} {x : Int} (h : xs[k]? = some x) : dblL xs (k + 1) = dblL xs k ++ [x, x] := by
  obtain ⟨hk, rfl⟩ := List.getElem?_eq_some_iff.1 h
  unfold dblL
  rw [List.take_succ_eq_append_getElem hk, List.flatMap_append]
  simp
theorem dblL_len (xs : List Int) : ∀ k, k ≤ xs.length → (dblL xs k).length = k * 2
  | 0, _ => by simp [dblL]
  | k + 1, hk => by
    obtain ⟨x, hx⟩ := get_some (xs := xs) (k := k) (by omega)
    rw [dblL_next hx, List.length_append, dblL_len xs k (by omega)]
    simp
    omega
/-- what LabelMoves answers -/
def toldR (xs : List Int) (a : Int) : List Int × Bool := if withB 6 0 1 xs = true ∧ 1 ≤ a ∧ a * xs.length ≤ 24 then (toldL xs a.toNat xs.length, true) else ([], false)
theorem toldR_no {xs : List Int} {a : Int} (h : ¬ (withB 6 0 1 xs = true ∧ 1 ≤ a ∧ a * xs.length ≤ 24)) : toldR xs a = ([], false) := if_neg h
theorem toldR_yes {xs : List Int} {a : Int} (h : withB 6 0 1 xs = true ∧ 1 ≤ a ∧ a * xs.length ≤ 24) : toldR xs a = (toldL xs a.toNat xs.length, true) := if_pos h
theorem told_small {xs : List Int} {a : Int} (h : withB 6 0 1 xs = true) (h1 : 1 ≤ a) (h2 : a * xs.length ≤ 24) : a ≤ 24 := by
  have hl := ((withB_iff 6 0 1 xs).1 h).1
  have : a * 1 ≤ a * (xs.length : Int) := Int.mul_le_mul_of_nonneg_left (by omega) (by omega)
  omega
theorem toldR_len (xs : List Int) (a : Int) : (toldR xs a).1.length ≤ 1048576 := by
  unfold toldR
  split
  · rename_i h
    rw [toldL_len _ _ _ (Nat.le_refl _)]
    have h2 := h.2.2
    have h1 := h.2.1
    have e : ((xs.length * a.toNat : Nat) : Int) = a * xs.length := by
      rw [Int.natCast_mul, Int.toNat_of_nonneg (by omega), Int.mul_comm]
    omega
  · simp
/-- what DoubleLabel answers -/
def dblR (xs : List Int) : List Int × Bool := if withB 6 0 1 xs = true ∧ xs.length ≤ 2 then (dblL xs xs.length ++ [0, 1], true) else ([], false)
theorem dblR_no {xs : List Int} (h : ¬ (withB 6 0 1 xs = true ∧ xs.length ≤ 2)) : dblR xs = ([], false) := if_neg h
theorem dblR_yes {xs : List Int} (h : withB 6 0 1 xs = true ∧ xs.length ≤ 2) : dblR xs = (dblL xs xs.length ++ [0, 1], true) := if_pos h
theorem dblR_len (xs : List Int) : (dblR xs).1.length ≤ 1048576 := by
  unfold dblR
  split
  · rename_i h
    rw [List.length_append, dblL_len _ _ (Nat.le_refl _)]
    simp
    omega
  · simp
theorem made_0 (w : World) : (w.alloc (.cells #[] 3)).ownsRow w.heap.size 3 1 (.slice (some ⟨w.heap.size, 0, none⟩) 0 0) 0 [] := made_at w w.heap.size w.heap.size rfl (Nat.le_refl _)
theorem owns_RL {base : Nat} {R : List Int × Bool} {zs : List Int} {b : Bool} {w w' : World} {v : Value} {l : Nat} (hR : R = (zs, b)) (hl : zs.length = l) (ho : w'.ownsRow base 3 1 v l (zs.map iv)) (hb : Below base w w') : OwnsB base R.1 R.2 w (.returned (.tuple #[v, .bool b])) w' := by
  rw [hR]
  subst hl
  exact ⟨v, rfl, ho, hb⟩
/-- behind k rounds the list is f k -/
def GrowR (f : Nat → List Int) (l base : Nat) (w : World) (v i : Value) (wr : World) : Prop :=
  Below base w wr ∧ base ≤ wr.heap.size ∧ ∃ k m : Nat, k ≤ l ∧ i = .int .i64 k ∧ (f k).length = m ∧ wr.ownsRow base 3 1 v m ((f k).map iv)
/-- the same while one more list is being appended -/
def GrowJ (zs : List Int) (x : Int) (l base : Nat) (w : World) (v i : Value) (wr : World) : Prop :=
  Below base w wr ∧ base ≤ wr.heap.size ∧ ∃ k m : Nat, k ≤ l ∧ i = .int .i64 k ∧ m = zs.length + k ∧ wr.ownsRow base 3 1 v m ((zs ++ List.replicate k x).map iv)
theorem rep_snoc (zs : List Int) (x : Int) (k : Nat) : (zs ++ List.replicate k x).map iv ++ [Value.int .i64 x] = (zs ++ List.replicate (k + 1) x).map iv := by
  rw [List.replicate_succ', ← List.append_assoc, List.map_append (l₂ := [x])]
  rfl
set_option maxHeartbeats 1600000 in
set_option maxRecDepth 20000 in
theorem l4Told_any (v : Value) (xs : List Int) (N : Nat) (w : World) (hv : ReadsI w v xs) (hl : xs.length ≤ 6) (hN : N ≤ 24) :
    Calls Tryd.prog 55 #[v, .int .i64 N] w (OwnsI w.heap.size (toldL xs N xs.length) w) := by
  obtain ⟨i0, hi, hz0, hz1, hz2⟩ := info_parts infoInt
  have HTL := Lib.hid (toldL_len xs N)
  obtain ⟨y, c, rfl, hc, hm, hx⟩ := hv
  have HL := Lib.hid hx
  have HB := Lib.hid (below_new w (.cells #[] 3))
  have HOW := Lib.hid (made_0 w)
  clear hx hm
  go_enter Tryd.func55, Tryd.ntmps55
  go_wp2_with fail
  go_loopw [5, 6, 7] (fun v i j wr => GrowR (toldL xs N) xs.length w.heap.size w v i wr) (fun _ i _ _ => xs.length - (intOf i).toNat)
  case atStart => exact ⟨HB.out, by simp, 0, 0, Nat.zero_le _, rfl, rfl, HOW.out⟩
  case round =>
    obtain ⟨hb, hbs, k, m, hk, rfl, hm, hown⟩ := hrel
    clear HB HOW
    have HB := Lib.hid hb
    have HBS := Lib.hid hbs
    have HOW := Lib.hid hown
    have hmk := HTL.out k hk
    rw [hm] at hmk
    have HM := Lib.hid hm
    clear hb hbs hown hm
    by_cases hlt : k < xs.length
    · obtain ⟨x, hxk⟩ := get_some hlt
      obtain ⟨b, o, rfl, hbl, hcx0⟩ := HL.out k x hxk
      have HXK := Lib.hid hxk
      have hm144 : m ≤ 144 := by rw [hmk]; exact Nat.le_trans (Nat.mul_le_mul (by omega : k ≤ 6) hN) (by omega)
      have HMK := Lib.hid hmk
      clear hxk hmk
      go_wp2_with fail
      go_loopw [5, 7] (fun v j wr => GrowJ (toldL xs N k) x N w.heap.size w v j wr) (fun _ j _ => N - (intOf j).toNat)
      case atStart => exact ⟨HB.out, HBS.out, 0, m, Nat.zero_le _, rfl, by rw [HM.out]; rfl, by simpa using HOW.out⟩
      case round =>
        obtain ⟨hb, hbs, j, mm, hj, rfl, hmm, hown⟩ := hrel
        clear HB HOW HBS
        have HB := Lib.hid hb
        have HBS := Lib.hid hbs
        rw [HM.out] at hmm
        generalize hys : (toldL xs N k ++ List.replicate j x).map iv = ys at hown
        have HYS := Lib.hid hys
        have HOW := Lib.hid hown
        have hmb : mm ≤ 200 := by omega
        have HMM := Lib.hid hmm
        have hcx : wr.cell? ⟨b, o + k, none⟩ = some (.int .i64 x) := (HB.out.cell (p := ⟨b, o + k, none⟩) hbl).trans hcx0
        clear hb hbs hown hys hmm
        by_cases hlt2 : j < N
        · skip
          go_wp2_with (at_builtin; refine wpList_append_own _ rfl _ _ 24 rfl w.heap.size 3 i0 (.int .i64 0) 1 8 Tryd.underlying24 hi hz0 hz1 hz2 rfl (by decide) _ _ _ rfl (HOW.out.alloc _) ⟨wr.heap.size, 0, none⟩ 1 1 [.int .i64 x] rfl rfl (cell_one_new _ _ _) ?c2 ?c3 ?c4 ?c5 ?_)
          case c2 => intro u hu; simp at hu; subst hu; rfl
          case c3 => unfold maxLen; omega
          case c4 => omega
          case c5 => have := HBS.out; simp; omega
          intro v9 w9 hown9 hgrow9 _
          have HOW9 := Lib.hid hown9
          have HB9 := Lib.hid (HB.out.trans ((below_new _ _).mono HBS.out) |>.trans (below_grown hgrow9 (fun b hb => (HOW.out.lt b hb).1) (by have := HBS.out; simp; omega)))
          have HBS9 := Lib.hid (Nat.le_trans (by have := HBS.out; simp; omega : w.heap.size ≤ (wr.alloc (.cells #[.int .i64 x] 3)).heap.size) hgrow9.size)
          clear hown9 hgrow9
          go_wp2_with fail
          go_roundw
          case rel => exact ⟨HB9.out, HBS9.out, j + 1, mm + 1, by omega, by go_num, by rw [HMM.out, HM.out]; omega, by rw [← rep_snoc, HYS.out]; exact HOW9.out⟩
          case measure => simp [intOf]; omega
        · have hje : j = N := by omega
          subst hje
          clear hcx
          go_wp2_with fail
          go_roundw
          case rel => exact ⟨HB.out, HBS.out, k + 1, mm, by omega, by go_num, by rw [HMM.out, HTL.out (k + 1) (by omega), HMK.out, Nat.add_mul, Nat.one_mul], by rw [toldL_next HXK.out, HYS.out]; exact HOW.out⟩
          case measure => simp [intOf]; omega
    · have hke : k = xs.length := by omega
      subst hke
      go_wp2_with fail
      go_ret
      exact ⟨_, rfl, by rw [HM.out]; exact HOW.out, HB.out⟩
end Go.Proofs.YtcpembfioelnlaaDoor
