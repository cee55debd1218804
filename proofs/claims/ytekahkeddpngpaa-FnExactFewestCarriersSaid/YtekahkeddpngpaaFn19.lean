/-
  What is proved: spec.l2Kept and plain facts on joined walks; a law at a step of a region for append of a list of any length. Conditions: those of each contract.
-/
import Derived.Test.YtekahkeddpngpaaFn18
import Derived.Deep.AppendLies
import Derived.Deep.RegionHeld3
namespace Go.Proofs.Ytekahkeddpngpaa
open Go.RowKit
set_option linter.unusedVariables false
set_option linter.unusedSimpArgs false

theorem join_walk {n : Int} {g : Bool} {xs ys : List Int} (hx : Walk n g xs) (hy : Walk n g ys) (he : xs[xs.length - 1]? = ys[0]?) : Walk n g (xs ++ ys.drop 1) ↔ xs.length + ys.length - 1 ≤ 61 := by
  have hl : (xs ++ ys.drop 1).length = xs.length + ys.length - 1 := by
    rw [List.length_append, List.length_drop]
    have := hy.2.1
    omega
  constructor
  · intro h
    rw [← hl]
    exact h.2.2.1
  · intro h
    have hx1 := hx.2.1
    have hy1 := hy.2.1
    have hat : ∀ k, (xs ++ ys.drop 1)[k]? = if k < xs.length then xs[k]? else ys[k - xs.length + 1]? := by
      intro k
      by_cases hk : k < xs.length
      · rw [if_pos hk, List.getElem?_append_left hk]
      · rw [if_neg hk, List.getElem?_append_right (by omega), List.getElem?_drop, Nat.add_comm]
    refine ⟨hx.1, by omega, by omega, fun k p hk => ?_, fun k p q hp hq => ?_⟩
    · rw [hat] at hk
      split at hk
      · exact hx.2.2.2.1 k p hk
      · exact hy.2.2.2.1 _ p hk
    · rw [hat] at hp hq
      by_cases c1 : k + 1 < xs.length
      · rw [if_pos (by omega)] at hp
        rw [if_pos c1] at hq
        exact hx.2.2.2.2 k p q hp hq
      · rw [if_neg c1] at hq
        by_cases c2 : k < xs.length
        · rw [if_pos c2] at hp
          have e1 : k = xs.length - 1 := by omega
          rw [e1, he] at hp
          rw [show k + 1 - xs.length + 1 = 0 + 1 by omega] at hq
          exact hy.2.2.2.2 0 p q hp hq
        · rw [if_neg c2] at hp
          rw [show k + 1 - xs.length + 1 = (k - xs.length + 1) + 1 by omega] at hq
          exact hy.2.2.2.2 _ p q hp hq
open Classical in
/-- what JoinWalks answers -/
noncomputable def joinR (n : Int) (g : Bool) (xs ys : List Int) : List Int × Bool := if Walk n g xs ∧ Walk n g ys ∧ xs[xs.length - 1]? = ys[0]? ∧ xs.length + ys.length - 1 ≤ 61 then (xs ++ ys.drop 1, true) else ([], false)
theorem joinR_no {n : Int} {g : Bool} {xs ys : List Int} (h : ¬ (Walk n g xs ∧ Walk n g ys ∧ xs[xs.length - 1]? = ys[0]? ∧ xs.length + ys.length - 1 ≤ 61)) : joinR n g xs ys = ([], false) := by unfold joinR; rw [if_neg h]
theorem joinR_yes {n : Int} {g : Bool} {xs ys : List Int} (h : Walk n g xs ∧ Walk n g ys ∧ xs[xs.length - 1]? = ys[0]? ∧ xs.length + ys.length - 1 ≤ 61) : joinR n g xs ys = (xs ++ ys.drop 1, true) := by unfold joinR; rw [if_pos h]
theorem joinR_len (n : Int) (g : Bool) (xs ys : List Int) (h : xs.length ≤ 1048576) (h2 : ys.length ≤ 1048576) : (joinR n g xs ys).1.length ≤ 1048576 := by
  by_cases hq : Walk n g xs ∧ Walk n g ys ∧ xs[xs.length - 1]? = ys[0]? ∧ xs.length + ys.length - 1 ≤ 61
  · rw [joinR_yes hq]
    have := hq.1.2.2.1
    have := hq.2.1.2.2.1
    simp only [List.length_append, List.length_drop]
    omega
  · rw [joinR_no hq]
    simp
/-- append of a list of any length at a step of a region that draws its order -/
theorem step_append_any {P : Program} {ops : Array Oper} {o : Oper} {a : Act} {w : World} {K : Act → World → Prop} {Q : Exit → Act → World → Prop} {E : Prop} (hgd : o.guard = none) (s x : Operand) (t : TypeId)
    (ho : o.op = .call { callee := .builtin .append, args := #[s, x], argTypes := #[t, t] })
    (base : Nat) (e : TypeId) (i : TypeInfo) (z : Value) (size bytes : Nat) (ht : P.underlying t = some (.slice e)) (hi : P.info? e = some i) (hz : i.zero = some z)
    (hsize : i.size = size) (hby : i.bytes = bytes) (hzs : z.cells.size = size) (hsz : 0 < size)
    (v : Value) (n : Nat) (xs : List Value) (hs : a.eval s = v) (hown : w.ownsRow base e size v n xs)
    (ad : Addr) (m c : Nat) (news : List Value) (hx : a.eval x = .slice (some ad) m c) (hl : news.length = m * size) (hnews : ∀ j u, news[j]? = some u → w.cell? (ad.add j) = some u) (h1 : ∀ u ∈ news, u.oneCell' = true)
    (h63 : n + m ≤ maxLen) (hbytes : (n + m) * bytes ≤ 140737488355328) (hbase : base ≤ w.heap.size)
    (h : ∀ v' w', w'.ownsRow base e size v' (n + m) (xs ++ news) → w.grownBy w' v.ownBlock → K (a.put o.dst v') w') :
    if Region.wanted o (yielded ops a.tmps) = true then Oper.wp P o a w K Q else E := by
  have hw : Region.wanted o (yielded ops a.tmps) = true := by simp [Region.wanted, hgd]
  rw [if_pos hw]
  obtain ⟨v', w', hr, h2, h3, _, _⟩ := run_append_own_at (P := P) w base t o.type e i z size bytes ht hi hz hsize hby hzs hsz v n xs hown ad m c news hl hnews h1 h63 hbytes hbase
  unfold Oper.wp execOp
  simp only [ho, resolve, invoke, builtin, Sem.run_bind, Sem.run_pure, Result.andThen_ok, List.map_toArray, List.map_cons, List.map_nil, hs, hx, hr]
  exact h v' w' h2 h3
end Go.Proofs.Ytekahkeddpngpaa
