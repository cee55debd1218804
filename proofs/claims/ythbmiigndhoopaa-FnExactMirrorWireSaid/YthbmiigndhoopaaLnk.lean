/-
  What is proved: the contract of the iterator of slices.Backward over a list of numbers. Conditions: those of each contract.
-/
import Derived.RangeFuncBox
import Derived.RangeFuncNested
import Derived.RangeFuncBound
import Derived.RangeFuncCalls
import Derived.RangeFuncLeaves
import Derived.OwnWalkIn
import Derived.TacticsInMore
import Derived.LoopNIn
import Derived.LoopIn
import Derived.Test.YthbmiigndhoopaaLnm
namespace Go.Proofs.Ythbmiigndhoopaa
open Go.RowKit
set_option linter.unusedVariables false
set_option linter.unusedSimpArgs false
attribute [local go_sem] Oper.semAt_some

theorem low_ltB {w W : World} {b : Nat} (h : W.heap[b]? = w.heap[b]?) (hb : b < w.heap.size) : b < W.heap.size := by
  rw [Array.getElem?_eq_getElem hb] at h
  exact (Array.getElem?_eq_some_iff.1 h).1
/-- what the iterator gives in round t: the place, and the number there -/
def encB (xs : List Int) (t : Nat) : Array Value := #[.int .i64 ((xs.length : Int) - 1 - t), .int .i64 (xs.getD (xs.length - 1 - t) 0)]
/-- the same, the place as a number -/
def encN (xs : List Int) (t : Nat) : Array Value := #[.int .i64 ((xs.length - 1 - t : Nat) : Int), .int .i64 (xs.getD (xs.length - 1 - t) 0)]
theorem encN_eq {xs : List Int} {t : Nat} (h : t < xs.length) : encN xs t = encB xs t := by
  unfold encN encB
  rw [show ((xs.length - 1 - t : Nat) : Int) = (xs.length : Int) - 1 - t by omega]
theorem grown_noneB {w w' : World} (h : Below w.heap.size w w') : w.grownBy w' none := ⟨h.os, h.tape, h.output, h.size, fun k hk _ => h.block k hk⟩
/-- a list whose blocks stay reads as before -/
theorem readsI_blocks {w W : World} {v : Value} {xs : List Int} (h : ReadsI w v xs) (hb : ∀ b, b < w.heap.size → W.heap[b]? = w.heap[b]?) : ReadsI W v xs := by
  obtain ⟨a, c, hv, hc, hm, hx⟩ := h
  refine ⟨a, c, hv, hc, hm, fun j x hj => ?_⟩
  obtain ⟨b, o, ha, hlt, hcell⟩ := hx j x hj
  exact ⟨b, o, ha, low_ltB (hb b hlt) hlt, (World.cell?_of_block (a := ⟨b, o + j, none⟩) (hb b hlt)).trans hcell⟩
def ItB (J : List Nat → World → Prop) (low : Nat → Prop) (w : World) (n : Nat) (i : Value) (wr : World) : Prop :=
  ∃ k : Nat, k ≤ n ∧ i = .int .i64 ((n : Int) - 1 - k) ∧ J (List.range k) wr ∧ ∀ b, low b → wr.heap[b]? = w.heap[b]?
set_option maxRecDepth 100000 in
set_option maxHeartbeats 2000000 in
theorem iterB_in (l base Bx : Nat) (v : Value) (xs : List Int) (J Jx : List Nat → World → Prop) (w : World) (hbl : base ≤ w.heap.size) (hBx : Bx < w.heap.size) (hl : xs.length ≤ 1048576)
    (hT : ∀ W' : World, (∀ b, b < base → W'.heap[b]? = w.heap[b]?) → ReadsI W' v xs)
    (hY : ∀ pre t W, J pre W → pre.length < xs.length → t < xs.length → YieldAt Fence.wide (3 - 1) Try.prog l (encB xs t) W fun e W' =>
      (e = .returned (.bool true) ∧ J (pre ++ [t]) W' ∧ ∀ b, (b < base ∨ b = Bx) → W'.heap[b]? = W.heap[b]?) ∨ (e = .returned (.bool false) ∧ Jx (pre ++ [t]) W'))
    (hs : w.cell? ⟨Bx, 0, none⟩ = some v) (h0 : J [] w) :
    CallsIn Fence.wide 3 Try.prog 85 #[.func (.yield l) #[] #[], .pointer (some ⟨Bx, 0, none⟩)] w fun e W' => (∃ v, e = .returned v) ∧
      ((∃ ys, ys = List.range xs.length ∧ J ys W') ∨ (∃ pre, pre <+: List.range xs.length ∧ Jx pre W')) := by
  have HT := Lib.hid hT
  have hv := hT w (fun _ _ => rfl)
  obtain ⟨va, vc, rfl, hvc, hvm, _⟩ := hv
  unfold maxLen at hvm
  clear hT
  refine callsIn_of_wp Try.func85 rfl trivial ?_ rfl
  simp only [Try.ntmps85, List.size_toArray, List.length_cons, List.length_nil, Nat.reduceAdd, Nat.reduceSub, Array.replicate_succ, Array.replicate_zero, List.push_toArray, List.append_toArray, List.nil_append, List.cons_append]
  gi_wp2
  gi_loopw [3] (fun i wr => ItB J (fun b => b < base ∨ b = Bx) w xs.length i wr) (fun i wr => (intOf i + 1).toNat)
  case atStart => exact ⟨0, Nat.zero_le _, by simp, h0, fun _ _ => rfl⟩
  case round =>
    obtain ⟨k, hk, rfl, hJ, hlow⟩ := hrel
    have hsr : wr.cell? ⟨Bx, 0, none⟩ = some (.slice va xs.length vc) := (World.cell?_of_block (a := ⟨Bx, 0, none⟩) (hlow Bx (.inr rfl))).trans hs
    have HR := Lib.hid (HT.out wr (fun b hb => hlow b (.inl hb)))
    by_cases hlt : k < xs.length
    · obtain ⟨x, hx⟩ := get_some (xs := xs) (k := xs.length - 1 - k) (by omega)
      obtain ⟨_, _, e0, _, _, hcx⟩ := HR.out
      cases e0
      obtain ⟨b, o, rfl, _, hcell⟩ := hcx _ x hx
      obtain ⟨j, hj⟩ : ∃ j : Nat, xs.length - 1 - k = j := ⟨_, rfl⟩
      rw [hj] at hx hcell
      have hji : (xs.length : Int) - 1 - k = (j : Int) := by omega
      have HE := Lib.hid (show encB xs k = #[.int .i64 (j : Int), .int .i64 x] by unfold encB; rw [hj, hji, show xs.getD j 0 = x by simp [List.getD, hx]])
      have HJ := Lib.hid hJ
      have HLW := Lib.hid hlow
      have HLT := Lib.hid hlt
      have HJI := Lib.hid hji
      have hY2 := hY (List.range k) k wr hJ (by simp; exact hlt) hlt
      rw [HE.out] at hY2
      obtain ⟨fn, tmps, assign, body, hy, hRR⟩ := hY2
      have HRR := Lib.hid hRR
      have hj0 : 0 ≤ (j : Int) := by omega
      have hj1 : (j : Int) < xs.length := by omega
      rw [hji]
      clear hJ hlow hRR hx hcx HR hj hji
      have HY := Lib.hid hY
      clear hY
      gi_wp2
      refine HRR.out.mono ?_
      rintro e W3 (⟨rfl, hJ3, hk3⟩ | ⟨rfl, hJx3⟩)
      · gi_wp2
        go_roundw
        case rel => exact ⟨k + 1, HLT.out, by have := HJI.out; go_num, by rw [List.range_succ]; exact hJ3, fun b hb => (hk3 b hb).trans (HLW.out b hb)⟩
        case measure => have := HLT.out; have := HJI.out; simp [intOf] <;> omega
      · gi_wp2
        refine bodyPost_ret (results_none (by rfl) _ _ _) rfl ?_
        have hp : List.range k ++ [k] <+: List.range xs.length := by
          rw [← List.range_succ]
          exact ⟨(List.range (xs.length - (k + 1))).map (fun i => k + 1 + i), by rw [← List.range_add]; congr 1; have := HLT.out; omega⟩
        exact ⟨⟨_, rfl⟩, .inr ⟨_, hp, hJx3⟩⟩
    · have hke : k = xs.length := by omega
      subst hke
      have hj0 : ¬ 0 ≤ (xs.length : Int) - 1 - xs.length := by omega
      gi_wp2
      go_end0
      first | exact ⟨⟨_, rfl⟩, .inl hJ⟩ | exact ⟨⟨_, rfl⟩, .inl ⟨_, rfl, hJ⟩⟩
/-- the iterator stops behind all places, or behind the one at which a round said no more -/
theorem iterB_stops (base Bx : Nat) (v : Value) (xs : List Int) (w0 w : World) (hw0 : w0.heap.size = base) (hlow : ∀ b, b < base → w.heap[b]? = w0.heap[b]?) (hbl : base ≤ w.heap.size) (hBx : Bx < w.heap.size)
    (hr : ReadsI w0 v xs) (hl : xs.length ≤ 1048576) (hs : w.cell? ⟨Bx, 0, none⟩ = some v) :
    SeqStopsK Fence.wide 3 Try.prog 85 #[.pointer (some ⟨Bx, 0, none⟩)] (encB xs) (fun W W' => ∀ b, (b < base ∨ b = Bx) → W'.heap[b]? = W.heap[b]?) (fun ys => ys = List.range xs.length) (fun pre => pre <+: List.range xs.length) xs.length w := by
  intro l J Jx W hW hA _ hY h0
  refine iterB_in l base Bx v xs J Jx W (Nat.le_trans hbl hW.size) (Nat.lt_of_lt_of_le hBx hW.size) hl (fun W' hl => ?_) (fun pre t W h1 h2 _ => hY pre t W h1 h2) ((hW.cell (p := ⟨Bx, 0, none⟩) hBx).trans hs) h0
  subst hw0
  exact readsI_blocks hr (fun b hb => (hl b hb).trans ((hW.block b (Nat.lt_of_lt_of_le hb hbl)).trans (hlow b hb)))
/-- the same, the place as a number: the iterator stops behind all places, or behind the one at which a round said no more -/
theorem iterB_stopsN (base Bx : Nat) (v : Value) (xs : List Int) (w0 w : World) (hw0 : w0.heap.size = base) (hlow : ∀ b, b < base → w.heap[b]? = w0.heap[b]?) (hbl : base ≤ w.heap.size) (hBx : Bx < w.heap.size)
    (hr : ReadsI w0 v xs) (hl : xs.length ≤ 1048576) (hs : w.cell? ⟨Bx, 0, none⟩ = some v) :
    SeqStopsK Fence.wide 3 Try.prog 85 #[.pointer (some ⟨Bx, 0, none⟩)] (encN xs) (fun W W' => ∀ b, (b < base ∨ b = Bx) → W'.heap[b]? = W.heap[b]?) (fun ys => ys = List.range xs.length) (fun pre => pre <+: List.range xs.length) xs.length w := by
  intro l J Jx W hW hA _ hY h0
  refine iterB_in l base Bx v xs J Jx W (Nat.le_trans hbl hW.size) (Nat.lt_of_lt_of_le hBx hW.size) hl (fun W' hl => ?_) (fun pre t W h1 h2 h3 => by have h := hY pre t W h1 h2; rw [encN_eq h3] at h; exact h) ((hW.cell (p := ⟨Bx, 0, none⟩) hBx).trans hs) h0
  subst hw0
  exact readsI_blocks hr (fun b hb => (hl b hb).trans ((hW.block b (Nat.lt_of_lt_of_le hb hbl)).trans (hlow b hb)))
/-- Backward boxes its argument; its function value captures the box -/
theorem backward_any (v : Value) (a : Option Addr) (n c : Nat) (w : World) (hv : v = .slice a n c) :
    Calls Try.prog 71 #[v] w fun e w' => e = .returned (.func (.func 85) #[] #[.pointer (some ⟨w.heap.size, 0, none⟩)]) ∧ w' = w.alloc (.cells #[v] 22) := by
  subst hv
  go_enter Try.func71, Try.ntmps71
  go_wp2
  go_ret
  exact ⟨rfl, rfl⟩
end Go.Proofs.Ythbmiigndhoopaa
