/-
  What is proved: the contract of the iterator that impl.posts returns. Conditions: tables of 1 to 6 rows of one length of 1 to 60 numbers.
-/
import Derived.RangeFuncBox
import Derived.RangeFuncNested
import Derived.RangeFuncBound
import Derived.RangeFuncCalls
import Derived.RangeFuncLeaves
import Derived.OwnWalkIn
import Derived.TacticsInMore
import Derived.LoopNIn
import Derived.LoopIn
import Derived.Test.YtijhbhjapcfddaaVth
namespace Go.Proofs.Ytijhbhjapcfddaa
open Go.RowKit
set_option linter.unusedVariables false
set_option linter.unusedSimpArgs false
attribute [local go_sem] Oper.semAt_some

theorem low_lt {w W : World} {b : Nat} (h : W.heap[b]? = w.heap[b]?) (hb : b < w.heap.size) : b < W.heap.size := by
  rw [Array.getElem?_eq_getElem hb] at h
  exact (Array.getElem?_eq_some_iff.1 h).1
def ItV (J : List Nat → World → Prop) (low : Nat → Prop) (w : World) (L : Nat) (i : Value) (wr : World) : Prop :=
  ∃ k : Nat, k ≤ L ∧ i = .int .i64 k ∧ J (List.range k) wr ∧ ∀ b, low b → wr.heap[b]? = w.heap[b]?
set_option maxRecDepth 100000 in
set_option maxHeartbeats 2000000 in
theorem iterV_in (l base Bx : Nat) (v : Value) (xss : List (List Int)) (L : Nat) (J Jx : List Nat → World → Prop) (w : World) (hbl : base ≤ w.heap.size) (hBx : Bx < w.heap.size)
    (hAb : ∀ s W W', J s W → Below W.heap.size W W' → J s W')
    (hT : ∀ W' : World, (∀ b, b < base → W'.heap[b]? = w.heap[b]?) → ReadsL W' v xss) (hrows : ∀ (j : Nat) xs, xss[j]? = some xs → xs.length = L) (hL : 1 ≤ L ∧ L ≤ 60) (hk : 1 ≤ xss.length ∧ xss.length ≤ 6)
    (hY : ∀ pre t W, J pre W → pre.length < L → YieldAt Fence.wide (3 - 1) Try.prog l #[.int .i64 (t : Nat), post6 xss t] W fun e W' =>
      (e = .returned (.bool true) ∧ J (pre ++ [t]) W' ∧ ∀ b, (b < base ∨ b = Bx) → W'.heap[b]? = W.heap[b]?) ∨ (e = .returned (.bool false) ∧ Jx (pre ++ [t]) W'))
    (hs : w.cell? ⟨Bx, 0, none⟩ = some v) (h0 : J [] w) :
    CallsIn Fence.wide 3 Try.prog 149 #[.func (.yield l) #[] #[], .pointer (some ⟨Bx, 0, none⟩)] w fun e W' => (∃ v, e = .returned v) ∧
      ((∃ ys, ys = List.range L ∧ J ys W') ∨ (∃ pre, pre <+: List.range L ∧ Jx pre W')) := by
  have HPA := Lib.hid (fun (t : Nat) (W : World) (hr : ReadsL W v xss) (ht : t < L) => postAt_any v xss L t W hr hrows ht hL.2 hk.2)
  have HT := Lib.hid hT
  have HAB := Lib.hid hAb
  have hv := hT w (fun _ _ => rfl)
  obtain ⟨y0, hy0⟩ := get_some (xs := xss) (k := 0) (by omega)
  have hyl := hrows 0 y0 hy0
  have hv2 := hv
  obtain ⟨va, vc, rfl, hvc, hvm, _⟩ := hv2
  unfold maxLen at hvm
  obtain ⟨b, o, a2, c2, rfl, hb0, hc0, _⟩ := lists_in hv hy0
  have hcc : w.cell? ⟨b, o, none⟩ = some (.slice a2 L c2) := by rw [← hyl]; exact hc0
  have hl0 : 0 < xss.length := hk.1
  have HL := Lib.hid hL
  clear hv hyl hc0 hy0 hrows hT hAb hk
  refine callsIn_of_wp Try.func149 rfl trivial ?_ rfl
  simp only [Try.ntmps149, List.size_toArray, List.length_cons, List.length_nil, Nat.reduceAdd, Nat.reduceSub, Array.replicate_succ, Array.replicate_zero, List.push_toArray, List.append_toArray, List.nil_append, List.cons_append]
  gi_wp2
  gi_loopw [8] (fun i wr => ItV J (fun b => b < base ∨ b = Bx) w L i wr) (fun i wr => L - (intOf i).toNat)
  case atStart => exact ⟨0, Nat.zero_le _, rfl, h0, fun _ _ => rfl⟩
  case round =>
    obtain ⟨k, hk, rfl, hJ, hlow⟩ := hrel
    have hsr : wr.cell? ⟨Bx, 0, none⟩ = some (.slice (some ⟨b, o, none⟩) xss.length vc) := (World.cell?_of_block (a := ⟨Bx, 0, none⟩) (hlow Bx (.inr rfl))).trans hs
    have HR := Lib.hid (HT.out wr (fun b hb => hlow b (.inl hb)))
    by_cases hlt : k < L
    · have HJ := Lib.hid hJ
      have HLW := Lib.hid hlow
      have HLT := Lib.hid hlt
      have HY := Lib.hid (fun W (h : J (List.range k) W) => hY (List.range k) k W h (by simp; exact hlt))
      clear hJ hlow
      gi_wp2_with (refine ⟨trivial, ?_⟩; gi_at_call 150; refine (callsIn_wide.2 (HPA.out k _ HR.out HLT.out)).mono ?_; rintro e w' ⟨rfl, hb⟩; obtain ⟨fn, tmps, assign, body, hy, hRR⟩ := HY.out _ (HAB.out _ _ _ HJ.out hb); have HRR := Lib.hid hRR; have HBP := Lib.hid hb; clear hb hRR)
      refine HRR.out.mono ?_
      rintro e W3 (⟨rfl, hJ3, hk3⟩ | ⟨rfl, hJx3⟩)
      · gi_wp2
        go_roundw
        case rel => exact ⟨k + 1, HLT.out, by go_num, by rw [List.range_succ]; exact hJ3, fun b hb => (hk3 b hb).trans ((HBP.out.block b (low_lt (HLW.out b hb) (hb.elim (fun h => Nat.lt_of_lt_of_le h hbl) (fun h => h ▸ hBx)))).trans (HLW.out b hb))⟩
        case measure => have := HLT.out; simp [intOf]; omega
      · gi_wp2
        refine bodyPost_ret (results_none (by rfl) _ _ _) rfl ?_
        have hp : List.range k ++ [k] <+: List.range L := by
          rw [← List.range_succ]
          exact ⟨(List.range (L - (k + 1))).map (fun i => k + 1 + i), by rw [← List.range_add]; congr 1; have := HLT.out; omega⟩
        exact ⟨⟨_, rfl⟩, .inr ⟨_, hp, hJx3⟩⟩
    · have hke : k = L := by omega
      subst hke
      gi_wp2
      go_end0
      first | exact ⟨⟨_, rfl⟩, .inl hJ⟩ | exact ⟨⟨_, rfl⟩, .inl ⟨_, rfl, hJ⟩⟩
theorem grown_none {w w' : World} (h : Below w.heap.size w w') : w.grownBy w' none := ⟨h.os, h.tape, h.output, h.size, fun k hk _ => h.block k hk⟩
/-- a table whose blocks stay reads as before -/
theorem readsL_blocks {w W : World} {v : Value} {xss : List (List Int)} (h : ReadsL w v xss) (hb : ∀ b, b < w.heap.size → W.heap[b]? = w.heap[b]?) : ReadsL W v xss := by
  obtain ⟨a, c, hv, hc, hm, hx⟩ := h
  refine ⟨a, c, hv, hc, hm, fun j xs hj => ?_⟩
  obtain ⟨b, o, u, ha, hlt, hcell, a2, c2, hu, hc2, hm2, hx2⟩ := hx j xs hj
  refine ⟨b, o, u, ha, low_lt (hb b hlt) hlt, (World.cell?_of_block (a := ⟨b, o + j, none⟩) (hb b hlt)).trans hcell, a2, c2, hu, hc2, hm2, fun i x hi => ?_⟩
  obtain ⟨b3, o3, ha3, hlt3, hc3⟩ := hx2 i x hi
  exact ⟨b3, o3, ha3, low_lt (hb b3 hlt3) hlt3, (World.cell?_of_block (a := ⟨b3, o3 + i, none⟩) (hb b3 hlt3)).trans hc3⟩
/-- the iterator stops behind all times, or behind the time at which a round said no more -/
theorem iterV_stops (base Bx : Nat) (v : Value) (xss : List (List Int)) (L : Nat) (w0 w : World) (hw0 : w0.heap.size = base) (hlow : ∀ b, b < base → w.heap[b]? = w0.heap[b]?) (hbl : base ≤ w.heap.size) (hBx : Bx < w.heap.size)
    (hr : ReadsL w0 v xss) (hrows : ∀ (j : Nat) xs, xss[j]? = some xs → xs.length = L) (hL : 1 ≤ L ∧ L ≤ 60) (hk : 1 ≤ xss.length ∧ xss.length ≤ 6) (hs : w.cell? ⟨Bx, 0, none⟩ = some v) :
    SeqStopsK Fence.wide 3 Try.prog 149 #[.pointer (some ⟨Bx, 0, none⟩)] (fun t : Nat => #[.int .i64 (t : Nat), post6 xss t]) (fun W W' => ∀ b, (b < base ∨ b = Bx) → W'.heap[b]? = W.heap[b]?) (fun ys => ys = List.range L) (fun pre => pre <+: List.range L) L w := by
  intro l J Jx W hW hA _ hY h0
  refine iterV_in l base Bx v xss L J Jx W (Nat.le_trans hbl hW.size) (Nat.lt_of_lt_of_le hBx hW.size) (fun s W1 W2 hJ hb => hA s W1 W2 none hJ (grown_none hb) (fun r e => by cases e)) (fun W' hl => ?_) hrows hL hk hY ((hW.cell (p := ⟨Bx, 0, none⟩) hBx).trans hs) h0
  subst hw0
  exact readsL_blocks hr (fun b hb => (hl b hb).trans ((hW.block b (Nat.lt_of_lt_of_le hb hbl)).trans (hlow b hb)))
/-- posts boxes its argument; its function value captures the box -/
theorem posts_any (v : Value) (a : Option Addr) (n c : Nat) (w : World) (hv : v = .slice a n c) :
    Calls Try.prog 138 #[v] w fun e w' => e = .returned (.func (.func 149) #[] #[.pointer (some ⟨w.heap.size, 0, none⟩)]) ∧ w' = w.alloc (.cells #[v] 47) := by
  subst hv
  go_enter Try.func138, Try.ntmps138
  go_wp2
  go_ret
  exact ⟨rfl, rfl⟩
end Go.Proofs.Ytijhbhjapcfddaa
