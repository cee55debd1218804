/-
  What is proved: the contracts of the laws' own helpers on walkers: szWalker, toWalker, eqWalker, markWalker, heldWalker. Conditions: those of each contract.
-/
import Derived.Test.YtiokgnabiidlbaaDoorMee
namespace Go.Proofs.YtiokgnabiidlbaaDoor
open Go.RowKit
set_option linter.unusedVariables false
set_option linter.unusedSimpArgs false

theorem szI_yes (v : Value) (xs : List Int) (l : Nat) (w : World) (hv : ReadsI w v xs) (hl : l ≤ 1048576) (h : xs.length ≤ l) :
    Calls Tryd.prog 10 #[v, .int .i64 l] w fun e w' => e = .returned (.int .i64 ((l - xs.length : Nat) : Int)) ∧ w' = w := by
  obtain ⟨y, c, rfl, hc, hm, hx⟩ := hv
  unfold maxLen at hm
  clear hx
  obtain ⟨r, hr⟩ : ∃ r : Nat, (l : Int) - xs.length = r := ⟨l - xs.length, by omega⟩
  have e : ((l - xs.length : Nat) : Int) = (l : Int) - xs.length := by omega
  rw [e]
  have h1 : 0 ≤ (l : Int) - xs.length := by omega
  have h2 : ¬ (l : Int) - xs.length < 0 := by omega
  have h3 : ¬ (l : Int) < xs.length := by omega
  have h4 : (xs.length : Int) ≤ l := by omega
  clear e hr
  go_enter Tryd.func10, Tryd.ntmps10
  go_wp2
  go_ret
  exact ⟨rfl, rfl⟩
theorem szI_no (v : Value) (xs : List Int) (l : Nat) (w : World) (hv : ReadsI w v xs) (hl : l ≤ 1048576) (h : l < xs.length) :
    Calls Tryd.prog 10 #[v, .int .i64 l] w fun e w' => e = .returned (.int .i64 (-1)) ∧ w' = w := by
  obtain ⟨y, c, rfl, hc, hm, hx⟩ := hv
  unfold maxLen at hm
  clear hx
  have h1 : ¬ 0 ≤ (l : Int) - xs.length := by omega
  have h2 : (l : Int) - xs.length < 0 := by omega
  have h3 : (l : Int) < xs.length := by omega
  go_enter Tryd.func10, Tryd.ntmps10
  go_wp2
  go_ret
  exact ⟨rfl, rfl⟩
theorem szW_yes (k : Wk) (m : Value) (l : Nat) (w : World) (hv : ReadsI w m k.ms) (hl : l ≤ 1048576) (h : k.ms.length ≤ l) :
    Calls Tryd.prog 4 #[wkv k m, .int .i64 l] w fun e w' => e = .returned (.int .i64 ((l - k.ms.length : Nat) : Int)) ∧ Below w.heap.size w w' := by
  have HS := Lib.hid (fun w hv => szI_yes m k.ms l w hv hl h)
  have HV := Lib.hid (hv.below (below_new w (.cells #[.int .i64 k.s, .int .i64 k.f, .int .i64 k.d, m] 26)))
  have h1 : 0 ≤ ((l - k.ms.length : Nat) : Int) := by omega
  have h2 : ¬ ((l - k.ms.length : Nat) : Int) < 0 := by omega
  obtain ⟨ma, mc, rfl, _⟩ := hv
  generalize l - k.ms.length = r at *
  unfold wkv
  go_enter Tryd.func4, Tryd.ntmps4
  go_wp2_with fail
  refine (HS.out _ HV.out).mono ?_
  rintro e w1 ⟨rfl, rfl⟩
  go_wp2_with fail
  go_ret
  exact ⟨rfl, below_new w _⟩
theorem szW_no (k : Wk) (m : Value) (l : Nat) (w : World) (hv : ReadsI w m k.ms) (hl : l ≤ 1048576) (h : l < k.ms.length) :
    Calls Tryd.prog 4 #[wkv k m, .int .i64 l] w fun e w' => e = .returned (.int .i64 (-1)) ∧ Below w.heap.size w w' := by
  have HS := Lib.hid (fun w hv => szI_no m k.ms l w hv hl h)
  have HV := Lib.hid (hv.below (below_new w (.cells #[.int .i64 k.s, .int .i64 k.f, .int .i64 k.d, m] 26)))
  obtain ⟨ma, mc, rfl, _⟩ := hv
  unfold wkv
  go_enter Tryd.func4, Tryd.ntmps4
  go_wp2_with fail
  refine (HS.out _ HV.out).mono ?_
  rintro e w1 ⟨rfl, rfl⟩
  go_wp2_with fail
  go_ret
  exact ⟨rfl, below_new w _⟩
theorem Blk.kept {w w' : World} {b : Nat} {cs : Array Value} {t : TypeId} {r : Option Nat} (h : Blk w b cs t) (hg : w.grownBy w' r) (hne : r = some b → False) : Blk w' b cs t :=
  (hg.block b h.lt (fun e => hne e.symm)).trans h
theorem row_kept {w w' : World} {base n : Nat} {v u : Value} {xs : List Value} (h : w.ownsRow base 3 1 v n xs) (hg : w.grownBy w' u.ownBlock) (hne : ∀ b, v.ownBlock = some b → u.ownBlock = some b → False) : w'.ownsRow base 3 1 v n xs := by
  refine h.kept hg ?_
  cases hv : v.ownBlock
  · exact .inl rfl
  · exact .inr (fun e => hne _ hv e.symm)
/-- the answer is a walker whose moves are memory of its own -/
def OwnsW (base : Nat) (k : Wk) (w : World) (e : Ending) (w' : World) : Prop :=
  ∃ v, e = .returned (.agg #[.int .i64 k.s, .int .i64 k.f, .int .i64 k.d, v]) ∧ w'.ownsRow base 3 1 v k.ms.length (k.ms.map iv) ∧ Below base w w'
/-- and a truth -/
def OwnsWB (base : Nat) (k : Wk) (b : Bool) (w : World) (e : Ending) (w' : World) : Prop :=
  ∃ v, e = .returned (.tuple #[.agg #[.int .i64 k.s, .int .i64 k.f, .int .i64 k.d, v], .bool b]) ∧ w'.ownsRow base 3 1 v k.ms.length (k.ms.map iv) ∧ Below base w w'
set_option maxHeartbeats 800000 in
set_option maxRecDepth 20000 in
theorem toW_any (k : Wk) (m : Value) (w : World) (hv : ReadsI w m k.ms) (hn : k.ms.length ≤ 1048576) :
    Calls Tryd.prog 7 #[wkv k m] w (OwnsW w.heap.size k w) := by
  have HT := Lib.hid (fun v w hv => toI_any v k.ms w hv hn)
  have HV := Lib.hid hv
  obtain ⟨ma, mc, rfl, _⟩ := hv
  generalize hml : k.ms.length = ml at *
  have hB0 := below_new w (.cells #[.int .i64 k.s, .int .i64 k.f, .int .i64 k.d, .slice ma ml mc] 26)
  have hB1 := hB0.trans ((below_new _ (.cells #[.int .i64 0, .int .i64 0, .int .i64 0, .slice none 0 0] 32)).mono (by simp))
  have hB2 := hB1.trans ((below_new _ (.cells #[.int .i64 k.s, .int .i64 k.f, .int .i64 k.d, .slice none 0 0] 32)).mono (by simp; omega))
  have HB := Lib.hid hB2
  have HV2 := Lib.hid (HV.out.below hB2)
  have HB1 := Lib.hid ((blk_at (w.alloc (.cells #[.int .i64 k.s, .int .i64 k.f, .int .i64 k.d, .slice ma ml mc] 26)) #[.int .i64 0, .int .i64 0, .int .i64 0, .slice none 0 0] 32 (w.heap.size + 1) (by simp)).below (below_new _ (.cells #[.int .i64 k.s, .int .i64 k.f, .int .i64 k.d, .slice none 0 0] 32)))
  have HB2 := Lib.hid (blk_at ((w.alloc (.cells #[.int .i64 k.s, .int .i64 k.f, .int .i64 k.d, .slice ma ml mc] 26)).alloc (.cells #[.int .i64 0, .int .i64 0, .int .i64 0, .slice none 0 0] 32)) #[.int .i64 k.s, .int .i64 k.f, .int .i64 k.d, .slice none 0 0] 32 (w.heap.size + 1 + 1) (by simp))
  have HML := Lib.hid hml
  clear hml hB0 hB1 hB2 HV
  unfold wkv
  go_enter Tryd.func7, Tryd.ntmps7
  go_wp2_with fail
  refine (HT.out _ _ HV2.out).mono ?_
  rintro e w1 ⟨v, rfl, ho, hb⟩
  obtain ⟨va, vc, hvs, _⟩ := owns_shape ho
  rw [HML.out] at hvs ho
  subst hvs
  have HO := Lib.hid ho
  have HB1 := Lib.hid (HB1.out.below hb)
  have HB2 := Lib.hid (HB2.out.below hb)
  have HB := Lib.hid (HB.out.trans (hb.mono HB.out.size))
  clear ho hb
  have a0 := HB1.out.cell 0
  have a1 := HB1.out.cell 1
  have a2 := HB1.out.cell 2
  have a3 := HB1.out.cell 3
  have b0 := HB1.out.free 0
  have b1 := HB1.out.free 1
  have b2 := HB1.out.free 2
  have b3 := HB1.out.free 3
  have c0 := HB2.out.cell 0
  have c1 := HB2.out.cell 1
  have c2 := HB2.out.cell 2
  have c3 := HB2.out.cell 3
  have d3 := HB2.out.free 3
  go_wp2_with fail
  refine bodyPost_ret (v := .agg #[.int .i64 k.s, .int .i64 k.f, .int .i64 k.d, .slice va ml vc]) (by simp [results, Tryd.results7, go_sem, a0, a1, a2, a3]) rfl ⟨.slice va ml vc, rfl, ?_, ?_⟩
  · rw [HML.out]
    refine owns_lower (base := w.heap.size + 3) ?_ (by omega)
    repeat refine ownsRow_setCell_below ?_ (by show _ < w.heap.size + 3; simp; try omega) _
    exact owns_lower HO.out (by simp)
  · repeat refine Below.setCell ?_ (by show w.heap.size ≤ _; simp; try omega) _
    exact HB.out
set_option maxHeartbeats 800000 in
theorem eqW_any (k : Wk) (v1 v2 : Value) (w : World) (h1 : ReadsI w v1 k.ms) (h2 : ReadsI w v2 k.ms) :
    Calls Tryd.prog 9 #[wkv k v1, wkv k v2] w fun e w' => e = .returned (.bool true) ∧ Below w.heap.size w w' := by
  have HE := Lib.hid (fun w h1 h2 => eqI_below v1 v2 k.ms w h1 h2)
  have HB := Lib.hid ((below_new w (.cells #[.int .i64 k.s, .int .i64 k.f, .int .i64 k.d, v1] 32)).trans ((below_new _ (.cells #[.int .i64 k.s, .int .i64 k.f, .int .i64 k.d, v2] 32)).mono (by simp)))
  have H1 := Lib.hid h1
  have H2 := Lib.hid h2
  obtain ⟨a1, c1, rfl, _⟩ := h1
  obtain ⟨a2, c2, rfl, _⟩ := h2
  generalize hml : k.ms.length = ml at *
  clear hml
  unfold wkv
  go_enter Tryd.func9, Tryd.ntmps9
  go_wp2_with fail
  refine (HE.out _ (H1.out.below HB.out) (H2.out.below HB.out)).mono ?_
  rintro e w1 ⟨rfl, hb⟩
  have HB2 := Lib.hid (HB.out.trans (hb.mono HB.out.size))
  clear hb
  go_wp2_with fail
  go_ret
  exact ⟨rfl, HB2.out⟩
end Go.Proofs.YtiokgnabiidlbaaDoor
