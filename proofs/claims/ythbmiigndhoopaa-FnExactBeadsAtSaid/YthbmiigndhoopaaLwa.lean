/-
  What is proved: the contracts of the laws' own helpers on wires: szWire, toWire, eqWire, markWire, heldWire. Conditions: those of each contract.
-/
import Derived.Test.YthbmiigndhoopaaLnm
import Derived.Test.YthbmiigndhoopaaLnw
import Derived.Test.YthbmiigndhoopaaTbb
namespace Go.Proofs.Ythbmiigndhoopaa
open Go.RowKit
set_option linter.unusedVariables false
set_option linter.unusedSimpArgs false

/-- a wire as a value -/
abbrev wrV (L : Int) (v u : Value) : Value := .agg #[.int .i64 L, v, u]
abbrev wrC (L : Int) (v u : Value) : Array Value := #[.int .i64 L, v, u]
/-- two lists of their own, in blocks from lo to hi, apart from each other -/
structure OwnWr (lo hi : Nat) (v u : Value) (ps ds : List Int) (w : World) : Prop where
  pl : w.ownsRow lo 3 1 v ps.length (ps.map iv)
  wy : w.ownsRow lo 3 1 u ds.length (ds.map iv)
  apart : ∀ b, v.ownBlock = some b → u.ownBlock = some b → False
  hp : ∀ b, v.ownBlock = some b → b < hi
  hd : ∀ b, u.ownBlock = some b → b < hi
theorem OwnWr.below {lo hi : Nat} {v u : Value} {ps ds : List Int} {w w' : World} (h : OwnWr lo hi v u ps ds w) (hb : Below w.heap.size w w') : OwnWr lo hi v u ps ds w' :=
  ⟨owns_below h.pl hb, owns_below h.wy hb, h.apart, h.hp, h.hd⟩
theorem OwnWr.chg {lo hi lo' hi' : Nat} {v u : Value} {ps ds : List Int} {w w' : World} (h : OwnWr lo hi v u ps ds w) (hg : ChgIn lo' hi' w w') (hr : hi ≤ lo' ∨ hi' ≤ lo) : OwnWr lo hi v u ps ds w' :=
  ⟨row_chg h.pl hg (fun b hb => by have := h.hp b hb; have := (owns_block h.pl b hb).1; omega), row_chg h.wy hg (fun b hb => by have := h.hd b hb; have := (owns_block h.wy b hb).1; omega), h.apart, h.hp, h.hd⟩
theorem OwnWr.lower {lo lo' hi hi' : Nat} {v u : Value} {ps ds : List Int} {w : World} (h : OwnWr lo hi v u ps ds w) (h1 : lo' ≤ lo) (h2 : hi ≤ hi') : OwnWr lo' hi' v u ps ds w :=
  ⟨owns_lower h.pl h1, owns_lower h.wy h1, h.apart, fun b hb => Nat.lt_of_lt_of_le (h.hp b hb) h2, fun b hb => Nat.lt_of_lt_of_le (h.hd b hb) h2⟩
theorem OwnWr.readsP {lo hi : Nat} {v u : Value} {ps ds : List Int} {w : World} (h : OwnWr lo hi v u ps ds w) (hn : ps.length + ds.length ≤ 1048576) : ReadsI w v ps := owns_reads h.pl (by unfold maxLen; omega)
theorem OwnWr.readsD {lo hi : Nat} {v u : Value} {ps ds : List Int} {w : World} (h : OwnWr lo hi v u ps ds w) (hn : ps.length + ds.length ≤ 1048576) : ReadsI w u ds := owns_reads h.wy (by unfold maxLen; omega)
theorem OwnWr.shape {lo hi : Nat} {v u : Value} {ps ds : List Int} {w : World} (h : OwnWr lo hi v u ps ds w) : (∃ a c, v = .slice a ps.length c) ∧ (∃ a c, u = .slice a ds.length c) := by
  obtain ⟨a, c, h1, _⟩ := owns_shape h.pl
  obtain ⟨a2, c2, h2, _⟩ := owns_shape h.wy
  exact ⟨⟨a, c, h1⟩, ⟨a2, c2, h2⟩⟩
theorem mts_map (K n : Nat) : ((mts K n).map iv).length = n := by rw [List.length_map, mts_len]
theorem szJ_yes (v : Value) (xs : List Int) (l : Nat) (w : World) (hv : ReadsI w v xs) (hl : l ≤ 1048576) (h : xs.length ≤ l) :
    Calls Try.prog 72 #[v, .int .i64 l] w fun e w' => e = .returned (.int .i64 ((l - xs.length : Nat) : Int)) ∧ w' = w := by
  obtain ⟨y, c, rfl, hc, hm, hx⟩ := hv
  unfold maxLen at hm
  clear hx
  obtain ⟨r, hr⟩ : ∃ r : Nat, (l : Int) - xs.length = r := ⟨l - xs.length, by omega⟩
  have e : ((l - xs.length : Nat) : Int) = (l : Int) - xs.length := by omega
  rw [e]
  have h1 : 0 ≤ (l : Int) - xs.length := by omega
  have h2 : ¬ (l : Int) - xs.length < 0 := by omega
  have h3 : ¬ (l : Int) < xs.length := by omega
  have h4 : (xs.length : Int) ≤ l := by omega
  clear e hr
  go_enter Try.func72, Try.ntmps72
  go_wp2
  go_ret
  exact ⟨rfl, rfl⟩
theorem szJ_no (v : Value) (xs : List Int) (l : Nat) (w : World) (hv : ReadsI w v xs) (hl : l ≤ 1048576) (h : l < xs.length) :
    Calls Try.prog 72 #[v, .int .i64 l] w fun e w' => e = .returned (.int .i64 (-1)) ∧ w' = w := by
  obtain ⟨y, c, rfl, hc, hm, hx⟩ := hv
  unfold maxLen at hm
  clear hx
  have h1 : ¬ 0 ≤ (l : Int) - xs.length := by omega
  have h2 : (l : Int) - xs.length < 0 := by omega
  have h3 : (l : Int) < xs.length := by omega
  go_enter Try.func72, Try.ntmps72
  go_wp2
  go_ret
  exact ⟨rfl, rfl⟩
theorem szWr_yes (L : Int) (v u : Value) (ps ds : List Int) (l : Nat) (w : World) (hv : ReadsI w v ps) (hu : ReadsI w u ds) (hl : l ≤ 1048576) (h : ps.length + ds.length ≤ l) :
    Calls Try.prog 41 #[wrV L v u, .int .i64 l] w fun e w' => e = .returned (.int .i64 ((l - ps.length - ds.length : Nat) : Int)) ∧ Below w.heap.size w w' := by
  have HS := Lib.hid (fun w hv => szJ_yes v ps l w hv hl (by omega))
  have HS2 := Lib.hid (fun w hv => szJ_yes u ds (l - ps.length) w hv (by omega) (by omega))
  have HV := Lib.hid (hv.below (below_new w (.cells (wrC L v u) 36)))
  have HU := Lib.hid (hu.below (below_new w (.cells (wrC L v u) 36)))
  have h1 : 0 ≤ ((l - ps.length : Nat) : Int) := by omega
  have h2 : ¬ ((l - ps.length : Nat) : Int) < 0 := by omega
  have h3 : 0 ≤ ((l - ps.length - ds.length : Nat) : Int) := by omega
  have h4 : ¬ ((l - ps.length - ds.length : Nat) : Int) < 0 := by omega
  obtain ⟨ma, mc, rfl, _⟩ := hv
  obtain ⟨ua, uc, rfl, _⟩ := hu
  generalize l - ps.length = r at *
  generalize r - ds.length = r2 at *
  unfold wrV wrC at *
  go_enter Try.func41, Try.ntmps41
  go_wp2_with fail
  refine (HS.out _ HV.out).mono ?_
  rintro e w1 ⟨rfl, rfl⟩
  go_wp2_with fail
  refine (HS2.out _ HU.out).mono ?_
  rintro e w1 ⟨rfl, rfl⟩
  go_wp2_with fail
  go_ret
  exact ⟨rfl, below_new w _⟩
theorem szWr_no (L : Int) (v u : Value) (ps ds : List Int) (l : Nat) (w : World) (hv : ReadsI w v ps) (hu : ReadsI w u ds) (hl : l ≤ 1048576) (h : l < ps.length + ds.length) :
    Calls Try.prog 41 #[wrV L v u, .int .i64 l] w fun e w' => e = .returned (.int .i64 (-1)) ∧ Below w.heap.size w w' := by
  have HV := Lib.hid (hv.below (below_new w (.cells (wrC L v u) 36)))
  have HU := Lib.hid (hu.below (below_new w (.cells (wrC L v u) 36)))
  by_cases hq : l < ps.length
  · have HS := Lib.hid (fun w hv => szJ_no v ps l w hv hl hq)
    obtain ⟨ma, mc, rfl, _⟩ := hv
    obtain ⟨ua, uc, rfl, _⟩ := hu
    unfold wrV wrC at *
    go_enter Try.func41, Try.ntmps41
    go_wp2_with fail
    refine (HS.out _ HV.out).mono ?_
    rintro e w1 ⟨rfl, rfl⟩
    go_wp2_with fail
    go_ret
    exact ⟨rfl, below_new w _⟩
  · have HS := Lib.hid (fun w hv => szJ_yes v ps l w hv hl (by omega))
    have HS2 := Lib.hid (fun w hv => szJ_no u ds (l - ps.length) w hv (by omega) (by omega))
    have h1 : 0 ≤ ((l - ps.length : Nat) : Int) := by omega
    have h2 : ¬ ((l - ps.length : Nat) : Int) < 0 := by omega
    obtain ⟨ma, mc, rfl, _⟩ := hv
    obtain ⟨ua, uc, rfl, _⟩ := hu
    generalize l - ps.length = r at *
    unfold wrV wrC at *
    go_enter Try.func41, Try.ntmps41
    go_wp2_with fail
    refine (HS.out _ HV.out).mono ?_
    rintro e w1 ⟨rfl, rfl⟩
    go_wp2_with fail
    refine (HS2.out _ HU.out).mono ?_
    rintro e w1 ⟨rfl, rfl⟩
    go_wp2_with fail
    go_ret
    exact ⟨rfl, below_new w _⟩
set_option maxHeartbeats 1600000 in
set_option maxRecDepth 20000 in
theorem toWr_any (L : Int) (v u : Value) (ps ds : List Int) (w : World) (hv : ReadsI w v ps) (hu : ReadsI w u ds) (hn : ps.length + ds.length ≤ 1048576) :
    Calls Try.prog 43 #[wrV L v u] w fun e w' => ∃ v' u', e = .returned (wrV L v' u') ∧ OwnWr w.heap.size w'.heap.size v' u' ps ds w' ∧ Below w.heap.size w w' := by
  have HT := Lib.hid (fun w hv => toI_any v ps w hv (by omega))
  have HT2 := Lib.hid (fun w hv => toI_any u ds w hv (by omega))
  have HV := Lib.hid hv
  have HU := Lib.hid hu
  obtain ⟨ma, mc, rfl, _⟩ := hv
  obtain ⟨ua, uc, rfl, _⟩ := hu
  generalize hpl : ps.length = pl at *
  generalize hdl : ds.length = dl at *
  have hB0 := below_new w (.cells (wrC L (.slice ma pl mc) (.slice ua dl uc)) 36)
  have hB1 := hB0.trans ((below_new _ (.cells (wrC 0 (.slice none 0 0) (.slice none 0 0)) 39)).mono (by simp))
  have hB2 := hB1.trans ((below_new _ (.cells (wrC L (.slice none 0 0) (.slice none 0 0)) 39)).mono (by simp; omega))
  have HB := Lib.hid hB2
  have HBX := Lib.hid (((blk_new w (wrC L (.slice ma pl mc) (.slice ua dl uc)) 36).below (below_new _ (.cells (wrC 0 (.slice none 0 0) (.slice none 0 0)) 39))).below (below_new _ (.cells (wrC L (.slice none 0 0) (.slice none 0 0)) 39)))
  have HB1 := Lib.hid ((blk_at (w.alloc (.cells (wrC L (.slice ma pl mc) (.slice ua dl uc)) 36)) (wrC 0 (.slice none 0 0) (.slice none 0 0)) 39 (w.heap.size + 1) (by simp)).below (below_new _ (.cells (wrC L (.slice none 0 0) (.slice none 0 0)) 39)))
  have HB2 := Lib.hid (blk_at ((w.alloc (.cells (wrC L (.slice ma pl mc) (.slice ua dl uc)) 36)).alloc (.cells (wrC 0 (.slice none 0 0) (.slice none 0 0)) 39)) (wrC L (.slice none 0 0) (.slice none 0 0)) 39 (w.heap.size + 1 + 1) (by simp))
  have HSZ := Lib.hid (show (((w.alloc (.cells (wrC L (.slice ma pl mc) (.slice ua dl uc)) 36)).alloc (.cells (wrC 0 (.slice none 0 0) (.slice none 0 0)) 39)).alloc (.cells (wrC L (.slice none 0 0) (.slice none 0 0)) 39)).heap.size = w.heap.size + 3 by simp)
  have HPL := Lib.hid hpl
  have HDL := Lib.hid hdl
  clear hpl hdl hB0 hB1 hB2
  unfold wrV wrC at *
  go_enter Try.func43, Try.ntmps43
  go_wp2_with fail
  generalize (((w.alloc (Obj.cells #[Value.int IntKind.i64 L, Value.slice ma pl mc, Value.slice ua dl uc] 36)).alloc (Obj.cells #[Value.int IntKind.i64 0, Value.slice none 0 0, Value.slice none 0 0] 39)).alloc (Obj.cells #[Value.int IntKind.i64 L, Value.slice none 0 0, Value.slice none 0 0] 39)) = w1 at *
  refine (HT.out _ (HV.out.below HB.out)).mono ?_
  rintro e w2 ⟨v1, rfl, ho, hb⟩
  rw [HPL.out] at ho
  obtain ⟨a1, c1, rfl, _⟩ := owns_shape ho
  have HVB := Lib.hid (fun b hb => owns_block ho b hb)
  have HX := Lib.hid (HBX.out.below hb)
  have HB1 := Lib.hid (HB1.out.below hb)
  have hb2 := HB2.out.below hb
  have HB2 := Lib.hid hb2
  have HBW := Lib.hid (HB.out.trans (hb.mono HB.out.size))
  have HO := Lib.hid ho
  have HS2 := Lib.hid (show w.heap.size + 3 ≤ w2.heap.size by have := HSZ.out; have := hb.size; omega)
  have q2 := hb2.cell 1
  have q3 := hb2.free 1
  have e2 := (both (j := 1) (.slice a1 pl c1) HX.out (show w.heap.size ≠ w.heap.size + 1 + 1 by omega)).cell 2
  clear ho hb hb2 HB HBX
  go_wp2_with fail
  have HX := Lib.hid (both (j := 1) (.slice a1 pl c1) HX.out (show w.heap.size ≠ w.heap.size + 1 + 1 by omega))
  have HB1 := Lib.hid (both (j := 1) (.slice a1 pl c1) HB1.out (show w.heap.size + 1 ≠ w.heap.size + 1 + 1 by omega))
  have HB2 := Lib.hid (bset (j := 1) (.slice a1 pl c1) HB2.out)
  have HBW := Lib.hid (below_set (b := w.heap.size + 1 + 1) (j := 1) (.slice a1 pl c1) HBW.out (by omega))
  have HO := Lib.hid (roth (j := 1) HO.out (.slice a1 pl c1) (fun b e => show b ≠ w.heap.size + 1 + 1 by have := (HVB.out b e).1; have := HSZ.out; omega))
  have HS3 := Lib.hid (show (w2.setCell ⟨w.heap.size + 1 + 1, 1, none⟩ (.slice a1 pl c1)).heap.size = w2.heap.size by simp)
  generalize w2.setCell ⟨w.heap.size + 1 + 1, 1, none⟩ (.slice a1 pl c1) = w3 at *
  refine (HT2.out _ (HU.out.below HBW.out)).mono ?_
  rintro e w4 ⟨v2, rfl, ho, hb⟩
  rw [HDL.out] at ho
  obtain ⟨a2, c2, rfl, _⟩ := owns_shape ho
  have HUB := Lib.hid (fun b hb => owns_block ho b hb)
  have HB1 := Lib.hid (HB1.out.below hb)
  have hb2 := HB2.out.below hb
  have HB2 := Lib.hid hb2
  have HBW := Lib.hid (HBW.out.trans (hb.mono HBW.out.size))
  have HO := Lib.hid (owns_below HO.out hb)
  have HO2 := Lib.hid ho
  have q2 := hb2.cell 2
  have q3 := hb2.free 2
  have hs4 := hb.size
  have HS4 := Lib.hid hs4
  have r0 := (bset (j := 2) (.slice a2 dl c2) HB2.out).cell 0
  have r1 := (bset (j := 2) (.slice a2 dl c2) HB2.out).cell 1
  have r2 := (bset (j := 2) (.slice a2 dl c2) HB2.out).cell 2
  have t0 := (both (j := 2) (.slice a2 dl c2) HB1.out (show w.heap.size + 1 ≠ w.heap.size + 1 + 1 by omega)).cell 0
  have t1 := (both (j := 2) (.slice a2 dl c2) HB1.out (show w.heap.size + 1 ≠ w.heap.size + 1 + 1 by omega)).cell 1
  have t2 := (both (j := 2) (.slice a2 dl c2) HB1.out (show w.heap.size + 1 ≠ w.heap.size + 1 + 1 by omega)).cell 2
  have f0 := (both (j := 2) (.slice a2 dl c2) HB1.out (show w.heap.size + 1 ≠ w.heap.size + 1 + 1 by omega)).free 0
  have f1 := (both (j := 2) (.slice a2 dl c2) HB1.out (show w.heap.size + 1 ≠ w.heap.size + 1 + 1 by omega)).free 1
  have f2 := (both (j := 2) (.slice a2 dl c2) HB1.out (show w.heap.size + 1 ≠ w.heap.size + 1 + 1 by omega)).free 2
  clear ho hb hb2 hs4
  go_wp2_with fail
  have HR := bset3 (.int .i64 L) (.slice a1 pl c1) (.slice a2 dl c2) (both (j := 2) (.slice a2 dl c2) HB1.out (show w.heap.size + 1 ≠ w.heap.size + 1 + 1 by omega))
  have z0 := HR.cell 0
  have z1 := HR.cell 1
  have z2 := HR.cell 2
  have n1 : ∀ b, (Value.slice a1 pl c1).ownBlock = some b → w.heap.size + 3 ≤ b ∧ b < w3.heap.size := fun b e => by have := HVB.out b e; have := HSZ.out; have := HS3.out; omega
  have n2 : ∀ b, (Value.slice a2 dl c2).ownBlock = some b → w3.heap.size ≤ b ∧ b < w4.heap.size := fun b e => HUB.out b e
  have n3 : w.heap.size + 3 ≤ w3.heap.size := by have := HS2.out; have := HS3.out; omega
  have n4 : w3.heap.size ≤ w4.heap.size := HS4.out
  refine bodyPost_ret (v := wrV L (.slice a1 pl c1) (.slice a2 dl c2)) (by simp [results, Try.results43, go_sem, z0, z1, z2]) rfl ⟨.slice a1 pl c1, .slice a2 dl c2, rfl, ⟨?_, ?_, ?_, ?_, ?_⟩, ?_⟩
  · rw [HPL.out]
    exact roth3 (roth (owns_lower HO.out (by have := HSZ.out; omega)) _ (fun b e => by have := n1 b e; omega)) _ _ _ (fun b e => by have := n1 b e; omega)
  · rw [HDL.out]
    exact roth3 (roth (owns_lower HO2.out (by omega)) _ (fun b e => by have := n2 b e; omega)) _ _ _ (fun b e => by have := n2 b e; omega)
  · intro b e e2
    have := n1 b e
    have := n2 b e2
    omega
  · intro b e
    have := n1 b e
    simp
    omega
  · intro b e
    have := n2 b e
    simp
    omega
  · exact lset3 _ _ _ (below_set _ HBW.out (by omega)) (by omega)
set_option maxHeartbeats 800000 in
theorem eqWr_any (L : Int) (v1 u1 v2 u2 : Value) (ps ds : List Int) (w : World) (h1 : ReadsI w v1 ps) (g1 : ReadsI w u1 ds) (h2 : ReadsI w v2 ps) (g2 : ReadsI w u2 ds) :
    Calls Try.prog 45 #[wrV L v1 u1, wrV L v2 u2] w fun e w' => e = .returned (.bool true) ∧ Below w.heap.size w w' := by
  have HE := Lib.hid (fun w h1 h2 => eqI_below v1 v2 ps w h1 h2)
  have HE2 := Lib.hid (fun w h1 h2 => eqI_below u1 u2 ds w h1 h2)
  have HB := Lib.hid ((below_new w (.cells (wrC L v1 u1) 39)).trans ((below_new _ (.cells (wrC L v2 u2) 39)).mono (by simp)))
  have HX := Lib.hid ((blk_new w (wrC L v1 u1) 39).below (below_new _ (.cells (wrC L v2 u2) 39)))
  have HY := Lib.hid (blk_at (w.alloc (.cells (wrC L v1 u1) 39)) (wrC L v2 u2) 39 (w.heap.size + 1) (by simp))
  have H1 := Lib.hid h1
  have H2 := Lib.hid h2
  have G1 := Lib.hid g1
  have G2 := Lib.hid g2
  obtain ⟨a1, c1, rfl, _⟩ := h1
  obtain ⟨a2, c2, rfl, _⟩ := h2
  obtain ⟨b1, d1, rfl, _⟩ := g1
  obtain ⟨b2, d2, rfl, _⟩ := g2
  generalize hml : ps.length = ml at *
  generalize hdl : ds.length = dl at *
  clear hml hdl
  unfold wrV wrC at *
  have x1 := HX.out.cell 1
  have y1 := HY.out.cell 1
  go_enter Try.func45, Try.ntmps45
  go_wp2_with fail
  refine (HE.out _ (H1.out.below HB.out) (H2.out.below HB.out)).mono ?_
  rintro e w1 ⟨rfl, hb⟩
  have x2 := (HX.out.below hb).cell 2
  have y2 := (HY.out.below hb).cell 2
  have HB2 := Lib.hid (HB.out.trans (hb.mono HB.out.size))
  clear hb x1 y1
  go_wp2_with fail
  refine (HE2.out _ (G1.out.below HB2.out) (G2.out.below HB2.out)).mono ?_
  rintro e w2 ⟨rfl, hb⟩
  have HB3 := Lib.hid (HB2.out.trans (hb.mono HB2.out.size))
  clear hb
  go_wp2_with fail
  go_ret
  exact ⟨rfl, HB3.out⟩
theorem OwnWr.mark {lo hi : Nat} {L : Int} {v u : Value} {ps ds : List Int} {K : Nat} {w : World} (h : OwnWr lo hi v u ps ds w) (hn : ps.length + ds.length ≤ 1048576) (hK : K ≤ 10) :
    Calls Try.prog 48 #[wrV L v u, .int .i64 K] w fun e w' => e = .returned (.int .i64 ((K + (ps.length + ds.length) : Nat) : Int)) ∧ ChgIn lo hi w w' ∧ OwnWr lo hi v u (mts K ps.length) (mts (K + ps.length) ds.length) w' := by
  have HM := Lib.hid (fun w ho => mark_list v ps lo K w ho (by omega) (by omega))
  have HM2 := Lib.hid (fun w ho => mark_list u ds lo (K + ps.length) w ho (by omega) (by omega))
  have hb0 := below_new w (.cells (wrC L v u) 39)
  have HB := Lib.hid hb0
  have HO := Lib.hid (h.below hb0)
  have HBX := Lib.hid (blk_new w (wrC L v u) 39)
  obtain ⟨⟨a, c, rfl⟩, ⟨a2, c2, rfl⟩⟩ := h.shape
  have x1 := HBX.out.cell 1
  clear h hb0
  unfold wrV wrC at *
  go_enter Try.func48, Try.ntmps48
  go_wp2_with fail
  generalize hw1 : w.alloc (.cells #[.int .i64 L, .slice a ps.length c, .slice a2 ds.length c2] 39) = w1 at *
  refine (HM.out _ HO.out.pl).mono ?_
  rintro e w2 ⟨rfl, hg, ho⟩
  have HG := Lib.hid hg
  have HOP := Lib.hid ho
  have HOD := Lib.hid (rkept HO.out.wy hg (fun b e e2 => HO.out.apart b e2 e))
  have x2 := (bkept HBX.out hg (fun e => row_type HO.out.pl HBX.out (by decide) _ e rfl)).cell 2
  clear hg ho x1 hw1
  go_wp2_with fail
  refine (HM2.out _ HOD.out).mono ?_
  rintro e w3 ⟨rfl, hg, ho⟩
  have HG2 := Lib.hid hg
  have HOP := Lib.hid (rkept HOP.out hg HO.out.apart)
  have HOD := Lib.hid ho
  clear hg ho
  go_wp2_with fail
  go_ret
  have r1 : ∀ b, (Value.slice a ps.length c).ownBlock = some b → lo ≤ b ∧ b < hi := fun b e => ⟨(owns_block HO.out.pl b e).1, HO.out.hp b e⟩
  have r2 : ∀ b, (Value.slice a2 ds.length c2).ownBlock = some b → lo ≤ b ∧ b < hi := fun b e => ⟨(owns_block HO.out.wy b e).1, HO.out.hd b e⟩
  refine ⟨ret_int (by omega), ((ChgIn.of_below HB.out).trans (ChgIn.of_grown HG.out r1)).trans (ChgIn.of_grown HG2.out r2), ⟨?_, ?_, HO.out.apart, HO.out.hp, HO.out.hd⟩⟩
  · rw [mts_len]
    exact HOP.out
  · rw [mts_len]
    exact HOD.out
theorem heldWr_any (L : Int) (v u : Value) (n m K : Nat) (w : World) (hv : ReadsI w v (mts K n)) (hu : ReadsI w u (mts (K + n) m)) (hn : n + m ≤ 1048576) (hK : K ≤ 10) :
    Calls Try.prog 59 #[wrV L v u, .int .i64 K] w fun e w' => e = .returned (.int .i64 ((K + (n + m) : Nat) : Int)) ∧ Below w.heap.size w w' := by
  have HH := Lib.hid (fun w hv => held_any v n K w hv (by omega) (by omega))
  have HH2 := Lib.hid (fun w hv => held_any u m (K + n) w hv (by omega) (by omega))
  have HV := Lib.hid (hv.below (below_new w (.cells (wrC L v u) 39)))
  have HU := Lib.hid (hu.below (below_new w (.cells (wrC L v u) 39)))
  obtain ⟨a, c, rfl, _⟩ := hv
  obtain ⟨a2, c2, rfl, _⟩ := hu
  generalize (mts K n).length = l at *
  generalize (mts (K + n) m).length = l2 at *
  have h1 : 0 ≤ ((K + n : Nat) : Int) := by omega
  have h2 : ¬ ((K + n : Nat) : Int) < 0 := by omega
  have h3 : 0 ≤ ((K + n + m : Nat) : Int) := by omega
  have h4 : ¬ ((K + n + m : Nat) : Int) < 0 := by omega
  rw [← Nat.add_assoc]
  generalize K + n = r at *
  generalize r + m = r2 at *
  unfold wrV wrC at *
  go_enter Try.func59, Try.ntmps59
  go_wp2_with fail
  refine (HH.out _ HV.out).mono ?_
  rintro e w1 ⟨rfl, rfl⟩
  go_wp2_with fail
  refine (HH2.out _ HU.out).mono ?_
  rintro e w1 ⟨rfl, rfl⟩
  go_wp2_with fail
  go_ret
  exact ⟨rfl, below_new w _⟩
end Go.Proofs.Ythbmiigndhoopaa
