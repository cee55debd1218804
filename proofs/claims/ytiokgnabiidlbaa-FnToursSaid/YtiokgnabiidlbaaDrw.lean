/-
  What is proved: contracts of the draws of roads and places. Conditions: those of each contract.
-/
import Derived.Test.YtiokgnabiidlbaaCur
namespace Go.Proofs.Ytiokgnabiidlbaa
open Go.RowKit
set_option linter.unusedVariables false
set_option linter.unusedSimpArgs false

theorem CurOK.low {base b t N : Nat} {w w' : World} (h : CurOK base b t w) (hN : b < N) (hb : Below N w w') : CurOK base b t w' := by
  obtain ⟨a, n, cp, p, sd, hc, hp, hn, hbb, hx⟩ := h
  refine ⟨a, n, cp, p, sd, (hb.block b hN).trans hc, hp, hn, hbb, fun j hj => ?_⟩
  obtain ⟨b', o, x, ha, hlt, hcell, h0, h1⟩ := hx j hj
  exact ⟨b', o, x, ha, hlt, (hb.cell (p := ⟨b', o + j, none⟩) (by show b' < _; omega)).trans hcell, h0, h1⟩
theorem grown_low {w w1 w' : World} {r : Option Nat} (h : w.grownBy w1 r) (hb : Below w.heap.size w1 w') : w.grownBy w' r :=
  ⟨hb.os.trans h.os, hb.tape.trans h.tape, hb.output.trans h.output, Nat.le_trans h.size hb.size, fun k hk hne => (hb.block k hk).trans (h.block k hk hne)⟩
/-- a drawn size -/
def SizeOk (r : Int) : Prop := -1 ≤ r ∧ r ≤ 4611686018427387904
def sizesA : List Int := [1, 2, 24, 25, 0, -1, 4611686018427387904]
def sizesB : List Int := [5, 6, 4, 8, 3, 10, 7, 13, 24, 2]
theorem sizesA_ok (x : Int) (h : x ∈ sizesA) : SizeOk x := by
  simp [sizesA] at h
  unfold SizeOk
  omega
theorem sizesB_ok (x : Int) (h : x ∈ sizesB) : SizeOk x := by
  simp [sizesB] at h
  unfold SizeOk
  omega
set_option maxHeartbeats 400000 in
theorem size_any (base b t : Nat) (w : World) (h : CurOK base b t w) (ht : t ≤ 90000) :
    Calls Try.prog 94 #[.pointer (some ⟨b, 0, none⟩)] w (Drew SizeOk base b (t + 4) w) := by
  have H := Lib.hid h
  clear h
  go_enter Try.func94, Try.ntmps94
  go_wp2_with fail
  refine (one_any base b t 40 w H.out (by omega) (by omega) (by omega)).mono ?_
  rintro e w1 ⟨⟨z, rfl⟩, hc, hg⟩
  have HC := Lib.hid hc
  have HG := Lib.hid hg
  clear hc hg
  cases z
  · go_wp2_with fail
    refine (among_lit base b (t + 2) 10 _ sizesB _ w1 ?hcs rfl rfl HC.out (by omega) (by omega) (by omega)).mono ?_
    case hcs => rfl
    rintro e w2 ⟨r, rfl, hm, hc, hg⟩
    have HM := Lib.hid (sizesB_ok r hm)
    have HC2 := Lib.hid hc
    have HG2 := Lib.hid (grown_trans HG.out hg)
    clear hm hc hg
    go_wp2_with fail
    go_ret
    exact ⟨r, rfl, HM.out, HC2.out, HG2.out⟩
  · go_wp2_with fail
    refine (among_lit base b (t + 2) 7 _ sizesA _ w1 ?hcs2 rfl rfl HC.out (by omega) (by omega) (by omega)).mono ?_
    case hcs2 => rfl
    rintro e w2 ⟨r, rfl, hm, hc, hg⟩
    have HM := Lib.hid (sizesA_ok r hm)
    have HC2 := Lib.hid hc
    have HG2 := Lib.hid (grown_trans HG.out hg)
    clear hm hc hg
    go_wp2_with fail
    go_ret
    exact ⟨r, rfl, HM.out, HC2.out, HG2.out⟩
/-- what a draw of a road leaves -/
def DrewR (base b t : Nat) (w : World) (e : Ending) (w' : World) : Prop :=
  ∃ (n : Int) (g : Bool), e = .returned (rd n g) ∧ SizeOk n ∧ CurOK base b t w' ∧ w.grownBy w' (some b)
theorem block_new {w w1 : World} {b : Nat} {o : Obj} (hlt : b < w.heap.size) (h : (w.alloc o).grownBy w1 (some b)) : w1.heap[w.heap.size]? = some o := by
  have h0 : (w.alloc o).heap[w.heap.size]? = some o := (MapKept.heap_alloc w o).1
  exact (h.block w.heap.size (Array.getElem?_eq_some_iff.1 h0).1 (by intro e; cases e; omega)).trans h0
set_option maxHeartbeats 800000 in
theorem line_any (base b t : Nat) (w : World) (h : CurOK base b t w) (ht : t ≤ 90000) :
    Calls Try.prog 62 #[.pointer (some ⟨b, 0, none⟩)] w (DrewR base b (t + 4) w) := by
  have H := Lib.hid h
  clear h
  go_enter Try.func62, Try.ntmps62
  go_wp2_with fail
  refine (size_any base b t _ (H.out.alloc _ H.out.base) ht).mono ?_
  rintro e w1 ⟨n, rfl, hn, hc, hg⟩
  have hB := block_new H.out.lt hg
  have h0 : w1.cell? ⟨w.heap.size, 0, none⟩ = some (.int .i64 0) := cell_of_block hB 0
  have h1 : w1.cell? ⟨w.heap.size, 1, none⟩ = some (.bool false) := cell_of_block hB 1
  have f0 := frozen_of_block hB 0
  have f1 := frozen_of_block hB 1
  have HN := Lib.hid hn
  have HC := Lib.hid hc
  have HG := Lib.hid (grown_trans (grown_alloc w _ _) hg)
  clear hn hc hg hB
  go_wp2
  refine bodyPost_ret (v := .agg #[.int .i64 n, .bool false]) (by simp [results, Try.results62, go_sem, h0, h1]) rfl ⟨n, false, rfl, HN.out, ?_, ?_⟩
  · exact HC.out.low H.out.lt (((Below.refl _ _).setCell (p := ⟨w.heap.size, 0, none⟩) (Nat.le_refl _) _).setCell (p := ⟨w.heap.size, 1, none⟩) (Nat.le_refl _) _)
  · exact grown_low HG.out (((Below.refl _ _).setCell (p := ⟨w.heap.size, 0, none⟩) (Nat.le_refl _) _).setCell (p := ⟨w.heap.size, 1, none⟩) (Nat.le_refl _) _)
--ADD
set_option maxHeartbeats 800000 in
theorem ring_any (base b t : Nat) (w : World) (h : CurOK base b t w) (ht : t ≤ 80000) :
    Calls Try.prog 61 #[.pointer (some ⟨b, 0, none⟩)] w (DrewR base b (t + 6) w) := by
  have H := Lib.hid h
  clear h
  go_enter Try.func61, Try.ntmps61
  go_wp2_with fail
  refine (size_any base b t _ (H.out.alloc _ H.out.base) (by omega)).mono ?_
  rintro e w1 ⟨n, rfl, hn, hc, hg⟩
  have HR := Lib.hid (block_new H.out.lt hg)
  have HN := Lib.hid hn
  have HC := Lib.hid hc
  have HG := Lib.hid (grown_trans (grown_alloc w _ _) hg)
  clear hn hc hg
  have hA : ∀ v, (w1.alloc (.cells #[.int .i64 n, .bool v] 25)).heap[w.heap.size]? = some (.cells #[.int .i64 0, .bool false] 25 (0, 0)) := fun v =>
    ((below_new w1 _).block w.heap.size (Array.getElem?_eq_some_iff.1 HR.out).1).trans HR.out
  have HCA := Lib.hid (HC.out.alloc (.cells #[.int .i64 n, .bool true] 25) HC.out.base)
  have HGA := Lib.hid (grown_trans HG.out (grown_alloc w1 (.cells #[.int .i64 n, .bool true] 25) (some b)))
  have HLA := Lib.hid (MapKept.heap_alloc w1 (.cells #[.int .i64 n, .bool true] 25)).1
  have HA := Lib.hid (hA true)
  clear hA
  by_cases h2 : n = 2
  · subst h2
    go_wp2_with fail
    refine (one_any base b (t + 4) 4 _ HCA.out (by omega) (by omega) (by omega)).mono ?_
    rintro e w2 ⟨⟨z, rfl⟩, hc, hg⟩
    have HR2 := Lib.hid ((hg.block _ (Array.getElem?_eq_some_iff.1 HA.out).1 (by intro e; cases e; exact absurd H.out.lt (by omega))).trans HA.out)
    have HL2 := Lib.hid ((hg.block _ (Array.getElem?_eq_some_iff.1 HLA.out).1 (by intro e; cases e; exact absurd HC.out.lt (by omega))).trans HLA.out)
    have HC2 := Lib.hid hc
    have HG2 := Lib.hid (grown_trans HGA.out hg)
    have hsz := (Array.getElem?_eq_some_iff.1 HR.out).1
    have r0 : w2.cell? ⟨w.heap.size, 0, none⟩ = some (.int .i64 0) := cell_of_block HR2.out 0
    have r1 : w2.cell? ⟨w.heap.size, 1, none⟩ = some (.bool false) := cell_of_block HR2.out 1
    have f0 := frozen_of_block HR2.out 0
    have f1 := frozen_of_block HR2.out 1
    have l0 : w2.cell? ⟨w1.heap.size, 0, none⟩ = some (.int .i64 2) := cell_of_block HL2.out 0
    have l1 : w2.cell? ⟨w1.heap.size, 1, none⟩ = some (.bool true) := cell_of_block HL2.out 1
    have g0 := frozen_of_block HL2.out 0
    have hne : ¬ w.heap.size = w1.heap.size := by omega
    have hne2 : ¬ w1.heap.size = w.heap.size := by omega
    have hlt := Lib.hid H.out.lt
    clear hc hg
    cases z
    · go_wp2_with fail
      refine bodyPost_ret (v := .agg #[.int .i64 3, .bool true]) (by simp [results, Try.results61, go_sem, r0, r1, hne, hne2]) rfl ⟨3, true, rfl, by unfold SizeOk; omega, ?_, ?_⟩
      · exact HC2.out.low hlt.out ((((Below.refl _ _).setCell (p := ⟨w1.heap.size, 0, none⟩) (Nat.le_of_lt hsz) _).setCell (p := ⟨w.heap.size, 0, none⟩) (Nat.le_refl _) _).setCell (p := ⟨w.heap.size, 1, none⟩) (Nat.le_refl _) _)
      · exact grown_low HG2.out ((((Below.refl _ _).setCell (p := ⟨w1.heap.size, 0, none⟩) (Nat.le_of_lt hsz) _).setCell (p := ⟨w.heap.size, 0, none⟩) (Nat.le_refl _) _).setCell (p := ⟨w.heap.size, 1, none⟩) (Nat.le_refl _) _)
    · go_wp2_with fail
      refine bodyPost_ret (v := .agg #[.int .i64 2, .bool true]) (by simp [results, Try.results61, go_sem, r0, r1]) rfl ⟨2, true, rfl, HN.out, ?_, ?_⟩
      · exact HC2.out.low hlt.out (((Below.refl _ _).setCell (p := ⟨w.heap.size, 0, none⟩) (Nat.le_refl _) _).setCell (p := ⟨w.heap.size, 1, none⟩) (Nat.le_refl _) _)
      · exact grown_low HG2.out (((Below.refl _ _).setCell (p := ⟨w.heap.size, 0, none⟩) (Nat.le_refl _) _).setCell (p := ⟨w.heap.size, 1, none⟩) (Nat.le_refl _) _)
  · have h2b : (n == 2) = false := by simp [h2]
    have r0 : (w1.alloc (.cells #[.int .i64 n, .bool true] 25)).cell? ⟨w.heap.size, 0, none⟩ = some (.int .i64 0) := cell_of_block HA.out 0
    have r1 : (w1.alloc (.cells #[.int .i64 n, .bool true] 25)).cell? ⟨w.heap.size, 1, none⟩ = some (.bool false) := cell_of_block HA.out 1
    have f0 := frozen_of_block HA.out 0
    have f1 := frozen_of_block HA.out 1
    go_wp2_with fail
    refine bodyPost_ret (v := .agg #[.int .i64 n, .bool true]) (by simp [results, Try.results61, go_sem, r0, r1]) rfl ⟨n, true, rfl, HN.out, ?_, ?_⟩
    · exact (HCA.out.more (by omega)).low H.out.lt (((Below.refl _ _).setCell (p := ⟨w.heap.size, 0, none⟩) (Nat.le_refl _) _).setCell (p := ⟨w.heap.size, 1, none⟩) (Nat.le_refl _) _)
    · exact grown_low HGA.out (((Below.refl _ _).setCell (p := ⟨w.heap.size, 0, none⟩) (Nat.le_refl _) _).setCell (p := ⟨w.heap.size, 1, none⟩) (Nat.le_refl _) _)
set_option maxHeartbeats 800000 in
theorem road_any (base b t : Nat) (w : World) (h : CurOK base b t w) (ht : t ≤ 70000) :
    Calls Try.prog 55 #[.pointer (some ⟨b, 0, none⟩)] w (DrewR base b (t + 8) w) := by
  have H := Lib.hid h
  clear h
  go_enter Try.func55, Try.ntmps55
  go_wp2_with fail
  refine (one_any base b t 2 _ (H.out.alloc _ H.out.base) (by omega) (by omega) (by omega)).mono ?_
  rintro e w1 ⟨⟨z, rfl⟩, hc, hg⟩
  have HR := Lib.hid (block_new H.out.lt hg)
  have HC := Lib.hid hc
  have HG := Lib.hid (grown_trans (grown_alloc w _ _) hg)
  have hlt := Lib.hid H.out.lt
  clear hc hg
  have fin : ∀ (n : Int) (g : Bool) (w2 : World), SizeOk n → CurOK base b (t + 8) w2 → w.grownBy w2 (some b) → DrewR base b (t + 8) w (.returned (rd n g)) ((w2.setCell ⟨w.heap.size, 0, none⟩ (.int .i64 n)).setCell ⟨w.heap.size, 1, none⟩ (.bool g)) := fun n g w2 h1 h2 h3 =>
    ⟨n, g, rfl, h1, h2.low hlt.out (((Below.refl _ _).setCell (p := ⟨w.heap.size, 0, none⟩) (Nat.le_refl _) _).setCell (p := ⟨w.heap.size, 1, none⟩) (Nat.le_refl _) _), grown_low h3 (((Below.refl _ _).setCell (p := ⟨w.heap.size, 0, none⟩) (Nat.le_refl _) _).setCell (p := ⟨w.heap.size, 1, none⟩) (Nat.le_refl _) _)⟩
  have FIN := Lib.hid fin
  clear fin
  cases z
  · go_wp2_with fail
    refine (ring_any base b (t + 2) _ HC.out (by omega)).mono ?_
    rintro e w2 ⟨n, g, rfl, hn, hc, hg⟩
    have HR2 := Lib.hid ((hg.block _ (Array.getElem?_eq_some_iff.1 HR.out).1 (by intro e; cases e; exact absurd hlt.out (by omega))).trans HR.out)
    have r0 : w2.cell? ⟨w.heap.size, 0, none⟩ = some (.int .i64 0) := cell_of_block HR2.out 0
    have r1 : w2.cell? ⟨w.heap.size, 1, none⟩ = some (.bool false) := cell_of_block HR2.out 1
    have f0 := frozen_of_block HR2.out 0
    have f1 := frozen_of_block HR2.out 1
    have HN := Lib.hid hn
    have HC2 := Lib.hid hc
    have HG2 := Lib.hid (grown_trans HG.out hg)
    clear hn hc hg
    unfold rd
    go_wp2_with fail
    exact bodyPost_ret (v := .agg #[.int .i64 n, .bool g]) (by simp [results, Try.results55, go_sem, r0, r1]) rfl (FIN.out n g w2 HN.out (HC2.out.more (by omega)) HG2.out)
  · go_wp2_with fail
    refine (line_any base b (t + 2) _ HC.out (by omega)).mono ?_
    rintro e w2 ⟨n, g, rfl, hn, hc, hg⟩
    have HR2 := Lib.hid ((hg.block _ (Array.getElem?_eq_some_iff.1 HR.out).1 (by intro e; cases e; exact absurd hlt.out (by omega))).trans HR.out)
    have r0 : w2.cell? ⟨w.heap.size, 0, none⟩ = some (.int .i64 0) := cell_of_block HR2.out 0
    have r1 : w2.cell? ⟨w.heap.size, 1, none⟩ = some (.bool false) := cell_of_block HR2.out 1
    have f0 := frozen_of_block HR2.out 0
    have f1 := frozen_of_block HR2.out 1
    have HN := Lib.hid hn
    have HC2 := Lib.hid hc
    have HG2 := Lib.hid (grown_trans HG.out hg)
    clear hn hc hg
    unfold rd
    go_wp2_with fail
    exact bodyPost_ret (v := .agg #[.int .i64 n, .bool g]) (by simp [results, Try.results55, go_sem, r0, r1]) rfl (FIN.out n g w2 HN.out (HC2.out.more (by omega)) HG2.out)
set_option maxHeartbeats 800000 in
theorem placeOn_any (base b t : Nat) (n : Int) (g : Bool) (w : World) (h : CurOK base b t w) (ht : t ≤ 70000) (hn : SizeOk n) :
    Calls Try.prog 56 #[.pointer (some ⟨b, 0, none⟩), rd n g] w (Drew (fun _ => True) base b (t + 4) w) := by
  have H := Lib.hid h
  obtain ⟨hn0, hn1⟩ := hn
  have hw1 : IntKind.i64.wrap (n - 1) = n - 1 := IntWalk.i64_in _ (by omega)
  clear h
  unfold rd
  go_enter Try.func56, Try.ntmps56
  go_wp2_with fail
  refine (one_any base b t 30 _ (H.out.alloc _ H.out.base) (by omega) (by omega) (by omega)).mono ?_
  rintro e w1 ⟨⟨z, rfl⟩, hc, hg⟩
  have HR := Lib.hid (block_new H.out.lt hg)
  have r0 : w1.cell? ⟨w.heap.size, 0, none⟩ = some (.int .i64 n) := cell_of_block HR.out 0
  have HC := Lib.hid hc
  have HG := Lib.hid (grown_trans (grown_alloc w _ _) hg)
  clear hc hg
  cases z
  · have HL := Lib.hid (fun w => l1Least_any n 24 w)
    have HM := Lib.hid (fun w => l1Most_any (min n 24) 1 w)
    have HP := Lib.hid (fun w h => pick_any base b (t + 2) (max (min n 24) 1) w h (by omega) (by omega) (by omega))
    go_wp2_with fail
    refine (HL.out _).mono ?_
    rintro e w' ⟨rfl, rfl⟩
    go_wp2_with fail
    refine (HM.out _).mono ?_
    rintro e w' ⟨rfl, rfl⟩
    go_wp2_with fail
    refine (HP.out _ HC.out).mono ?_
    rintro e w2 ⟨r, rfl, _, hc, hg⟩
    have HC2 := Lib.hid hc
    have HG2 := Lib.hid (grown_trans HG.out hg)
    clear hc hg
    go_wp2_with fail
    go_ret
    exact ⟨r, rfl, trivial, HC2.out, HG2.out⟩
  · go_wp2_with fail
    refine (among_lit base b (t + 2) 5 _ [-1, 0, n, n - 1, 4611686018427387904] _ w1 ?hcs rfl rfl HC.out (by omega) (by omega) (by omega)).mono ?_
    case hcs => rfl
    rintro e w2 ⟨r, rfl, _, hc, hg⟩
    have HC2 := Lib.hid hc
    have HG2 := Lib.hid (grown_trans HG.out hg)
    clear hc hg
    go_wp2_with fail
    go_ret
    exact ⟨r, rfl, trivial, HC2.out, HG2.out⟩
end Go.Proofs.Ytiokgnabiidlbaa
