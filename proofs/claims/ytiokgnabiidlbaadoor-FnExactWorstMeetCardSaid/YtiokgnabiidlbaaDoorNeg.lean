/-
  What is proved: plain facts on the tables of meetings, and the contract of the program's walks from all places. Conditions: a valid walker.
-/
import Derived.Test.YtiokgnabiidlbaaDoorNed
namespace Go.Proofs.YtiokgnabiidlbaaDoor
open Go.RowKit
set_option linter.unusedVariables false
set_option linter.unusedSimpArgs false

/-- the walker with another start -/
def atW (k : Wk) (p : Int) : Wk := ⟨p, k.f, k.d, k.ms⟩
theorem atW_ok {n : Int} {g : Bool} {k : Wk} (h : WkOK n g k) {p : Int} (h0 : 0 ≤ p) (h1 : p < n) : WkOK n g (atW k p) :=
  { road := h.road, n2 := h.n2, n24 := h.n24, ring := h.ring, s0 := h0, sn := h1, fac := h.fac, d0 := h.d0, d60 := h.d60, l1 := h.l1, l24 := h.l24, mv := h.mv }
/-- its walks from the first j places -/
def fromL (n : Int) (g : Bool) (k : Wk) (j : Nat) : List (List Int) := (List.range j).map fun p => walkW n g (atW k (p : Nat)) 60
theorem fromL_len (n : Int) (g : Bool) (k : Wk) (j : Nat) : (fromL n g k j).length = j := by simp [fromL]
theorem fromL_next (n : Int) (g : Bool) (k : Wk) (j : Nat) : fromL n g k (j + 1) = fromL n g k j ++ [walkW n g (atW k (j : Nat)) 60] := by simp [fromL, List.range_succ]
theorem fromL_at (n : Int) (g : Bool) (k : Wk) (j i : Nat) (h : i < j) : (fromL n g k j)[i]? = some (walkW n g (atW k (i : Nat)) 60) := by simp [fromL, h]
theorem fromL_61 (n : Int) (g : Bool) (k : Wk) (j : Nat) : ∀ (i : Nat) xs, (fromL n g k j)[i]? = some xs → xs.length = 61 := by
  intro i xs hi
  have hm := List.mem_of_getElem? hi
  unfold fromL at hm
  rw [List.mem_map] at hm
  obtain ⟨p, _, rfl⟩ := hm
  exact pathL_len _ _
theorem grown_set (w : World) (b j : Nat) (v : Value) : w.grownBy (w.setCell ⟨b, j, none⟩ v) (some b) :=
  ⟨rfl, rfl, rfl, ((Below.refl 0 w).setCell (p := ⟨b, j, none⟩) (Nat.zero_le _) v).size, fun k _ hne => Below.heap_setCell w ⟨b, j, none⟩ v k (fun e => hne (by rw [e]))⟩
theorem blk_set {w : World} {b j : Nat} {cs : Array Value} {t : TypeId} (v : Value) (h : Blk w b cs t) : Blk (w.setCell ⟨b, j, none⟩ v) b (cs.setIfInBounds j v) t := heap_setCell_same w b j _ t v h
structure ABox (base : Nat) (n : Int) (g : Bool) (k : Wk) (m : Value) (p : Int) (w wr : World) : Prop where
  road : Boxed base n g w wr
  wk : Blk wr (base + 1) #[.int .i64 p, .int .i64 k.f, .int .i64 k.d, m] 32
theorem ABox.next {base : Nat} {n : Int} {g : Bool} {k : Wk} {m : Value} {p : Int} {w wr w' : World} (h : ABox base n g k m p w wr) (hb : Below wr.heap.size wr w') : ABox base n g k m p w w' := ⟨h.road.next hb, h.wk.below hb⟩
theorem ABox.nextAt {base l : Nat} {n : Int} {g : Bool} {k : Wk} {m : Value} {p : Int} {w wr w' : World} (h : ABox base n g k m p w wr) (hl : base + 1 < l) (hb : Below l wr w') : ABox base n g k m p w w' := ⟨h.road.nextAt (by omega) hb, h.wk.belowAt hl hb⟩
theorem ABox.lt {base : Nat} {n : Int} {g : Bool} {k : Wk} {m : Value} {p : Int} {w wr : World} (h : ABox base n g k m p w wr) : base + 2 ≤ wr.heap.size := h.wk.lt
theorem ABox.set {base : Nat} {n : Int} {g : Bool} {k : Wk} {m : Value} {p : Int} {w wr : World} (h : ABox base n g k m p w wr) (q : Int) : ABox base n g k m q w (wr.setCell ⟨base + 1, 0, none⟩ (.int .i64 q)) :=
  ⟨h.road.nextAt (Nat.lt_succ_self _) ((Below.refl (base + 1) wr).setCell (p := ⟨base + 1, 0, none⟩) (Nat.le_refl _) _), blk_set _ h.wk⟩
def WfRel (n : Int) (g : Bool) (k : Wk) (m : Value) (N base : Nat) (w : World) (v i : Value) (wr : World) : Prop :=
  ∃ q : Int, ABox base n g k m q w wr ∧ ∃ j : Nat, j ≤ N ∧ i = .int .i64 j ∧ OwnL (base + 2) v (fromL n g k j) wr
set_option maxHeartbeats 1600000 in
set_option maxRecDepth 20000 in
theorem walksFromAll_any (N : Nat) (g : Bool) (k : Wk) (m : Value) (w : World) (hv : ReadsI w m k.ms) (hk : WkOK N g k) :
    Calls Tryd.prog 26 #[rd N g, wkv k m] w fun e w' => ∃ u, e = .returned u ∧ OwnL w.heap.size u (fromL N g k N) w' ∧ Below w.heap.size w w' := by
  obtain ⟨i1, hi, hz0, hz1, hz2⟩ := info_parts infoInts
  have hn24 : N ≤ 24 := by have := hk.n24; omega
  have HWK := Lib.hid (fun k m w hv hk => walk_nat N g k m 60 w hv hk (by omega))
  have HK := Lib.hid hk
  have HX0 := Lib.hid (show ABox w.heap.size N g k m k.s w ((w.alloc (.cells #[.int .i64 N, .bool g] 30)).alloc (.cells #[.int .i64 k.s, .int .i64 k.f, .int .i64 k.d, m] 32)) from ⟨(Boxed.first w N g _).next (below_new _ _), blk_at _ _ _ _ (by simp)⟩)
  have HV := Lib.hid hv
  obtain ⟨ma, mc, rfl, _⟩ := hv
  generalize hml : k.ms.length = ml at *
  clear hml hk
  have HO := Lib.hid (ownL_new ((w.alloc (.cells #[.int .i64 N, .bool g] 30)).alloc (.cells #[.int .i64 k.s, .int .i64 k.f, .int .i64 k.d, .slice ma ml mc] 32)) (w.heap.size + 2) (w.heap.size + 1 + 1) (by simp) (by omega))
  have HX := Lib.hid (HX0.out.next (below_new _ (.cells #[] 24)))
  clear HX0
  unfold wkv rd at *
  go_enter Tryd.func26, Tryd.ntmps26
  go_wp2_with fail
  go_loopw [5, 10] (fun v i wr => WfRel N g k (.slice ma ml mc) N w.heap.size w v i wr) (fun _ i _ => N - (intOf i).toNat)
  case atStart => exact ⟨k.s, HX.out, 0, Nat.zero_le _, rfl, HO.out⟩
  case round =>
    obtain ⟨q, hx, j, hj, rfl, hown⟩ := hrel
    clear HX HO
    have HX := Lib.hid hx
    have HO := Lib.hid hown
    clear hx hown
    by_cases hlt : j < N
    · have HX2 := Lib.hid (HX.out.set (j : Int))
      have HO2 := Lib.hid (ownL_apart HO.out (grown_set wr (w.heap.size + 1) 0 (.int .i64 j)) (fun b hb => by cases hb; omega))
      have HR := Lib.hid (HV.out.below HX2.out.road.below)
      have HOK := Lib.hid (atW_ok HK.out (p := (j : Nat)) (by omega) (by omega))
      have h0 := HX.out.wk.cell 0
      have h1 := HX.out.wk.cell 1
      have h2 := HX.out.wk.cell 2
      have h3 := HX.out.wk.cell 3
      have f0 := HX.out.wk.free 0
      have hb0 := HX.out.road.c0
      have hb1 := HX.out.road.c1
      go_wp2_with fail
      refine (HWK.out (atW k (j : Nat)) (.slice ma ml mc) _ HR.out HOK.out).mono ?_
      rintro e w2 ⟨u, rfl, ho, hb⟩
      have HU := Lib.hid ((rdT_of ho (by rw [show (walkW N g (atW k (j : Nat)) 60).length = 61 from pathL_len _ _]; unfold maxLen; omega)).lower HX2.out.lt)
      obtain ⟨ua, uc, huu, _⟩ := owns_shape ho
      generalize (walkW N g (atW k (j : Nat)) 60).length = ul at huu
      subst huu
      have HX := Lib.hid (HX2.out.next hb)
      have HO := Lib.hid (ownL_below HO2.out hb)
      clear hb ho h0 h1 h2 h3 f0 hb0 hb1
      obtain ⟨us, how, hus⟩ := HO.out
      have HUS := Lib.hid hus
      have HOW := Lib.hid how
      have hll := fromL_len N g k j
      have hul : us.length = (fromL N g k j).length := by have := how.1; omega
      have HUL := Lib.hid hul
      have HLB := Lib.hid (fun b hb => (ownL_block HO.out b hb).1)
      rw [hll] at HOW
      clear how hus hul
      go_wp2_with (at_builtin; refine wpList_append_own _ rfl _ _ 39 rfl (w.heap.size + 2) 24 i1 (.slice none 0 0) 1 24 Tryd.underlying39 hi hz0 hz1 hz2 rfl (by decide) _ _ _ rfl (HOW.out.alloc _) ⟨w2.heap.size, 0, none⟩ 1 1 [.slice ua ul uc] rfl rfl (cell_one_new _ _ _) ?c2 ?c3 ?c4 ?c5 ?_)
      case c2 => intro u hu; simp at hu; subst hu; rfl
      case c3 => unfold maxLen; omega
      case c4 => omega
      case c5 => have := HX.out.lt; simp; omega
      intro v' w9 hown' hgrow _
      have HX9 := Lib.hid (ABox.nextAt (HX.out.next (below_new _ _)) (Nat.lt_succ_self _) (below_grown hgrow HLB.out (by have := HX.out.lt; simp; omega)))
      have HN9 := Lib.hid (ownL_append HO.out HUS.out HUL.out HU.out (by rw [hll]; exact hown') hgrow)
      clear hgrow hown'
      go_wp2_with fail
      go_roundw
      case rel =>
        refine ⟨(j : Int), HX9.out, j + 1, by omega, by go_num, ?_⟩
        rw [fromL_next]
        exact HN9.out
      case measure => simp [intOf]; omega
    · have hje : j = N := by omega
      subst hje
      go_wp2_with fail
      go_ret
      exact ⟨_, rfl, ownL_lower HO.out (by omega), HX.out.road.below⟩
end Go.Proofs.YtiokgnabiidlbaaDoor
