/-
  What is proved: the program's traffic of a lane: where its cars are, its lane, and a turn. Conditions: those of each contract.
-/
import Derived.Test.YthbmiigndhoopaaLnb
import Derived.Test.YthbmiigndhoopaaLnm
import Derived.Test.YthbmiigndhoopaaStp
import Derived.Deep.LoopGhost
import Derived.Laws.CopyOwn
namespace Go.Proofs.Ythbmiigndhoopaa
open Go.RowKit
set_option linter.unusedVariables false
set_option linter.unusedSimpArgs false

/-- a traffic as a value -/
abbrev trV (n : Int) (g : Bool) (v : Value) : Value := .agg #[.int .i64 n, .bool g, v]
abbrev trC (n : Int) (g : Bool) (v : Value) : Array Value := #[.int .i64 n, .bool g, v]
/-- the answer is a traffic, its cars a list of their own -/
def OwnsTr (base n : Nat) (S : List Nat) (w : World) (e : Ending) (w' : World) : Prop :=
  ∃ v, e = .returned (trV n true v) ∧ w'.ownsRow base 3 1 v S.length ((cas S).map iv) ∧ Below base w w'
def TfRel (xs : List Int) (base : Nat) (w : World) (vi : Value) (wr : World) : Prop :=
  ∃ (k : Nat) (v : Value), k ≤ xs.length ∧ vi = .int .i64 k ∧ Blk wr base (trC 0 false (.slice none 0 0)) 58 ∧ Blk wr (base + 1) (trC xs.length true v) 58 ∧ wr.ownsRow (base + 2) 3 1 v (carsTo xs k).length ((cas (carsTo xs k)).map iv) ∧ Below base w wr
theorem cas_snoc (S : List Nat) (k : Nat) : (cas (S ++ [k])).map iv = (cas S).map iv ++ [Value.int .i64 k] := by simp [cas]
set_option maxHeartbeats 1600000 in
set_option maxRecDepth 20000 in
theorem trafficOf_any (v : Value) (xs : List Int) (w : World) (hv : ReadsI w v xs) (hl : xs.length ≤ 1048576) :
    Calls Try.prog 63 #[v] w (OwnsTr w.heap.size xs.length (carsOf xs) w) := by
  obtain ⟨i0, hi, hz0, hz1, hz2⟩ := info_parts infoInt
  obtain ⟨y, c, rfl, hc, hm, hx⟩ := hv
  have HL := Lib.hid hx
  clear hx
  unfold maxLen at hm
  have HS := Lib.hid (show TfRel xs w.heap.size w (.int .i64 0) ((w.alloc (.cells (trC 0 false (.slice none 0 0)) 58)).alloc (.cells (trC xs.length true (.slice none 0 0)) 58)) from
    ⟨0, .slice none 0 0, Nat.zero_le _, rfl, (blk_new w _ _).below (below_new _ _), blk_at _ _ _ (w.heap.size + 1) (by simp), own_nil _ _, (below_new w _).trans ((below_new _ _).mono (by simp))⟩)
  go_enter Try.func63, Try.ntmps63
  go_wp2_with fail
  go_loopw [12] (fun vi wr => TfRel xs w.heap.size w vi wr) (fun i _ => xs.length - (intOf i).toNat)
  case atStart => exact HS.out
  case round =>
    clear HS
    obtain ⟨k, v, hk, rfl, h1, h2, ho, hb⟩ := hrel
    have H1 := Lib.hid h1
    have H2 := Lib.hid h2
    have HOW := Lib.hid ho
    have HB := Lib.hid hb
    have hc2 := h2.cell 2
    have hf2 := h2.free 2
    have hlen := carsTo_len xs k
    clear h1 h2 ho hb
    by_cases hlt : k < xs.length
    · obtain ⟨x, hxk⟩ := get_some hlt
      obtain ⟨b, o, rfl, hbl, hcell⟩ := HL.out k x hxk
      have hcr : wr.cell? ⟨b, o + k, none⟩ = some (.int .i64 x) := (HB.out.cell (p := ⟨b, o + k, none⟩) hbl).trans hcell
      have HXK := Lib.hid hxk
      have hi0 : 0 ≤ (k : Int) := by omega
      have hi1 : (k : Int) < xs.length := by omega
      clear hxk hcell
      by_cases hx1 : x = 1
      · have hx2 : (x == 1) = true := by simp [hx1]
        have HSZ := Lib.hid (show w.heap.size + 2 ≤ wr.heap.size by have := H2.out.lt; omega)
        generalize hys : (cas (carsTo xs k)).map iv = ys at *
        generalize hzl : (carsTo xs k).length = m at *
        have HYS := Lib.hid hys
        have HZL := Lib.hid hzl
        have HOW := Lib.hid HOW.out
        clear hys hzl
        go_wp2_with (at_builtin; refine wpList_append_own _ rfl _ _ 22 rfl (w.heap.size + 2) 3 i0 (.int .i64 0) 1 8 Try.underlying22 hi hz0 hz1 hz2 rfl (by decide) _ _ _ rfl (HOW.out.alloc _) ⟨wr.heap.size, 0, none⟩ 1 1 [.int .i64 (k)] rfl rfl (cell_one_new _ _ _) ?c2 ?c3 ?c4 ?c5 ?_)
        case c2 => intro u hu; simp at hu; subst hu; rfl
        case c3 => unfold maxLen; omega
        case c4 => omega
        case c5 => have z0 := HSZ.out; simp; omega
        intro v' w9 hown' hgrow _
        obtain ⟨a', c', rfl, _⟩ := owns_shape hown'
        have HVB := Lib.hid (fun b hb => owns_block HOW.out b hb)
        have hb2 : Blk w9 (w.heap.size + 1) (trC xs.length true v) 58 := bkept (H2.out.below (below_new wr _)) hgrow (fun e => by have := (HVB.out _ e).1; omega)
        have hb1 : Blk w9 w.heap.size (trC 0 false (.slice none 0 0)) 58 := bkept (H1.out.below (below_new wr _)) hgrow (fun e => by have := (HVB.out _ e).1; omega)
        have hbw : Below w.heap.size w w9 := (HB.out.trans ((below_new wr _).mono HB.out.size)).trans (below_grown hgrow (fun b hb => by have := (HVB.out b hb).1; omega) (by have := HB.out.size; simp; omega))
        have HB1 := Lib.hid hb1
        have HB2 := Lib.hid hb2
        have HBW := Lib.hid hbw
        have HOW' := Lib.hid hown'
        have hcc := hb2.cell 2
        have hff := hb2.free 2
        clear hgrow hown' hb1 hb2 hbw HOW HB H1 H2
        go_wp2_with fail
        go_roundw
        case rel =>
          refine ⟨k + 1, .slice a' (m + 1) c', hlt, by go_num, both _ HB1.out (by omega), bset _ HB2.out, ?_, below_set _ HBW.out (by omega)⟩
          rw [carsTo_yes HXK.out hx1, cas_snoc, List.length_append, HYS.out, HZL.out]
          exact roth HOW'.out _ (fun b e => by have := (owns_block HOW'.out b e).1; omega)
        case measure => simp [intOf] <;> omega
      · have hx2 : (x == 1) = false := by simp [hx1]
        go_wp2_with fail
        go_roundw
        case rel => exact ⟨k + 1, v, hlt, by go_num, H1.out, H2.out, by rw [carsTo_no HXK.out hx1]; exact HOW.out, HB.out⟩
        case measure => simp [intOf] <;> omega
    · have hi1 : ¬ (k : Int) < xs.length := by omega
      have hke : k = xs.length := by omega
      have h10 := H1.out.cell 0
      have h11 := H1.out.cell 1
      have h12 := H1.out.cell 2
      have f10 := H1.out.free 0
      have f11 := H1.out.free 1
      have f12 := H1.out.free 2
      have h20 := H2.out.cell 0
      have h21 := H2.out.cell 1
      obtain ⟨a', c', rfl, _⟩ := owns_shape HOW.out
      have HKE := Lib.hid hke
      clear hke
      go_wp2_with fail
      have HR := bset3 (.int .i64 xs.length) (.bool true) (.slice a' (carsTo xs k).length c') H1.out
      have s0 := HR.cell 0
      have s1 := HR.cell 1
      have s2 := HR.cell 2
      refine bodyPost_ret (v := trV xs.length true (.slice a' (carsTo xs k).length c')) (by simp [results, Try.results63, go_sem, s0, s1, s2]) rfl ⟨_, rfl, ?_, lset3 _ _ _ HB.out (Nat.le_refl _)⟩
      have e : carsOf xs = carsTo xs k := by unfold carsOf; rw [HKE.out]
      rw [e]
      exact roth3 (owns_lower HOW.out (by omega)) _ _ _ (fun b e => by have := (owns_block HOW.out b e).1; omega)
theorem lan_snoc {n : Nat} {S : List Nat} {c : Nat} (hc : c < n) : (lan n S).set c 1 = lan n (S ++ [c]) := by
  apply List.ext_getElem?
  intro p
  by_cases hp : p < n
  · rw [lan_at hp, List.getElem?_set, lan_len]
    by_cases e : c = p
    · subst e
      rw [if_pos rfl, if_pos hp, if_pos (by simp)]
    · rw [if_neg e, lan_at hp]
      congr 1
      refine ite_iff ?_
      rw [List.mem_append, List.mem_singleton]
      exact ⟨Or.inl, fun h => h.resolve_right (fun h2 => e h2.symm)⟩
  · rw [List.getElem?_eq_none (by rw [List.length_set, lan_len]; omega), List.getElem?_eq_none (by rw [lan_len]; omega)]
def LaRel (n : Nat) (S : List Nat) (base : Nat) (w : World) (v : Value) (vi : Value) (wr : World) : Prop :=
  ∃ k : Nat, k ≤ S.length ∧ vi = .int .i64 k ∧ wr.ownsRow base 3 1 v n ((lan n (S.take k)).map iv) ∧ Below base w wr
theorem laRel_next {n : Nat} {S : List Nat} {base g k q c : Nat} {w wr : World} {vi : Value} (hk : S[k]? = some q) (hq : q < n) (hi : vi = .int .i64 ((k + 1 : Nat) : Int)) (ho : wr.ownsRow base 3 1 (.slice (some ⟨g, 0, none⟩) n c) n ((lan n (S.take k)).map iv)) (hb : Below base w wr) (hg : base ≤ g) :
    LaRel n S base w (.slice (some ⟨g, 0, none⟩) n c) vi (wr.setCell ⟨g, q, none⟩ (.int .i64 1)) := by
  obtain ⟨hk2, e⟩ := List.getElem?_eq_some_iff.1 hk
  refine ⟨k + 1, hk2, hi, ?_, hb.setCell hg _⟩
  have h := (ho.stored q (.int .i64 1)).1
  rw [List.take_succ_eq_append_getElem hk2, e, ← lan_snoc hq, List.map_set]
  exact h
set_option maxHeartbeats 1600000 in
set_option maxRecDepth 20000 in
theorem lane_any (n : Nat) (g : Bool) (v : Value) (S : List Nat) (w : World) (hv : ReadsI w v (cas S)) (hS : ∀ c, c ∈ S → c < n) (hn : n ≤ 1048576) :
    Calls Try.prog 65 #[trV n g v] w (OwnsI w.heap.size (lan n S) w) := by
  obtain ⟨i0, hi, hz0, hz1, hz2⟩ := info_parts infoInt
  have HV := Lib.hid hv
  have hB0 := blk_new w (trC n g v) 58
  obtain ⟨y, c, rfl, hc, hm, hx⟩ := hv
  rw [cas_len] at hc hm hB0
  have HL := Lib.hid hx
  clear hx
  unfold maxLen at hm
  have h00 := hB0.cell 0
  have h02 := hB0.cell 2
  have HB0 := Lib.hid hB0
  have hb0 := below_new w (.cells (trC n g (.slice y S.length c)) 58)
  rw [cas_len]
  unfold trV trC at *
  go_enter Try.func65, Try.ntmps65
  go_wp2_with (at_make; refine wpList_make_full _ rfl _ _ 22 rfl w.heap.size 3 i0 (.int .i64 0) 1 Try.underlying22 hi hz0 hz1 .i64 .i64 _ _ n rfl rfl rfl rfl ?c1 ?c2 ?c3 ?_)
  case c1 => rw [hz2]; omega
  case c2 => unfold maxLen; omega
  case c3 => simp
  intro w1 hown hgrow
  have hst : (madeCells #[Value.int .i64 0] n).toList = (lan n (S.take 0)).map iv := by
    apply List.ext_getElem?
    intro j
    by_cases hj : j < n
    · simp [lan, madeCells, hj, Nat.mod_one]
    · simp [lan, madeCells, hj]
  rw [hst] at hown
  have hb1 : Below w.heap.size w w1 := hb0.grown hgrow (by simp) (fun k e => by cases e)
  have HOW := Lib.hid hown
  have HB := Lib.hid hb1
  have h2c : w1.cell? ⟨w.heap.size, 2, none⟩ = some (.slice y S.length c) := (Below.cell (p := ⟨w.heap.size, 2, none⟩) ((Below.refl _ _).grown hgrow (Nat.le_refl _) (fun k e => by cases e)) (by simp)).trans h02
  clear hgrow hown hb1 hst hb0
  go_wp2_with fail
  go_loopw [13] (fun vi wr => LaRel n S w.heap.size w (.slice (some ⟨w.heap.size + 1, 0, none⟩) n n) vi wr) (fun i _ => S.length - (intOf i).toNat)
  case atStart => exact ⟨0, Nat.zero_le _, rfl, HOW.out, HB.out⟩
  case round =>
    obtain ⟨k, hk, rfl, ho, hb⟩ := hrel
    clear HOW HB
    have HOW := Lib.hid ho
    have HB := Lib.hid hb
    clear ho hb
    by_cases hlt : k < S.length
    · obtain ⟨q, hqk⟩ := get_some hlt
      have hqn := hS q (List.mem_of_getElem? hqk)
      obtain ⟨b, o, rfl, hbl, hcell⟩ := HL.out k q (cas_at hqk)
      have hcr : wr.cell? ⟨b, o + k, none⟩ = some (.int .i64 q) := (HB.out.cell (p := ⟨b, o + k, none⟩) hbl).trans hcell
      obtain ⟨u, hu⟩ := get_some (xs := (lan n (S.take k)).map iv) (k := q) (by rw [List.length_map, lan_len]; exact hqn)
      have hold := (HOW.out.cellAt q (by omega)).trans hu
      have hfr := HOW.out.frozenAt q
      have HQK := Lib.hid hqk
      have hi0 : 0 ≤ (k : Int) := by omega
      have hi1 : (k : Int) < S.length := by omega
      have hi2 : (q : Int) < n := by omega
      clear hqk hcell hu
      go_wp2_with fail
      go_roundw
      case rel => exact laRel_next HQK.out hqn (by go_num) HOW.out HB.out (by omega)
      case measure => simp [intOf] <;> omega
    · have hi1 : ¬ (k : Int) < S.length := by omega
      have HKE := Lib.hid (show k = S.length by omega)
      go_wp2_with fail
      go_ret
      refine ⟨_, rfl, ?_, HB.out⟩
      have h := HOW.out
      rw [List.take_of_length_le (by rw [HKE.out]; exact Nat.le_refl _)] at h
      rw [lan_len]
      exact h
def thenTo (n : Nat) (S : List Nat) (k : Nat) : List Nat := (S.take k).map (mvC n S) ++ S.drop k
def floK (n : Nat) (S : List Nat) (k : Nat) : Nat := (S.take k).countP (fun c => decide (nx n c ∉ S))
theorem after_nx {n q : Nat} (h : q < n) : afterI (n : Int) true (q : Int) = ((nx n q : Nat) : Int) := by
  unfold afterI nx
  by_cases h2 : q + 1 < n
  · rw [if_pos h2, if_neg (by omega)]; omega
  · rw [if_neg h2, if_pos ⟨rfl, by omega⟩]; rfl
theorem thenTo_len (n : Nat) (S : List Nat) (k : Nat) : (thenTo n S k).length = S.length := by
  unfold thenTo
  rw [List.length_append, List.length_map, List.length_take, List.length_drop]
  omega
theorem thenTo_yes {n : Nat} {S : List Nat} {k q : Nat} (hk : S[k]? = some q) (h : nx n q ∉ S) : thenTo n S (k + 1) = (thenTo n S k).set k (nx n q) := by
  obtain ⟨hk2, e⟩ := List.getElem?_eq_some_iff.1 hk
  unfold thenTo
  have hl : ((S.take k).map (mvC n S)).length = k := by rw [List.length_map, List.length_take]; omega
  rw [List.set_append_right _ _ (by omega), hl, Nat.sub_self, List.take_succ_eq_append_getElem hk2, List.map_append, List.append_assoc, List.drop_eq_getElem_cons hk2, e, List.set_cons_zero]
  congr 1
  show [mvC n S q] ++ _ = _
  rw [show mvC n S q = nx n q from if_neg h]
  rfl
theorem thenTo_no {n : Nat} {S : List Nat} {k q : Nat} (hk : S[k]? = some q) (h : nx n q ∈ S) : thenTo n S (k + 1) = thenTo n S k := by
  obtain ⟨hk2, e⟩ := List.getElem?_eq_some_iff.1 hk
  unfold thenTo
  rw [List.take_succ_eq_append_getElem hk2, List.map_append, List.append_assoc, List.drop_eq_getElem_cons hk2, e]
  congr 1
  show [mvC n S q] ++ _ = _
  rw [show mvC n S q = q from if_pos h]
  rfl
theorem thenTo_all (n : Nat) (S : List Nat) : thenTo n S S.length = stp n S := by
  unfold thenTo stp
  rw [List.take_length, List.drop_length, List.append_nil]
theorem floK_yes {n : Nat} {S : List Nat} {k q : Nat} (hk : S[k]? = some q) (h : nx n q ∉ S) : floK n S (k + 1) = floK n S k + 1 := by
  obtain ⟨hk2, e⟩ := List.getElem?_eq_some_iff.1 hk
  unfold floK
  rw [List.take_succ_eq_append_getElem hk2, List.countP_append, e]
  simp [h]
theorem floK_no {n : Nat} {S : List Nat} {k q : Nat} (hk : S[k]? = some q) (h : nx n q ∈ S) : floK n S (k + 1) = floK n S k := by
  obtain ⟨hk2, e⟩ := List.getElem?_eq_some_iff.1 hk
  unfold floK
  rw [List.take_succ_eq_append_getElem hk2, List.countP_append, e]
  simp [h]
theorem floK_le (n : Nat) (S : List Nat) (k : Nat) : floK n S k ≤ S.length := Nat.le_trans List.countP_le_length (by rw [List.length_take]; omega)
theorem floK_all (n : Nat) (S : List Nat) : floK n S S.length = flo n S := by unfold floK flo; rw [List.take_length]
theorem cas_set (S : List Nat) (k q : Nat) : (cas (S.set k q)).map iv = ((cas S).map iv).set k (.int .i64 q) := by unfold cas; rw [List.map_set, List.map_set]
def TdRel (n : Nat) (S : List Nat) (v : Value) (base : Nat) (w : World) (z : Nat) (vf vi : Value) (wr : World) : Prop :=
  ∃ k : Nat, k + z = S.length ∧ vi = .int .i64 k ∧ vf = .int .i64 (floK n S k : Nat) ∧ Blk wr base (trC n true v) 58 ∧ Blk wr (base + 1) (trC 0 false (.slice none 0 0)) 58 ∧ Blk wr (base + 2) ((cas (thenTo n S k)).map iv).toArray 3 ∧ Below base w wr
/-- the answer is a traffic, its cars a list of their own, and a number -/
def OwnsTrI (base n : Nat) (S : List Nat) (z : Nat) (w : World) (e : Ending) (w' : World) : Prop :=
  ∃ v, e = .returned (.tuple #[trV n true v, .int .i64 z]) ∧ w'.ownsRow base 3 1 v S.length ((cas S).map iv) ∧ Below base w w'
def InRel (S : List Nat) (q : Nat) (z : Nat) (i : Value) : Prop := ∃ j : Nat, j + z = S.length ∧ i = .int .i64 j ∧ ∀ (m : Nat), m < j → S[m]? ≠ some q
set_option maxHeartbeats 3200000 in
set_option maxRecDepth 20000 in
theorem turned_any (n : Nat) (v : Value) (S : List Nat) (w : World) (hv : ReadsI w v (cas S)) (hS : Cars n S) (hn : 3 ≤ n ∧ n ≤ 24) :
    Calls Try.prog 64 #[trV n true v] w (OwnsTrI w.heap.size n (stp n S) (flo n S) w) := by
  obtain ⟨i0, hi, hz0, hz1, hz2⟩ := info_parts infoInt
  have hszi : (Try.prog.info? 3).map (·.size) = some 1 := by kernel_rfl
  have HA := Lib.hid (fun q w hq => after_any (n : Int) true q w (by omega) hq)
  have HV := Lib.hid hv
  have hSl := hS.len
  obtain ⟨y, c, rfl, hc, hm, hx⟩ := hv
  rw [cas_len] at hc hm
  unfold maxLen at hm
  have HL := Lib.hid hx
  clear hx
  have hB0 := (blk_new w (trC n true (.slice y S.length c)) 58).below (below_new _ (.cells (trC 0 false (.slice none 0 0)) 58))
  have hB1 := blk_at (w.alloc (.cells (trC n true (.slice y S.length c)) 58)) (trC 0 false (.slice none 0 0)) 58 (w.heap.size + 1) (by simp)
  have hb0 := (below_new w (.cells (trC n true (.slice y S.length c)) 58)).trans ((below_new (w.alloc (.cells (trC n true (.slice y S.length c)) 58)) (.cells (trC 0 false (.slice none 0 0)) 58)).mono (by simp))
  have hsz0 : ((w.alloc (.cells (trC n true (.slice y S.length c)) 58)).alloc (.cells (trC 0 false (.slice none 0 0)) 58)).heap.size = w.heap.size + 2 := by simp
  rw [cas_len]
  have h00 := hB0.cell 0
  have h01 := hB0.cell 1
  have h02 := hB0.cell 2
  unfold trV rd trC at *
  go_enter Try.func64, Try.ntmps64
  go_wp2_with fail
  go_step3
  go_wp2_with (at_make; refine wpList_make_full _ rfl _ _ 22 rfl w.heap.size 3 i0 (.int .i64 0) 1 Try.underlying22 hi hz0 hz1 .i64 .i64 _ _ S.length rfl rfl rfl rfl ?c1 ?c2 ?c3 ?_)
  case c1 => rw [hz2]; omega
  case c2 => unfold maxLen; omega
  case c3 => simp; omega
  intro w1 hown hgrow
  have hbk : w1.heap[w.heap.size + 2]? = some (.cells (List.replicate S.length (Value.int .i64 0)).toArray 3 (0, 0)) := by
    rcases hown.2 with ⟨h, _⟩ | ⟨g, cap, cur, h, _, hb, _, _, hcs, htk⟩
    · cases h
    · cases h
      rw [hb]
      have hcur : cur.toList = List.replicate S.length (Value.int .i64 0) := by
        rw [List.take_of_length_le (by rw [Array.length_toList, hcs]; omega)] at htk
        rw [htk]
        apply List.ext_getElem?
        intro j
        by_cases hj : j < S.length
        · simp [madeCells, hj, Nat.mod_one]
        · simp [madeCells, hj]
      rw [← hcur]
  have hg : Below (w.heap.size + 2) ((w.alloc (.cells #[.int .i64 n, .bool true, .slice y S.length c] 58)).alloc (.cells #[.int .i64 0, .bool false, .slice none 0 0] 58)) w1 := (Below.refl _ _).grown hgrow (by simp) (fun k e => by cases e)
  have hb1 : Below w.heap.size w w1 := hb0.trans (hg.mono (by omega))
  have HROW := Lib.hid hbk
  have HB1 := Lib.hid hb1
  have HK0 := Lib.hid (hB0.belowAt (by omega) hg)
  have HK1 := Lib.hid (hB1.belowAt (by omega) hg)
  have HCL := Lib.hid (rd_cells (HV.out.below hb1))
  have h02 := HK0.out.cell 2
  clear hown hgrow hb1 hbk hg hB0 hB1 hb0 hsz0 h00 h01
  go_wp2_with (with_reducible refine wpList_copy_splice rfl _ _ _ _ rfl 3 Try.underlying22 hszi _ _ _ _ _ _ rfl rfl (w.heap.size + 2) 0 (List.replicate S.length (Value.int .i64 0)) 3 HROW.out ((cas S).map iv) ?f1 ?f2 ?f3 ?f4 (w.heap.size + 2) w1 (Below.refl _ _) (Nat.le_refl _) ?_)
  case f1 => simp [cas_len]
  case f2 =>
    intro h
    obtain ⟨ad, had, hc⟩ := HCL.out (by simpa using h)
    exact ⟨ad, had, fun j z hz => hc j (iv z) (by rw [List.getElem?_map, hz]; rfl)⟩
  case f3 => simp [cas_len]
  case f4 => intro u hu; simp at hu; obtain ⟨z, _, rfl⟩ := hu; rfl
  intro w2 hG2 hB2
  have hbk2 : Blk w2 (w.heap.size + 2) ((cas (thenTo n S 0)).map iv).toArray 3 := by
    have h := hG2.out
    have e : splice (List.replicate S.length (Value.int .i64 0)) 0 ((cas S).map iv) = (cas (thenTo n S 0)).map iv := by
      unfold splice thenTo
      rw [List.drop_eq_nil_of_le (by simp [cas_len])]
      simp
    rw [e] at h
    exact h
  have HST := Lib.hid (show TdRel n S (.slice y S.length c) w.heap.size w S.length (.int .i64 0) (.int .i64 0) w2 from ⟨0, by omega, rfl, rfl, HK0.out.belowAt (by omega) hB2, HK1.out.belowAt (by omega) hB2, hbk2, HB1.out.trans (hB2.mono (by omega))⟩)
  have hc02 := (HK0.out.belowAt (by omega) hB2).cell 2
  clear hG2 hB2 hbk2 HK0 HK1 HROW HB1 h02
  go_wp2_with fail
  go_step3
  go_wp2_with fail
  go_loopg [5, 22] S.length (fun z vf vi wr => TdRel n S (.slice y S.length c) w.heap.size w z vf vi wr)
  case atStart => exact HST.out
  case round =>
    obtain ⟨k, hk, rfl, rfl, h1, h2, h3, hb⟩ := hrel
    clear HST
    have H1 := Lib.hid h1
    have H2 := Lib.hid h2
    have H3 := Lib.hid h3
    have HB := Lib.hid hb
    have hfl := floK_le n S k
    have c0 := h1.cell 0
    have c1 := h1.cell 1
    have c2 := h1.cell 2
    clear h1 h2 h3 hb
    by_cases hlt : k < S.length
    · obtain ⟨q, hqk⟩ := get_some hlt
      have hqn := hS.2 q (List.mem_of_getElem? hqk)
      obtain ⟨b, o, rfl, hbl, hcell⟩ := HL.out k q (cas_at hqk)
      have hcr : wr.cell? ⟨b, o + k, none⟩ = some (.int .i64 q) := (HB.out.cell (p := ⟨b, o + k, none⟩) hbl).trans hcell
      have HQK := Lib.hid hqk
      have hi0 : 0 ≤ (k : Int) := by omega
      have hi1 : (k : Int) < S.length := by omega
      clear hqk hcell
      go_wp2_with fail
      refine (HA.out (q : Int) _ (by omega)).mono ?_
      rw [show afterI (n : Int) true (q : Int) = ((nx n q : Nat) : Int) from after_nx hqn]
      rintro e w3 ⟨rfl, hb3⟩
      have HB3 := Lib.hid (HB.out.trans (hb3.mono HB.out.size))
      have H13 := Lib.hid (H1.out.below hb3)
      have H23 := Lib.hid (H2.out.below hb3)
      have H33 := Lib.hid (H3.out.below hb3)
      have d0 := H13.out.cell 0
      have d1 := H13.out.cell 1
      have d2 := H13.out.cell 2
      have hnq : nx n q < n := nx_lt (by omega)
      generalize hnx : nx n q = nq at *
      have HNX := Lib.hid hnx
      clear hb3 hcr c0 c1 c2 HB H1 H2 H3 hnx
      go_wp2_with fail
      go_loopg [34] S.length (fun z2 vj wr2 => wr2 = w3 ∧ InRel S nq z2 vj)
      case atStart => exact ⟨rfl, 0, by omega, rfl, fun m hm => by omega⟩
      case round =>
        obtain ⟨rfl, j, hj, rfl, hno⟩ := hrel
        have HNO := Lib.hid hno
        clear hno
        by_cases hlt2 : j < S.length
        · obtain ⟨p, hpj⟩ := get_some hlt2
          obtain ⟨b', o', e', hbl', hcell'⟩ := HL.out j p (cas_at hpj)
          cases e'
          have hcr' := (HB3.out.cell (p := ⟨b, o + j, none⟩) hbl').trans hcell'
          have HPJ := Lib.hid hpj
          have hj0 : 0 ≤ (j : Int) := by omega
          have hj1 : (j : Int) < S.length := by omega
          clear hpj hcell'
          by_cases hpq : p = nq
          · have e1 : ((p : Int) == (nq : Int)) = true := by simp [hpq]
            have e2 : (p : Int) = (nq : Int) := by omega
            have HMEM := Lib.hid (show nx n q ∈ S by rw [HNX.out, ← hpq]; exact List.mem_of_getElem? HPJ.out)
            go_wp2_with fail
            go_roundg (S.length - (k + 1))
            case measure => omega
            case rel => exact ⟨k + 1, by omega, by go_num, by rw [floK_no HQK.out HMEM.out], H13.out, H23.out, by rw [thenTo_no HQK.out HMEM.out]; exact H33.out, HB3.out⟩
          · have e1 : ((p : Int) == (nq : Int)) = false := by simp; omega
            have e2 : ¬ (p : Int) = (nq : Int) := by omega
            go_wp2_with fail
            go_roundg (S.length - (j + 1))
            case measure => omega
            case rel =>
              refine ⟨by trivial, j + 1, by omega, by go_num, fun m hm h => ?_⟩
              by_cases e : m = j
              · subst e
                rw [HPJ.out] at h
                cases h
                exact hpq rfl
              · exact HNO.out m (by omega) h
        · have hj1 : ¬ (j : Int) < S.length := by omega
          have HMEM := Lib.hid (show nx n q ∉ S from fun h => by
            rw [HNX.out] at h
            obtain ⟨m, hm⟩ := List.getElem?_of_mem h
            exact HNO.out m (by have := (List.getElem?_eq_some_iff.1 hm).1; omega) hm)
          have g0 := H33.out.cell k
          have g1 := H33.out.free k
          rw [show ((cas (thenTo n S k)).map iv).toArray[k]? = ((cas (thenTo n S k)).map iv)[k]? by simp] at g0
          obtain ⟨u, hu⟩ := get_some (xs := (cas (thenTo n S k)).map iv) (k := k) (by rw [List.length_map, cas_len, thenTo_len]; exact hlt)
          rw [hu] at g0
          clear hu
          go_wp2_with fail
          go_roundg (S.length - (k + 1))
          case measure => omega
          case rel =>
            refine ⟨k + 1, by omega, by go_num, by rw [floK_yes HQK.out HMEM.out]; go_num, both _ H13.out (by omega), both _ H23.out (by omega), ?_, below_set _ HB3.out (by omega)⟩
            rw [thenTo_yes HQK.out HMEM.out, cas_set, HNX.out, ← List.setIfInBounds_toArray]
            exact bset _ H33.out
    · have hi1 : ¬ (k : Int) < S.length := by omega
      have hke : k = S.length := by omega
      have HKE := Lib.hid hke
      have h20 := H2.out.cell 0
      have h21 := H2.out.cell 1
      have h22 := H2.out.cell 2
      have f20 := H2.out.free 0
      have f21 := H2.out.free 1
      have f22 := H2.out.free 2
      clear hke
      go_wp2_with fail
      try rw [Exit.noGoto_ret]
      have HR := bset3 (.int .i64 n) (.bool true) (.slice (some ⟨w.heap.size + 2, 0, none⟩) S.length S.length) H2.out
      have s0 := HR.cell 0
      have s1 := HR.cell 1
      have s2 := HR.cell 2
      refine bodyPost_ret (v := .tuple #[trV n true (.slice (some ⟨w.heap.size + 2, 0, none⟩) S.length S.length), .int .i64 (floK n S k : Nat)]) (by simp [results, Try.results64, go_sem, s0, s1, s2]) rfl ⟨.slice (some ⟨w.heap.size + 2, 0, none⟩) S.length S.length, by rw [HKE.out, floK_all], ?_, lset3 _ _ _ HB.out (by omega)⟩
      have h := both3 (.int .i64 n) (.bool true) (.slice (some ⟨w.heap.size + 2, 0, none⟩) S.length S.length) H3.out (show w.heap.size + 2 ≠ w.heap.size + 1 by omega)
      rw [HKE.out, thenTo_all] at h
      rw [stp_len]
      exact own_blk h (by omega) (by rw [cas_len, stp_len]) (by omega)
end Go.Proofs.Ythbmiigndhoopaa
