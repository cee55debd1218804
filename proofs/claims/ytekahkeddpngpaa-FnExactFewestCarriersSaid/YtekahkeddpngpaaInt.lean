/-
  What is proved: the contracts of the laws' own helpers on slices of numbers and on roads: laws.toRoad, laws.toIntS, laws.eqIntS, laws.markIntS, laws.heldIntS, laws.rInts. Conditions: those of each contract.
-/
import Derived.Test.YtekahkeddpngpaaBas
import Derived.OwnWalk
import Derived.Maps.AppendAt
import Derived.Deep.QuietTactic
import Derived.BigQuiet
namespace Go.Proofs.Ytekahkeddpngpaa
open Go.RowKit

theorem get_some {α : Type} {xs : List α} {k : Nat} (h : k < xs.length) : ∃ x, xs[k]? = some x := ⟨xs[k], List.getElem?_eq_getElem h⟩
theorem below_drewN (w : World) (m : Nat) : Below w.heap.size w (w.drewN m) := ⟨rfl, rfl, rfl, Nat.le_refl _, fun _ _ => rfl⟩
/-- the value of a number -/
abbrev iv (x : Int) : Value := .int .i64 x
/-- v reads as the list xs of numbers -/
def ReadsI (w : World) (v : Value) (xs : List Int) : Prop :=
  ∃ a c, v = .slice a xs.length c ∧ xs.length ≤ c ∧ xs.length ≤ maxLen ∧ ∀ (j : Nat) x, xs[j]? = some x → ∃ b o, a = some ⟨b, o, none⟩ ∧ b < w.heap.size ∧ w.cell? ⟨b, o + j, none⟩ = some (.int .i64 x)
theorem ReadsI.below {w w' : World} {v : Value} {xs : List Int} (h : ReadsI w v xs) (hb : Below w.heap.size w w') : ReadsI w' v xs := by
  obtain ⟨a, c, hv, hc, hm, hx⟩ := h
  refine ⟨a, c, hv, hc, hm, fun j x hj => ?_⟩
  obtain ⟨b, o, ha, hlt, hcell⟩ := hx j x hj
  exact ⟨b, o, ha, Nat.lt_of_lt_of_le hlt hb.size, (hb.cell (p := ⟨b, o + j, none⟩) hlt).trans hcell⟩
theorem infoInt : (Try.prog.info? 3).map (fun i => (i.zero, i.size, i.bytes)) = some (some (.int .i64 0), 1, 8) := by kernel_rfl
/-- the cells of a slice of n numbers of which the first k are those of xs -/
def cellsTo (xs : List Int) (k : Nat) : List Value := (xs.take k).map iv ++ List.replicate (xs.length - k) (iv 0)
theorem cellsTo_at (xs : List Int) (k : Nat) (h : k < xs.length) : (cellsTo xs k)[k]? = some (iv 0) := by
  unfold cellsTo
  have hl : ((xs.take k).map iv).length = k := by simp; omega
  rw [List.getElem?_append_right (by omega), hl, Nat.sub_self, List.getElem?_replicate, if_pos (by omega)]
theorem cellsTo_set (xs : List Int) (k : Nat) (x : Int) (h : xs[k]? = some x) : (cellsTo xs k).set k (.int .i64 x) = cellsTo xs (k + 1) := by
  obtain ⟨hk, rfl⟩ := List.getElem?_eq_some_iff.1 h
  unfold cellsTo
  have hl : ((xs.take k).map iv).length = k := by simp; omega
  rw [List.set_append_right _ _ (by omega), hl, Nat.sub_self, List.take_succ_eq_append_getElem hk, List.map_append, List.append_assoc]
  congr 1
  rw [show xs.length - k = (xs.length - (k + 1)) + 1 by omega, List.replicate_succ]
  rfl
theorem cellsTo_all (xs : List Int) : cellsTo xs xs.length = xs.map iv := by simp [cellsTo]
/-- the answer is a list of its own -/
def OwnsI (base : Nat) (xs : List Int) (w : World) (e : Ending) (w' : World) : Prop :=
  ∃ v, e = .returned v ∧ w'.ownsRow base 3 1 v xs.length (xs.map iv) ∧ Below base w w'
/-- the answer is a list of its own, and a truth -/
def OwnsB (base : Nat) (xs : List Int) (b : Bool) (w : World) (e : Ending) (w' : World) : Prop :=
  ∃ v, e = .returned (.tuple #[v, .bool b]) ∧ w'.ownsRow base 3 1 v xs.length (xs.map iv) ∧ Below base w w'
theorem owns_reads {base : Nat} {v : Value} {xs : List Int} {w : World} (h : w.ownsRow base 3 1 v xs.length (xs.map iv)) (hm : xs.length ≤ maxLen) : ReadsI w v xs := by
  have h' := h
  obtain ⟨hl, h2⟩ := h
  rcases h2 with ⟨rfl, h0⟩ | ⟨g, cap, cur, rfl, hg, hb, hnc, hcm, hcs, ht⟩
  · refine ⟨none, 0, by rw [h0], by omega, hm, fun j x hj => ?_⟩
    obtain ⟨hj, _⟩ := List.getElem?_eq_some_iff.1 hj
    omega
  · refine ⟨_, cap, rfl, hnc, hm, fun j x hj => ⟨g, 0, rfl, ?_, ?_⟩⟩
    · obtain ⟨hlt, _⟩ := Array.getElem?_eq_some_iff.1 hb
      exact hlt
    · obtain ⟨hj2, _⟩ := List.getElem?_eq_some_iff.1 hj
      rw [Nat.zero_add, h'.cellAt j (by omega), List.getElem?_map, hj]
      rfl
theorem owns_below {w w' : World} {base n : Nat} {v : Value} {xs : List Value} (h : w.ownsRow base 3 1 v n xs) (hb : Below w.heap.size w w') : w'.ownsRow base 3 1 v n xs := by
  obtain ⟨hl, h2⟩ := h
  refine ⟨hl, ?_⟩
  rcases h2 with h2 | ⟨g, cap, cur, hv, hg, hblk, h3⟩
  · exact .inl h2
  · exact .inr ⟨g, cap, cur, hv, hg, (hb.block g (Array.getElem?_eq_some_iff.1 hblk).1).trans hblk, h3⟩
theorem owns_lower {w : World} {base base' n : Nat} {v : Value} {xs : List Value} (h : w.ownsRow base 3 1 v n xs) (hb : base' ≤ base) : w.ownsRow base' 3 1 v n xs := by
  obtain ⟨hl, h2⟩ := h
  refine ⟨hl, ?_⟩
  rcases h2 with h2 | ⟨g, cap, cur, hv, hg, h3⟩
  · exact .inl h2
  · exact .inr ⟨g, cap, cur, hv, Nat.le_trans hb hg, h3⟩
def ToRel (xs : List Int) (base : Nat) (w : World) (i : Value) (wr : World) : Prop :=
  ∃ k : Nat, k ≤ xs.length ∧ i = .int .i64 k ∧ wr.ownsRow base 3 1 (.slice (some ⟨base, 0, none⟩) xs.length xs.length) xs.length (cellsTo xs k) ∧ Below base w wr ∧ base < wr.heap.size
set_option maxHeartbeats 400000 in
theorem toI_any (v : Value) (xs : List Int) (w : World) (hv : ReadsI w v xs) (hn : xs.length ≤ 1048576) :
    Calls Try.prog 12 #[v] w (OwnsI w.heap.size xs w) := by
  obtain ⟨a, c, rfl, hc, hm, hx⟩ := hv
  have HX := Lib.hid hx
  clear hx hm
  obtain ⟨i0, hi, hz0, hz1, hz2⟩ := info_parts infoInt
  go_enter Try.func12, Try.ntmps12
  go_wp2_with (at_make; refine wpList_make_full _ rfl _ _ 24 rfl w.heap.size 3 i0 (.int .i64 0) 1 Try.underlying24 hi hz0 hz1 .i64 .i64 _ _ xs.length rfl rfl rfl rfl ?c1 ?c2 ?c3 ?_)
  case c1 => rw [hz2]; omega
  case c2 => unfold maxLen; omega
  case c3 => exact Nat.le_refl _
  intro w1 hown hgrow
  have hb1 : Below w.heap.size w w1 := (Below.refl _ _).grown hgrow (Nat.le_refl _) (fun k e => by cases e)
  have hz3 : w.heap.size < w1.heap.size := by
    rcases hown.2 with ⟨h, _⟩ | ⟨g, cap, cur, h, _, hb, _⟩
    · cases h
    · cases h
      exact (Array.getElem?_eq_some_iff.1 hb).1
  have hst : (madeCells #[Value.int .i64 0] xs.length).toList = cellsTo xs 0 := by
    apply List.ext_getElem?
    intro j
    by_cases hj : j < xs.length
    · simp [cellsTo, madeCells, hj, Nat.mod_one]
    · simp [cellsTo, madeCells, hj]
  rw [hst] at hown
  clear hgrow hst
  go_wp2
  go_loopw [4] (fun i wr => ToRel xs w.heap.size w i wr) (fun i _ => xs.length - (intOf i).toNat)
  case atStart => exact ⟨0, Nat.zero_le _, rfl, hown, hb1, hz3⟩
  case round =>
    obtain ⟨k, hk, rfl, ho, hb, hz⟩ := hrel
    clear hown hb1 hz3
    by_cases hlt : k < xs.length
    · obtain ⟨x, hxk⟩ := get_some hlt
      obtain ⟨bb, o, rfl, hbl, hcell⟩ := HX.out k x hxk
      have hcr : wr.cell? ⟨bb, o + k, none⟩ = some (.int .i64 x) := (hb.cell (p := ⟨bb, o + k, none⟩) hbl).trans hcell
      have hold : wr.cell? ⟨w.heap.size, k, none⟩ = some (.int .i64 0) := (ho.cellAt k (by omega)).trans (cellsTo_at xs k hlt)
      have hfr := ho.frozenAt k
      have Hst := Lib.hid (ho.stored k (.int .i64 x))
      have Hset := Lib.hid (cellsTo_set xs k x hxk)
      have Hb := Lib.hid hb
      clear hxk ho hb hcell
      go_wp2
      go_roundw
      case rel => exact ⟨k + 1, by omega, by go_num, by rw [← Hset.out]; exact Hst.out.1, Hb.out.setCell (p := ⟨w.heap.size, k, none⟩) (Nat.le_refl _) _, by simpa [World.setCell] using hz⟩
      case measure => simp [intOf]; omega
    · have hke : k = xs.length := by omega
      subst hke
      rw [cellsTo_all] at ho
      have Ho := Lib.hid ho
      have Hb := Lib.hid hb
      clear ho hb
      go_wp2
      go_ret
      exact ⟨_, rfl, Ho.out, Hb.out⟩
theorem toRoad_any (n : Int) (g : Bool) (w : World) :
    Calls Try.prog 11 #[rd n g] w fun e w' => e = .returned (rd n g) ∧ Below w.heap.size w w' := by
  unfold rd
  go_enter Try.func11, Try.ntmps11
  go_wp2
  refine bodyPost_ret (v := .agg #[.int .i64 n, .bool g]) (by simp [results, Try.results11, go_sem]) rfl ⟨rfl, ?_⟩
  exact ((((Below.refl _ _).alloc (Nat.le_refl _) _).alloc (by simp) _).alloc (by simp; omega) _)
def EqRel (n : Nat) (w : World) (i : Value) (wr : World) : Prop := ∃ k m : Nat, k ≤ n ∧ i = .int .i64 k ∧ wr = w.drewN m
set_option maxHeartbeats 400000 in
theorem eqI_yes (v1 v2 : Value) (xs : List Int) (w : World) (h1 : ReadsI w v1 xs) (h2 : ReadsI w v2 xs) :
    Calls Try.prog 14 #[v1, v2] w fun e w' => e = .returned (.bool true) ∧ ∃ m, w' = w.drewN m := by
  obtain ⟨a1, c1, rfl, hc1, hm1, hx1⟩ := h1
  obtain ⟨a2, c2, rfl, hc2, _, hx2⟩ := h2
  have H1 := Lib.hid hx1
  have H2 := Lib.hid hx2
  clear hx1 hx2
  unfold maxLen at hm1
  go_enter Try.func14, Try.ntmps14
  go_wp2
  go_loopw [4, 5] (fun r i wr => r = .bool false ∧ EqRel xs.length w i wr) (fun _ i _ => xs.length - (intOf i).toNat)
  case atStart => exact ⟨rfl, 0, 0, Nat.zero_le _, rfl, rfl⟩
  case round =>
    obtain ⟨rfl, k, m, hk, rfl, rfl⟩ := hrel
    by_cases hlt : k < xs.length
    · obtain ⟨x, hxk⟩ := get_some hlt
      obtain ⟨b1, o1, rfl, _, hcell1⟩ := H1.out k x hxk
      obtain ⟨b2, o2, rfl, _, hcell2⟩ := H2.out k x hxk
      have hi0 : 0 ≤ (k : Int) := by omega
      have hi1 : (k : Int) < xs.length := by omega
      clear hxk
      go_wp2
      go_quiet (fail)
      go_wp2
      go_roundw
      case rel => exact ⟨rfl, k + 1, m + nq, by omega, by go_num, rfl⟩
      case measure => simp [intOf]; omega
    · go_wp2
      go_ret
      exact ⟨rfl, m, rfl⟩
theorem eqI_below (v1 v2 : Value) (xs : List Int) (w : World) (h1 : ReadsI w v1 xs) (h2 : ReadsI w v2 xs) :
    Calls Try.prog 14 #[v1, v2] w fun e w' => e = .returned (.bool true) ∧ Below w.heap.size w w' :=
  (eqI_yes v1 v2 xs w h1 h2).mono fun _ _ ⟨he, m, hm⟩ => ⟨he, hm ▸ below_drewN w m⟩
/-- the marks from K on -/
def mts (K n : Nat) : List Int := (List.range n).map fun i => ((K + i : Nat) : Int)
theorem mts_len (K n : Nat) : (mts K n).length = n := by simp [mts]
theorem mts_at (K n k : Nat) (h : k < n) : (mts K n)[k]? = some ((K + k : Nat) : Int) := by simp [mts, h]
/-- the cells when k of n marks stand -/
def markTo (K k : Nat) (ys : List Value) : List Value := (mts K k).map iv ++ ys.drop k
theorem markTo_zero (K : Nat) (ys : List Value) : markTo K 0 ys = ys := by simp [markTo, mts]
theorem markTo_len (K k : Nat) (ys : List Value) (h : k ≤ ys.length) : (markTo K k ys).length = ys.length := by simp [markTo, mts_len]; omega
theorem markTo_set (K k : Nat) (ys : List Value) (h : k < ys.length) : (markTo K k ys).set k (.int .i64 ((K + k : Nat) : Int)) = markTo K (k + 1) ys := by
  unfold markTo
  have hl : ((mts K k).map iv).length = k := by simp [mts_len]
  rw [List.set_append_right _ _ (by omega), hl, Nat.sub_self, List.drop_eq_getElem_cons h]
  simp only [List.set_cons_zero]
  unfold mts
  rw [List.range_succ]
  simp
theorem markTo_all (K : Nat) (ys : List Value) : markTo K ys.length ys = (mts K ys.length).map iv := by simp [markTo]
theorem markTo_some (K k : Nat) (ys : List Value) (h : k < ys.length) : ∃ u, (markTo K k ys)[k]? = some u := get_some (by rw [markTo_len K k ys (by omega)]; exact h)
theorem owns_shape {w : World} {base n : Nat} {v : Value} {xs : List Value} (h : w.ownsRow base 3 1 v n xs) : ∃ a c, v = .slice a n c ∧ (0 < n → ∃ g, a = some ⟨g, 0, none⟩ ∧ base ≤ g ∧ g < w.heap.size) := by
  rcases h.2 with ⟨rfl, rfl⟩ | ⟨g, cap, cur, rfl, hg, hb, _⟩
  · exact ⟨none, 0, rfl, fun h => by omega⟩
  · exact ⟨_, cap, rfl, fun _ => ⟨g, rfl, hg, (Array.getElem?_eq_some_iff.1 hb).1⟩⟩
def MarkRel (K base : Nat) (v : Value) (ys : List Value) (w : World) (kk i : Value) (wr : World) : Prop :=
  ∃ k j : Nat, k ≤ ys.length ∧ j = K + k ∧ i = .int .i64 k ∧ kk = .int .i64 j ∧ wr.ownsRow base 3 1 v ys.length (markTo K k ys) ∧ w.grownBy wr v.ownBlock
def MarkPost (K base : Nat) (v : Value) (n : Nat) (w : World) (e : Ending) (w' : World) : Prop :=
  e = .returned (.int .i64 ((K + n : Nat) : Int)) ∧ w.grownBy w' v.ownBlock ∧ w'.ownsRow base 3 1 v n ((mts K n).map iv)
theorem grown_trans {w w1 w2 : World} {r : Option Nat} (h : w.grownBy w1 r) (h2 : w1.grownBy w2 r) : w.grownBy w2 r := by
  obtain ⟨a1, a2, a3, a4, a5⟩ := h
  obtain ⟨b1, b2, b3, b4, b5⟩ := h2
  exact ⟨b1.trans a1, b2.trans a2, b3.trans a3, Nat.le_trans a4 b4, fun b hb hr => (b5 b (Nat.lt_of_lt_of_le hb a4) hr).trans (a5 b hb hr)⟩
theorem grown_refl (w : World) (r : Option Nat) : w.grownBy w r := ⟨rfl, rfl, rfl, Nat.le_refl _, fun _ _ _ => rfl⟩
theorem owns_block {w : World} {base n : Nat} {v : Value} {xs : List Value} (h : w.ownsRow base 3 1 v n xs) : ∀ b, v.ownBlock = some b → base ≤ b ∧ b < w.heap.size := by
  intro b hb
  rcases h.2 with ⟨rfl, _⟩ | ⟨g, cap, cur, rfl, hg, hblk, _⟩
  · cases hb
  · cases hb
    exact ⟨hg, (Array.getElem?_eq_some_iff.1 hblk).1⟩
theorem below_grown {w w' : World} {v : Value} {m : Nat} (hg : w.grownBy w' v.ownBlock) (hbl : ∀ b, v.ownBlock = some b → m ≤ b) (hm : m ≤ w.heap.size) : Below m w w' :=
  (Below.refl _ _).grown hg hm hbl
theorem owns_apart {w w' : World} {base n : Nat} {v u : Value} {xs : List Value} (h : w.ownsRow base 3 1 v n xs) (hg : w.grownBy w' u.ownBlock) (hu : ∀ b, u.ownBlock = some b → b < base) : w'.ownsRow base 3 1 v n xs := by
  obtain ⟨hl, h2⟩ := h
  refine ⟨hl, ?_⟩
  obtain ⟨b1, b2, b3, b4, b5⟩ := hg
  rcases h2 with h2 | ⟨g, cap, cur, hv, hgb, hblk, h3⟩
  · exact .inl h2
  · refine .inr ⟨g, cap, cur, hv, hgb, (b5 g (Array.getElem?_eq_some_iff.1 hblk).1 (fun e => ?_)).trans hblk, h3⟩
    have := hu g e.symm
    omega
set_option maxHeartbeats 800000 in
theorem mark_any (v : Value) (ys : List Value) (base K : Nat) (w : World) (ho : w.ownsRow base 3 1 v ys.length ys) (hn : ys.length ≤ 1048576) (hK : K ≤ 1048586) :
    Calls Try.prog 19 #[v, .int .i64 K] w (MarkPost K base v ys.length w) := by
  obtain ⟨a, c, rfl, ha⟩ := owns_shape ho
  have Ho := Lib.hid ho
  have Ha := Lib.hid ha
  clear ho ha
  go_enter Try.func19, Try.ntmps19
  go_wp2
  go_loopw [1, 5] (fun kk i wr => MarkRel K base (.slice a ys.length c) ys w kk i wr) (fun _ i _ => ys.length - (intOf i).toNat)
  case atStart => exact ⟨0, K, Nat.zero_le _, rfl, rfl, rfl, by rw [markTo_zero]; exact Ho.out, grown_refl _ _⟩
  case round =>
    obtain ⟨k, j, hk, hj, rfl, rfl, ho, hb⟩ := hrel
    have hjn : j ≤ 2097172 := by omega
    have Hj := Lib.hid hj
    have Hb := Lib.hid hb
    clear hj hb
    by_cases hlt : k < ys.length
    · obtain ⟨g, rfl, _, _⟩ := Ha.out (by omega)
      obtain ⟨u, hu⟩ := markTo_some K k ys hlt
      have hc0 : wr.cell? ⟨g, k, none⟩ = some u := (ho.cellAt k (by omega)).trans hu
      have hf0 := ho.frozenAt k
      have Hset := Lib.hid (markTo_set K k ys hlt)
      have Hst := Lib.hid (ho.stored k (.int .i64 j))
      clear hu ho
      go_wp2
      go_roundw
      case rel =>
        refine ⟨k + 1, j + 1, by omega, by have := Hj.out; omega, by congr 1, by congr 1, ?_, grown_trans Hb.out Hst.out.2⟩
        rw [← Hset.out, ← Hj.out]
        exact Hst.out.1
      case measure => simp [intOf]; omega
    · have hke : k = ys.length := by omega
      subst hke
      rw [markTo_all] at ho
      have Ho2 := Lib.hid ho
      clear ho
      go_wp2
      go_ret
      exact ⟨ret_int (by rw [Hj.out]), Hb.out, Ho2.out⟩
theorem mark_list (v : Value) (xs : List Int) (base K : Nat) (w : World) (ho : w.ownsRow base 3 1 v xs.length (xs.map iv)) (hn : xs.length ≤ 1048576) (hK : K ≤ 1048586) :
    Calls Try.prog 19 #[v, .int .i64 K] w (MarkPost K base v xs.length w) := by
  have hl : (xs.map iv).length = xs.length := by simp
  have := mark_any v (xs.map iv) base K w (by rw [hl]; exact ho) (by omega) hK
  rw [hl] at this
  exact this
def HeldRel (K n : Nat) (w : World) (kk i : Value) (wr : World) : Prop :=
  ∃ k j : Nat, k ≤ n ∧ j = K + k ∧ i = .int .i64 k ∧ kk = .int .i64 j ∧ wr = w
set_option maxHeartbeats 800000 in
theorem held_any (v : Value) (n K : Nat) (w : World) (hv : ReadsI w v (mts K n)) (hn : n ≤ 1048576) (hK : K ≤ 1048586) :
    Calls Try.prog 20 #[v, .int .i64 K] w fun e w' => e = .returned (.int .i64 ((K + n : Nat) : Int)) ∧ w = w' := by
  obtain ⟨a, c, rfl, hc, hm, hx⟩ := hv
  have HX := Lib.hid hx
  rw [mts_len] at hc ⊢
  clear hx hm
  go_enter Try.func20, Try.ntmps20
  go_wp2
  go_loopw [1, 4, 5] (fun kk r i wr => r = .int .i64 0 ∧ HeldRel K n w kk i wr) (fun _ _ i _ => n - (intOf i).toNat)
  case atStart => exact ⟨rfl, 0, K, Nat.zero_le _, rfl, rfl, rfl, rfl⟩
  case round =>
    obtain ⟨rfl, k, j, hk, hj, rfl, rfl, rfl⟩ := hrel
    have hjn : j ≤ 2097172 := by omega
    have Hj := Lib.hid hj
    clear hj
    by_cases hlt : k < n
    · have hxk : (mts K n)[k]? = some (j : Int) := by rw [mts_at K n k hlt, Hj.out]
      obtain ⟨b, o, rfl, hbl, hcell⟩ := HX.out k j hxk
      clear hxk
      go_wp2
      go_roundw
      case rel => exact ⟨rfl, k + 1, j + 1, by omega, by have := Hj.out; omega, by congr 1, by congr 1, rfl⟩
      case measure => simp [intOf]; omega
    · have hke : k = n := by omega
      subst hke
      go_wp2
      go_ret
      exact ⟨ret_int (by rw [Hj.out]), rfl⟩
end Go.Proofs.Ytekahkeddpngpaa
