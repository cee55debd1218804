/-
  What is proved: the contracts of the laws' own helpers on slices of strings: laws.szStringS, laws.toStringS, laws.eqStringS. Conditions: a slice that reads as a list of strings.
-/
import Derived.Test.YtokpgdojcjmliaaSum
import Derived.OwnWalk
import Derived.Maps.AppendAt
import Derived.Deep.QuietTactic
import Derived.BigQuiet
import Derived.Laws.Concat
import Derived.Lib.Strings
namespace Go.Proofs.Ytokpgdojcjmliaa
open Go.RowKit

/-- v reads as the list xs of strings -/
def ReadsS (w : World) (v : Value) (xs : List ByteArray) : Prop :=
  ∃ a c, v = .slice a xs.length c ∧ xs.length ≤ c ∧ xs.length ≤ maxLen ∧ ∀ (j : Nat) x, xs[j]? = some x → ∃ b o, a = some ⟨b, o, none⟩ ∧ b < w.heap.size ∧ w.cell? ⟨b, o + j, none⟩ = some (.string x)
theorem ReadsS.below {w w' : World} {v : Value} {xs : List ByteArray} (h : ReadsS w v xs) (hb : Below w.heap.size w w') : ReadsS w' v xs := by
  obtain ⟨a, c, hv, hc, hm, hx⟩ := h
  refine ⟨a, c, hv, hc, hm, fun j x hj => ?_⟩
  obtain ⟨b, o, ha, hlt, hcell⟩ := hx j x hj
  exact ⟨b, o, ha, Nat.lt_of_lt_of_le hlt hb.size, (hb.cell (p := ⟨b, o + j, none⟩) hlt).trans hcell⟩
def sumS (xs : List ByteArray) : Nat := (xs.map ByteArray.size).sum
theorem sumS_take (xs : List ByteArray) (k : Nat) (x : ByteArray) (h : xs[k]? = some x) : sumS (xs.take (k + 1)) = sumS (xs.take k) + x.size := by
  obtain ⟨hk, rfl⟩ := List.getElem?_eq_some_iff.1 h
  rw [List.take_succ_eq_append_getElem hk]
  simp only [sumS, List.map_append, List.sum_append, List.map_cons, List.map_nil, List.sum_cons, List.sum_nil]; omega
theorem sumS_take_le (xs : List ByteArray) (k : Nat) : sumS (xs.take k) ≤ sumS xs := by
  have h : xs = xs.take k ++ xs.drop k := (List.take_append_drop k xs).symm
  have e : sumS xs = sumS (xs.take k) + sumS (xs.drop k) := by
    conv => lhs; rw [h]
    simp only [sumS, List.map_append, List.sum_append]
  omega
theorem get_some {α : Type} {xs : List α} {k : Nat} (h : k < xs.length) : ∃ x, xs[k]? = some x := ⟨xs[k], List.getElem?_eq_getElem h⟩

set_option maxHeartbeats 400000 in
theorem sz_yes (v : Value) (xs : List ByteArray) (L : Int) (w : World) (hv : ReadsS w v xs) (hL : L ≤ 1048576) (hs : (xs.length : Int) + sumS xs ≤ L) :
    Calls Try.prog 21 #[v, .int .i64 L] w fun e w' => e = .returned (.int .i64 (L - xs.length - sumS xs)) ∧ w = w' := by
  obtain ⟨a, c, rfl, hc, hm, hx⟩ := hv
  have HX := Lib.hid hx
  clear hx
  unfold maxLen at hm
  have h0 : 0 ≤ L - xs.length := by omega
  go_enter Try.func21, Try.ntmps21
  go_wp2
  go_loop [1, 5] (fun l i => ∃ k : Nat, k ≤ xs.length ∧ i = .int .i64 k ∧ l = .int .i64 (L - xs.length - sumS (xs.take k))) (fun _ i => xs.length - (intOf i).toNat)
  case atStart => exact ⟨0, Nat.zero_le _, rfl, by simp [sumS]⟩
  case round =>
    obtain ⟨k, hk, rfl, rfl⟩ := hrel
    have hle := sumS_take_le xs k
    by_cases hlt : k < xs.length
    · obtain ⟨x, hxk⟩ := get_some hlt
      obtain ⟨b, o, rfl, hb, hcell⟩ := HX.out k x hxk
      have hst := sumS_take xs k x hxk
      have hle2 := sumS_take_le xs (k + 1)
      have hxs : (x.size : Int) ≤ L := by omega
      have hnn : 0 ≤ L - xs.length - sumS (xs.take k) - x.size := by omega
      have HS := Lib.hid hst
      clear hst hxk hle2
      go_wp2
      go_round
      case rel => exact ⟨k + 1, by omega, by go_num, by rw [HS.out]; congr 1; omega⟩
      case measure => simp [intOf]; omega
    · have e : xs.take k = xs := List.take_of_length_le (by omega)
      go_wp2
      go_ret
      exact ⟨rfl, rfl⟩

set_option maxHeartbeats 400000 in
theorem sz_no (v : Value) (xs : List ByteArray) (L : Int) (w : World) (hv : ReadsS w v xs) (h0L : 0 ≤ L) (hL : L ≤ 1048576) (hss : ∀ x ∈ xs, x.size ≤ maxLen) (hs : L < (xs.length : Int) + sumS xs) :
    Calls Try.prog 21 #[v, .int .i64 L] w fun e w' => e = .returned (.int .i64 (-1)) ∧ w = w' := by
  obtain ⟨a, c, rfl, hc, hm, hx⟩ := hv
  have HX := Lib.hid hx
  have HSS := Lib.hid hss
  clear hx hss
  unfold maxLen at hm
  by_cases h0 : 0 ≤ L - xs.length
  · go_enter Try.func21, Try.ntmps21
    go_wp2
    go_loop [1, 4, 5] (fun l r i => r = .int .i64 0 ∧ ∃ k : Nat, k ≤ xs.length ∧ i = .int .i64 k ∧ l = .int .i64 (L - xs.length - sumS (xs.take k)) ∧ (sumS (xs.take k) : Int) ≤ L - xs.length) (fun _ _ i => xs.length - (intOf i).toNat)
    case atStart => exact ⟨rfl, 0, Nat.zero_le _, rfl, by simp [sumS], by simpa [sumS] using h0⟩
    case round =>
      obtain ⟨rfl, k, hk, rfl, rfl, hbig⟩ := hrel
      by_cases hlt : k < xs.length
      · obtain ⟨x, hxk⟩ := get_some hlt
        obtain ⟨b, o, rfl, hb, hcell⟩ := HX.out k x hxk
        have hxm := HSS.out x (List.mem_of_getElem? hxk)
        unfold maxLen at hxm
        have hst := sumS_take xs k x hxk
        have HS := Lib.hid hst
        clear hst hxk
        by_cases hneg : L - xs.length - sumS (xs.take k) - x.size < 0
        · go_wp2
          go_ret
          exact ⟨rfl, rfl⟩
        · have hnn : 0 ≤ L - xs.length - sumS (xs.take k) - x.size := by omega
          clear hneg
          go_wp2
          go_round
          case rel => exact ⟨rfl, k + 1, by omega, by go_num, by rw [HS.out]; congr 1; omega, by rw [HS.out]; omega⟩
          case measure => simp [intOf]; omega
      · have e : xs.take k = xs := List.take_of_length_le (by omega)
        rw [e] at hbig
        omega
  · go_enter Try.func21, Try.ntmps21
    go_wp2
    go_ret
    exact ⟨rfl, rfl⟩

theorem info9 : (Try.prog.info? 9).map (fun i => (i.zero, i.size, i.bytes)) = some (some (.string ⟨#[]⟩), 1, 16) := by kernel_rfl
/-- the cells of a slice of n strings of which the first k are those of xs -/
def cellsTo (xs : List ByteArray) (k : Nat) : List Value := (xs.take k).map .string ++ List.replicate (xs.length - k) (.string ⟨#[]⟩)
theorem cellsTo_at (xs : List ByteArray) (k : Nat) (h : k < xs.length) : (cellsTo xs k)[k]? = some (.string ⟨#[]⟩) := by
  unfold cellsTo
  have hl : ((xs.take k).map Value.string).length = k := by simp; omega
  rw [List.getElem?_append_right (by omega), hl, Nat.sub_self, List.getElem?_replicate, if_pos (by omega)]
theorem cellsTo_set (xs : List ByteArray) (k : Nat) (x : ByteArray) (h : xs[k]? = some x) : (cellsTo xs k).set k (.string x) = cellsTo xs (k + 1) := by
  obtain ⟨hk, rfl⟩ := List.getElem?_eq_some_iff.1 h
  unfold cellsTo
  have hl : ((xs.take k).map Value.string).length = k := by simp; omega
  rw [List.set_append_right _ _ (by omega), hl, Nat.sub_self, List.take_succ_eq_append_getElem hk, List.map_append, List.append_assoc]
  congr 1
  rw [show xs.length - k = (xs.length - (k + 1)) + 1 by omega, List.replicate_succ]
  rfl
theorem cellsTo_all (xs : List ByteArray) : cellsTo xs xs.length = xs.map .string := by simp [cellsTo]
def OwnsS (base : Nat) (xs : List ByteArray) (w : World) (e : Ending) (w' : World) : Prop :=
  ∃ v, e = .returned v ∧ w'.ownsRow base 9 1 v xs.length (xs.map .string) ∧ Below base w w'
theorem owns_reads {base : Nat} {v : Value} {xs : List ByteArray} {w : World} (h : w.ownsRow base 9 1 v xs.length (xs.map .string)) (hm : xs.length ≤ maxLen) : ReadsS w v xs := by
  have h' := h
  obtain ⟨hl, h2⟩ := h
  rcases h2 with ⟨rfl, h0⟩ | ⟨g, cap, cur, rfl, hg, hb, hnc, hcm, hcs, ht⟩
  · refine ⟨none, 0, by rw [h0], by omega, hm, fun j x hj => ?_⟩
    obtain ⟨hj, _⟩ := List.getElem?_eq_some_iff.1 hj
    omega
  · refine ⟨_, cap, rfl, hnc, hm, fun j x hj => ⟨g, 0, rfl, ?_, ?_⟩⟩
    · obtain ⟨hlt, _⟩ := Array.getElem?_eq_some_iff.1 hb
      exact hlt
    · obtain ⟨hj2, _⟩ := List.getElem?_eq_some_iff.1 hj
      rw [Nat.zero_add, h'.cellAt j (by omega), List.getElem?_map, hj]
      rfl
def ToRel (xs : List ByteArray) (base : Nat) (w : World) (i : Value) (wr : World) : Prop :=
  ∃ k : Nat, k ≤ xs.length ∧ i = .int .i64 k ∧ wr.ownsRow base 9 1 (.slice (some ⟨base, 0, none⟩) xs.length xs.length) xs.length (cellsTo xs k) ∧ Below base w wr ∧ base < wr.heap.size
set_option maxHeartbeats 400000 in
theorem toS_any (v : Value) (xs : List ByteArray) (w : World) (hv : ReadsS w v xs) (hn : xs.length ≤ 1048576) :
    Calls Try.prog 22 #[v] w (OwnsS w.heap.size xs w) := by
  obtain ⟨a, c, rfl, hc, hm, hx⟩ := hv
  have HX := Lib.hid hx
  clear hx hm
  obtain ⟨i0, hi, hz0, hz1, hz2⟩ := info_parts info9
  go_enter Try.func22, Try.ntmps22
  go_wp2_with (at_make; refine wpList_make_full _ rfl _ _ 26 rfl w.heap.size 9 i0 (.string ⟨#[]⟩) 1 Try.underlying26 hi hz0 hz1 .i64 .i64 _ _ xs.length rfl rfl rfl rfl ?c1 ?c2 ?c3 ?_)
  case c1 => rw [hz2]; omega
  case c2 => unfold maxLen; omega
  case c3 => exact Nat.le_refl _
  intro w1 hown hgrow
  have hb1 : Below w.heap.size w w1 := (Below.refl _ _).grown hgrow (Nat.le_refl _) (fun k e => by cases e)
  have hz3 : w.heap.size < w1.heap.size := by
    rcases hown.2 with ⟨h, _⟩ | ⟨g, cap, cur, h, _, hb, _⟩
    · cases h
    · cases h
      exact (Array.getElem?_eq_some_iff.1 hb).1
  have hst : (madeCells #[Value.string ⟨#[]⟩] xs.length).toList = cellsTo xs 0 := by
    apply List.ext_getElem?
    intro j
    by_cases hj : j < xs.length
    · simp [cellsTo, madeCells, hj, Nat.mod_one]
    · simp [cellsTo, madeCells, hj]
  rw [hst] at hown
  clear hgrow hst
  go_wp2
  go_loopw [4] (fun i wr => ToRel xs w.heap.size w i wr) (fun i _ => xs.length - (intOf i).toNat)
  case atStart => exact ⟨0, Nat.zero_le _, rfl, hown, hb1, hz3⟩
  case round =>
    obtain ⟨k, hk, rfl, ho, hb, hz⟩ := hrel
    clear hown hb1 hz3
    by_cases hlt : k < xs.length
    · obtain ⟨x, hxk⟩ := get_some hlt
      obtain ⟨bb, o, rfl, hbl, hcell⟩ := HX.out k x hxk
      have hcr : wr.cell? ⟨bb, o + k, none⟩ = some (.string x) := (hb.cell (p := ⟨bb, o + k, none⟩) hbl).trans hcell
      have hold : wr.cell? ⟨w.heap.size, k, none⟩ = some (.string ⟨#[]⟩) := (ho.cellAt k (by omega)).trans (cellsTo_at xs k hlt)
      have hfr := ho.frozenAt k
      have Hst := Lib.hid (ho.stored k (.string x))
      have Hset := Lib.hid (cellsTo_set xs k x hxk)
      have Hb := Lib.hid hb
      clear hxk ho hb hcell
      go_wp2
      go_roundw
      case rel => exact ⟨k + 1, by omega, by go_num, by rw [← Hset.out]; exact Hst.out.1, Hb.out.setCell (p := ⟨w.heap.size, k, none⟩) (Nat.le_refl _) _, by simpa [World.setCell] using hz⟩
      case measure => simp [intOf]; omega
    · have hke : k = xs.length := by omega
      subst hke
      rw [cellsTo_all] at ho
      have Ho := Lib.hid ho
      have Hb := Lib.hid hb
      clear ho hb
      go_wp2
      go_ret
      exact ⟨_, rfl, Ho.out, Hb.out⟩

def EqRel (n : Nat) (w : World) (i : Value) (wr : World) : Prop := ∃ k m : Nat, k ≤ n ∧ i = .int .i64 k ∧ wr = w.drewN m
set_option maxHeartbeats 400000 in
theorem eqS_yes (v1 v2 : Value) (xs : List ByteArray) (w : World) (h1 : ReadsS w v1 xs) (h2 : ReadsS w v2 xs) :
    Calls Try.prog 18 #[v1, v2] w fun e w' => e = .returned (.bool true) ∧ ∃ m, w' = w.drewN m := by
  obtain ⟨a1, c1, rfl, hc1, hm1, hx1⟩ := h1
  obtain ⟨a2, c2, rfl, hc2, _, hx2⟩ := h2
  have H1 := Lib.hid hx1
  have H2 := Lib.hid hx2
  clear hx1 hx2
  unfold maxLen at hm1
  go_enter Try.func18, Try.ntmps18
  go_wp2
  go_loopw [4, 5] (fun r i wr => r = .bool false ∧ EqRel xs.length w i wr) (fun _ i _ => xs.length - (intOf i).toNat)
  case atStart => exact ⟨rfl, 0, 0, Nat.zero_le _, rfl, rfl⟩
  case round =>
    obtain ⟨rfl, k, m, hk, rfl, rfl⟩ := hrel
    by_cases hlt : k < xs.length
    · obtain ⟨x, hxk⟩ := get_some hlt
      obtain ⟨b1, o1, rfl, _, hcell1⟩ := H1.out k x hxk
      obtain ⟨b2, o2, rfl, _, hcell2⟩ := H2.out k x hxk
      have hi0 : 0 ≤ (k : Int) := by omega
      have hi1 : (k : Int) < xs.length := by omega
      clear hxk
      go_wp2
      go_quiet (fail)
      go_wp2
      go_roundw
      case rel => exact ⟨rfl, k + 1, m + nq, by omega, by go_num, rfl⟩
      case measure => simp [intOf]; omega
    · go_wp2
      go_ret
      exact ⟨rfl, m, rfl⟩
end Go.Proofs.Ytokpgdojcjmliaa
