/-
  What is proved: the contracts of the laws' own helpers laws.markText, laws.markStringS, laws.heldStringS. Conditions: those of each contract.
-/
import Derived.Test.YtokpgdojcjmliaaIter
import Derived.Laws.IdiomStrings
import Derived.Deep.RegionWith
namespace Go.Proofs.Ytokpgdojcjmliaa
open Go.RowKit

def digitB (k : Nat) : ByteArray := ⟨#[UInt8.ofNat (48 + k % 10)]⟩
/-- the digits of k ahead of s -/
def mtF (k : Nat) (s : ByteArray) : ByteArray := if _h : k = 0 then s else mtF (k / 10) (digitB k ++ s)
termination_by k
decreasing_by omega
def mt (k : Nat) : ByteArray := ⟨#[109]⟩ ++ mtF k ⟨#[]⟩
theorem conv_one (w : World) (c : UInt8) (x : Int) (hx : x = c.toNat) :
    (convert 22 9 (.slice (some ⟨w.heap.size, 0, none⟩) 1 1)).run Try.prog (w.alloc (.cells #[.int .u8 x] 5)) = .ok (.string ⟨#[c]⟩) (w.alloc (.cells #[.int .u8 x] 5)) := by
  subst hx
  exact run_convert_bytes_back _ 22 9 5 ⟨w.heap.size, 0, none⟩ 1 [c] Try.underlying22 Try.underlying5 Try.underlying9 (fun j hj => match j, hj with | 0, _ => cell_one_new _ _ _ 0 _ rfl)
def MtRel (K : Nat) (base : Nat) (w : World) (k s : Value) (wr : World) : Prop :=
  ∃ (j : Nat) (z : ByteArray), k = .int .i64 j ∧ s = .string z ∧ mtF j z = mtF K ⟨#[]⟩ ∧ z.size + j ≤ K ∧ Below base w wr ∧ base ≤ wr.heap.size
theorem digit_val (j : Nat) : (48 + (j : Int) % 10) = ((UInt8.ofNat (48 + j % 10)).toNat : Int) := by
  have : (UInt8.ofNat (48 + j % 10)).toNat = 48 + j % 10 := by simp; omega
  omega
theorem mtF_step (j : Nat) (z : ByteArray) (h : 0 < j) : mtF j z = mtF (j / 10) (digitB j ++ z) := by
  rw [mtF, dif_neg (by omega)]
theorem mtF_zero (z : ByteArray) : mtF 0 z = z := by
  rw [mtF, dif_pos rfl]
theorem ret_str {a b : ByteArray} (h : a = b) : Ending.returned (.string a) = .returned (.string b) := by rw [h]
set_option maxHeartbeats 400000 in
theorem markText_any (K : Nat) (w : World) (h0 : 0 < K) (h1 : K ≤ 1000000000) :
    Calls Try.prog 34 #[.int .i64 K] w fun e w' => e = .returned (.string (mt K)) ∧ Below w.heap.size w w' := by
  go_enter Try.func34, Try.ntmps34
  go_wp2
  go_loopw [0, 3] (fun k s wr => MtRel K w.heap.size w k s wr) (fun k _ _ => (intOf k).toNat)
  case atStart => exact ⟨K, ⟨#[]⟩, rfl, rfl, rfl, by show 0 + K ≤ K; omega, Below.refl _ _, Nat.le_refl _⟩
  case round =>
    obtain ⟨j, z, rfl, rfl, hz, hs, hb, hB⟩ := hrel
    have Hz := Lib.hid hz
    have Hb := Lib.hid hb
    clear hz hb
    by_cases hj : 0 < j
    · have hcv : (convert 22 9 (.slice (some ⟨wr.heap.size, 0, none⟩) 1 1)).run Try.prog (wr.alloc (.cells #[.int .u8 (48 + (j : Int) % 10)] 5)) = .ok (.string (digitB j)) (wr.alloc (.cells #[.int .u8 (48 + (j : Int) % 10)] 5)) :=
        conv_one wr (UInt8.ofNat (48 + j % 10)) (48 + (j : Int) % 10) (digit_val j)
      have hcat := fun w => cat_any (digitB j) z w (by show 1 + z.size ≤ _; omega)
      have Hst := Lib.hid (mtF_step j z hj)
      go_wp2
      go_roundw
      case rel => exact ⟨j / 10, digitB j ++ z, by congr 1, rfl, by rw [← Hst.out, Hz.out], by rw [ByteArray.size_append]; show 1 + z.size + j / 10 ≤ K; omega, Hb.out.alloc hB _, by simp; omega⟩
      case measure => simp [intOf]; omega
    · obtain rfl : j = 0 := by omega
      have hcat := fun w => cat_any ⟨#[109]⟩ z w (by show 1 + z.size ≤ _; omega)
      go_wp2
      go_ret
      refine ⟨ret_str ?_, Hb.out⟩
      have := Hz.out
      rw [mtF_zero] at this
      rw [this]
      rfl

/-- the marks from K on -/
def mts (K n : Nat) : List ByteArray := (List.range n).map fun i => mt (K + i)
theorem mts_len (K n : Nat) : (mts K n).length = n := by simp [mts]
theorem mts_at (K n k : Nat) (h : k < n) : (mts K n)[k]? = some (mt (K + k)) := by simp [mts, h]
/-- the cells when k of n marks stand -/
def markTo (K k : Nat) (ys : List Value) : List Value := (mts K k).map .string ++ ys.drop k
theorem markTo_zero (K : Nat) (ys : List Value) : markTo K 0 ys = ys := by simp [markTo, mts]
theorem markTo_len (K k : Nat) (ys : List Value) (h : k ≤ ys.length) : (markTo K k ys).length = ys.length := by simp [markTo, mts_len]; omega
theorem markTo_set (K k : Nat) (ys : List Value) (h : k < ys.length) : (markTo K k ys).set k (.string (mt (K + k))) = markTo K (k + 1) ys := by
  unfold markTo
  have hl : ((mts K k).map Value.string).length = k := by simp [mts_len]
  rw [List.set_append_right _ _ (by omega), hl, Nat.sub_self, List.drop_eq_getElem_cons h]
  simp only [List.set_cons_zero]
  unfold mts
  rw [List.range_succ]
  simp
theorem markTo_all (K : Nat) (ys : List Value) : markTo K ys.length ys = (mts K ys.length).map .string := by simp [markTo]
theorem markTo_some (K k : Nat) (ys : List Value) (h : k < ys.length) : ∃ u, (markTo K k ys)[k]? = some u := get_some (by rw [markTo_len K k ys (by omega)]; exact h)
def MarkRel (K base : Nat) (v : Value) (ys : List Value) (w : World) (kk i : Value) (wr : World) : Prop :=
  ∃ k j : Nat, k ≤ ys.length ∧ j = K + k ∧ i = .int .i64 k ∧ kk = .int .i64 j ∧ wr.ownsRow base 9 1 v ys.length (markTo K k ys) ∧ Below base w wr ∧ base ≤ wr.heap.size
theorem owns_shape {w : World} {base n : Nat} {v : Value} {xs : List Value} (h : w.ownsRow base 9 1 v n xs) : ∃ a c, v = .slice a n c ∧ (0 < n → ∃ g, a = some ⟨g, 0, none⟩ ∧ base ≤ g ∧ g < w.heap.size) := by
  rcases h.2 with ⟨rfl, rfl⟩ | ⟨g, cap, cur, rfl, hg, hb, _⟩
  · exact ⟨none, 0, rfl, fun h => by omega⟩
  · exact ⟨_, cap, rfl, fun _ => ⟨g, rfl, hg, (Array.getElem?_eq_some_iff.1 hb).1⟩⟩
def MarkPost (K base : Nat) (v : Value) (n : Nat) (w : World) (e : Ending) (w' : World) : Prop :=
  e = .returned (.int .i64 ((K + n : Nat) : Int)) ∧ w'.ownsRow base 9 1 v n ((mts K n).map .string) ∧ Below base w w'
set_option maxHeartbeats 800000 in
theorem mark_any (v : Value) (ys : List Value) (base K : Nat) (w : World) (ho : w.ownsRow base 9 1 v ys.length ys) (hn : ys.length ≤ 1048576) (hK0 : 0 < K) (hK : K ≤ 10) (hbase : base ≤ w.heap.size) :
    Calls Try.prog 19 #[v, .int .i64 K] w (MarkPost K base v ys.length w) := by
  obtain ⟨a, c, rfl, ha⟩ := owns_shape ho
  have Ho := Lib.hid ho
  have Ha := Lib.hid ha
  clear ho ha
  go_enter Try.func19, Try.ntmps19
  go_wp2
  go_loopw [1, 5] (fun kk i wr => MarkRel K base (.slice a ys.length c) ys w kk i wr) (fun _ i _ => ys.length - (intOf i).toNat)
  case atStart => exact ⟨0, K, Nat.zero_le _, rfl, rfl, rfl, by rw [markTo_zero]; exact Ho.out, Below.refl _ _, hbase⟩
  case round =>
    obtain ⟨k, j, hk, hj, rfl, rfl, ho, hb, hz⟩ := hrel
    have hjn : j ≤ 1048586 := by omega
    have hjp : 0 < j := by omega
    have Hj := Lib.hid hj
    have Hb := Lib.hid hb
    clear hj hb
    by_cases hlt : k < ys.length
    · obtain ⟨g, rfl, hg1, _⟩ := Ha.out (by omega)
      obtain ⟨u, hu⟩ := markTo_some K k ys hlt
      have hc0 : wr.cell? ⟨g, k, none⟩ = some u := (ho.cellAt k (by omega)).trans hu
      have hf0 := ho.frozenAt k
      have hgl := World.block_lt_of_cell? _ _ hc0
      have Hmk := Lib.hid (fun w => markText_any j w hjp (by omega))
      have Hset := Lib.hid (markTo_set K k ys hlt)
      have Hor := Lib.hid ho
      clear hu ho
      go_wp2_with fail
      refine (Hmk.out _).mono ?_
      rintro e w1 ⟨rfl, hb1⟩
      have hc1 : w1.cell? ⟨g, k, none⟩ = some u := (hb1.cell (p := ⟨g, k, none⟩) hgl).trans hc0
      have hf1 : w1.frozen? ⟨g, k, none⟩ = false := (hb1.frozen (p := ⟨g, k, none⟩) hgl).trans hf0
      have ho1 : w1.ownsRow base 9 1 (.slice (some ⟨g, 0, none⟩) ys.length c) ys.length (markTo K k ys) := Hor.out.kept (row := none) ⟨hb1.os, hb1.tape, hb1.output, hb1.size, fun b hbl _ => hb1.block b hbl⟩ (.inr (by simp [Value.ownBlock]))
      have Hst := Lib.hid (ho1.stored k (.string (mt j)))
      have Hb1 := Lib.hid (Hb.out.trans (hb1.mono hz))
      have hz1 : base ≤ w1.heap.size := Nat.le_trans hz hb1.size
      clear hb1 ho1 hc0 hf0
      go_wp2
      go_roundw
      case rel =>
        refine ⟨k + 1, j + 1, by omega, by have := Hj.out; omega, by congr 1, by congr 1, ?_, Hb1.out.setCell (p := ⟨g, k, none⟩) hg1 _, by simpa [World.setCell] using hz1⟩
        rw [← Hset.out, ← Hj.out]
        exact Hst.out.1
      case measure => simp [intOf]; omega
    · have hke : k = ys.length := by omega
      subst hke
      rw [markTo_all] at ho
      have Ho2 := Lib.hid ho
      clear ho
      go_wp2
      go_ret
      exact ⟨ret_int (by rw [Hj.out]), Ho2.out, Hb.out⟩

def HeldRel (K : Nat) (n : Nat) (w : World) (kk i : Value) (wr : World) : Prop :=
  ∃ k j : Nat, k ≤ n ∧ j = K + k ∧ i = .int .i64 k ∧ kk = .int .i64 j ∧ Below w.heap.size w wr
def HeldPost (r : Int) (w : World) (e : Ending) (w' : World) : Prop := e = .returned (.int .i64 r) ∧ Below w.heap.size w w'
theorem same_str (z : ByteArray) : (z.toList == z.toList) = true := by simp
set_option maxHeartbeats 1600000 in
theorem held_any (v : Value) (n K : Nat) (w : World) (hv : ReadsS w v (mts K n)) (hn : n ≤ 1048576) (hK0 : 0 < K) (hK : K ≤ 10) :
    Calls Try.prog 20 #[v, .int .i64 K] w (HeldPost ((K + n : Nat) : Int) w) := by
  obtain ⟨a, c, rfl, hc, hm, hx⟩ := hv
  have HX := Lib.hid hx
  rw [mts_len] at hc ⊢
  clear hx hm
  go_enter Try.func20, Try.ntmps20
  go_wp2
  go_loopw [1, 4, 5] (fun kk r i wr => r = .int .i64 0 ∧ HeldRel K n w kk i wr) (fun _ _ i _ => n - (intOf i).toNat)
  case atStart => exact ⟨rfl, 0, K, Nat.zero_le _, rfl, rfl, rfl, Below.refl _ _⟩
  case round =>
    obtain ⟨rfl, k, j, hk, hj, rfl, rfl, hb⟩ := hrel
    have hjn : j ≤ 1048586 := by omega
    have hjp : 0 < j := by omega
    have Hj := Lib.hid hj
    have Hb := Lib.hid hb
    clear hj hb
    by_cases hlt : k < n
    · have hxk : (mts K n)[k]? = some (mt j) := by rw [mts_at K n k hlt, Hj.out]
      obtain ⟨b, o, rfl, hbl, hcell⟩ := HX.out k (mt j) hxk
      have hcr : wr.cell? ⟨b, o + k, none⟩ = some (.string (mt j)) := (Hb.out.cell (p := ⟨b, o + k, none⟩) hbl).trans hcell
      have hbr : b < wr.heap.size := Nat.lt_of_lt_of_le hbl Hb.out.size
      have hi0 : 0 ≤ (k : Int) := by omega
      have hi1 : (k : Int) < n := by omega
      have heq := same_str (mt j)
      have Hmk := Lib.hid (fun w => markText_any j w hjp (by omega))
      clear hxk hcell
      go_wp2
      go_region_with (go_at_call 34; refine (Hmk.out _).mono ?_; rintro e w1 ⟨rfl, hb1⟩; have hc1 := (hb1.cell (p := ⟨b, o + k, none⟩) (by simpa using hbr)).trans hcr; have hb2 : Below wr.heap.size wr w1 := ⟨hb1.os, hb1.tape, hb1.output, hb1.size, hb1.block⟩; have Hb2 := Lib.hid (Hb.out.trans (hb2.mono Hb.out.size)); clear hb2)
      all_goals
        go_wp2
        go_roundw
        case rel => exact ⟨rfl, k + 1, j + 1, by omega, by have := Hj.out; omega, by congr 1, by congr 1, Hb2.out⟩
        case measure => simp [intOf]; omega
    · have hke : k = n := by omega
      subst hke
      go_wp2
      go_ret
      exact ⟨ret_int (by rw [Hj.out]), Hb.out⟩
end Go.Proofs.Ytokpgdojcjmliaa
