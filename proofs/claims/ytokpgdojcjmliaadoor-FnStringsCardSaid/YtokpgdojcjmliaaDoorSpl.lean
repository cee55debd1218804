/-
  What is proved: the contract of spec.l1Split: it returns a new slice that holds the parts of its text between the bytes. Conditions: a text of at most 1048576 bytes.
-/
import Derived.Test.YtokpgdojcjmliaaDoorSeal
import Derived.OwnWalk
import Derived.Maps.AppendAt
namespace Go.Proofs.YtokpgdojcjmliaaDoor
open Go.RowKit

/-- the value of a list of bytes as a string -/
def strV (p : List UInt8) : Value := .string ⟨p.toArray⟩
def splStep (c : UInt8) (st : List (List UInt8) × List UInt8) (b : UInt8) : List (List UInt8) × List UInt8 := if b = c then (st.1 ++ [st.2], []) else (st.1, st.2 ++ [b])
def splFold (c : UInt8) (l : List UInt8) : List (List UInt8) × List UInt8 := l.foldl (splStep c) ([], [])
/-- the parts of l between the bytes c -/
def splitL (c : UInt8) (l : List UInt8) : List (List UInt8) := (splFold c l).1 ++ [(splFold c l).2]
theorem splFold_snoc (c : UInt8) (l : List UInt8) (b : UInt8) : splFold c (l ++ [b]) = splStep c (splFold c l) b := by simp [splFold]
theorem splFold_len (c : UInt8) (l : List UInt8) : (splFold c l).1.length ≤ l.length := by
  suffices h : ∀ (l : List UInt8) (st : List (List UInt8) × List UInt8), (l.foldl (splStep c) st).1.length ≤ st.1.length + l.length by
    simpa [splFold] using h l ([], [])
  intro l
  induction l with
  | nil => intro st; simp
  | cons b l ih =>
    intro st
    have h := ih (splStep c st b)
    have h2 : (splStep c st b).1.length ≤ st.1.length + 1 := by unfold splStep; split <;> simp
    simp only [List.foldl_cons, List.length_cons]
    omega
theorem extract_list (s : ByteArray) (a b : Nat) : (s.extract a b).data.toList = (s.data.toList.drop a).take (b - a) := by
  simp [ByteArray.data_extract, Array.toList_extract, List.extract_eq_take_drop]
theorem extract_snoc (s : ByteArray) (a k : Nat) (ha : a ≤ k) (h : k < s.size) : (s.extract a (k + 1)).data.toList = (s.extract a k).data.toList ++ [s[k]] := by
  rw [extract_list, extract_list, show k + 1 - a = (k - a) + 1 by omega]
  have hl : k - a < (s.data.toList.drop a).length := by simp; omega
  rw [List.take_succ_eq_append_getElem hl]
  congr 1
  have e : a + (k - a) = k := by omega
  simp only [List.getElem_drop, e]
  rfl
theorem strV_extract (s : ByteArray) (a b : Nat) : Value.string (s.extract a b) = strV (s.extract a b).data.toList := by
  unfold strV; rfl
theorem info9 : (Tryd.prog.info? 9).map (fun i => (i.zero, i.size, i.bytes)) = some (some (.string ⟨#[]⟩), 1, 16) := by kernel_rfl
def OwnsStrs (base : Nat) (l : List (List UInt8)) (w : World) (e : Ending) (w' : World) : Prop :=
  ∃ v, e = .returned v ∧ w'.ownsRow base 9 1 v l.length (l.map strV) ∧ Below base w w'
/-- what holds of l1Split's slots after k bytes -/
def SplRel (c : UInt8) (s : ByteArray) (base : Nat) (w : World) (v f i : Value) (wr : World) : Prop :=
  ∃ (k a : Nat), k ≤ s.size ∧ a ≤ k ∧ i = .int .i64 k ∧ f = .int .i64 a ∧ (splFold c (s.data.toList.take k)).2 = (s.extract a k).data.toList ∧
    wr.ownsRow base 9 1 v (splFold c (s.data.toList.take k)).1.length ((splFold c (s.data.toList.take k)).1.map strV) ∧ Below base w wr ∧ base ≤ wr.heap.size
theorem splRel_same {c : UInt8} {s : ByteArray} {base : Nat} {w wr : World} {v : Value} {k a : Nat} (hk : k < s.size) (ha : a ≤ k) (hne : s[k] ≠ c)
    (hcur : (splFold c (s.data.toList.take k)).2 = (s.extract a k).data.toList)
    (hown : wr.ownsRow base 9 1 v (splFold c (s.data.toList.take k)).1.length ((splFold c (s.data.toList.take k)).1.map strV)) (hb : Below base w wr) (hz : base ≤ wr.heap.size) :
    SplRel c s base w v (.int .i64 a) (.int .i64 ((k : Int) + 1)) wr := by
  refine ⟨k + 1, a, by omega, by omega, by congr 1, rfl, ?_, ?_, hb, hz⟩
  · rw [take_snoc s k hk, splFold_snoc, splStep, if_neg hne, extract_snoc s a k ha hk]; simp [hcur]
  · rw [take_snoc s k hk, splFold_snoc, splStep, if_neg hne]; exact hown
theorem splRel_cut {c : UInt8} {s : ByteArray} {base : Nat} {w wr : World} {v : Value} {k a : Nat} (hk : k < s.size) (he : s[k] = c)
    (hcur : (splFold c (s.data.toList.take k)).2 = (s.extract a k).data.toList)
    (hown : wr.ownsRow base 9 1 v ((splFold c (s.data.toList.take k)).1.length + 1) ((splFold c (s.data.toList.take k)).1.map strV ++ [.string (s.extract a k)])) (hb : Below base w wr) (hz : base ≤ wr.heap.size) :
    SplRel c s base w v (.int .i64 ((k : Int) + 1)) (.int .i64 ((k : Int) + 1)) wr := by
  refine ⟨k + 1, k + 1, by omega, by omega, by congr 1, by congr 1, ?_, ?_, hb, hz⟩
  · rw [take_snoc s k hk, splFold_snoc, splStep, if_pos he, extract_list]; simp
  · rw [take_snoc s k hk, splFold_snoc, splStep, if_pos he]
    simp only [List.length_append, List.length_singleton, List.map_append, List.map_cons, List.map_nil]
    rw [hcur, ← strV_extract]; exact hown
theorem splRel_end {c : UInt8} {s : ByteArray} {base : Nat} {w wr w' : World} {v v' : Value} {k a : Nat} (hk : k = s.size)
    (hcur : (splFold c (s.data.toList.take k)).2 = (s.extract a k).data.toList)
    (hown : w'.ownsRow base 9 1 v' ((splFold c (s.data.toList.take k)).1.length + 1) ((splFold c (s.data.toList.take k)).1.map strV ++ [.string (s.extract a s.size)]))
    (hv : ∀ j, v.ownBlock = some j → base ≤ j) (hb : Below base w wr) (hz : base ≤ wr.heap.size) (o : Obj) (hg : (wr.alloc o).grownBy w' v.ownBlock) :
    OwnsStrs base (splitL c s.data.toList) w (.returned v') w' := by
  subst hk
  have e : s.data.toList.take s.size = s.data.toList := List.take_of_length_le (by simp)
  rw [e] at hcur hown
  refine ⟨v', rfl, ?_, (hb.alloc hz o).grown hg (by simp; omega) hv⟩
  unfold splitL
  simp only [List.length_append, List.length_singleton, List.map_append, List.map_cons, List.map_nil]
  rw [hcur, ← strV_extract]; exact hown

set_option maxHeartbeats 800000 in
theorem split_any (s : ByteArray) (c : UInt8) (w : World) (hs : s.size ≤ 1048576) :
    Calls Tryd.prog 36 #[.string s, .int .u8 c.toNat] w (OwnsStrs w.heap.size (splitL c s.data.toList) w) := by
  obtain ⟨i0, hi, hz0, hz1, hz2⟩ := info_parts info9
  go_enter Tryd.func36, Tryd.ntmps36
  go_wp2
  go_loopw [5, 6, 7] (fun v f i wr => SplRel c s w.heap.size w v f i wr) (fun _ _ i _ => s.size - (intOf i).toNat)
  case atStart => exact ⟨0, 0, Nat.zero_le _, Nat.le_refl _, rfl, rfl, by rw [extract_list]; simp [splFold], by simpa [splFold] using World.ownsRow_made w #[] 0 (Nat.le_refl _) (by decide) (by simp), (Below.refl _ _).alloc (Nat.le_refl _) _, by simp⟩
  case round =>
    obtain ⟨k, a, hk, hak, rfl, rfl, hcur, hown, hb, hz⟩ := hrel
    have hlen := splFold_len c (s.data.toList.take k)
    have hlen2 : (splFold c (s.data.toList.take k)).1.length ≤ 1048576 := by simp at hlen; omega
    have Hcur := Lib.hid hcur
    clear hcur hlen
    by_cases hlt : k < s.size
    · by_cases he : s[k] = c
      · have heq : ((s[k].toNat : Int) == (c.toNat : Int)) = true := by rw [he]; simp
        have He := Lib.hid he
        clear he
        go_wp2_with (at_builtin; refine wpList_append_own _ rfl _ _ 44 rfl w.heap.size 9 i0 (.string ⟨#[]⟩) 1 16 Tryd.underlying44 hi hz0 hz1 hz2 rfl (by decide) _ _ _ rfl (hown.alloc _) ⟨wr.heap.size, 0, none⟩ 1 1 [.string (s.extract a k)] rfl rfl ?c1 ?c2 ?c3 ?c4 ?c5 ?_)
        case c1 => exact cell_one_new _ _ _
        case c2 => intro u hu; simp at hu; subst hu; rfl
        case c3 => unfold maxLen; omega
        case c4 => omega
        case c5 => simp; omega
        intro v' w1 hown' hgrow _
        have hlt2 := hown.lt
        have hb1 := (hb.alloc hz (.cells #[.string (s.extract a k)] 9)).grown hgrow (by simp; omega) (fun j e => (hlt2 j e).1)
        have hz1 : w.heap.size ≤ w1.heap.size := by have := hgrow.size; simp at this; omega
        clear hlt2 hgrow hown hb hz
        go_wp2
        go_roundw
        case rel => exact splRel_cut hlt He.out Hcur.out hown' hb1 hz1
        case measure => simp [intOf]; omega
      · have hne := ne_u8 he
        have He := Lib.hid he
        clear he
        go_wp2
        go_roundw
        case rel => exact splRel_same hlt hak He.out Hcur.out hown hb hz
        case measure => simp [intOf]; omega
    · have hke : k = s.size := by omega
      have Hk := Lib.hid hke
      clear hke
      go_wp2_with (at_builtin; refine wpList_append_own _ rfl _ _ 44 rfl w.heap.size 9 i0 (.string ⟨#[]⟩) 1 16 Tryd.underlying44 hi hz0 hz1 hz2 rfl (by decide) _ _ _ rfl (hown.alloc _) ⟨wr.heap.size, 0, none⟩ 1 1 [.string (s.extract a s.size)] rfl rfl ?d1 ?d2 ?d3 ?d4 ?d5 ?_)
      case d1 => exact cell_one_new _ _ _
      case d2 => intro u hu; simp at hu; subst hu; rfl
      case d3 => unfold maxLen; omega
      case d4 => omega
      case d5 => simp; omega
      intro v' w1 hown' hgrow _
      have hlt2 := hown.lt
      have Hend := Lib.hid (splRel_end Hk.out Hcur.out hown' (fun j e => (hlt2 j e).1) hb hz _ hgrow)
      clear hlt2 hgrow hown hown' hb hz
      go_wp2
      go_ret
      exact Hend.out

end Go.Proofs.YtokpgdojcjmliaaDoor
