/-
  What is proved: the contracts of impl.partsOf, of the iterator that it returns, and of impl.SplitString.
-/
import Derived.RangeFuncBox
import Derived.RangeFuncNested
import Derived.RangeFuncBound
import Derived.RangeFuncCalls
import Derived.RangeFuncLeaves
import Derived.Shelf.Abstract
import Derived.Shelf.RegionOpen
import Derived.WalkKit
import Derived.OwnWalkIn
import Derived.TacticsInMore
import Derived.LoopNIn
import Derived.LoopIn
import Derived.Maps.AppendAt
import Derived.Test.YtokpgdojcjmliaaSpl
namespace Go.Proofs.Ytokpgdojcjmliaa
open Go.RowKit Go.Shelf
attribute [local go_sem] Oper.semAt_some

/-- what the walk needs of IndexByte where the byte stands in the text -/
def IxAt (x : ByteArray) (c : UInt8) (k : Nat) : Prop := ∃ hk : k < x.size, x[k] = c ∧ ∀ j, ∀ hj : j < k, x[j]'(by omega) ≠ c
theorem ix_at (x : ByteArray) (c : UInt8) (h : hasB x c = true) : ∃ k : Nat, IxAt x c k ∧ ∀ w, Calls Try.prog 37 #[.string x, .int .u8 c.toNat] w fun e w' => e = .returned (.int .i64 k) ∧ w' = w := by
  have h2 := has_index x.data.toList c
  have h3 : x.data.toList.contains c = true := h
  rw [h3] at h2
  have h4 : 0 ≤ Lib.indexByte x.data.toList c := by simpa using h2
  obtain ⟨k, hk⟩ : ∃ k : Nat, Lib.indexByte x.data.toList c = k := ⟨(Lib.indexByte x.data.toList c).toNat, by omega⟩
  obtain ⟨h5, h6⟩ := Lib.indexByte_some hk
  obtain ⟨hlt, he⟩ := List.getElem?_eq_some_iff.1 h5
  refine ⟨k, ⟨by simpa using hlt, he, fun j hj e => ?_⟩, fun w => ?_⟩
  · refine h6 j hj ?_
    rw [List.getElem?_eq_getElem (by omega)]
    exact congrArg some e
  · refine (Try.strings_IndexByte x c.toNat w).mono ?_
    rintro e w' ⟨rfl, rfl⟩
    refine ⟨?_, rfl⟩
    rw [u8_back]
    exact ret_int hk
theorem ix_miss (x : ByteArray) (c : UInt8) (h : hasB x c = false) (w : World) : Calls Try.prog 37 #[.string x, .int .u8 c.toNat] w fun e w' => e = .returned (.int .i64 (-1)) ∧ w' = w :=
  (ix_no x c w h).mono fun _ _ ⟨he, hw⟩ => ⟨he, hw.symm⟩
def szOf : Value → Nat
  | .string r => r.size
  | _ => 0
/-- what holds at the head of the iterator's rounds -/
def ItRel (c : UInt8) (s : ByteArray) (J : List ByteArray → World → Prop) (Bc : Nat) (v : Value) (wr : World) : Prop :=
  ∃ (pre : List ByteArray) (r : ByteArray), v = .string r ∧ r.size ≤ s.size ∧ splitB c s = pre ++ splitB c r ∧ J pre wr ∧ wr.cell? ⟨Bc, 0, none⟩ = some (.int .u8 c.toNat)
set_option maxRecDepth 100000 in
set_option maxHeartbeats 1000000 in
theorem iter_in (l Bs Bc : Nat) (s : ByteArray) (c : UInt8) (_hsz : s.size ≤ 4000) (J Jx : List ByteArray → World → Prop)
    (hY : ∀ pre x W, J pre W → pre.length < (splitB c s).length → YieldAt Fence.wide (3 - 1) Try.prog l #[.string x] W fun e W' =>
      (e = .returned (.bool true) ∧ J (pre ++ [x]) W' ∧ W'.heap[Bc]? = W.heap[Bc]?) ∨ (e = .returned (.bool false) ∧ Jx (pre ++ [x]) W'))
    (w : World) (hs : w.cell? ⟨Bs, 0, none⟩ = some (.string s)) (hc : w.cell? ⟨Bc, 0, none⟩ = some (.int .u8 c.toNat)) (h0 : J [] w) :
    CallsIn Fence.wide 3 Try.prog 36 #[.func (.yield l) #[] #[], .pointer (some ⟨Bs, 0, none⟩), .pointer (some ⟨Bc, 0, none⟩)] w fun e W' => (∃ v, e = .returned v) ∧
      ((∃ ys, ys = splitB c s ∧ J ys W') ∨ (∃ pre, pre <+: splitB c s ∧ Jx pre W')) := by
  refine callsIn_of_wp Try.func36 rfl trivial ?_ rfl
  simp only [Try.ntmps36, List.size_toArray, List.length_cons, List.length_nil, Nat.reduceAdd, Nat.reduceSub, Array.replicate_succ, Array.replicate_zero, List.push_toArray, List.append_toArray, List.nil_append, List.cons_append]
  refine wpIn_wide.2 ?_
  refine wp_scope_straight ((wpIn_wide (n := 3)).1 ?_)
  gi_wp2
  refine wpIn_label ?_
  gi_wp2
  gi_loopw [4] (fun p wr => ItRel c s J Bc p wr) (fun p wr => szOf p)
  case atStart => exact ⟨[], s, rfl, Nat.le_refl _, rfl, h0, hc⟩
  case round =>
    obtain ⟨pre, r, rfl, hr, hsp, hJ, hcc⟩ := hrel
    cases hh : hasB r c
    · have hsplit := splitB_none c r hh
      have Hix := Lib.hid (ix_miss r c hh)
      obtain ⟨fn, tmps, assign, body, hy, hR⟩ := hY pre r wr hJ (by rw [hsp, hsplit]; simp)
      have HR := Lib.hid hR
      have Hsp := Lib.hid (hsp.trans (congrArg (pre ++ ·) hsplit))
      clear hh hsplit hsp hR
      gi_wp2_with (refine ⟨trivial, ?_⟩; gi_at_call 37; refine (callsIn_wide.2 (Hix.out _)).mono ?_; rintro e w' ⟨rfl, rfl⟩)
      refine HR.out.mono ?_
      rintro e W3 (⟨rfl, hJ3, hk3⟩ | ⟨rfl, hJx3⟩)
      · gi_wp2
        rw [Exit.noGoto_normal]
        go_end0
        exact ⟨⟨_, rfl⟩, .inl ⟨pre ++ [r], Hsp.out.symm, hJ3⟩⟩
      · gi_wp2
        rw [Exit.noGoto_normal]
        go_end0
        exact ⟨⟨_, rfl⟩, .inr ⟨pre ++ [r], by rw [Hsp.out]; exact List.prefix_refl _, hJx3⟩⟩
    · obtain ⟨k, hk, hix⟩ := ix_at r c hh
      have Hix := Lib.hid hix
      have hkl := hk.1
      have hsplit := splitB_cut c r k hkl hk.2.1 hk.2.2
      obtain ⟨fn, tmps, assign, body, hy, hR⟩ := hY pre (r.extract 0 k) wr hJ (by rw [hsp, hsplit]; simp)
      have HR := Lib.hid hR
      have Hsp := Lib.hid (hsp.trans (congrArg (pre ++ ·) hsplit))
      clear hix hh hk hsplit hsp hR
      gi_wp2_with (refine ⟨trivial, ?_⟩; gi_at_call 37; refine (callsIn_wide.2 (Hix.out _)).mono ?_; rintro e w' ⟨rfl, rfl⟩)
      refine HR.out.mono ?_
      rintro e W3 (⟨rfl, hJ3, hk3⟩ | ⟨rfl, hJx3⟩)
      · have hc3 : W3.cell? ⟨Bc, 0, none⟩ = some (.int .u8 c.toNat) := (World.cell?_of_block (a := ⟨Bc, 0, none⟩) hk3).trans hcc
        gi_wp2
        go_roundw
        case rel => exact ⟨pre ++ [r.extract 0 k], r.extract (k + 1) r.size, rfl, by rw [ByteArray.size_extract]; omega, by rw [Hsp.out]; simp, hJ3, hc3⟩
        case measure => simp [szOf]; omega
      · gi_wp2
        rw [Exit.noGoto_normal]
        go_end0
        exact ⟨⟨_, rfl⟩, .inr ⟨pre ++ [r.extract 0 k], by rw [Hsp.out]; exact ⟨splitB c (r.extract (k + 1) r.size), by simp⟩, hJx3⟩⟩

/-- the iterator stops behind all parts, or behind the part at which a round said no more -/
theorem iter_stops (Bs Bc : Nat) (s : ByteArray) (c : UInt8) (hsz : s.size ≤ 4000) (w : World) (hBs : Bs < w.heap.size) (hBc : Bc < w.heap.size)
    (hs : w.cell? ⟨Bs, 0, none⟩ = some (.string s)) (hc : w.cell? ⟨Bc, 0, none⟩ = some (.int .u8 c.toNat)) :
    SeqStopsK Fence.wide 3 Try.prog 36 #[.pointer (some ⟨Bs, 0, none⟩), .pointer (some ⟨Bc, 0, none⟩)] (fun x : ByteArray => #[Value.string x]) (fun W W' => W'.heap[Bc]? = W.heap[Bc]?) (fun ys => ys = splitB c s) (fun pre => pre <+: splitB c s) (splitB c s).length w := fun l J Jx W hW _ _ hY h0 =>
  iter_in l Bs Bc s c hsz J Jx hY W ((hW.cell (p := ⟨Bs, 0, none⟩) hBs).trans hs) ((hW.cell (p := ⟨Bc, 0, none⟩) hBc).trans hc) h0
/-- partsOf boxes its two arguments; its function value captures the boxes -/
theorem partsOf_any (s : ByteArray) (c : UInt8) (w : World) :
    Calls Try.prog 27 #[.string s, .int .u8 c.toNat] w fun e w' => e = .returned (.func (.func 36) #[] #[.pointer (some ⟨w.heap.size, 0, none⟩), .pointer (some ⟨w.heap.size + 1, 0, none⟩)]) ∧ w' = (w.alloc (.cells #[.string s] 9)).alloc (.cells #[.int .u8 c.toNat] 5) := by
  go_enter Try.func27, Try.ntmps27
  go_wp2
  go_ret
  exact ⟨rfl, rfl⟩
/-- what holds of impl.SplitString's blocks when the parts pre have come -/
def Coll (base : Nat) (c : UInt8) (w : World) (pre : List ByteArray) (W : World) : Prop :=
  ((∃ v, Boxed W (base + 1) 26 v ∧ W.ownsRow base 9 1 v pre.length (pre.map Value.string) ∧ True) ∧ Below base w W) ∧ Boxed W (base + 3) 5 (.int .u8 c.toNat)
set_option maxRecDepth 100000 in
set_option maxHeartbeats 2000000 in
theorem impl_split_in (s sep : ByteArray) (w : World) (hsz : s.size ≤ 4000) (h0 : 0 < sep.size) (h1 : sep.size ≤ 1) :
    CallsIn Fence.wide 4 Try.prog 10 #[.string s, .string sep] w fun e W' => ∃ v, e = .returned (.tuple #[v, .bool true]) ∧ W'.ownsRow w.heap.size 9 1 v (splitB sep[0] s).length ((splitB sep[0] s).map Value.string) ∧ Below w.heap.size w W' := by
  have t1 : ((sep.size : Int) == 1) = true := by rw [beq_iff_eq]; omega
  have t3 : (sep.size : Int) = 1 := by omega
  have t4 : decide (4000 < (s.size : Int)) = false := decide_eq_false (by omega)
  have hlen := splitB_size sep[0] s
  obtain ⟨i0, hi, hz0, hz1, hz2⟩ := info_parts info9
  refine callsIn_of_wp_marks Try.func10 rfl trivial ?_ rfl
  simp only [Try.ntmps10, List.size_toArray, List.length_cons, List.length_nil, Nat.reduceAdd, Nat.reduceSub, Array.replicate_succ, Array.replicate_zero, List.push_toArray, List.append_toArray, List.nil_append, List.cons_append]
  gi_wp2_with (refine ⟨trivial, ?_⟩; gi_at_call 27; refine (callsIn_wide.2 (partsOf_any _ _ _)).mono ?_; rintro e w' ⟨rfl, rfl⟩)
  obtain ⟨w1, hw1⟩ : ∃ w1, w1 = w.alloc (.cells #[] 9) := ⟨_, rfl⟩
  have z1 : w1.heap.size = w.heap.size + 1 := by rw [hw1]; simp
  have b1 : Below w.heap.size w w1 := by rw [hw1]; exact (Below.refl _ w).alloc (Nat.le_refl _) _
  have r1 : w1.ownsRow w.heap.size 9 1 (.slice (some ⟨w.heap.size, 0, none⟩) 0 0) 0 [] := by rw [hw1]; exact World.ownsRow_made w #[] 0 (Nat.le_refl _) (by decide) (by simp)
  rw [← hw1]
  clear hw1
  have x1 := Boxed.new w1 26 (.slice (some ⟨w.heap.size, 0, none⟩) 0 0)
  obtain ⟨w2, hw2⟩ : ∃ w2, w2 = w1.alloc (.cells #[.slice (some ⟨w.heap.size, 0, none⟩) 0 0] 26) := ⟨_, rfl⟩
  have z2 : w2.heap.size = w.heap.size + 2 := by rw [hw2]; simp [z1]
  have b2 : Below w.heap.size w w2 := by rw [hw2]; exact b1.alloc (by omega) _
  have r2 : w2.ownsRow w.heap.size 9 1 (.slice (some ⟨w.heap.size, 0, none⟩) 0 0) 0 [] := by rw [hw2]; exact r1.alloc _
  rw [← hw2] at x1 ⊢
  rw [z1] at x1
  clear hw2 r1 b1
  obtain ⟨w3, hw3⟩ : ∃ w3, w3 = w2.alloc (.cells #[.string s] 9) := ⟨_, rfl⟩
  have z3 : w3.heap.size = w.heap.size + 3 := by rw [hw3]; simp [z2]
  have b3 : Below w.heap.size w w3 := by rw [hw3]; exact b2.alloc (by omega) _
  have r3 : w3.ownsRow w.heap.size 9 1 (.slice (some ⟨w.heap.size, 0, none⟩) 0 0) 0 [] := by rw [hw3]; exact r2.alloc _
  have x2 : Boxed w3 (w.heap.size + 1) 26 (.slice (some ⟨w.heap.size, 0, none⟩) 0 0) := by rw [hw3]; exact x1.alloc _
  have y2 : Boxed w3 (w.heap.size + 2) 9 (.string s) := by have := Boxed.new w2 9 (.string s); rw [z2] at this; rw [hw3]; exact this
  rw [← hw3]
  clear hw3 r2 b2 x1
  obtain ⟨w4, hw4⟩ : ∃ w4, w4 = w3.alloc (.cells #[.int .u8 sep[0].toNat] 5) := ⟨_, rfl⟩
  have z4 : w4.heap.size = w.heap.size + 4 := by rw [hw4]; simp [z3]
  have b4 : Below w.heap.size w w4 := by rw [hw4]; exact b3.alloc (by omega) _
  have r4 : w4.ownsRow w.heap.size 9 1 (.slice (some ⟨w.heap.size, 0, none⟩) 0 0) 0 [] := by rw [hw4]; exact r3.alloc _
  have x4 : Boxed w4 (w.heap.size + 1) 26 (.slice (some ⟨w.heap.size, 0, none⟩) 0 0) := by rw [hw4]; exact x2.alloc _
  have y4 : Boxed w4 (w.heap.size + 2) 9 (.string s) := by rw [hw4]; exact y2.alloc _
  have c4 : Boxed w4 (w.heap.size + 3) 5 (.int .u8 sep[0].toNat) := by have := Boxed.new w3 5 (.int .u8 sep[0].toNat); rw [z3] at this; rw [hw4]; exact this
  rw [← hw4]
  clear hw4 r3 b3 x2 y2 z1 z2 z3
  refine wpIn_rangeFunc_ownG rfl (by omega) (gf := 36) (lb := #[.pointer (some ⟨w.heap.size + 2, 0, none⟩), .pointer (some ⟨w.heap.size + 3, 0, none⟩)]) rfl trivial (enters_of Try.func36 (by kernel_rfl) rfl)
    (iter_stops (w.heap.size + 2) (w.heap.size + 3) s sep[0] hsz w4 (by omega) (by omega) y4.cell c4.cell)
    (fun h h' => h'.trans h)
    (fun W l o o' hl _ _ _ => World.putObj_heap_other (by omega))
    (Below.refl _ _) (fun _ => rfl)
    (Coll w.heap.size sep[0] w)
    (fun _ _ _ => False)
    (OwnFrom.and (OwnFrom.and (Own.from (holdsRow_own w.heap.size (w.heap.size + 1) 26 9 1 (fun pre : List ByteArray => pre.length) (fun pre => pre.map Value.string) (fun _ _ => True)) _) (ownFrom_below (Nat.le_refl _) (by omega))) (Own.from (boxed_own _ _ _) _))
    (fun _ _ _ _ _ hs _ _ => hs)
    ⟨⟨⟨_, x4, r4, trivial⟩, b4⟩, c4⟩
    (fun x => { tmps := #[.string s, .string sep, undef, undef, .slice none 0 0, .bool false, .pointer (some ⟨w.heap.size + 1, 0, none⟩), .string x, .string s, .int .i64 s.size, .bool false, .bool false, .string sep, .int .i64 1, .bool false, .bool false, undef, .slice (some ⟨w.heap.size, 0, none⟩) 0 0, .string s, .string sep, .int .u8 sep[0].toNat, .func (.func 36) #[] #[.pointer (some ⟨w.heap.size + 2, 0, none⟩), .pointer (some ⟨w.heap.size + 3, 0, none⟩)], .string x, undef, undef, undef, undef, undef], defers := [] }) ?assign ?body ?done ?stop
  case assign =>
    intro l x W K hK
    gi_wp2
    exact hK
  case body =>
    rintro l pre x W ⟨⟨⟨v, hv, hrow, _⟩, hB⟩, hC⟩ hlt
    have hc := hv.cell
    have hpl : pre.length ≤ 4001 := by omega
    gi_wp2_with (gi_at_builtin; refine wpListIn_append_own _ rfl _ _ 26 rfl w.heap.size 9 i0 (.string ⟨#[]⟩) 1 16 Try.underlying26 hi hz0 hz1 hz2 rfl (by decide) _ _ _ rfl (hrow.alloc _) ⟨W.heap.size, 0, none⟩ 1 1 [.string x] rfl rfl (cell_one_new _ _ _) (by simp [Value.oneCell']) (by unfold maxLen; omega) (by omega) (by have := hB.size; simp; omega) ?_; intro v' w1 hown' hgrow _; obtain ⟨g', cap', rfl⟩ := ownsRow_succ hown'; obtain ⟨hv1, hv2, hr2, hk2, hb2⟩ := hv.appended (by decide) hrow hB.size (Nat.le_succ _) hown' hgrow; have hc1 := hv1.cell; have hf1 := hv1.frozen; have hC2 := ((hC.alloc _).kept hgrow (hC.not_row (by decide) hrow)).other (B' := w.heap.size + 1) (by omega) (.slice (some ⟨g', 0, none⟩) (pre.length + 1) cap'))
    exact ⟨hk2.from _, (show _ = _ from hC2).trans (show _ = _ from hC).symm, ⟨⟨_, hv2, by simpa using hr2, trivial⟩, hB.trans hb2⟩, hC2⟩
  case done =>
    rintro D ys W hD rfl ⟨⟨⟨v, hv, hrow, _⟩, hB⟩, _⟩ hK
    have hc := hv.cell
    gi_wp2
    refine ⟨by simp, .inl ⟨_, _, rfl, run_takeDeferred hK, ?_⟩⟩
    refine ⟨_, results_tmp2 rfl _ _ _, v, rfl, ownsRow_putObj hrow _ hK rfl, hB.trans (belowK_b (w := w) (Nat.le_refl _) W D _ _ (by omega) hK rfl rfl)⟩
  case stop =>
    rintro D c pre W _ _ h _
    exact h.elim

/-- a slice of strings that the call made itself -/
def OwnsB (base : Nat) (xs : List ByteArray) (b : Bool) (w : World) (e : Ending) (w' : World) : Prop :=
  ∃ v, e = .returned (.tuple #[v, .bool b]) ∧ w'.ownsRow base 9 1 v xs.length (xs.map .string) ∧ Below base w w'
theorem impl_split_yes (s sep : ByteArray) (w : World) (hsz : s.size ≤ 4000) (h0 : 0 < sep.size) (h1 : sep.size ≤ 1) :
    Calls Try.prog 10 #[.string s, .string sep] w (OwnsB w.heap.size (splitB sep[0] s) true w) :=
  (callsIn_wide.1 (impl_split_in s sep w hsz h0 h1))
theorem impl_split_no (s sep : ByteArray) (w : World) (hs : s.size ≤ 1048576) (_hp : sep.size ≤ 1048576) (h : 4000 < s.size ∨ sep.size < 1 ∨ 1 < sep.size) :
    Calls Try.prog 10 #[.string s, .string sep] w (OwnsB w.heap.size [] false w) := by
  have hown : (w.alloc (.cells #[] 9)).ownsRow w.heap.size 9 1 (.slice (some ⟨w.heap.size, 0, none⟩) 0 0) 0 [] := World.ownsRow_made w #[] 0 (Nat.le_refl _) (by decide) (by simp)
  have Hown := Lib.hid hown
  clear hown
  by_cases h4 : 4000 < s.size
  · go_enter Try.func10, Try.ntmps10
    go_wp2
    go_ret2
    exact ⟨_, rfl, Hown.out, (Below.refl _ _).alloc (Nat.le_refl _) _⟩
  · have h4' : s.size ≤ 4000 := by omega
    have t1 : ((sep.size : Int) == 1) = false := by rw [beq_eq_false_iff_ne]; omega
    have t3 : ¬ ((sep.size : Int) = 1) := by omega
    have t5 : ((sep.size : Int) != 1) = true := by rw [bne_iff_ne]; omega
    clear h h4
    go_enter Try.func10, Try.ntmps10
    go_wp2
    go_ret2
    exact ⟨_, rfl, Hown.out, (Below.refl _ _).alloc (Nat.le_refl _) _⟩
theorem model_split_yes (s sep : ByteArray) (w : World) (hsz : s.size ≤ 4000) (h0 : 0 < sep.size) (h1 : sep.size ≤ 1) :
    Calls Try.prog 17 #[.string s, .string sep] w (OwnsB w.heap.size (splitB sep[0] s) true w) := by
  have H := Lib.hid (fun w => split_any s sep[0] w (by omega))
  have hl := splitB_len sep[0] s
  have hvv := splitB_vals sep[0] s
  have Hl := Lib.hid hl
  have Hv := Lib.hid hvv
  clear hl hvv
  have t1 : ((sep.size : Int) == 1) = true := by rw [beq_iff_eq]; omega
  go_enter Try.func17, Try.ntmps17
  go_wp2_with (go_at_call 33; refine (H.out _).mono ?_; rintro e w' ⟨v, rfl, ho, hb⟩)
  go_ret2
  exact ⟨v, rfl, by rw [Hl.out, Hv.out]; exact ho, hb⟩
theorem model_split_no (s sep : ByteArray) (w : World) (hs : s.size ≤ 1048576) (_hp : sep.size ≤ 1048576) (h : 4000 < s.size ∨ sep.size < 1 ∨ 1 < sep.size) :
    Calls Try.prog 17 #[.string s, .string sep] w (OwnsB w.heap.size [] false w) := by
  have hown : (w.alloc (.cells #[] 9)).ownsRow w.heap.size 9 1 (.slice (some ⟨w.heap.size, 0, none⟩) 0 0) 0 [] := World.ownsRow_made w #[] 0 (Nat.le_refl _) (by decide) (by simp)
  have Hown := Lib.hid hown
  clear hown
  by_cases h1 : sep.size = 1
  · have t1 : ((sep.size : Int) == 1) = true := by rw [beq_iff_eq]; omega
    have h4 : 4000 < s.size := by omega
    have t6 : decide (4000 < (s.size : Int)) = true := decide_eq_true (by omega)
    clear h h1
    go_enter Try.func17, Try.ntmps17
    go_wp2
    all_goals
      go_ret2
      exact ⟨_, rfl, Hown.out, (Below.refl _ _).alloc (Nat.le_refl _) _⟩
  · have t1 : ((sep.size : Int) == 1) = false := by rw [beq_eq_false_iff_ne]; omega
    have t3 : ¬ ((sep.size : Int) = 1) := by omega
    have t5 : ((sep.size : Int) != 1) = true := by rw [bne_iff_ne]; omega
    clear h h1
    go_enter Try.func17, Try.ntmps17
    go_wp2
    go_ret2
    exact ⟨_, rfl, Hown.out, (Below.refl _ _).alloc (Nat.le_refl _) _⟩
end Go.Proofs.Ytokpgdojcjmliaa
