/-
  What is proved: the contracts of the draws spec.DrawFormatInt, spec.DrawParseInt, spec.DrawAppendChecksum, and of laws.vBig and laws.vAt. Conditions: a code that reads as bytes.
-/
import Derived.Test.YtokpgdojcjmliaaDoorCur
import Derived.Laws.IdiomStrings
namespace Go.Proofs.YtokpgdojcjmliaaDoor
open Go.RowKit

/-- v reads as the list xs of numbers -/
def ReadsI (w : World) (v : Value) (xs : List Int) : Prop :=
  ∃ a c, v = .slice a xs.length c ∧ xs.length ≤ c ∧ xs.length ≤ maxLen ∧ ∀ (j : Nat) x, xs[j]? = some x → ∃ b o, a = some ⟨b, o, none⟩ ∧ b < w.heap.size ∧ w.cell? ⟨b, o + j, none⟩ = some (.int .i64 x)
set_option maxHeartbeats 400000 in
theorem among_any (base b t : Nat) (v : Value) (xs : List Int) (w : World) (h : CurOK base b t w) (ht : t ≤ 100000) (h1 : 1 ≤ xs.length) (hn : xs.length ≤ 100) (hv : ReadsI w v xs) (hin : ∀ w', w.grownBy w' (some b) → ReadsI w' v xs) :
    Calls Tryd.prog 21 #[.pointer (some ⟨b, 0, none⟩), v] w (Drew (· ∈ xs) base b (t + 2) w) := by
  have H := Lib.hid h
  have HI := Lib.hid hin
  obtain ⟨a, c, rfl, hc, hm, hx⟩ := hv
  clear h hin hx
  unfold maxLen at hm
  go_enter Tryd.func21, Tryd.ntmps21
  go_wp2_with fail
  refine (pick_any base b t xs.length w H.out (by omega) (by omega) (by omega)).mono ?_
  rintro e w1 ⟨r, rfl, ⟨hr0, hr1⟩, hc1, hb1⟩
  obtain ⟨k, rfl⟩ := Int.eq_ofNat_of_zero_le hr0
  have hk : k < xs.length := by omega
  obtain ⟨x, hxk⟩ := get_some hk
  obtain ⟨a2, c2, hv2, _, _, hx2⟩ := HI.out w1 hb1
  cases hv2
  obtain ⟨b', o, rfl, _, hcell⟩ := hx2 k x hxk
  have HM := Lib.hid (List.mem_of_getElem? hxk)
  have HC := Lib.hid hc1
  have HB := Lib.hid hb1
  clear hc1 hb1 hx2 hxk
  go_wp2_with fail
  go_ret
  exact ⟨x, rfl, HM.out, HC.out, HB.out⟩

theorem among_lit (base b t n : Nat) (xs : List Int) (cs : Array Value) (w : World) (hcs : cs.toList = xs.map (Value.int .i64)) (hxn : xs.length = n) (h : CurOK base b t w) (ht : t ≤ 100000) (h1 : 1 ≤ n) (hn : n ≤ 100) :
    Calls Tryd.prog 21 #[.pointer (some ⟨b, 0, none⟩), .slice (some ⟨w.heap.size, 0, none⟩) n n] (w.alloc (.cells cs 3)) fun e w' => ∃ r : Int, e = .returned (.int .i64 r) ∧ r ∈ xs ∧ CurOK base b (t + 2) w' ∧ w.grownBy w' (some b) := by
  subst hxn
  have hlt := h.lt
  have hheap : (w.alloc (.cells cs 3)).heap[w.heap.size]? = some (.cells cs 3 (0, 0)) := (MapKept.heap_alloc w _).1
  have hr : ∀ w', (w.alloc (.cells cs 3)).grownBy w' (some b) → ReadsI w' (.slice (some ⟨w.heap.size, 0, none⟩) xs.length xs.length) xs := by
    intro w' hg
    have hh : w'.heap[w.heap.size]? = some (.cells cs 3 (0, 0)) := (hg.block w.heap.size (Array.getElem?_eq_some_iff.1 hheap).1 (by intro e; cases e; omega)).trans hheap
    refine ⟨_, _, rfl, Nat.le_refl _, by unfold maxLen; omega, fun j x hj => ⟨w.heap.size, 0, rfl, (Array.getElem?_eq_some_iff.1 hh).1, ?_⟩⟩
    rw [Nat.zero_add, cell_of_block hh j, ← Array.getElem?_toList, hcs, List.getElem?_map, hj]
    rfl
  refine (among_any base b t _ xs _ (h.alloc _ h.base) ht h1 hn (hr _ ⟨rfl, rfl, rfl, Nat.le_refl _, fun _ _ _ => rfl⟩) hr).mono ?_
  rintro e w' ⟨r, he, hm, hc, hg⟩
  exact ⟨r, he, hm, hc, grown_trans (grown_alloc w _ _) hg⟩
theorem info5 : (Tryd.prog.info? 5).map (fun i => (i.zero, i.size, i.bytes)) = some (some (.int .u8 0), 1, 1) := by kernel_rfl
def zeros (n : Nat) : ByteArray := ⟨(List.replicate n 0).toArray⟩
theorem zeros_size (n : Nat) : (zeros n).size = n := by
  show (List.replicate n (0 : UInt8)).toArray.size = n
  simp
theorem conv_zeros (w : World) (base g n cap : Nat) (ho : w.ownsRow base 5 1 (.slice (some ⟨g, 0, none⟩) n cap) n (madeCells #[Value.int .u8 0] n).toList) :
    (convert 22 9 (.slice (some ⟨g, 0, none⟩) n cap)).run Tryd.prog w = .ok (.string (zeros n)) w := by
  have h := run_convert_bytes_back (P := Tryd.prog) w 22 9 5 ⟨g, 0, none⟩ cap (List.replicate n 0) Tryd.underlying22 Tryd.underlying5 Tryd.underlying9 (fun j hj => by
    have hjn : j < n := by simpa using hj
    have ha : (⟨g, 0, none⟩ : Addr).add j = ⟨g, j, none⟩ := by
      unfold Addr.add
      by_cases h : j = 0 <;> simp [h]
    rw [ha, ho.cellAt j (by omega)]
    simp [madeCells, hjn, Nat.mod_one])
  rw [List.length_replicate] at h
  exact h
theorem grown_some {w w' : World} {r : Option Nat} (h : w.grownBy w' none) : w.grownBy w' r := ⟨h.os, h.tape, h.output, h.size, fun k hk _ => h.block k hk (by simp)⟩

/-- what a draw of a whole number leaves -/
def IntDraw (w : World) (e : Ending) (w' : World) : Prop := ∃ r : Int, e = .returned (.int .i64 r) ∧ Below w.heap.size w w'
def StrDraw (P : ByteArray → Prop) (w : World) (e : Ending) (w' : World) : Prop := ∃ s : ByteArray, e = .returned (.string s) ∧ P s ∧ Below w.heap.size w w'
set_option maxHeartbeats 400000 in
theorem drawFmt_any (v : Value) (w : World) (hv : CodeOK w v) : Calls Tryd.prog 9 #[v] w (IntDraw w) := by
  have HV := Lib.hid hv
  obtain ⟨a, n, cp, rfl, _, _⟩ := hv
  go_enter Tryd.func9, Tryd.ntmps9
  go_wp2_with fail
  refine (pick_any w.heap.size w.heap.size 0 1000 _ (cur_new HV.out) (by omega) (by omega) (by omega)).mono ?_
  rintro e w1 ⟨r, rfl, ⟨hr0, hr1⟩, hc, hg⟩
  have HC := Lib.hid hc
  have HB := Lib.hid (below_cur (below_new w _) hg)
  clear hc hg
  go_wp2_with fail
  refine (among_lit w.heap.size w.heap.size 2 9 [0, 1, -1, 10, 999999, -999999, 1000000, -1000000, r - 500] _ w1 ?hcs rfl HC.out (by omega) (by omega) (by omega)).mono ?_
  case hcs => rfl
  rintro e w2 ⟨y, rfl, hy, hc, hg⟩
  have HB2 := Lib.hid (below_cur HB.out hg)
  clear hy hc hg
  go_wp2_with fail
  go_ret
  exact ⟨y, rfl, HB2.out⟩
def wordsP : List ByteArray := [⟨#[]⟩, ⟨#[45]⟩, ⟨#[45, 48]⟩, ⟨#[48, 48]⟩, ⟨#[48, 49]⟩, ⟨#[45, 45, 49]⟩, ⟨#[49, 120]⟩, ⟨#[57, 57, 57, 57, 57, 57]⟩, ⟨#[49, 48, 48, 48, 48, 48, 48]⟩, ⟨#[45, 57, 57, 57, 57, 57, 57]⟩, ⟨#[49, 56, 52, 52, 54, 55, 52, 52, 48, 55, 51, 55, 48, 57, 53, 53, 49, 54, 49, 55]⟩]
theorem wordsP_small : ∀ x ∈ wordsP, x.size ≤ 1048576 := by decide
theorem num_size (n : Int) (h0 : -1000 ≤ n) (h1 : n ≤ 1000) : (⟨(Lib.itoa n).toArray⟩ : ByteArray).size ≤ 1048576 := by
  by_cases h : n < 0
  · rw [itoa_neg n h, ByteArray.size_append]
    have := dec_size (-n).toNat
    have e : (⟨#[45]⟩ : ByteArray).size = 1 := rfl
    omega
  · rw [itoa_pos n (by omega)]
    have := dec_size n.toNat
    omega
set_option maxHeartbeats 400000 in
theorem drawPrs_any (v : Value) (w : World) (hv : CodeOK w v) : Calls Tryd.prog 12 #[v] w (StrDraw (fun s => s.size ≤ 1048576) w) := by
  have HV := Lib.hid hv
  obtain ⟨a, n, cp, rfl, _, _⟩ := hv
  go_enter Tryd.func12, Tryd.ntmps12
  go_wp2_with fail
  refine (one_any w.heap.size w.heap.size 0 2 _ (cur_new HV.out) (by omega) (by omega) (by omega)).mono ?_
  rintro e w1 ⟨⟨z, rfl⟩, hc, hg⟩
  have HC := Lib.hid hc
  have HB := Lib.hid (below_cur (below_new w _) hg)
  clear hc hg
  cases z
  · go_wp2_with fail
    refine (pick_any w.heap.size w.heap.size 2 2000 _ HC.out (by omega) (by omega) (by omega)).mono ?_
    rintro e w2 ⟨r, rfl, ⟨hr0, hr1⟩, hc, hg⟩
    have HB2 := Lib.hid (below_cur HB.out hg)
    have hns := num_size (r - 1000) (by omega) (by omega)
    have HN := Lib.hid (num_any (r - 1000) w2 (by omega) (by omega))
    clear hc hg
    generalize (⟨(Lib.itoa (r - 1000)).toArray⟩ : ByteArray) = d at *
    have HNS := Lib.hid hns
    clear hns
    go_wp2_with fail
    refine HN.out.mono ?_
    rintro e w3 ⟨rfl, m, rfl⟩
    go_wp2_with fail
    go_ret
    exact ⟨d, rfl, HNS.out, HB2.out.trans ⟨rfl, rfl, rfl, Nat.le_refl _, fun _ _ => rfl⟩⟩
  · go_wp2_with fail
    refine (of_lit w.heap.size w.heap.size 2 11 wordsP _ w1 ?hcs rfl HC.out (by omega) (by omega) (by omega)).mono ?_
    case hcs => rfl
    rintro e w2 ⟨y, rfl, hy, hc, hg⟩
    have HY := Lib.hid (wordsP_small y hy)
    have HB2 := Lib.hid (below_cur HB.out hg)
    clear hy hc hg
    go_wp2_with fail
    go_ret
    exact ⟨y, rfl, HY.out, HB2.out⟩
set_option maxHeartbeats 800000 in
theorem drawApp_any (v : Value) (w : World) (hv : CodeOK w v) : Calls Tryd.prog 15 #[v] w (StrDraw (fun s => s.size ≤ 4000) w) := by
  have HV := Lib.hid hv
  obtain ⟨a, n, cp, rfl, _, _⟩ := hv
  go_enter Tryd.func15, Tryd.ntmps15
  go_wp2_with fail
  refine (one_any w.heap.size w.heap.size 0 20 _ (cur_new HV.out) (by omega) (by omega) (by omega)).mono ?_
  rintro e w1 ⟨⟨z, rfl⟩, hc, hg⟩
  have HC := Lib.hid hc
  have HB := Lib.hid (below_cur (below_new w _) hg)
  clear hc hg
  cases z
  · go_wp2_with fail
    refine (any1_any w.heap.size w.heap.size 2 _ HC.out (by omega)).mono ?_
    rintro e w2 ⟨y, rfl, hy, hc, hg⟩
    have HY := Lib.hid hy
    have HB2 := Lib.hid (below_cur HB.out hg)
    clear hy hc hg
    go_wp2_with fail
    go_ret
    exact ⟨y, rfl, Nat.le_trans HY.out (by omega), HB2.out⟩
  · go_wp2_with fail
    refine (pick_any w.heap.size w.heap.size 2 10 _ HC.out (by omega) (by omega) (by omega)).mono ?_
    rintro e w2 ⟨q0, rfl, ⟨hq0, hq1⟩, hc, hg⟩
    obtain ⟨q, rfl⟩ := Int.eq_ofNat_of_zero_le hq0
    have hq : q ≤ 9 := by omega
    obtain ⟨i5, hi5, hy0, hy1, hy2⟩ := info_parts info5
    have hbs : w.heap.size ≤ w2.heap.size := (below_cur HB.out hg).size
    have HB2 := Lib.hid (below_cur HB.out hg)
    clear hc hg hq0 hq1
    go_wp2_with (at_make; refine wpList_make_full _ rfl _ _ 22 rfl w.heap.size 5 i5 (.int .u8 0) 1 Tryd.underlying22 hi5 hy0 hy1 .i64 .i64 _ _ (3990 + q) rfl rfl ?d1 ?d2 ?d3 ?d4 ?d5 ?_)
    case d1 => omega
    case d2 => omega
    case d3 => rw [hy2]; omega
    case d4 => unfold maxLen; omega
    case d5 => exact hbs
    intro w5 hown5 hgrow5
    have hcv := conv_zeros w5 _ _ _ _ hown5
    have hz5 := zeros_size (3990 + q)
    have HZ5 := Lib.hid hz5
    have HB5 := Lib.hid (below_cur HB2.out (grown_some hgrow5))
    clear hown5 hgrow5 hz5
    generalize zeros (3990 + q) = z5 at *
    go_wp2_with fail
    go_ret
    exact ⟨z5, rfl, by show z5.size ≤ 4000; rw [HZ5.out]; omega, HB5.out⟩

theorem vBig_no (a : Option Addr) (n cp : Nat) (w : World) (h : n ≤ 65536) : Calls Tryd.prog 8 #[.slice a n cp] w fun e w' => e = .returned (.bool false) ∧ w = w' := by
  have hd : decide (65536 < (n : Int)) = false := decide_eq_false (by omega)
  go_enter Tryd.func8, Tryd.ntmps8
  go_wp2
  go_ret
  exact ⟨by simp, rfl⟩
theorem vBig_yes (a : Option Addr) (n cp : Nat) (w : World) (h : 65536 < n) (hn : n ≤ maxLen) : Calls Tryd.prog 8 #[.slice a n cp] w fun e w' => e = .returned (.bool true) ∧ w = w' := by
  unfold maxLen at hn
  have hd : decide (65536 < (n : Int)) = true := decide_eq_true (by omega)
  go_enter Tryd.func8, Tryd.ntmps8
  go_wp2
  go_ret
  exact ⟨by simp, rfl⟩
/-- vAt tells a number from 0 to 255 and leaves all as it was -/
def ByteAt (v : Value) (i : Nat) (w : World) (r : Int) : Prop := Calls Tryd.prog 19 #[v, .int .i64 i] w fun e w' => e = .returned (.int .i64 r) ∧ w' = w
set_option maxHeartbeats 400000 in
theorem vAt_any (v : Value) (i : Nat) (w : World) (hv : CodeOK w v) (hi : i ≤ 100) : ∃ r : Int, 0 ≤ r ∧ r ≤ 255 ∧ ByteAt v i w r := by
  obtain ⟨a, n, cp, rfl, hn, hx⟩ := hv
  unfold maxLen at hn
  by_cases h : i < n
  · obtain ⟨b', o, x, rfl, _, hcell, h0, h1⟩ := hx i h
    have hi0 : (0 : Int) ≤ (i : Int) := by omega
    have hi1 : (i : Int) < n := by omega
    clear hx
    refine ⟨x, h0, h1, ?_⟩
    unfold ByteAt
    go_enter Tryd.func19, Tryd.ntmps19
    go_wp2
    go_ret
    exact ⟨rfl, rfl⟩
  · have hi1 : ¬ (i : Int) < n := by omega
    have hne : ¬ (256 : Int) = 0 := by omega
    clear hx
    refine ⟨((i : Int) * 7 + n) % 256, by omega, by omega, ?_⟩
    unfold ByteAt
    go_enter Tryd.func19, Tryd.ntmps19
    go_wp2
    go_ret
    exact ⟨rfl, rfl⟩
end Go.Proofs.YtokpgdojcjmliaaDoor
