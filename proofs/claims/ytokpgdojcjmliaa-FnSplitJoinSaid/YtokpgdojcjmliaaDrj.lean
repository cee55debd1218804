/-
  What is proved: the contract of spec.DrawJoinStrings: it returns a new slice of at most four short texts and a short separator. Conditions: its argument reads as bytes.
-/
import Derived.Test.YtokpgdojcjmliaaCur
import Derived.Laws.IdiomStrings
namespace Go.Proofs.Ytokpgdojcjmliaa
open Go.RowKit

/-- what holds of the collected texts -/
def Got (m : Nat) (w : World) (v : Value) (wr : World) : Prop :=
  ∃ (xs : List ByteArray) (t : Nat), xs.length ≤ m ∧ (∀ x ∈ xs, x.size ≤ 5000) ∧ wr.ownsRow (w.heap.size + 1) 9 1 v xs.length (xs.map .string) ∧ CurOK w.heap.size w.heap.size t wr ∧ t ≤ 2 + 4 * m ∧ Below w.heap.size w wr
theorem owns_cur {w w' : World} {b base n : Nat} {v : Value} {xs : List Value} (h : w.ownsRow base 9 1 v n xs) (hg : w.grownBy w' (some b)) (hb : b < base) : w'.ownsRow base 9 1 v n xs := by
  refine h.kept hg ?_
  cases hv : v.ownBlock with
  | none => exact .inl rfl
  | some k =>
    refine .inr fun e => ?_
    cases e
    have := (h.lt _ hv).1
    omega
theorem cur_row {base b t n : Nat} {w w' : World} {v : Value} {xs : List Value} {o : Obj} {rb : Nat} (h : CurOK base b t w) (ho : w.ownsRow rb 9 1 v n xs) (hg : (w.alloc o).grownBy w' v.ownBlock) (hb : b < rb) (hbase : base ≤ b) : CurOK base b t w' := by
  have h1 := h.alloc o h.base
  obtain ⟨a, nn, cp, p, sd, hc, hp, hn, hbb, hx⟩ := h1
  have hne : ∀ k, v.ownBlock = some k → b < k := fun k e => Nat.lt_of_lt_of_le hb (ho.lt k e).1
  refine ⟨a, nn, cp, p, sd, (hg.block b (Array.getElem?_eq_some_iff.1 hc).1 (fun e => by have := hne b e.symm; omega)).trans hc, hp, hn, hbb, fun j hj => ?_⟩
  obtain ⟨b', o', x, ha, hlt, hcell, h0, h1⟩ := hx j hj
  exact ⟨b', o', x, ha, hlt, (World.cell?_of_block (a := ⟨b', o' + j, none⟩) (hg.block b' (World.block_lt_of_cell? _ _ hcell) (fun e => by have := hne b' e.symm; omega))).trans hcell, h0, h1⟩
theorem got_more {m : Nat} {w wr w1 w2 : World} {v v' : Value} {xs : List ByteArray} {t t1 : Nat} {x : ByteArray} {o : Obj}
    (hxs : xs.length ≤ m) (hsm : ∀ x ∈ xs, x.size ≤ 5000) (ho : wr.ownsRow (w.heap.size + 1) 9 1 v xs.length (xs.map .string)) (hb : Below w.heap.size w wr)
    (hx : x.size ≤ 5000) (hc : CurOK w.heap.size w.heap.size t1 w1) (ht1 : t1 ≤ t + 4) (ht : t ≤ 2 + 4 * m) (hg : wr.grownBy w1 (some w.heap.size))
    (hg2 : (w1.alloc o).grownBy w2 v.ownBlock) (hown : w2.ownsRow (w.heap.size + 1) 9 1 v' (xs.length + 1) (xs.map .string ++ [.string x])) : Got (m + 1) w v' w2 := by
  have ho1 := owns_cur ho hg (Nat.lt_succ_self _)
  have hb1 := below_cur hb hg
  refine ⟨xs ++ [x], t1, by simp; omega, ?_, by simpa using hown, cur_row hc ho1 hg2 (Nat.lt_succ_self _) (Nat.le_refl _), by omega, ?_⟩
  · intro y hy
    rw [List.mem_append] at hy
    rcases hy with hy | hy
    · exact hsm y hy
    · rw [List.mem_singleton] at hy; rw [hy]; exact hx
  · exact (hb1.alloc hb1.size _).grown hg2 (by simp; have := hb1.size; omega) (fun k e => by have := (ho1.lt k e).1; omega)
def JoinDraw (w : World) (e : Ending) (w' : World) : Prop :=
  ∃ (v : Value) (xs : List ByteArray) (y : ByteArray), e = .returned (.tuple #[v, .string y]) ∧ ReadsS w' v xs ∧ xs.length ≤ 4 ∧ (∀ x ∈ xs, x.size ≤ 5000) ∧ y.size ≤ 2 ∧ Below w.heap.size w w'
theorem info5 : (Try.prog.info? 5).map (fun i => (i.zero, i.size, i.bytes)) = some (some (.int .u8 0), 1, 1) := by kernel_rfl
def zeros (n : Nat) : ByteArray := ⟨(List.replicate n 0).toArray⟩
theorem zeros_size (n : Nat) : (zeros n).size = n := by
  show (List.replicate n (0 : UInt8)).toArray.size = n
  simp
theorem conv_zeros (w : World) (base g n cap : Nat) (ho : w.ownsRow base 5 1 (.slice (some ⟨g, 0, none⟩) n cap) n (madeCells #[Value.int .u8 0] n).toList) :
    (convert 22 9 (.slice (some ⟨g, 0, none⟩) n cap)).run Try.prog w = .ok (.string (zeros n)) w := by
  have h := run_convert_bytes_back (P := Try.prog) w 22 9 5 ⟨g, 0, none⟩ cap (List.replicate n 0) Try.underlying22 Try.underlying5 Try.underlying9 (fun j hj => by
    have hjn : j < n := by simpa using hj
    have ha : (⟨g, 0, none⟩ : Addr).add j = ⟨g, j, none⟩ := by
      unfold Addr.add
      by_cases h : j = 0 <;> simp [h]
    rw [ha, ho.cellAt j (by omega)]
    simp [madeCells, hjn, Nat.mod_one])
  rw [List.length_replicate] at h
  exact h
theorem grown_some {w w' : World} {r : Option Nat} (h : w.grownBy w' none) : w.grownBy w' r := ⟨h.os, h.tape, h.output, h.size, fun k hk _ => h.block k hk (by simp)⟩
set_option maxHeartbeats 1600000 in
theorem drawJoin_any (v : Value) (w : World) (hv : CodeOK w v) : Calls Try.prog 11 #[v] w (JoinDraw w) := by
  have HV := Lib.hid hv
  obtain ⟨a, n, cp, rfl, _, _⟩ := hv
  obtain ⟨i0, hi, hz0, hz1, hz2⟩ := info_parts info9
  go_enter Try.func11, Try.ntmps11
  go_wp2_with fail
  obtain ⟨w1, hw1⟩ : ∃ w1, w1 = (w.alloc (.cells #[.slice a n cp, .int .i64 0, .int .u64 0] 44)).alloc (.cells #[] 9) := ⟨_, rfl⟩
  have hC1 : CurOK w.heap.size w.heap.size 0 w1 := by rw [hw1]; exact (cur_new HV.out).alloc _ (by simp)
  have hB1 : Below w.heap.size w w1 := by rw [hw1]; exact (below_new w _).alloc (by simp) _
  have hO1 : w1.ownsRow (w.heap.size + 1) 9 1 (.slice (some ⟨w.heap.size + 1, 0, none⟩) 0 0) 0 [] := by
    rw [hw1]
    have := World.ownsRow_made (w.alloc (.cells #[.slice a n cp, .int .i64 0, .int .u64 0] 44)) (base := w.heap.size + 1) (e := 9) (size := 1) #[] 0 (by simp) (by decide) (by simp)
    simpa using this
  rw [← hw1]
  have HC1 := Lib.hid hC1
  have HB1 := Lib.hid hB1
  have HO1 := Lib.hid hO1
  clear hw1 hC1 hB1 hO1
  refine (pick_any w.heap.size w.heap.size 0 4 w1 HC1.out (by omega) (by omega) (by omega)).mono ?_
  rintro e w2 ⟨r, rfl, ⟨hr0, hr1⟩, hc2, hg2⟩
  have HG2 : Hid (Got 0 w (.slice (some ⟨w.heap.size + 1, 0, none⟩) 0 0) w2) := Lib.hid ⟨[], 2, Nat.le_refl _, by simp, owns_cur HO1.out hg2 (Nat.lt_succ_self _), hc2, by omega, below_cur HB1.out hg2⟩
  obtain ⟨m, rfl⟩ := Int.eq_ofNat_of_zero_le hr0
  have hm : m ≤ 3 := by omega
  clear hc2 hg2 hr0 hr1
  go_wp2_with fail
  go_loopw [5, 7] (fun l i wr => ∃ k : Nat, k ≤ m ∧ i = .int .i64 k ∧ Got k w l wr) (fun _ i _ => m - (intOf i).toNat)
  case atStart => exact ⟨0, Nat.zero_le _, rfl, HG2.out⟩
  case round =>
    obtain ⟨k, hk, rfl, xs, t, hxs, hsm, ho, hc, ht, hb⟩ := hrel
    have HO := Lib.hid ho
    have HC := Lib.hid hc
    have HB := Lib.hid hb
    have HS := Lib.hid hsm
    clear ho hc hb hsm
    by_cases hlt : k < m
    · go_wp2_with fail
      refine (any1_any w.heap.size w.heap.size t wr HC.out (by omega)).mono ?_
      rintro e w3 ⟨x, rfl, hx, hc3, hg3⟩
      have hown := owns_cur HO.out hg3 (Nat.lt_succ_self _)
      have hbz := (below_cur HB.out hg3).size
      have hws := HC.out.lt
      have hg3s := hg3.size
      have HX := Lib.hid hx
      have HC3 := Lib.hid hc3
      have HG3 := Lib.hid hg3
      clear hx hc3 hg3
      go_wp2_with (at_builtin; refine wpList_append_own _ rfl _ _ 26 rfl (w.heap.size + 1) 9 i0 (.string ⟨#[]⟩) 1 16 Try.underlying26 hi hz0 hz1 hz2 rfl (by decide) _ _ _ rfl (hown.alloc _) ⟨w3.heap.size, 0, none⟩ 1 1 [.string x] rfl rfl ?c1 ?c2 ?c3 ?c4 ?c5 ?_)
      case c1 => exact cell_one_new _ _ _
      case c2 => intro u hu; simp at hu; subst hu; rfl
      case c3 => unfold maxLen; omega
      case c4 => omega
      case c5 => simp; omega
      intro v' w4 hown' hgrow _
      have HGot := Lib.hid (got_more hxs HS.out HO.out HB.out (Nat.le_trans HX.out (by omega)) HC3.out (by omega) ht HG3.out hgrow hown')
      clear hown hown' hgrow
      go_wp2
      go_roundw
      case rel => exact ⟨k + 1, by omega, by congr 1, HGot.out⟩
      case measure => simp [intOf]; omega
    · have hkm : k = m := by omega
      clear HG2
      go_wp2_with fail
      refine (one_any w.heap.size w.heap.size t 20 wr HC.out (by omega) (by omega) (by omega)).mono ?_
      rintro e w3 ⟨⟨z, rfl⟩, hc3, hg3⟩
      have HC3 := Lib.hid hc3
      have HG3 := Lib.hid hg3
      clear hc3 hg3
      cases z
      · have hO3 := Lib.hid (owns_cur HO.out HG3.out (Nat.lt_succ_self _))
        have hB3 := Lib.hid (below_cur HB.out HG3.out)
        go_wp2_with fail
        refine (of_lit w.heap.size w.heap.size (t + 2) 5 sepsB _ w3 ?hcs rfl HC3.out (by omega) (by omega) (by omega)).mono ?_
        case hcs => rfl
        rintro e w4 ⟨y, rfl, hy, hc4, hg4⟩
        have HY := Lib.hid (sepsB_small y hy)
        have HO4 := Lib.hid (owns_reads (owns_cur hO3.out hg4 (Nat.lt_succ_self _)) (by unfold maxLen; omega))
        have HB4 := Lib.hid (below_cur hB3.out hg4)
        clear hy hc4 hg4
        go_wp2_with fail
        go_ret2
        exact ⟨_, xs, y, rfl, HO4.out, by omega, HS.out, HY.out, HB4.out⟩
      · go_wp2_with fail
        refine (pick_any w.heap.size w.heap.size (t + 2) 20 w3 HC3.out (by omega) (by omega) (by omega)).mono ?_
        rintro e w4 ⟨q0, rfl, ⟨hq0, hq1⟩, hc4, hg4⟩
        obtain ⟨q, rfl⟩ := Int.eq_ofNat_of_zero_le hq0
        have hq : q ≤ 19 := by omega
        obtain ⟨i5, hi5, hy0, hy1, hy2⟩ := info_parts info5
        have HC4 := Lib.hid hc4
        have HG4 := Lib.hid (grown_trans HG3.out hg4)
        have hB4 := (below_cur HB.out HG4.out).size
        have hb1 : w.heap.size + 1 ≤ w4.heap.size := HC4.out.lt
        clear hc4 hg4 hq0 hq1
        go_wp2_with (at_make; refine wpList_make_full _ rfl _ _ 22 rfl (w.heap.size + 1) 5 i5 (.int .u8 0) 1 Try.underlying22 hi5 hy0 hy1 .i64 .i64 _ _ (3990 + q) rfl rfl ?d1 ?d2 ?d3 ?d4 ?d5 ?_)
        case d1 => omega
        case d2 => omega
        case d3 => rw [hy2]; omega
        case d4 => unfold maxLen; omega
        case d5 => exact hb1
        intro w5 hown5 hgrow5
        have hcv := conv_zeros w5 _ _ _ _ hown5
        have hz5 := zeros_size (3990 + q)
        have HZ5 := Lib.hid hz5
        have HC5 := Lib.hid (HC4.out.below ⟨hgrow5.os, hgrow5.tape, hgrow5.output, hgrow5.size, fun k hk => hgrow5.block k hk (by simp)⟩ HC4.out.base)
        have HG5 := Lib.hid (grown_trans HG4.out (grown_some hgrow5))
        have hown := owns_cur HO.out HG5.out (Nat.lt_succ_self _)
        have hs5 := HC5.out.lt
        clear hown5 hgrow5 hz5
        generalize zeros (3990 + q) = z5 at *
        go_wp2_with (at_builtin; refine wpList_append_own _ rfl _ _ 26 rfl (w.heap.size + 1) 9 i0 (.string ⟨#[]⟩) 1 16 Try.underlying26 hi hz0 hz1 hz2 rfl (by decide) _ _ _ rfl (hown.alloc _) ⟨w5.heap.size, 0, none⟩ 1 1 [.string z5] rfl rfl ?e1 ?e2 ?e3 ?e4 ?e5 ?_)
        case e1 => exact cell_one_new _ _ _
        case e2 => intro u hu; simp at hu; subst hu; rfl
        case e3 => unfold maxLen; omega
        case e4 => omega
        case e5 => simp; omega
        intro v' w6 hown' hgrow _
        have HGot := Lib.hid (got_more hxs HS.out HO.out HB.out (by rw [HZ5.out]; omega) HC5.out (by omega) ht HG5.out hgrow hown')
        clear hown hown' hgrow hcv
        obtain ⟨xs6, t6, hl6, hs6, ho6, hc6, ht6, hb6⟩ := HGot.out
        have HO6 := Lib.hid ho6
        have HC6 := Lib.hid hc6
        have HB6 := Lib.hid hb6
        have HS6 := Lib.hid hs6
        clear ho6 hc6 hb6 hs6
        go_wp2_with fail
        refine (of_lit w.heap.size w.heap.size t6 5 sepsB _ w6 ?hcs rfl HC6.out (by omega) (by omega) (by omega)).mono ?_
        case hcs => rfl
        rintro e w7 ⟨y, rfl, hy, hc7, hg7⟩
        have HY := Lib.hid (sepsB_small y hy)
        have HO7 := Lib.hid (owns_reads (owns_cur HO6.out hg7 (Nat.lt_succ_self _)) (by unfold maxLen; omega))
        have HB7 := Lib.hid (below_cur HB6.out hg7)
        clear hy hc7 hg7
        go_wp2_with fail
        go_ret2
        exact ⟨_, xs6, y, rfl, HO7.out, by omega, HS6.out, HY.out, HB7.out⟩
end Go.Proofs.Ytokpgdojcjmliaa
