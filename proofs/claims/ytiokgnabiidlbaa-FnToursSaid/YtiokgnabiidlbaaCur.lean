/-
  What is proved: contracts of the cursor that draws numbers and lists of numbers. Conditions: those of each contract.
-/
import Derived.Test.YtiokgnabiidlbaaInt
import Derived.Laws.Bits64b
namespace Go.Proofs.Ytiokgnabiidlbaa
open Go.RowKit
set_option linter.unusedVariables false
set_option linter.unusedSimpArgs false

/-- block b is a cursor over bytes that lie below base; at most t of them have been asked for -/
def CurOK (base b t : Nat) (w : World) : Prop :=
  ∃ (a : Option Addr) (n cp p : Nat) (sd : Int), w.heap[b]? = some (.cells #[.slice a n cp, .int .i64 p, .int .u64 sd] 66 (0, 0)) ∧ p ≤ t ∧ n ≤ maxLen ∧ base ≤ b ∧
    (∀ j : Nat, j < n → ∃ (b' o : Nat) (x : Int), a = some ⟨b', o, none⟩ ∧ b' < base ∧ w.cell? ⟨b', o + j, none⟩ = some (.int .u8 x) ∧ 0 ≤ x ∧ x ≤ 255)
theorem CurOK.below {base b t : Nat} {w w' : World} (h : CurOK base b t w) (hb : Below w.heap.size w w') (hbase : base ≤ w.heap.size) : CurOK base b t w' := by
  obtain ⟨a, n, cp, p, sd, hc, hp, hn, hbb, hx⟩ := h
  refine ⟨a, n, cp, p, sd, (hb.block b (Array.getElem?_eq_some_iff.1 hc).1).trans hc, hp, hn, hbb, fun j hj => ?_⟩
  obtain ⟨b', o, x, ha, hlt, hcell, h0, h1⟩ := hx j hj
  exact ⟨b', o, x, ha, hlt, (hb.cell (p := ⟨b', o + j, none⟩) (by show b' < _; omega)).trans hcell, h0, h1⟩
theorem cell_of_block {w : World} {b : Nat} {cs : Array Value} {t : TypeId} (h : w.heap[b]? = some (.cells cs t (0, 0))) (j : Nat) : w.cell? ⟨b, j, none⟩ = cs[j]? := by
  simp [World.cell?, h]
theorem frozen_of_block {w : World} {b : Nat} {cs : Array Value} {t : TypeId} (h : w.heap[b]? = some (.cells cs t (0, 0))) (j : Nat) : w.frozen? ⟨b, j, none⟩ = false := by
  simp [World.frozen?, h]
/-- what a draw of a number leaves -/
def Drew (P : Int → Prop) (base b t : Nat) (w : World) (e : Ending) (w' : World) : Prop :=
  ∃ r : Int, e = .returned (.int .i64 r) ∧ P r ∧ CurOK base b t w' ∧ w.grownBy w' (some b)


theorem cur_set (W : World) (b : Nat) (c0 x1 x2 v1 v2 : Value) (t : TypeId) (h : W.heap[b]? = some (.cells #[c0, x1, x2] t (0, 0))) :
    ((W.setCell ⟨b, 1, none⟩ v1).setCell ⟨b, 2, none⟩ v2).heap[b]? = some (.cells #[c0, v1, v2] t (0, 0)) := by
  have h1 := heap_setCell_same W b 1 _ t v1 h
  have h2 := heap_setCell_same (W.setCell ⟨b, 1, none⟩ v1) b 2 _ t v2 h1
  exact h2
/-- what a call of next leaves of the cursor -/
def NextPost (b p : Nat) (c0 : Value) (w w' : World) : Prop :=
  ∃ sd' : Int, w'.heap[b]? = some (.cells #[c0, .int .i64 ((p : Int) + 1), .int .u64 sd'] 66 (0, 0)) ∧ w.grownBy w' (some b)
theorem next_post (b p k m : Nat) (c0 x1 x2 : Value) (sd' : Int) (w : World) (h : w.heap[b]? = some (.cells #[c0, x1, x2] 66 (0, 0))) :
    NextPost b p c0 w ((((w.drewN k).setCell ⟨b, 1, none⟩ (.int .i64 ((p : Int) + 1))).setCell ⟨b, 2, none⟩ (.int .u64 sd')).drewN m) :=
  ⟨sd', cur_set (w.drewN k) b c0 x1 x2 _ _ 66 h, ⟨rfl, rfl, rfl, (((Below.refl 0 w).setCell (p := ⟨b, 1, none⟩) (Nat.zero_le _) (.int .i64 ((p : Int) + 1))).setCell (p := ⟨b, 2, none⟩) (Nat.zero_le _) (.int .u64 sd')).size, fun j _ hne =>
    (Below.heap_setCell ((w.drewN k).setCell ⟨b, 1, none⟩ (.int .i64 ((p : Int) + 1))) ⟨b, 2, none⟩ (.int .u64 sd') j (fun e => hne (by rw [e]))).trans (Below.heap_setCell (w.drewN k) ⟨b, 1, none⟩ (.int .i64 ((p : Int) + 1)) j (fun e => hne (by rw [e])))⟩⟩
theorem grown_below {a w : World} {b base : Nat} (h : a.grownBy w (some b)) (hb : base ≤ b) (hbase : base ≤ a.heap.size) : Below base a w :=
  (Below.refl base a).grown h hbase (fun k e => by cases e; exact hb)
set_option maxHeartbeats 800000 in
theorem next_in (b o b' p n cp : Nat) (sd x : Int) (w : World) (hc : w.heap[b]? = some (.cells #[.slice (some ⟨b', o, none⟩) n cp, .int .i64 p, .int .u64 sd] 66 (0, 0)))
    (hx : w.cell? ⟨b', o + p, none⟩ = some (.int .u8 x)) (hx0 : 0 ≤ x) (hx1 : x ≤ 255) (hp : p < n) (hn : n ≤ maxLen) :
    Calls Try.prog 96 #[.pointer (some ⟨b, 0, none⟩)] w fun e w' => e = .returned (.int .i64 x) ∧ NextPost b p (.slice (some ⟨b', o, none⟩) n cp) w w' := by
  unfold maxLen at hn
  have hc0 : w.cell? ⟨b, 0, none⟩ = some (.slice (some ⟨b', o, none⟩) n cp) := cell_of_block hc 0
  have hc1 : w.cell? ⟨b, 1, none⟩ = some (.int .i64 p) := cell_of_block hc 1
  have hc2 : w.cell? ⟨b, 2, none⟩ = some (.int .u64 sd) := cell_of_block hc 2
  have hf1 : w.frozen? ⟨b, 1, none⟩ = false := frozen_of_block hc 1
  have hf2 : w.frozen? ⟨b, 2, none⟩ = false := frozen_of_block hc 2
  have HC := Lib.hid hc
  clear hc
  have hi0 : 0 ≤ (p : Int) := by omega
  have hi1 : (p : Int) < n := by omega
  go_enter Try.func96, Try.ntmps96
  go_wp2
  go_quiet (fail)
  go_wp2
  go_quiet (fail)
  go_wp2
  go_quiet (fail)
  go_wp2
  go_ret
  exact ⟨rfl, next_post b p _ _ _ _ _ _ w HC.out⟩
theorem low8 (z : Int) : 0 ≤ wrap64 (bits BinOp.and IntKind.u64 (IntKind.u64.wrap z / 1099511627776) 255) ∧ wrap64 (bits BinOp.and IntKind.u64 (IntKind.u64.wrap z / 1099511627776) 255) ≤ 255 := by
  rw [IntKind.wrap_u64]
  obtain ⟨m, hm, hlt⟩ : ∃ m : Nat, z % 18446744073709551616 / 1099511627776 = (m : Int) ∧ m < 18446744073709551616 := ⟨(z % 18446744073709551616 / 1099511627776).toNat, by omega, by omega⟩
  rw [hm]
  have h := bits_and_u64_nat m 255 hlt (by omega)
  have h2 : ((255 : Nat) : Int) = 255 := rfl
  rw [h2] at h
  rw [h]
  have h3 : m &&& 255 ≤ 255 := Nat.and_le_right
  rw [IntWalk.wrap64_in _ ⟨by omega, by omega⟩]
  omega
set_option maxHeartbeats 800000 in
theorem next_out (b p n cp : Nat) (a : Option Addr) (sd : Int) (w : World) (hc : w.heap[b]? = some (.cells #[.slice a n cp, .int .i64 p, .int .u64 sd] 66 (0, 0)))
    (hp : n ≤ p) (hpm : p ≤ 1000000000000) :
    Calls Try.prog 96 #[.pointer (some ⟨b, 0, none⟩)] w fun e w' => (∃ r : Int, e = .returned (.int .i64 r) ∧ 0 ≤ r ∧ r ≤ 255) ∧ NextPost b p (.slice a n cp) w w' := by
  have hc0 : w.cell? ⟨b, 0, none⟩ = some (.slice a n cp) := cell_of_block hc 0
  have hc1 : w.cell? ⟨b, 1, none⟩ = some (.int .i64 p) := cell_of_block hc 1
  have hc2 : w.cell? ⟨b, 2, none⟩ = some (.int .u64 sd) := cell_of_block hc 2
  have hf1 : w.frozen? ⟨b, 1, none⟩ = false := frozen_of_block hc 1
  have hf2 : w.frozen? ⟨b, 2, none⟩ = false := frozen_of_block hc 2
  have HC := Lib.hid hc
  clear hc
  have hi0 : 0 ≤ (p : Int) := by omega
  have hi1 : (n : Int) ≤ p := by omega
  go_enter Try.func96, Try.ntmps96
  go_wp2
  go_quiet (fail)
  go_wp2
  go_quiet (fail)
  go_wp2
  go_ret
  refine ⟨⟨_, rfl, ?_, ?_⟩, next_post b p _ _ _ _ _ _ w HC.out⟩
  · exact (low8 _).1
  · exact (low8 _).2

theorem next_any (base b t : Nat) (w : World) (h : CurOK base b t w) (ht : t ≤ 1000000) :
    Calls Try.prog 96 #[.pointer (some ⟨b, 0, none⟩)] w (Drew (fun r => 0 ≤ r ∧ r ≤ 255) base b (t + 1) w) := by
  obtain ⟨a, n, cp, p, sd, hc, hp, hn, hbb, hx⟩ := h
  have back : ∀ w', NextPost b p (.slice a n cp) w w' → CurOK base b (t + 1) w' ∧ w.grownBy w' (some b) := by
    rintro w' ⟨sd', hc', hb⟩
    refine ⟨⟨a, n, cp, p + 1, sd', by rw [hc']; rfl, by omega, hn, hbb, fun j hj => ?_⟩, hb⟩
    obtain ⟨b', o, x, ha, hlt, hcell, h0, h1⟩ := hx j hj
    exact ⟨b', o, x, ha, hlt, (World.cell?_of_block (a := ⟨b', o + j, none⟩) (hb.block b' (World.block_lt_of_cell? _ _ hcell) (fun e => by cases e; omega))).trans hcell, h0, h1⟩
  by_cases hpn : p < n
  · obtain ⟨b', o, x, rfl, hlt, hcell, h0, h1⟩ := hx p hpn
    refine (next_in b o b' p n cp sd x w hc hcell h0 h1 hpn hn).mono ?_
    rintro e w' ⟨he, hpost⟩
    exact ⟨x, he, ⟨h0, h1⟩, (back w' hpost).1, (back w' hpost).2⟩
  · refine (next_out b p n cp a sd w hc (by omega) (by omega)).mono ?_
    rintro e w' ⟨⟨r, he, hr⟩, hpost⟩
    exact ⟨r, he, hr, (back w' hpost).1, (back w' hpost).2⟩
set_option maxHeartbeats 400000 in
theorem pick_any (base b t : Nat) (n : Int) (w : World) (h : CurOK base b t w) (ht : t ≤ 100000) (h1 : 1 ≤ n) (hn : n ≤ 100000) :
    Calls Try.prog 84 #[.pointer (some ⟨b, 0, none⟩), .int .i64 n] w (Drew (fun r => 0 ≤ r ∧ r < n) base b (t + 2) w) := by
  have H := Lib.hid h
  have more : ∀ {t t' : Nat} {w : World}, CurOK base b t w → t ≤ t' → CurOK base b t' w := by
    rintro t t' w ⟨a, n, cp, p, sd, hc, hp, r⟩ hle
    exact ⟨a, n, cp, p, sd, hc, by omega, r⟩
  clear h
  by_cases hn1 : n ≤ 1
  · go_enter Try.func84, Try.ntmps84
    go_wp2
    go_ret
    exact ⟨0, rfl, ⟨by omega, by omega⟩, more H.out (by omega), ⟨rfl, rfl, rfl, Nat.le_refl _, fun _ _ _ => rfl⟩⟩
  · have hn2 : 2 ≤ n := by omega
    by_cases hn3 : n ≤ 200
    · go_enter Try.func84, Try.ntmps84
      go_wp2_with fail
      refine (next_any base b t w H.out (by omega)).mono ?_
      rintro e w1 ⟨r, rfl, ⟨hr0, hr1⟩, hc1, hb1⟩
      have HC := Lib.hid hc1
      have HB := Lib.hid hb1
      have hne : ¬ n = 0 := by omega
      clear hc1 hb1
      go_wp2_with fail
      go_ret
      exact ⟨_, rfl, ⟨Int.emod_nonneg _ (by omega), Int.emod_lt_of_pos _ (by omega)⟩, more HC.out (by omega), HB.out⟩
    · have hn4 : 200 < n := by omega
      go_enter Try.func84, Try.ntmps84
      go_wp2_with fail
      refine (next_any base b t w H.out (by omega)).mono ?_
      rintro e w1 ⟨r, rfl, ⟨hr0, hr1⟩, hc1, hb1⟩
      have HC := Lib.hid hc1
      have HB := Lib.hid hb1
      clear hc1 hb1
      go_wp2_with fail
      refine (next_any base b (t + 1) w1 HC.out (by omega)).mono ?_
      rintro e w2 ⟨r2, rfl, ⟨hr2, hr3⟩, hc2, hb2⟩
      have HC2 := Lib.hid hc2
      have HB2 := Lib.hid (grown_trans HB.out hb2)
      have hq0 : 0 ≤ r * 256 + r2 := by omega
      have hq1 : r * 256 + r2 ≤ 100000 := by omega
      clear hc2 hb2
      go_wp2_with fail
      go_ret
      refine ⟨_, rfl, ⟨?_, ?_⟩, HC2.out, HB2.out⟩
      · exact Int.emod_nonneg _ (by omega)
      · exact Int.emod_lt_of_pos _ (by omega)
theorem grown_alloc (w : World) (o : Obj) (r : Option Nat) : w.grownBy (w.alloc o) r := World.grownBy_alloc w o r
theorem CurOK.lt {base b t : Nat} {w : World} (h : CurOK base b t w) : b < w.heap.size := by
  obtain ⟨a, n, cp, p, sd, hc, _⟩ := h
  exact (Array.getElem?_eq_some_iff.1 hc).1
theorem CurOK.alloc {base b t : Nat} {w : World} (h : CurOK base b t w) (o : Obj) (hbase : base ≤ w.heap.size) : CurOK base b t (w.alloc o) :=
  h.below ((Below.refl _ w).alloc (Nat.le_refl _) o) hbase
theorem CurOK.base {base b t : Nat} {w : World} (h : CurOK base b t w) : base ≤ w.heap.size := by
  have h1 := h.lt
  obtain ⟨a, n, cp, p, sd, _, _, _, hb, _⟩ := h
  omega
/-- v reads as bytes -/
def CodeOK (w : World) (v : Value) : Prop :=
  ∃ (a : Option Addr) (n cp : Nat), v = .slice a n cp ∧ n ≤ maxLen ∧ ∀ j : Nat, j < n → ∃ (b' o : Nat) (x : Int), a = some ⟨b', o, none⟩ ∧ b' < w.heap.size ∧ w.cell? ⟨b', o + j, none⟩ = some (.int .u8 x) ∧ 0 ≤ x ∧ x ≤ 255
theorem CodeOK.below {w w' : World} {v : Value} (h : CodeOK w v) (hb : Below w.heap.size w w') : CodeOK w' v := by
  obtain ⟨a, n, cp, rfl, hn, hx⟩ := h
  refine ⟨a, n, cp, rfl, hn, fun j hj => ?_⟩
  obtain ⟨b', o, x, ha, hlt, hcell, h0, h1⟩ := hx j hj
  exact ⟨b', o, x, ha, Nat.lt_of_lt_of_le hlt hb.size, (hb.cell (p := ⟨b', o + j, none⟩) hlt).trans hcell, h0, h1⟩
theorem cur_new {w : World} {a : Option Addr} {n cp : Nat} (h : CodeOK w (.slice a n cp)) : CurOK w.heap.size w.heap.size 0 (w.alloc (.cells #[.slice a n cp, .int .i64 0, .int .u64 0] 66)) := by
  obtain ⟨a', n', cp', he, hn, hx⟩ := h
  cases he
  refine ⟨a, n, cp, 0, 0, (MapKept.heap_alloc w _).1, Nat.le_refl _, hn, Nat.le_refl _, fun j hj => ?_⟩
  obtain ⟨b', o, x, ha, hlt, hcell, h0, h1⟩ := hx j hj
  exact ⟨b', o, x, ha, hlt, (((Below.refl w.heap.size w).alloc (Nat.le_refl _) _).cell (p := ⟨b', o + j, none⟩) hlt).trans hcell, h0, h1⟩
theorem below_cur {w w1 w2 : World} (h : Below w.heap.size w w1) (hg : w1.grownBy w2 (some w.heap.size)) : Below w.heap.size w w2 := h.grown hg h.size (fun k e => by cases e; exact Nat.le_refl _)
set_option maxHeartbeats 400000 in
theorem one_any (base b t : Nat) (n : Int) (w : World) (h : CurOK base b t w) (ht : t ≤ 100000) (h1 : 1 ≤ n) (hn : n ≤ 100000) :
    Calls Try.prog 57 #[.pointer (some ⟨b, 0, none⟩), .int .i64 n] w fun e w' => (∃ z : Bool, e = .returned (.bool z)) ∧ CurOK base b (t + 2) w' ∧ w.grownBy w' (some b) := by
  have H := Lib.hid h
  clear h
  go_enter Try.func57, Try.ntmps57
  go_wp2_with fail
  refine (pick_any base b t n w H.out ht h1 hn).mono ?_
  rintro e w1 ⟨r, rfl, _, hc, hg⟩
  have HC := Lib.hid hc
  have HG := Lib.hid hg
  clear hc hg
  go_wp2_with fail
  go_ret
  exact ⟨⟨_, rfl⟩, HC.out, HG.out⟩
theorem CurOK.more {base b t t' : Nat} {w : World} (h : CurOK base b t w) (ht : t ≤ t') : CurOK base b t' w := by
  obtain ⟨a, n, cp, p, sd, hc, hp, r⟩ := h
  exact ⟨a, n, cp, p, sd, hc, by omega, r⟩
set_option maxHeartbeats 400000 in
theorem among_any (base b t : Nat) (v : Value) (xs : List Int) (w : World) (h : CurOK base b t w) (ht : t ≤ 100000) (h1 : 1 ≤ xs.length) (hn : xs.length ≤ 100) (hin : ∀ w', w.grownBy w' (some b) → ReadsI w' v xs) :
    Calls Try.prog 65 #[.pointer (some ⟨b, 0, none⟩), v] w (Drew (· ∈ xs) base b (t + 2) w) := by
  have H := Lib.hid h
  have HI := Lib.hid hin
  obtain ⟨a, c, rfl, hc, hm, hx⟩ := hin w (grown_refl w _)
  clear h hin hx
  unfold maxLen at hm
  go_enter Try.func65, Try.ntmps65
  go_wp2_with fail
  refine (pick_any base b t xs.length w H.out (by omega) (by omega) (by omega)).mono ?_
  rintro e w1 ⟨r, rfl, ⟨hr0, hr1⟩, hc1, hb1⟩
  obtain ⟨k, rfl⟩ := Int.eq_ofNat_of_zero_le hr0
  have hk : k < xs.length := by omega
  obtain ⟨x, hxk⟩ := get_some hk
  obtain ⟨a2, c2, hv2, _, _, hx2⟩ := HI.out w1 hb1
  cases hv2
  obtain ⟨b', o, rfl, _, hcell⟩ := hx2 k x hxk
  have HM := Lib.hid (List.mem_of_getElem? hxk)
  have HC := Lib.hid hc1
  have HB := Lib.hid hb1
  clear hc1 hb1 hx2 hxk
  go_wp2_with fail
  go_ret
  exact ⟨x, rfl, HM.out, HC.out, HB.out⟩
theorem among_lit (base b t n k : Nat) (xs : List Int) (cs : Array Value) (w : World) (hcs : cs.toList = xs.map iv) (hxn : xs.length = n) (hk : w.heap.size = k) (h : CurOK base b t w) (ht : t ≤ 100000) (h1 : 1 ≤ n) (hn : n ≤ 100) :
    Calls Try.prog 65 #[.pointer (some ⟨b, 0, none⟩), .slice (some ⟨k, 0, none⟩) n n] (w.alloc (.cells cs 3)) (Drew (· ∈ xs) base b (t + 2) w) := by
  subst hxn hk
  have hlt := h.lt
  have hheap : (w.alloc (.cells cs 3)).heap[w.heap.size]? = some (.cells cs 3 (0, 0)) := (MapKept.heap_alloc w _).1
  have hr : ∀ w', (w.alloc (.cells cs 3)).grownBy w' (some b) → ReadsI w' (.slice (some ⟨w.heap.size, 0, none⟩) xs.length xs.length) xs := by
    intro w' hg
    have hh : w'.heap[w.heap.size]? = some (.cells cs 3 (0, 0)) := (hg.block w.heap.size (Array.getElem?_eq_some_iff.1 hheap).1 (by intro e; cases e; omega)).trans hheap
    refine ⟨_, _, rfl, Nat.le_refl _, by unfold maxLen; omega, fun j x hj => ⟨w.heap.size, 0, rfl, (Array.getElem?_eq_some_iff.1 hh).1, ?_⟩⟩
    rw [Nat.zero_add, cell_of_block hh j, ← Array.getElem?_toList, hcs, List.getElem?_map, hj]
    rfl
  refine (among_any base b t _ xs _ (h.alloc _ h.base) ht h1 hn hr).mono ?_
  rintro e w' ⟨r, he, hm, hc, hg⟩
  exact ⟨r, he, hm, hc, grown_trans (grown_alloc w _ _) hg⟩
end Go.Proofs.Ytiokgnabiidlbaa
