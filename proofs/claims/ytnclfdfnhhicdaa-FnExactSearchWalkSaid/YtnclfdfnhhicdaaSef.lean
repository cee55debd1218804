/-
  What is proved: the contract of spec.l3Times: the times of a search of a line. Conditions: a valid line, a place on it, a search, an extra time from 0 to 9.
-/
import Derived.Test.YtnclfdfnhhicdaaStm
import Derived.Test.YtnclfdfnhhicdaaSed
import Derived.Test.YtnclfdfnhhicdaaFn6
namespace Go.Proofs.Ytnclfdfnhhicdaa
open Go.RowKit
set_option linter.unusedVariables false
set_option linter.unusedSimpArgs false

/-- the model's list behind k turning places: 0 where nobody was -/
def mtF (f : Int → Int) (p : Int) : Int := max 0 (f p)
/-- the block of a list of n numbers that the function has made -/
abbrev LB (base bk N : Nat) (f : Int → Int) (wr : World) : Prop := wr.ownsRow (base + 1) 3 1 (.slice (some ⟨bk, 0, none⟩) N N) N ((listF N f).map iv)
theorem lb_congr {base bk N : Nat} {f g : Int → Int} {wr : World} (h : LB base bk N f wr) (e : ∀ p, 0 ≤ p → p < (N : Int) → f p = g p) : LB base bk N g wr := by
  unfold LB
  rw [← listF_congr e]
  exact h
/-- behind k turns of the model's outer loop -/
def L3TR (N : Nat) (a x : Int) (xs : List Int) (base bk : Nat) (w : World) (nv av lv hv i : Value) (wr : World) : Prop :=
  Boxed base N false w wr ∧ ∃ (k : Nat) (lo hi q : Int), k ≤ xs.length ∧ i = .int .i64 k ∧ nv = .int .i64 (nowT a x xs k) ∧ av = .int .i64 q ∧ lv = .int .i64 lo ∧ hv = .int .i64 hi ∧ TInv N a x xs k lo hi q ∧ LB base bk N (mtF (timT a x xs k)) wr
/-- behind m more places to the right -/
def L3UR (N : Nat) (f : Int → Int) (now q x hi : Int) (base bk : Nat) (w : World) (hv : Value) (wr : World) : Prop :=
  Boxed base N false w wr ∧ ∃ h : Int, hi ≤ h ∧ h ≤ x ∧ hv = .int .i64 h ∧ LB base bk N (mtF (parT f now q x (h - q + 1))) wr
def L3DR (N : Nat) (f : Int → Int) (now q x lo : Int) (base bk : Nat) (w : World) (lv : Value) (wr : World) : Prop :=
  Boxed base N false w wr ∧ ∃ l : Int, l ≤ lo ∧ x ≤ l ∧ lv = .int .i64 l ∧ LB base bk N (mtF (parT f now q x (q - l + 1))) wr
/-- the times at the beginning of a leg -/
theorem leg_right {n a e : Int} {xs : List Int} {k : Nat} {lo hi q x : Int} (h : TInv n a e xs k lo hi q) (hx : hi < x) (hq : q = lo ∨ q = hi) (p : Int) : mtF (timT a e xs k) p = mtF (parT (timT a e xs k) (nowT a e xs k) q x (hi - q + 1)) p := by
  unfold mtF
  have hs := h.seen p
  have hn := h.tmN p
  have hf := h.first
  have h0 := h.now0
  have h1 := h.loQ
  have h2 := h.hiQ
  by_cases h3 : 0 ≤ timT a e xs k p
  · rw [parT_seen h3]
  · unfold parT
    rw [if_neg h3]
    have hns : ¬ (0 < k ∧ lo ≤ p ∧ p ≤ hi) := fun hh => h3 (hs.2 hh)
    split
    · have hk : k = 0 := by omega
      subst hk
      have := hf rfl
      show _ = max 0 (0 + gap1 p q)
      unfold gap1
      omega
    · omega
theorem leg_left {n a e : Int} {xs : List Int} {k : Nat} {lo hi q x : Int} (h : TInv n a e xs k lo hi q) (hx : x < lo) (p : Int) : mtF (timT a e xs k) p = mtF (parT (timT a e xs k) (nowT a e xs k) q x (q - lo + 1)) p := by
  unfold mtF
  have hs := h.seen p
  have hn := h.tmN p
  have hf := h.first
  have h0 := h.now0
  have h1 := h.loQ
  have h2 := h.hiQ
  by_cases h3 : 0 ≤ timT a e xs k p
  · rw [parT_seen h3]
  · unfold parT
    rw [if_neg h3]
    have hns : ¬ (0 < k ∧ lo ≤ p ∧ p ≤ hi) := fun hh => h3 (hs.2 hh)
    split
    · have hk : k = 0 := by omega
      subst hk
      have := hf rfl
      show _ = max 0 (0 + gap1 p q)
      unfold gap1
      omega
    · omega
/-- one place more to the right -/
theorem place_right {n a e : Int} {xs : List Int} {k : Nat} {lo hi q x h : Int} (hT : TInv n a e xs k lo hi q) (hh : hi ≤ h) (p : Int) (hp : p ≠ h + 1) (hx : h < x) : mtF (parT (timT a e xs k) (nowT a e xs k) q x (h + 1 - q + 1)) p = mtF (parT (timT a e xs k) (nowT a e xs k) q x (h - q + 1)) p := by
  have h1 := hT.loQ
  have h2 := hT.hiQ
  unfold mtF
  rw [show h + 1 - q + 1 = (h - q + 1) + 1 by omega, parT_right (by omega) (by omega) (by omega)]
theorem place_right_new {n a e : Int} {xs : List Int} {k : Nat} {lo hi q x h : Int} (hT : TInv n a e xs k lo hi q) (hh : hi ≤ h) (hx : h < x) : mtF (parT (timT a e xs k) (nowT a e xs k) q x (h + 1 - q + 1)) (h + 1) = nowT a e xs k + (h + 1) - q := by
  have h1 := hT.loQ
  have h2 := hT.hiQ
  have h3 := hT.now0
  have hs := hT.seen (h + 1)
  have hf : ¬ 0 ≤ timT a e xs k (q + (h - q + 1)) := by
    rw [show q + (h - q + 1) = h + 1 by omega]
    intro h4
    have := hs.1 h4
    omega
  have e1 := parT_right_new (f := timT a e xs k) (now := nowT a e xs k) (q := q) (x := x) (m := h - q + 1) (by omega) (by omega) hf
  unfold mtF
  rw [show h + 1 - q + 1 = (h - q + 1) + 1 by omega]
  rw [show q + (h - q + 1) = h + 1 by omega] at e1
  rw [e1]
  omega
theorem place_left {n a e : Int} {xs : List Int} {k : Nat} {lo hi q x l : Int} (hT : TInv n a e xs k lo hi q) (hl : l ≤ lo) (p : Int) (hp : p ≠ l - 1) (hx : x < l) : mtF (parT (timT a e xs k) (nowT a e xs k) q x (q - (l - 1) + 1)) p = mtF (parT (timT a e xs k) (nowT a e xs k) q x (q - l + 1)) p := by
  have h1 := hT.loQ
  have h2 := hT.hiQ
  unfold mtF
  rw [show q - (l - 1) + 1 = (q - l + 1) + 1 by omega, parT_left (by omega) (by omega) (by omega)]
theorem place_left_new {n a e : Int} {xs : List Int} {k : Nat} {lo hi q x l : Int} (hT : TInv n a e xs k lo hi q) (hl : l ≤ lo) (hx : x < l) : mtF (parT (timT a e xs k) (nowT a e xs k) q x (q - (l - 1) + 1)) (l - 1) = nowT a e xs k + q - (l - 1) := by
  have h1 := hT.loQ
  have h2 := hT.hiQ
  have h3 := hT.now0
  have hs := hT.seen (l - 1)
  have hf : ¬ 0 ≤ timT a e xs k (q - (q - l + 1)) := by
    rw [show q - (q - l + 1) = l - 1 by omega]
    intro h4
    have := hs.1 h4
    omega
  have e1 := parT_left_new (f := timT a e xs k) (now := nowT a e xs k) (q := q) (x := x) (m := q - l + 1) (by omega) (by omega) hf
  unfold mtF
  rw [show q - (l - 1) + 1 = (q - l + 1) + 1 by omega]
  rw [show q - (q - l + 1) = l - 1 by omega] at e1
  rw [e1]
  omega
/-- a leg at its end -/
theorem leg_end {n a e : Int} {xs : List Int} {k : Nat} {lo hi q x : Int} (hT : TInv n a e xs k lo hi q) (hx : xs[k]? = some x) (p : Int) : timT a e xs (k + 1) p = parT (timT a e xs k) (nowT a e xs k) q x (gap1 x q + 1) p := by
  show parT (timT a e xs k) (nowT a e xs k) (plc a xs k) (plc a xs (k + 1)) (gap1 (plc a xs (k + 1)) (plc a xs k) + 1) p = _
  rw [plc_next hx, hT.at_q]
theorem now_next {n a e : Int} {xs : List Int} {k : Nat} {lo hi q x : Int} (hT : TInv n a e xs k lo hi q) (hx : xs[k]? = some x) : nowT a e xs (k + 1) = nowT a e xs k + gap1 x q + e := by
  show nowT a e xs k + gap1 (plc a xs (k + 1)) (plc a xs k) + e = _
  rw [plc_next hx, hT.at_q]
/-- at the end the model's list is that of the times -/
theorem mt_end {n a e : Int} {xs : List Int} {lo hi q : Int} (h : TInv n a e xs xs.length lo hi q) (hs : searchB n a xs = true) (hn : 2 ≤ n) (p : Int) (hp : 0 ≤ p) (hp2 : p < n) : mtF (timT a e xs xs.length) p = timT a e xs xs.length p := by
  have := (tinv_end h hs hn).2.2 p hp hp2
  unfold mtF
  omega
theorem l1Most_same (a b : Int) (w : World) :
    Calls Try.prog 67 #[.int .i64 a, .int .i64 b] w fun e w' => e = .returned (.int .i64 (max a b)) ∧ w' = w :=
  (l1Most_any a b w).mono fun _ _ h => ⟨h.1, h.2.symm⟩
set_option maxHeartbeats 3200000 in
set_option maxRecDepth 20000 in
theorem l3Times_nat (N : Nat) (a x : Int) (v : Value) (xs : List Int) (w : World) (hv : ReadsI w v xs) (hl : lineB N false a = true) (hs : searchB N a xs = true) (he0 : 0 ≤ x) (he9 : x ≤ 9) :
    Calls Try.prog 57 #[rd N false, .int .i64 a, v, .int .i64 x] w (OwnsI w.heap.size (timesL N a x xs) w) := by
  obtain ⟨hn1, hn2, _, ha0, ha1⟩ := (lineB_iff N false a).1 hl
  obtain ⟨i0, hi, hz0, hz1, hz2⟩ := info_parts infoInt
  have HMO := Lib.hid (fun a b w => l1Most_same a b w)
  have HSR := Lib.hid hs
  have HX0 := Lib.hid (Boxed.first w N false 27)
  obtain ⟨y, c, rfl, hc, hm, hx⟩ := hv
  have HL := Lib.hid hx
  unfold maxLen at hm
  clear hx hl hs
  unfold rd at *
  have h0 := HX0.out.c0
  go_enter Try.func57, Try.ntmps57
  go_wp2_with (at_make; refine wpList_make_full _ rfl _ _ 24 rfl (w.heap.size + 1) 3 i0 (.int .i64 0) 1 Try.underlying24 hi hz0 hz1 .i64 .i64 _ _ N rfl rfl rfl rfl ?c1 ?c2 ?c3 ?_)
  case c1 => have := hz2; omega
  case c2 => unfold maxLen; omega
  intro w2 hown hgrow
  have hb2 : Below (w.heap.size + 1) (w.alloc (.cells #[.int .i64 N, .bool false] 27)) w2 := ((Below.refl _ _).grown hgrow (by simp) (fun k e => by cases e))
  have HX := Lib.hid (HX0.out.nextAt (Nat.lt_succ_self _) hb2)
  have hst : (madeCells #[Value.int .i64 0] N).toList = (listF N (mtF (timT a x xs 0))).map iv := by
    apply List.ext_getElem?
    intro j
    by_cases hj : j < N
    · rw [List.getElem?_map, listF_at _ _ j (by omega)]
      simp [madeCells, hj, Nat.mod_one, mtF, timT]; try decide
    · rw [List.getElem?_eq_none (by simp [madeCells]; omega), List.getElem?_eq_none (by rw [List.length_map, listF_len]; omega)]
  rw [hst] at hown
  have HOW := Lib.hid hown
  clear hgrow hst hb2 hown h0 HX0
  go_wp2_with fail
  go_loopw [10, 11, 12, 13, 14] (fun nv av lv hv i wr => L3TR N a x xs w.heap.size (w.heap.size + 1) w nv av lv hv i wr) (fun _ _ _ _ i _ => xs.length - (intOf i).toNat)
  case atStart => exact ⟨HX.out, 0, a, a, a, Nat.zero_le _, rfl, rfl, rfl, rfl, rfl, tinv_first xs ha0 (by omega), HOW.out⟩
  case round =>
    obtain ⟨hx, k, lo, hi, q, hk, rfl, rfl, rfl, rfl, rfl, hT, hown⟩ := hrel
    clear HX HOW
    have HX := Lib.hid hx
    have HT := Lib.hid hT
    have HOW := Lib.hid hown
    clear hx hT hown
    by_cases hlt : k < xs.length
    · obtain ⟨z, hzk⟩ := get_some hlt
      obtain ⟨b, o, rfl, hbl, hcx0⟩ := HL.out k z hzk
      have HBB := Lib.hid hbl
      have HCX := Lib.hid hcx0
      have HZK := Lib.hid hzk
      have hgo := cov_go HSR.out HT.out.scov hzk
      have hm3 := (mayB_iff lo hi q z).1 hgo.1
      have hz0' := hgo.2.1
      have hz1' := hgo.2.2
      have HGO := Lib.hid hgo
      have hlo0 := HT.out.lo0
      have hhin := HT.out.hin
      have hlq := HT.out.loQ
      have hhq := HT.out.hiQ
      have hnw0 := HT.out.now0
      have hnwU := HT.out.nowU
      have hki : (k : Int) ≤ 23 := by have := HT.out.many; omega
      have hi0 : 0 ≤ (k : Int) := by omega
      have hi1 : (k : Int) < xs.length := by omega
      have hcx : wr.cell? ⟨b, o + k, none⟩ = some (.int .i64 z) := (HX.out.below.cell (p := ⟨b, o + k, none⟩) hbl).trans hcx0
      clear hbl hcx0 hzk hgo
      by_cases hbx : hi < z
      · have HOW := Lib.hid (lb_congr HOW.out (fun p _ _ => leg_right HT.out hbx HT.out.qe p))
        go_wp2_with fail
        go_loopw [13] (fun hv wr => L3UR N (timT a x xs k) (nowT a x xs k) q z hi w.heap.size (w.heap.size + 1) w hv wr) (fun hv _ => (z - intOf hv).toNat)
        case atStart => exact ⟨HX.out, hi, Int.le_refl _, by omega, rfl, HOW.out⟩
        case round =>
          obtain ⟨hx, h, hh1, hh2, rfl, hown⟩ := hrel
          clear HX HOW
          have HX := Lib.hid hx
          have HOW := Lib.hid hown
          clear hx hown
          have hcx : wr.cell? ⟨b, o + k, none⟩ = some (.int .i64 z) := (HX.out.below.cell (p := ⟨b, o + k, none⟩) HBB.out).trans HCX.out
          by_cases hlt2 : h < z
          · have hj0 : 0 ≤ h + 1 := by omega
            obtain ⟨j, hj⟩ : ∃ j : Nat, h + 1 = j := ⟨(h + 1).toNat, by omega⟩
            have hjN : j < N := by omega
            have hown := HOW.out
            have hold : wr.cell? ⟨w.heap.size + 1, j, none⟩ = some (.int .i64 (mtF (parT (timT a x xs k) (nowT a x xs k) q z (h - q + 1)) j)) := (hown.cellAt j (by omega)).trans (by rw [List.getElem?_map, listF_at _ _ j (by omega)]; rfl)
            have hfr := hown.frozenAt j
            have Hst := Lib.hid (hown.stored j (.int .i64 (nowT a x xs k + (h + 1) - q)))
            have Hset := Lib.hid (listF_setV (n := N) (f := mtF (parT (timT a x xs k) (nowT a x xs k) q z (h - q + 1))) (g := mtF (parT (timT a x xs k) (nowT a x xs k) q z (h + 1 - q + 1))) (k := j) (x := nowT a x xs k + (h + 1) - q) (by omega) (by rw [← hj]; exact place_right_new HT.out hh1 hlt2) (fun p _ _ hp => place_right HT.out hh1 p (by omega) hlt2))
            have HOB := Lib.hid (fun b hb => (owns_block hown b hb).1)
            clear hown
            have HJ := Lib.hid hj
            rw [hj] at Hst
            go_wp2_with fail
            go_roundw
            case rel =>
              refine ⟨HX.out.nextAt (Nat.lt_succ_self _) (below_grown (v := .slice (some ⟨w.heap.size + 1, 0, none⟩) N N) Hst.out.2 HOB.out (Nat.succ_le_of_lt HX.out.size)), j, by omega, by omega, rfl, ?_⟩
              have hse := Hset.out
              rw [HJ.out] at hse
              unfold LB
              rw [← hse]
              exact Hst.out.1
            case measure => simp [intOf]; omega
          · obtain rfl : h = z := by omega
            clear hlt2 hh1 hh2
            go_wp2_with fail
            go_loopw [12] (fun hv w' => hv = .int .i64 lo ∧ w' = wr) (fun _ _ => 0)
            case atStart => exact ⟨rfl, rfl⟩
            case round =>
              obtain ⟨rfl, rfl⟩ := hrel

              have hmo := HMO.out (h - q) (q - h)
              have HMX := Lib.hid hmo
              clear hmo
              have hgap : max (h - q) (q - h) = h - q := by omega
              rw [hgap] at HMX
              have hw1 : IntKind.i64.wrap (h - q) = h - q := IntWalk.i64_in _ (by omega)
              have hw2 : IntKind.i64.wrap (q - h) = q - h := IntWalk.i64_in _ (by omega)
              have hw3 : IntKind.i64.wrap (nowT a x xs k + (h - q)) = nowT a x xs k + (h - q) := IntWalk.i64_in _ (by omega)
              have hw4 : IntKind.i64.wrap (nowT a x xs k + (h - q) + x) = nowT a x xs k + (h - q) + x := IntWalk.i64_in _ (by omega)
              have htn := tinv_next HT.out (by omega) he0 he9 HZK.out HGO.out.1 HGO.out.2.1 HGO.out.2.2
              rw [show min lo h = lo by omega, show max hi h = h by omega] at htn
              have HTN := Lib.hid htn
              have hnn := now_next HT.out HZK.out
              have HNN := Lib.hid hnn
              clear htn hnn
              go_wp2_with fail
              go_quiet ((go_at_call 67; exact Calls.quiet_of_same (HMX.out _)))
              clear hw1 hw2 hw3 hw4
              have HX := Lib.hid (HX.out.next (below_drewN _ nq))
              have HOW := Lib.hid (owns_below HOW.out (below_drewN _ nq))
              have hcx : (wr.drewN nq).cell? ⟨b, o + k, none⟩ = some (.int .i64 h) := hcx
              go_wp2_with fail
              go_roundw
              case rel =>
                refine ⟨HX.out, k + 1, lo, h, h, by omega, by go_num, ?_, rfl, rfl, rfl, HTN.out, lb_congr HOW.out (fun p _ _ => ?_)⟩
                · rw [HNN.out]
                  unfold gap1
                  rw [hgap]
                · unfold mtF
                  rw [leg_end HT.out HZK.out]
                  unfold gap1
                  rw [hgap]
              case measure => simp [intOf]; omega


      · have hby : z < lo := by omega
        clear hbx
        go_wp2_with fail
        go_loopw [13] (fun hv w' => hv = .int .i64 hi ∧ w' = wr) (fun _ _ => 0)
        case atStart => exact ⟨rfl, rfl⟩
        case round =>
          obtain ⟨rfl, rfl⟩ := hrel
          have HOW := Lib.hid (lb_congr HOW.out (fun p _ _ => leg_left HT.out hby p))
          go_wp2_with fail
          go_loopw [12] (fun hv wr => L3DR N (timT a x xs k) (nowT a x xs k) q z lo w.heap.size (w.heap.size + 1) w hv wr) (fun hv _ => (intOf hv - z).toNat)
          case atStart => exact ⟨HX.out, lo, Int.le_refl _, by omega, rfl, HOW.out⟩
          case round =>
            obtain ⟨hx, h, hh1, hh2, rfl, hown⟩ := hrel
            clear HX HOW
            have HX := Lib.hid hx
            have HOW := Lib.hid hown
            clear hx hown
            have hcx : wr.cell? ⟨b, o + k, none⟩ = some (.int .i64 z) := (HX.out.below.cell (p := ⟨b, o + k, none⟩) HBB.out).trans HCX.out
            by_cases hlt2 : z < h
            · have hj0 : 0 ≤ h - 1 := by omega
              obtain ⟨j, hj⟩ : ∃ j : Nat, h - 1 = j := ⟨(h - 1).toNat, by omega⟩
              have hjN : j < N := by omega
              have hown := HOW.out
              have hold : wr.cell? ⟨w.heap.size + 1, j, none⟩ = some (.int .i64 (mtF (parT (timT a x xs k) (nowT a x xs k) q z (q - h + 1)) j)) := (hown.cellAt j (by omega)).trans (by rw [List.getElem?_map, listF_at _ _ j (by omega)]; rfl)
              have hfr := hown.frozenAt j
              have Hst := Lib.hid (hown.stored j (.int .i64 (nowT a x xs k + q - (h - 1))))
              have Hset := Lib.hid (listF_setV (n := N) (f := mtF (parT (timT a x xs k) (nowT a x xs k) q z (q - h + 1))) (g := mtF (parT (timT a x xs k) (nowT a x xs k) q z (q - (h - 1) + 1))) (k := j) (x := nowT a x xs k + q - (h - 1)) (by omega) (by rw [← hj]; exact place_left_new HT.out hh1 hlt2) (fun p _ _ hp => place_left HT.out hh1 p (by omega) hlt2))
              have HOB := Lib.hid (fun b hb => (owns_block hown b hb).1)
              clear hown
              have HJ := Lib.hid hj
              rw [hj] at Hst
              go_wp2_with fail
              go_roundw
              case rel =>
                refine ⟨HX.out.nextAt (Nat.lt_succ_self _) (below_grown (v := .slice (some ⟨w.heap.size + 1, 0, none⟩) N N) Hst.out.2 HOB.out (Nat.succ_le_of_lt HX.out.size)), j, by omega, by omega, rfl, ?_⟩
                have hse := Hset.out
                rw [HJ.out] at hse
                unfold LB
                rw [← hse]
                exact Hst.out.1
              case measure => simp [intOf]; omega
            · obtain rfl : h = z := by omega
              clear hlt2 hh1 hh2

              have hmo := HMO.out (h - q) (q - h)
              have HMX := Lib.hid hmo
              clear hmo
              have hgap : max (h - q) (q - h) = q - h := by omega
              rw [hgap] at HMX
              have hw1 : IntKind.i64.wrap (h - q) = h - q := IntWalk.i64_in _ (by omega)
              have hw2 : IntKind.i64.wrap (q - h) = q - h := IntWalk.i64_in _ (by omega)
              have hw3 : IntKind.i64.wrap (nowT a x xs k + (q - h)) = nowT a x xs k + (q - h) := IntWalk.i64_in _ (by omega)
              have hw4 : IntKind.i64.wrap (nowT a x xs k + (q - h) + x) = nowT a x xs k + (q - h) + x := IntWalk.i64_in _ (by omega)
              have htn := tinv_next HT.out (by omega) he0 he9 HZK.out HGO.out.1 HGO.out.2.1 HGO.out.2.2
              rw [show min lo h = h by omega, show max hi h = hi by omega] at htn
              have HTN := Lib.hid htn
              have hnn := now_next HT.out HZK.out
              have HNN := Lib.hid hnn
              clear htn hnn
              go_wp2_with fail
              go_quiet ((go_at_call 67; exact Calls.quiet_of_same (HMX.out _)))
              clear hw1 hw2 hw3 hw4
              have HX := Lib.hid (HX.out.next (below_drewN _ nq))
              have HOW := Lib.hid (owns_below HOW.out (below_drewN _ nq))
              have hcx : (wr.drewN nq).cell? ⟨b, o + k, none⟩ = some (.int .i64 h) := hcx
              go_wp2_with fail
              go_roundw
              case rel =>
                refine ⟨HX.out, k + 1, h, hi, h, by omega, by go_num, ?_, rfl, rfl, rfl, HTN.out, lb_congr HOW.out (fun p _ _ => ?_)⟩
                · rw [HNN.out]
                  unfold gap1
                  rw [hgap]
                · unfold mtF
                  rw [leg_end HT.out HZK.out]
                  unfold gap1
                  rw [hgap]
              case measure => simp [intOf]; omega


    · have hke : k = xs.length := by omega
      subst hke
      have hlen : (timesL N a x xs).length = N := by rw [timesL_len]; exact Int.toNat_natCast N
      have HLN := Lib.hid hlen
      clear hlen
      have HOW := Lib.hid (lb_congr HOW.out (fun p h1 h2 => mt_end HT.out HSR.out (by omega) p h1 h2))
      go_wp2_with fail
      go_ret
      exact ⟨_, rfl, owns_lower (by rw [HLN.out]; exact HOW.out) (Nat.le_succ _), HX.out.below⟩
end Go.Proofs.Ytnclfdfnhhicdaa
