/-
  What is proved: the contract of a searcher's times: the times of a search of a line. Conditions: a valid line, a place on it, a search, an extra time from 0 to 9.
-/
import Derived.Test.YtnclfdfnhhicdaaSel
import Derived.Test.YtnclfdfnhhicdaaSef
import Derived.Test.YtnclfdfnhhicdaaFn24
namespace Go.Proofs.Ytnclfdfnhhicdaa
open Go.RowKit
set_option linter.unusedVariables false
set_option linter.unusedSimpArgs false

theorem leg_len {n q z : Int} (hq : 0 ≤ q ∧ q < n) (hz : 0 ≤ z ∧ z < n) : ((straightL n false q z).length : Int) = gap1 z q + 1 := by
  unfold straightL gapI gap1
  rw [wlk_len]
  simp
  omega
theorem leg_at {n q z : Int} {t : Nat} (hq : 0 ≤ q ∧ q < n) (hz : 0 ≤ z ∧ z < n) (ht : t < (straightL n false q z).length) : (straightL n false q z)[t]? = some (if q ≤ z then q + t else q - t) := by
  have hl := leg_len hq hz
  unfold gap1 at hl
  by_cases h : q ≤ z
  · have hd : downB n false q z = false := by simp [downB, riseI]; omega
    unfold straightL at ht ⊢
    rw [hd] at ht ⊢
    rw [wlk_at _ _ _ (by rw [wlk_len] at ht; omega), if_pos h]
    simp only [Bool.false_eq_true, if_false]
    rw [posLu hq]
    congr 1
    have hl2 : ((wlk (posC n false q 1) (gapI n false q z).toNat).length : Int) = max (z - q) (q - z) + 1 := by
      have := hl
      unfold straightL at this
      rw [hd] at this
      exact this
    simp only [Bool.false_eq_true, if_false] at ht
    omega
  · have hd : downB n false q z = true := by simp [downB, riseI]; omega
    unfold straightL at ht ⊢
    rw [hd] at ht ⊢
    rw [wlk_at _ _ _ (by rw [wlk_len] at ht; omega), if_neg h]
    simp only [if_true]
    rw [posLd hq]
    congr 1
    have hl2 : ((wlk (posC n false q (-1)) (gapI n false q z).toNat).length : Int) = max (z - q) (q - z) + 1 := by
      have := hl
      unfold straightL at this
      rw [hd] at this
      exact this
    simp only [if_true] at ht
    omega
theorem ownL_at {base : Nat} {a : Option Addr} {m c : Nat} {xss : List (List Int)} {w : World} {j : Nat} {xs : List Int} (h : OwnL base (.slice a m c) xss w) (hj : xss[j]? = some xs) : ∃ g u, a = some ⟨g, 0, none⟩ ∧ g < w.heap.size ∧ w.cell? ⟨g, j, none⟩ = some u ∧ RdT base w u xs := by
  obtain ⟨us, ⟨hl, ⟨he, h0⟩ | ⟨g, cap, cur, he, hb, hh, hc, _, _, ht⟩⟩, h2⟩ := h
  · have e : xss = [] := List.eq_nil_of_length_eq_zero h0
    subst e
    simp at hj
  · cases he
    have hjl := (List.getElem?_eq_some_iff.1 hj).1
    obtain ⟨u, hu⟩ := get_some (xs := us) (k := j) (by omega)
    refine ⟨g, u, rfl, (Array.getElem?_eq_some_iff.1 hh).1, ?_, h2 j u xs hu hj⟩
    have hj2 : (cur.toList.take (xss.length * 1))[j]? = some u := by rw [ht]; exact hu
    rw [List.getElem?_take] at hj2
    split at hj2
    · have hcell : w.cell? ⟨g, j, none⟩ = cur[j]? := by simp [World.cell?, hh]
      rw [hcell, ← Array.getElem?_toList]
      exact hj2
    · cases hj2
theorem ownL_shape {base : Nat} {v : Value} {xss : List (List Int)} {w : World} (h : OwnL base v xss w) : ∃ a c, v = .slice a xss.length c := by
  obtain ⟨us, ⟨hl, ⟨he, h0⟩ | ⟨g, cap, cur, he, _⟩⟩, h2⟩ := h
  · exact ⟨none, 0, by rw [he, h0]⟩
  · exact ⟨_, _, he⟩
theorem rdT_shape {base : Nat} {w : World} {u : Value} {xs : List Int} (h : RdT base w u xs) (hx : xs ≠ []) : ∃ g c, u = .slice (some ⟨g, 0, none⟩) xs.length c := by
  obtain ⟨_, h⟩ | ⟨g, c, cs, hu, _⟩ := h
  · exact absurd h hx
  · exact ⟨g, c, hu⟩
theorem rdT_cell {base : Nat} {w : World} {g m c : Nat} {xs : List Int} {j : Nat} {x : Int} (h : RdT base w (.slice (some ⟨g, 0, none⟩) m c) xs) (hj : xs[j]? = some x) : w.cell? ⟨g, j, none⟩ = some (.int .i64 x) := by
  obtain ⟨a, c', e, hc, hm, hx⟩ := h.reads
  obtain ⟨b, o, e2, _, h3⟩ := hx j x hj
  cases e
  cases e2
  rw [Nat.zero_add] at h3
  exact h3
def TimR (N : Nat) (a x : Int) (xs : List Int) (base bk wb : Nat) (ls : Value) (w : World) (nv i : Value) (wr : World) : Prop :=
  KeepL base N a x w wr ∧ ∃ k : Nat, k ≤ xs.length ∧ i = .int .i64 k ∧ nv = .int .i64 (nowT a x xs k) ∧ LB base bk N (timT a x xs k) wr ∧ OwnL wb ls (legsL N a xs xs.length) wr
def TimI (N : Nat) (a x : Int) (xs : List Int) (k : Nat) (q z : Int) (base bk wb : Nat) (ls lv : Value) (w : World) (i : Value) (wr : World) : Prop :=
  KeepL base N a x w wr ∧ ∃ t : Nat, t ≤ (straightL N false q z).length ∧ i = .int .i64 t ∧ LB base bk N (parT (timT a x xs k) (nowT a x xs k) q z t) wr ∧ OwnL wb ls (legsL N a xs xs.length) wr ∧ RdT wb wr lv (straightL N false q z)
set_option maxHeartbeats 3200000 in
set_option maxRecDepth 20000 in
theorem times_any (N : Nat) (a x : Int) (v : Value) (xs : List Int) (w : World) (hv : ReadsI w v xs) (hl : lineB N false a = true) (hs : searchB N a xs = true) (he0 : 0 ≤ x) (he9 : x ≤ 9) (hlen : xs.length ≤ 1048576) :
    Calls Try.prog 58 #[sr N false a x, v] w (OwnsI w.heap.size (timesL N a x xs) w) := by
  obtain ⟨hn1, hn2, _, ha0, ha1⟩ := (lineB_iff N false a).1 hl
  have HLB := Lib.hid hl
  have HSR := Lib.hid hs
  have hin : Inside N xs := by
    intro j p hj
    by_cases ho : 0 ≤ p ∧ p < N
    · exact ho
    · have := searchB_out (n := N) (a := a) hj (by omega)
      rw [hs] at this
      cases this
  have HIN := Lib.hid hin
  have HRE := Lib.hid (fun b w hb hp => repeat_owns b 0 (-1) N w hb hp (by omega))
  have HLE := Lib.hid (fun w hv => legs_any N a x v xs w hv hl hin hlen)
  have HTI := Lib.hid (fun k hk => tinv_at (e := x) hs ha0 ha1 (by omega) he0 he9 k hk)
  have HK0 := Lib.hid (show KeepL w.heap.size N a x w (w.alloc (.cells #[.int .i64 N, .bool false, .int .i64 a, .int .i64 x] 60)) from ⟨below_new w _, blk_new w _ _⟩)
  have HK := Lib.hid (keepL_next HK0.out (below_new _ (.cells #[.int .i64 (-1)] 3)))
  have hcm : ((w.alloc (.cells #[.int .i64 N, .bool false, .int .i64 a, .int .i64 x] 60)).alloc (.cells #[.int .i64 (-1)] 3)).cell? ⟨w.heap.size + 1, 0, none⟩ = some (.int .i64 (-1)) := cell_at _ _ _ _ _ (by simp) rfl
  have HCM := Lib.hid hcm
  have HV := Lib.hid ((hv.below (below_new w (.cells #[.int .i64 N, .bool false, .int .i64 a, .int .i64 x] 60))).below (below_new _ (.cells #[.int .i64 (-1)] 3)))
  obtain ⟨y, c, rfl, hc, hm, hx⟩ := hv
  clear hx hl hs hin hcm HK0
  unfold sr at *
  have h0 := HK.out.2.cell 0
  go_enter Try.func58, Try.ntmps58
  go_wp2_with fail
  refine (HRE.out _ _ (by simp) HCM.out).mono ?_
  rintro e w1 ⟨bk, rfl, ho, hb⟩
  have HK := Lib.hid (keepL_next HK.out hb)
  have HV := Lib.hid (HV.out.below hb)
  have hrl : (List.replicate N (-1)).map iv = (listF N (timT a x xs 0)).map iv := by
    congr 1
    apply List.ext_getElem?
    intro j
    by_cases hj : j < N
    · rw [listF_at _ _ j (by omega), List.getElem?_replicate, if_pos hj]
      rfl
    · rw [List.getElem?_eq_none (by simp; omega), List.getElem?_eq_none (by rw [listF_len]; omega)]
  rw [hrl] at ho
  have HT := Lib.hid (show LB w.heap.size bk N (timT a x xs 0) w1 from owns_lower ho (by simp))
  clear h0 ho hb hrl HCM HRE
  have h0 := HK.out.2.cell 0
  have h1 := HK.out.2.cell 1
  have h2 := HK.out.2.cell 2
  have h3 := HK.out.2.cell 3
  go_wp2_with fail
  refine (HLE.out _ HV.out).mono ?_
  rintro e w2 ⟨ls, rfl, hls, hb⟩
  have HGW := Lib.hid ((owns_block HT.out bk rfl).2)
  have HK := Lib.hid (keepL_next HK.out hb)
  have HT := Lib.hid (owns_below HT.out hb)
  have HO := Lib.hid hls
  clear h0 h1 h2 h3 hb hls HLE HV
  have hll := legsL_len N a xs xs.length
  generalize w1.heap.size = wb at *
  obtain ⟨la, lc, hsh⟩ := ownL_shape HO.out
  rw [hll] at hsh
  subst hsh
  clear hll
  go_wp2_with fail
  go_loopw [6, 20] (fun nv i wr => TimR N a x xs w.heap.size bk wb (.slice la xs.length lc) w nv i wr) (fun _ i _ => xs.length - (intOf i).toNat)
  case atStart => exact ⟨HK.out, 0, Nat.zero_le _, rfl, rfl, HT.out, HO.out⟩
  case round =>
    obtain ⟨hkp, k, hk, rfl, rfl, hown, hol⟩ := hrel
    clear HK HT HO
    have HK := Lib.hid hkp
    have HT := Lib.hid hown
    have HO := Lib.hid hol
    clear hkp hown hol
    by_cases hlt : k < xs.length
    · obtain ⟨z, hzk⟩ := get_some hlt
      obtain ⟨lo, hi, q, hti⟩ := HTI.out k hk
      have HTV := Lib.hid hti
      have hgo := cov_go HSR.out hti.scov hzk
      have hz0 := hgo.2.1
      have hz1 := hgo.2.2
      have hlo0 := hti.lo0
      have hhin := hti.hin
      have hlq := hti.loQ
      have hhq := hti.hiQ
      have hnw0 := hti.now0
      have hnwU := hti.nowU
      have hki : (k : Int) ≤ 23 := by have := hti.many; omega
      have hli := legsL_at N a xs xs.length k hlt
      rw [plc_next hzk, hti.at_q] at hli
      have hLn := leg_len (n := N) (q := q) (z := z) (by omega) (by omega)
      have hgp : 0 ≤ gap1 z q ∧ gap1 z q ≤ 23 := by unfold gap1; omega
      obtain ⟨lg, lu, hla, hlg, hlc, hrd⟩ := ownL_at HO.out hli
      subst hla
      obtain ⟨ug, uc, huu⟩ := rdT_shape hrd (by intro e; rw [e] at hLn; simp at hLn; omega)
      obtain ⟨L, hL⟩ : ∃ L : Nat, (straightL N false q z).length = L := ⟨_, rfl⟩
      rw [hL] at huu hLn
      subst huu
      have HRD := Lib.hid hrd
      have HZK := Lib.hid hzk
      have HLN := Lib.hid hL
      clear hti hgo hli hrd hzk hL
      have HT := Lib.hid (lb_congr HT.out (fun p _ _ => (parT_zero (now := nowT a x xs k) (q := q) (x := z) (HTV.out.tmN p)).symm))
      go_wp2_with fail
      go_loopw [26] (fun i wr => TimI N a x xs k q z w.heap.size bk wb (.slice (some ⟨lg, 0, none⟩) xs.length lc) (.slice (some ⟨ug, 0, none⟩) L uc) w i wr) (fun i _ => L - (intOf i).toNat)
      case atStart => exact ⟨HK.out, 0, Nat.zero_le _, rfl, HT.out, HO.out, HRD.out⟩
      case round =>
        obtain ⟨hkp, t, ht, rfl, hown, hol, hrd⟩ := hrel
        clear HK HT HO HRD
        have HK := Lib.hid hkp
        have HO := Lib.hid hol
        have HRD := Lib.hid hrd
        clear hkp hol hrd
        rw [HLN.out] at ht
        by_cases hlt2 : t < L
        · have hpt := leg_at (n := N) (q := q) (z := z) (t := t) (by omega) (by omega) (by rw [HLN.out]; exact hlt2)
          obtain ⟨p, hp⟩ : ∃ p : Int, p = if q ≤ z then q + (t : Int) else q - t := ⟨_, rfl⟩
          rw [← hp] at hpt
          have hp01 : 0 ≤ p ∧ p < N := by unfold gap1 at hLn; split at hp <;> omega
          obtain ⟨j, rfl⟩ : ∃ j : Nat, p = j := ⟨p.toNat, by omega⟩
          have hjN : j < N := by omega
          have hcu := rdT_cell HRD.out hpt
          have HP := Lib.hid hp
          have hold0 := (hown.cellAt j (by omega)).trans (show ((listF N (parT (timT a x xs k) (nowT a x xs k) q z t)).map iv)[j]? = some (iv (parT (timT a x xs k) (nowT a x xs k) q z t j)) by rw [List.getElem?_map, listF_at _ _ j (by omega)]; rfl)
          have hfr := hown.frozenAt j
          have HOB := Lib.hid (fun b hb => (owns_block hown b hb).1)
          by_cases h0 : 0 ≤ timT a x xs k j
          · rw [parT_seen h0] at hold0
            have HT := Lib.hid (lb_congr (g := parT (timT a x xs k) (nowT a x xs k) q z ((t : Int) + 1)) hown (fun r _ _ => by
              by_cases hr : r = j
              · subst hr
                rw [parT_seen h0, parT_seen h0]
              · by_cases hqz : q ≤ z
                · exact (parT_right hqz (by omega) (by have := HP.out; rw [if_pos hqz] at this; omega)).symm
                · exact (parT_left (by omega) (by omega) (by have := HP.out; rw [if_neg hqz] at this; omega)).symm))
            clear hown hp hpt
            go_wp2_with fail
            go_roundw
            case rel => exact ⟨HK.out, t + 1, by rw [HLN.out]; omega, by go_num, HT.out, HO.out, HRD.out⟩
            case measure => simp [intOf]; omega
          · have hneg : parT (timT a x xs k) (nowT a x xs k) q z t j = -1 := by
              by_cases hqz : q ≤ z
              · have := HP.out
                rw [if_pos hqz] at this
                rw [this]
                exact parT_right_not hqz (by omega) (by rw [← this]; exact h0)
              · have := HP.out
                rw [if_neg hqz] at this
                rw [this]
                exact parT_left_not (by omega) (by omega) (by rw [← this]; exact h0)
            rw [hneg] at hold0
            have Hst := Lib.hid (hown.stored j (.int .i64 (nowT a x xs k + t)))
            have Hset := Lib.hid (listF_setV (n := N) (f := parT (timT a x xs k) (nowT a x xs k) q z t) (g := parT (timT a x xs k) (nowT a x xs k) q z ((t : Int) + 1)) (k := j) (x := nowT a x xs k + t) (by omega)
              (by
                by_cases hqz : q ≤ z
                · have := HP.out
                  rw [if_pos hqz] at this
                  rw [this]
                  exact parT_right_new hqz (by omega) (by rw [← this]; exact h0)
                · have := HP.out
                  rw [if_neg hqz] at this
                  rw [this]
                  exact parT_left_new (by omega) (by omega) (by rw [← this]; exact h0))
              (fun r _ _ hr => by
                by_cases hqz : q ≤ z
                · exact parT_right hqz (by omega) (by have := HP.out; rw [if_pos hqz] at this; omega)
                · exact parT_left (by omega) (by omega) (by have := HP.out; rw [if_neg hqz] at this; omega)))
            clear hown hp hpt hneg
            go_wp2_with fail
            go_roundw
            case rel =>
              have hlo := HOB.out bk rfl
              have hgb : ∀ b, (some bk : Option Nat) = some b → b < wb := fun b hb => by cases hb; exact HGW.out
              refine ⟨keepL_at HK.out (Nat.lt_succ_self _) (below_grown (v := .slice (some ⟨bk, 0, none⟩) N N) Hst.out.2 HOB.out (Nat.succ_le_of_lt HK.out.2.lt)), t + 1, by rw [HLN.out]; omega, by go_num, ?_, ownL_apart HO.out Hst.out.2 hgb, HRD.out.grown Hst.out.2 (fun b hb => .inl (hgb b hb))⟩
              unfold LB
              have hse := Hset.out
              rw [show (((t + 1 : Nat) : Int)) = (t : Int) + 1 by omega, ← hse]
              exact Hst.out.1
            case measure => simp [intOf]; omega
        · obtain rfl : t = L := by omega
          have HT := Lib.hid hown
          have hnn := now_next HTV.out HZK.out
          have HNN := Lib.hid (show nowT a x xs (k + 1) = nowT a x xs k + ((t : Int) - 1 + x) by rw [hnn]; omega)
          have h3 := HK.out.2.cell 3
          clear hown hnn
          go_wp2_with fail
          go_roundw
          case rel =>
            refine ⟨HK.out, k + 1, by omega, by go_num, by rw [HNN.out, show (t : Int) - 1 + x = gap1 z q + x by omega], lb_congr HT.out (fun p _ _ => ?_), HO.out⟩
            rw [leg_end HTV.out HZK.out, hLn]
          case measure => simp [intOf]; omega
    · have hke : k = xs.length := by omega
      subst hke
      have hlen : (timesL N a x xs).length = N := by rw [timesL_len]; exact Int.toNat_natCast N
      have HLN := Lib.hid hlen
      clear hlen
      go_wp2_with fail
      go_ret
      exact ⟨_, rfl, owns_lower (by rw [HLN.out]; exact HT.out) (Nat.le_succ _), HK.out.1⟩
end Go.Proofs.Ytnclfdfnhhicdaa
