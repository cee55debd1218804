/-
  What is proved: the contract of impl.TakenRuns. Conditions: lists that read as lists of numbers.
-/
import Derived.Test.YtijhbhjapcfddaaExq
import Derived.Test.YtijhbhjapcfddaaExt
namespace Go.Proofs.Ytijhbhjapcfddaa
open Go.RowKit
set_option linter.unusedVariables false
set_option linter.unusedSimpArgs false

theorem row_belowAt {w w' : World} {base n m : Nat} {t : TypeId} {v : Value} {xs : List Value} (h : w.ownsRow base t 1 v n xs) (hr : ∀ b, v.ownBlock = some b → b < m) (hb : Below m w w') : w'.ownsRow base t 1 v n xs := by
  obtain ⟨hl, h2⟩ := h
  refine ⟨hl, ?_⟩
  rcases h2 with h2 | ⟨g, cap, cur, rfl, hg, hblk, h3⟩
  · exact .inl h2
  · exact .inr ⟨g, cap, cur, rfl, hg, (hb.block g (hr g rfl)).trans hblk, h3⟩
theorem set6_other {W : World} {b c : Nat} {cs : Array Value} {t : TypeId} (v0 v1 v2 v3 v4 v5 : Value) (h : Blk W c cs t) (hne : c ≠ b) : Blk ((((((W.setCell ⟨b, 0, none⟩ v0).setCell ⟨b, 1, none⟩ v1).setCell ⟨b, 2, none⟩ v2).setCell ⟨b, 3, none⟩ v3).setCell ⟨b, 4, none⟩ v4).setCell ⟨b, 5, none⟩ v5) c cs t :=
  set1_other (set1_other (set1_other (set1_other (set1_other (set1_other h hne) hne) hne) hne) hne) hne
/-- the box of an expedition behind the road's -/
structure TkE (n : Int) (g : Bool) (v1 v2 : Value) (back : Bool) (base : Nat) (w w' : World) : Prop where
  low : Below base w w'
  size : base + 2 ≤ w'.heap.size
  e : Blk w' (base + 1) #[.int .i64 n, .bool g, v1, v2, .bool back] 73
theorem TkE.next {n : Int} {g : Bool} {v1 v2 : Value} {back : Bool} {base : Nat} {w w' w'' : World} (h : TkE n g v1 v2 back base w w') (hb : Below w'.heap.size w' w'') : TkE n g v1 v2 back base w w'' :=
  ⟨h.low.trans (hb.mono (by have := h.size; omega)), Nat.le_trans h.size hb.size, h.e.below hb⟩
theorem TkE.nextAt {n : Int} {g : Bool} {v1 v2 : Value} {back : Bool} {base m : Nat} {w w' w'' : World} (h : TkE n g v1 v2 back base w w') (hm : base + 2 ≤ m) (hb : Below m w' w'') : TkE n g v1 v2 back base w w'' :=
  ⟨h.low.trans (hb.mono (by omega)), Nat.le_trans h.size hb.size, h.e.belowAt (by omega) hb⟩
set_option maxHeartbeats 3200000 in
set_option maxRecDepth 20000 in
theorem impl_TakenRuns (n : Int) (g : Bool) (v1 v2 : Value) (ss bs : List Int) (x : Int) (v3 : Value) (os : List Int) (back : Bool) (w : World) (h1 : ReadsI w v1 ss) (h2 : ReadsI w v2 bs) (h3 : ReadsI w v3 os) :
    Calls Try.prog 35 #[rd n g, v1, v2, .int .i64 x, v3, .bool back] w (OwnsB w.heap.size (takenR n g ss bs x os back).1 (takenR n g ss bs x os back).2 w) := by
  have HV1 := Lib.hid h1
  have HV2 := Lib.hid h2
  have HV3 := Lib.hid h3
  obtain ⟨i0, hi, hz0, hz1, hz2⟩ := info_parts infoInt
  obtain ⟨y1, c1, hv1, hc1, hm1, hx1⟩ := h1
  obtain ⟨y2, c2, hv2, hc2, hm2, hx2⟩ := h2
  obtain ⟨y3, c3, hv3, hc3, hm3, hx3⟩ := h3
  subst hv1 hv2 hv3
  unfold maxLen at hm1 hm2 hm3
  have HVA := Lib.hid (fun w h1 h2 => isValid_any n g (.slice y1 ss.length c1) (.slice y2 bs.length c2) ss bs back w h1 h2)
  have HOR := Lib.hid (fun w hv hK => isOrder_any n g y1 c1 ss.length (.slice y2 bs.length c2) back (.slice y3 os.length c3) os w hv hK)
  have HBS := Lib.hid (fun w => begins_any n g (.slice y1 ss.length c1) (.slice y2 bs.length c2) back w)
  have HBE := Lib.hid (fun w => begin_any n g (.slice y1 ss.length c1) (.slice y2 bs.length c2) back x w)
  have HON := Lib.hid (fun nx lf i b0 b1 b2 b3 a b w h1 h2 hr hnx hlf hfit hsa hsb ha hb hi4 => onward_any n g (.slice y1 ss.length c1) (.slice y2 bs.length c2) ss bs back nx lf i b0 b1 b2 b3 a b w h1 h2 hr hnx hlf hfit hsa hsb ha hb hi4)
  have HX : Hid (TkE n g (.slice y1 ss.length c1) (.slice y2 bs.length c2) back w.heap.size w ((w.alloc (.cells #[.int .i64 n, .bool g] 27)).alloc (.cells #[.int .i64 n, .bool g, .slice y1 ss.length c1, .slice y2 bs.length c2, .bool back] 73))) := Lib.hid
    ⟨((Below.refl _ w).alloc (Nat.le_refl _) _).alloc (by simp) _, by simp, blk_at _ _ _ _ (by simp)⟩
  unfold rd at *
  have HL3 := Lib.hid hx3
  clear hx1 hx2 hx3
  go_enter Try.func35, Try.ntmps35
  go_wp2_with fail
  refine (HVA.out _ (HV1.out.below HX.out.low) (HV2.out.below HX.out.low)).mono ?_
  rintro e w1 ⟨rfl, hb⟩
  have HX := Lib.hid (HX.out.next hb)
  clear hb
  cases hbu : budB n g ss bs
  · have HR := Lib.hid (takenR_no (n := n) (g := g) (ss := ss) (bs := bs) (x := x) (os := os) (back := back) (fun h => by rw [hbu] at h; cases h.1))
    clear hbu
    have HO := Lib.hid (made_at w1 w.heap.size w1.heap.size rfl (by have := HX.out.size; omega))
    have HX2 := Lib.hid (HX.out.next (below_new w1 (.cells #[] 3)))
    go_wp2_with fail
    go_ret2
    exact owns_R HR.out ⟨_, rfl, HO.out, HX2.out.low⟩
  · have HBB := Lib.hid hbu
    have hss := (startsB_iff n g ss).1 ((budB_iff n g ss bs).1 hbu).1
    have hsl := hss.2.1
    have hsl4 := hss.2.2.1
    have hrr := (roadB_iff n g).1 hss.1
    have hn1 := hrr.1
    have hn2 := hrr.2.1
    have HROAD := Lib.hid hss.1
    have HBL := Lib.hid (show bs.length = ss.length from ((budB_iff n g ss bs).1 hbu).2.2)
    have HSI := Lib.hid (fun (i : Nat) a (h : ss[i]? = some a) => show 0 ≤ a ∧ a < n by have := hss.2.2.2 i a h; omega)
    have HBI := Lib.hid (fun (i : Nat) b (h : bs[i]? = some b) => show 0 ≤ b ∧ b ≤ 99 from ((withB_iff 4 0 99 bs).1 ((budB_iff n g ss bs).1 hbu).2.1).2.2 i b h)
    clear hbu hss hrr
    have e0 := HX.out.e.cell 0
    have e1 := HX.out.e.cell 1
    have e2 := HX.out.e.cell 2
    have e3 := HX.out.e.cell 3
    have e4 := HX.out.e.cell 4
    go_wp2_with fail
    refine (HOR.out _ (HV3.out.below HX.out.low) (by omega)).mono ?_
    rintro e w2 ⟨rfl, hb⟩
    have HX := Lib.hid (HX.out.next hb)
    clear hb e0 e1 e2 e3 e4
    cases ho : ordB os ss.length
    · have HR := Lib.hid (takenR_no (n := n) (g := g) (ss := ss) (bs := bs) (x := x) (os := os) (back := back) (fun h => by rw [ho] at h; cases h.2.2))
      clear ho
      have HO := Lib.hid (made_at w2 w.heap.size w2.heap.size rfl (by have := HX.out.size; omega))
      have HX2 := Lib.hid (HX.out.next (below_new w2 (.cells #[] 3)))
      go_wp2_with fail
      go_ret2
      exact owns_R HR.out ⟨_, rfl, HO.out, HX2.out.low⟩
    · have HOO := Lib.hid ho
      have HOL := Lib.hid ((ordB_iff os ss.length).1 ho).2
      have HOI := Lib.hid (ord_in ho)
      clear ho
      by_cases hx0 : x < 0
      · have HR := Lib.hid (takenR_no (n := n) (g := g) (ss := ss) (bs := bs) (x := x) (os := os) (back := back) (fun h => by have := h.2.1.1.1; omega))
        have HO := Lib.hid (made_at w2 w.heap.size w2.heap.size rfl (by have := HX.out.size; omega))
        have HX2 := Lib.hid (HX.out.next (below_new w2 (.cells #[] 3)))
        go_wp2_with fail
        go_ret2
        exact owns_R HR.out ⟨_, rfl, HO.out, HX2.out.low⟩
      · obtain ⟨N, hN⟩ : ∃ N, (if g = true then n else 1) = N := ⟨_, rfl⟩
        have hNr : x < N ↔ (x < n ∧ (g = true ∨ x = 0)) := by
          cases g
          · have : N = 1 := hN.symm
            subst this
            constructor
            · intro h
              exact ⟨by omega, .inr (by omega)⟩
            · rintro ⟨h, h2 | h2⟩
              · cases h2
              · omega
          · have : N = n := hN.symm
            subst this
            exact ⟨fun h => ⟨h, .inl rfl⟩, fun h => h.1⟩
        have HNR := Lib.hid hNr
        have HN := Lib.hid hN
        clear hN hNr
        have e0 := HX.out.e.cell 0
        have e1 := HX.out.e.cell 1
        have e2 := HX.out.e.cell 2
        have e3 := HX.out.e.cell 3
        have e4 := HX.out.e.cell 4
        go_wp2_with fail
        refine (HBS.out _).mono ?_
        rintro e w3 ⟨rfl, hb⟩
        rw [HN.out]
        have HX := Lib.hid (HX.out.next hb)
        clear hb e0 e1 e2 e3 e4
        by_cases hxN : x < N
        · have hxx := HNR.out.1 hxN
          have hge : ¬ N ≤ x := by omega
          have HGX := Lib.hid hxx.2
          have hxn : x < n := hxx.1
          have hx00 : 0 ≤ x := by omega
          have HRY := Lib.hid (takenR_yes (n := n) (g := g) (ss := ss) (bs := bs) (x := x) (os := os) (back := back) ⟨HBB.out, ⟨⟨hx00, hxn⟩, hxx.2⟩, HOO.out⟩)
          have HFI := Lib.hid (fun (d m : Nat) hd hm => run_fits (n := n) (g := g) (x := x) (d := d) (m := m) HROAD.out ⟨hx00, hxn⟩ hxx.2 hd hm)
          have HRG := Lib.hid (fun k => tkS_range n g ss bs x os back k)
          clear hxx
          go_wp2_with (at_make; refine wpList_make_full _ rfl _ _ 24 rfl w3.heap.size 3 i0 (.int .i64 0) 1 Try.underlying24 hi hz0 hz1 .i64 .i64 _ _ ss.length rfl rfl rfl rfl ?c1 ?c2 ?c3 ?_)
          case c1 => first | omega | (rw [hz2]; omega)
          case c2 => first | (unfold maxLen; omega) | (have := HX.out.size; omega)
          case c3 => first | exact Nat.le_refl _ | (simp; done) | (have := HX.out.size; omega)
          intro w4 hown hgrow
          rw [made_zeros] at hown
          have hb4 := (Below.refl _ _).grown hgrow (Nat.le_refl _) (fun k e => by cases e)
          have hRb : w.heap.size + 2 ≤ w3.heap.size := HX.out.size
          have HX := Lib.hid (HX.out.next hb4)
          have HOW := Lib.hid hown
          clear hgrow hb4 hown
          have e0 := HX.out.e.cell 0
          have e1 := HX.out.e.cell 1
          have e2 := HX.out.e.cell 2
          have e3 := HX.out.e.cell 3
          have e4 := HX.out.e.cell 4
          go_wp2_with fail
          refine (HBE.out _).mono ?_
          rintro e w5 ⟨rfl, hb⟩
          have HX := Lib.hid (HX.out.next hb)
          have HOW := Lib.hid (owns_below HOW.out hb)
          have hR5 : w3.heap.size < w5.heap.size := (owns_block HOW.out w3.heap.size rfl).2
          clear hb e0 e1 e2 e3 e4
          have HX6 := Lib.hid (HX.out.next (below_new w5 (.cells #[.int .i64 x, .int .i64 n, .bool false, .bool false, .bool false, .bool false] 79)))
          have HO6 := Lib.hid (owns_below HOW.out (below_new w5 (.cells #[.int .i64 x, .int .i64 n, .bool false, .bool false, .bool false, .bool false] 79)))
          have HA6 := Lib.hid (blk_new w5 #[.int .i64 x, .int .i64 n, .bool false, .bool false, .bool false, .bool false] 79)
          go_wp2_with fail
          generalize hAA : w5.heap.size = A at *
          generalize hRR : w3.heap.size = R at *
          go_loopw [53] (fun i wr => ∃ k : Nat, k ≤ os.length ∧ i = .int .i64 k ∧ TkE n g (.slice y1 ss.length c1) (.slice y2 bs.length c2) back w.heap.size w wr ∧ wr.ownsRow R 3 1 (.slice (some ⟨R, 0, none⟩) ss.length ss.length) ss.length ((tkS n g ss bs x os back k).2.map iv) ∧ ∃ b0 b1 b2 b3, Blk wr A #[.int .i64 ((x + ((tkS n g ss bs x os back k).1 : Nat)) % n), .int .i64 ((n.toNat - (tkS n g ss bs x os back k).1 : Nat) : Int), .bool b0, .bool b1, .bool b2, .bool b3] 79) (fun i _ => os.length - (intOf i).toNat)
          case atStart =>
            refine ⟨0, Nat.zero_le _, rfl, HX6.out, HO6.out, false, false, false, false, ?_⟩
            have e1 : (x + ((0 : Nat) : Int)) % n = x := by rw [Int.ofNat_zero, Int.add_zero]; exact Int.emod_eq_of_lt hx00 hxn
            have e2 : ((n.toNat - 0 : Nat) : Int) = n := by omega
            show Blk _ A #[.int .i64 ((x + ((0 : Nat) : Int)) % n), .int .i64 ((n.toNat - 0 : Nat) : Int), .bool false, .bool false, .bool false, .bool false] 79
            rw [e1, e2]
            exact HA6.out
          case round =>
            obtain ⟨k, hk, rfl, hx9, hown9, b0, b1, b2, b3, ha9⟩ := hrel
            clear HX HOW HX6 HO6 HA6
            have HX := Lib.hid hx9
            have HOW := Lib.hid hown9
            have HA := Lib.hid ha9
            have hrg := HRG.out k
            clear hx9 hown9 ha9
            by_cases hlt : k < os.length
            · obtain ⟨y, hyk⟩ := get_some hlt
              have hyr := HOI.out k y hyk
              obtain ⟨i, rfl⟩ : ∃ i : Nat, y = i := ⟨y.toNat, by omega⟩
              obtain ⟨q3, o3, rfl, hbl3, hcy0⟩ := HL3.out k _ hyk
              have hcy : wr.cell? ⟨q3, o3 + k, none⟩ = some (.int .i64 i) := (HX.out.low.cell (p := ⟨q3, o3 + k, none⟩) hbl3).trans hcy0
              have hik : i < ss.length := by omega
              obtain ⟨a, hsa⟩ := get_some hik
              obtain ⟨b, hsb⟩ := get_some (show i < bs.length by have := HBL.out; omega)
              have har := HSI.out i a hsa
              have hbr := HBI.out i b hsb
              have HNX := Lib.hid (fun d zs (h : tkS n g ss bs x os back k = (d, zs)) => tkS_next h hyk hsa hsb)
              generalize hSS : tkS n g ss bs x os back k = SS at *
              obtain ⟨d, zs⟩ := SS
              have HN := Lib.hid (HNX.out d zs rfl)
              have hdn : d ≤ n.toNat := hrg.1
              have hzl : zs.length = ss.length := hrg.2
              obtain ⟨t, hT⟩ : ∃ t, t = tkN (fun m => runT n g a ((x + (d : Int)) % n) m back) b (n.toNat - d) := ⟨_, rfl⟩
              have htl : t ≤ n.toNat - d := by rw [hT]; exact tkN_le _ _ _
              rw [← hT] at HN
              obtain ⟨Y0, hY0⟩ : ∃ Y0, Y0 = (x + (d : Int)) % n := ⟨_, rfl⟩
              obtain ⟨Y, hY⟩ : ∃ Y, Y = (x + ((d + t : Nat) : Int)) % n := ⟨_, rfl⟩
              obtain ⟨L1, hL1⟩ : ∃ L1, L1 = n.toNat - d := ⟨_, rfl⟩
              obtain ⟨L2, hL2⟩ : ∃ L2, L2 = n.toNat - (d + t) := ⟨_, rfl⟩
              have hE1 : (Y0 + (t : Int)) % n = Y := by rw [hY0, hY, Int.emod_add_emod]; congr 1; omega
              have hE2 : (L1 : Int) - (t : Int) = (L2 : Int) := by omega
              have hE3 : (L1 : Int) - (L2 : Int) = (t : Int) := by omega
              have hn0 : n ≠ 0 := by omega
              have hYr : 0 ≤ Y0 ∧ Y0 < n := by rw [hY0]; exact ⟨Int.emod_nonneg _ hn0, Int.emod_lt_of_pos _ (by omega)⟩
              have hfit : ∀ m : Nat, m ≤ L1 → 1 ≤ m → fitsB n g Y0 m = true := fun m h1 h2 => by rw [hY0]; exact HFI.out d m (by omega) (by omega)
              have HCALL := Lib.hid (fun w h1 h2 => show Calls Try.prog 81 #[exV n g (.slice y1 ss.length c1) (.slice y2 bs.length c2) back, prV Y0 (L1 : Nat) b0 b1 b2 b3, .int .i64 i] w (fun e w' => ∃ f0 f1 f2 f3, e = .returned (prV Y (L2 : Nat) f0 f1 f2 f3) ∧ Below w.heap.size w w') from
                (HON.out Y0 L1 i b0 b1 b2 b3 a b w h1 h2 HROAD.out hYr (by omega) hfit hsa hsb har hbr (by omega)).mono (fun e w' h => ⟨_, _, _, _, h.1.trans (by
                  have e0 : tkN (fun m => runT n g a Y0 m back) b L1 = t := by rw [hT, hY0, hL1]
                  rw [e0, hE1, hE2]), h.2⟩))
              have HA := Lib.hid (show Blk wr A #[.int .i64 Y0, .int .i64 (L1 : Nat), .bool b0, .bool b1, .bool b2, .bool b3] 79 from by rw [hY0, hL1]; exact HA.out)
              have HOW := Lib.hid (show wr.ownsRow R 3 1 (.slice (some ⟨R, 0, none⟩) ss.length ss.length) ss.length (zs.map iv) from HOW.out)
              obtain ⟨z, hz⟩ := get_some (xs := zs) (k := i) (by omega)
              have hLr : L1 ≤ 100 := by omega
              have hLs : L2 ≤ L1 := by omega
              have HYL := Lib.hid (And.intro hY hL2)
              have HE3 := Lib.hid hE3
              have HLE := Lib.hid (And.intro hLr hLs)
              have hk0 : 0 ≤ (k : Int) := by omega
              have hk1 : (k : Int) < os.length := by omega
              have hi0 : 0 ≤ (i : Int) := by omega
              have hi1 : (i : Int) < ss.length := by omega
              clear hyk hsa hsb har hbr HNX hSS hT hY0 hY hL1 hL2 hE1 hE2 hE3 hfit hYr hdn htl hcy0 hbl3 hrg
              have e0 := HX.out.e.cell 0
              have e1 := HX.out.e.cell 1
              have e2 := HX.out.e.cell 2
              have e3 := HX.out.e.cell 3
              have e4 := HX.out.e.cell 4
              have a0 := HA.out.cell 0
              have a1 := HA.out.cell 1
              have a2 := HA.out.cell 2
              have a3 := HA.out.cell 3
              have a4 := HA.out.cell 4
              have a5 := HA.out.cell 5
              go_wp2_with fail
              refine (HCALL.out _ (HV1.out.below HX.out.low) (HV2.out.below HX.out.low)).mono ?_
              rintro e w7 ⟨f0, f1, f2, f3, rfl, hb⟩
              have HX := Lib.hid (HX.out.next hb)
              have HOW := Lib.hid (owns_below HOW.out hb)
              have HA := Lib.hid (HA.out.below hb)
              clear hb e0 e1 e2 e3 e4 a0 a1 a2 a3 a4 a5 hcy
              have HS6 := Lib.hid (set6_same (.int .i64 Y) (.int .i64 (L2 : Nat)) (.bool f0) (.bool f1) (.bool f2) (.bool f3) HA.out)
              have HB6 := Lib.hid (set6_below (b := A) (.int .i64 Y) (.int .i64 (L2 : Nat)) (.bool f0) (.bool f1) (.bool f2) (.bool f3) (Below.refl A w7) (Nat.le_refl _))
              have HX := Lib.hid (HX.out.nextAt (by omega) HB6.out)
              have HOW := Lib.hid (row_belowAt HOW.out (fun b hb => by cases hb; exact hR5) HB6.out)
              have HST := Lib.hid (HOW.out.stored i (.int .i64 ((L1 : Int) - (L2 : Int))))
              have hold := (HOW.out.cellAt i (by omega)).trans (show (zs.map iv)[i]? = some (.int .i64 z) by rw [List.getElem?_map, hz]; rfl)
              have hfr := HOW.out.frozenAt i
              have HSE := Lib.hid (show (zs.map iv).set i (.int .i64 ((L1 : Int) - (L2 : Int))) = (zs.set i (t : Int)).map iv by rw [HE3.out, List.map_set])
              have HOB := Lib.hid (fun b hb => (owns_block HOW.out b hb).1)
              have s1 := HS6.out.cell 1
              have a0 := HA.out.cell 0
              have a1 := HA.out.cell 1
              have a2 := HA.out.cell 2
              have a3 := HA.out.cell 3
              have a4 := HA.out.cell 4
              have a5 := HA.out.cell 5
              have g0 := HA.out.free 0
              have g1 := HA.out.free 1
              have g2 := HA.out.free 2
              have g3 := HA.out.free 3
              have g4 := HA.out.free 4
              have g5 := HA.out.free 5
              have hw1 : IntKind.i64.wrap ((L1 : Int) - (L2 : Int)) = (L1 : Int) - (L2 : Int) := IntWalk.i64_in _ (by have := HLE.out; omega)
              go_wp2_with fail
              go_roundw
              case rel =>
                refine ⟨k + 1, by omega, by go_num, HX.out.nextAt (by omega) (below_grown (v := .slice (some ⟨R, 0, none⟩) ss.length ss.length) HST.out.2 HOB.out (by have := HS6.out.lt; omega)), ?_, f0, f1, f2, f3, ?_⟩
                · rw [HN.out]
                  show World.ownsRow _ _ _ _ _ _ ((zs.set i (t : Int)).map iv)
                  rw [← HSE.out]
                  exact HST.out.1
                · rw [HN.out]
                  show Blk _ A #[.int .i64 ((x + ((d + t : Nat) : Int)) % n), .int .i64 ((n.toNat - (d + t) : Nat) : Int), .bool f0, .bool f1, .bool f2, .bool f3] 79
                  rw [← HYL.out.1, ← HYL.out.2]
                  exact set1_other HS6.out (by omega)
              case measure => simp [intOf] <;> omega
            · have hE : k = os.length := by omega
              subst hE
              have HLN := Lib.hid (tkS_range n g ss bs x os back os.length).2
              go_wp2_with fail
              go_ret2
              exact owns_R HRY.out ⟨_, rfl, by rw [HLN.out]; exact owns_lower HOW.out (by omega), HX.out.low⟩
        · have HR := Lib.hid (takenR_no (n := n) (g := g) (ss := ss) (bs := bs) (x := x) (os := os) (back := back) (fun h => hxN (HNR.out.2 ⟨h.2.1.1.2, h.2.1.2⟩)))
          have hge : N ≤ x := by omega
          have HO := Lib.hid (made_at w3 w.heap.size w3.heap.size rfl (by have := HX.out.size; omega))
          have HX2 := Lib.hid (HX.out.next (below_new w3 (.cells #[] 3)))
          go_wp2_with fail
          go_ret2
          exact owns_R HR.out ⟨_, rfl, HO.out, HX2.out.low⟩
end Go.Proofs.Ytijhbhjapcfddaa
