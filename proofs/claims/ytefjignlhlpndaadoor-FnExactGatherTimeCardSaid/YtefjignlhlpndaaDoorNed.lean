/-
  What is proved: the contract of the program's meeting of walkers. Conditions: slices that read as lists; the variable noMeeting is as it was laid.
-/
import Derived.Test.YtefjignlhlpndaaDoorNeb
import Derived.Test.YtefjignlhlpndaaDoorMel
import Derived.Test.YtefjignlhlpndaaDoorLol
namespace Go.Proofs.YtefjignlhlpndaaDoor
open Go.RowKit
set_option linter.unusedVariables false
set_option linter.unusedSimpArgs false

/-- the walks of walkers to the time 60 -/
def walksL (n : Int) (g : Bool) (ks : List Wk) (j : Nat) : List (List Int) := (ks.take j).map fun k => walkW n g k 60
theorem walksL_next {n : Int} {g : Bool} {ks : List Wk} {j : Nat} {k : Wk} (h : ks[j]? = some k) : walksL n g ks (j + 1) = walksL n g ks j ++ [walkW n g k 60] := by
  obtain ⟨hj, rfl⟩ := List.getElem?_eq_some_iff.1 h
  unfold walksL
  rw [List.take_succ_eq_append_getElem hj, List.map_append]
  rfl
theorem walksL_len {n : Int} {g : Bool} {ks : List Wk} {j : Nat} (h : j ≤ ks.length) : (walksL n g ks j).length = j := by
  simp [walksL]
  omega
theorem walksL_61 {n : Int} {g : Bool} {ks : List Wk} {j : Nat} : ∀ (i : Nat) xs, (walksL n g ks j)[i]? = some xs → xs.length = 61 := by
  intro i xs hi
  have hm := List.mem_of_getElem? hi
  unfold walksL at hm
  rw [List.mem_map] at hm
  obtain ⟨k, _, rfl⟩ := hm
  exact pathL_len _ _
/-- what meet answers -/
def gathR (n : Int) (g : Bool) (ks : List Wk) : (Int × Int) × Bool := if wksB n g ks = true ∧ 0 ≤ meetT (walksL n g ks ks.length) then ((meetT (walksL n g ks ks.length), meetP (walksL n g ks ks.length)), true) else ((0, 0), false)
theorem gathR_no {n : Int} {g : Bool} {ks : List Wk} (h : ¬ (wksB n g ks = true ∧ 0 ≤ meetT (walksL n g ks ks.length))) : gathR n g ks = ((0, 0), false) := if_neg h
theorem gathR_yes {n : Int} {g : Bool} {ks : List Wk} (h : wksB n g ks = true ∧ 0 ≤ meetT (walksL n g ks ks.length)) : gathR n g ks = ((meetT (walksL n g ks ks.length), meetP (walksL n g ks ks.length)), true) := if_pos h
theorem meetT_low (wss : List (List Int)) : -1 ≤ meetT wss ∧ meetT wss ≤ 60 := by
  rcases firstT_range (sameB wss) 61 with h | ⟨k, hk, h, _⟩
  · unfold meetT
    omega
  · unfold meetT
    omega
theorem ret_G {R : (Int × Int) × Bool} {a b : Int} {c : Bool} (h : R = ((a, b), c)) : Ending.returned (.tuple #[.agg #[.int .i64 a, .int .i64 b], .bool c]) = .returned (.tuple #[.agg #[.int .i64 R.1.1, .int .i64 R.1.2], .bool R.2]) := by rw [h]
theorem eq_meeting (a b c d : Int) (w : World) : (Op.equalIn 10000 61 (.agg #[.int .i64 a, .int .i64 b]) (.agg #[.int .i64 c, .int .i64 d])).run Tryd.prog w = .ok (a == c && b == d) w := by
  have u3 := Tryd.underlying3
  have a3 := Tryd.isAgg3
  have z3 := Tryd.sizeOf3
  rw [show (10000 : Nat) = 9999 + 1 from rfl, Op.equalIn]
  simp only [Sem.run_bind, run_underlying Tryd.underlying61, Result.andThen_ok]
  simp only [Std.Legacy.Range.forIn_eq_forIn_range', Std.Legacy.Range.size, Nat.sub_zero, Nat.add_sub_cancel, Nat.div_one, List.range'_succ, List.range'_zero, List.forIn_cons, List.forIn_nil]
  go_simp
  by_cases h1 : a = c <;> by_cases h2 : b = d <;> simp [h1, h2]
structure MBox (base : Nat) (n : Int) (g : Bool) (w wr : World) : Prop where
  road : Boxed base n g w wr
  res : Blk wr (base + 1) #[.int .i64 0, .int .i64 0] 61
theorem MBox.next {base : Nat} {n : Int} {g : Bool} {w wr w' : World} (h : MBox base n g w wr) (hb : Below wr.heap.size wr w') : MBox base n g w w' := ⟨h.road.next hb, h.res.below hb⟩
theorem MBox.nextAt {base l : Nat} {n : Int} {g : Bool} {w wr w' : World} (h : MBox base n g w wr) (hl : base + 1 < l) (hb : Below l wr w') : MBox base n g w w' := ⟨h.road.nextAt (by omega) hb, h.res.belowAt hl hb⟩
theorem MBox.lt {base : Nat} {n : Int} {g : Bool} {w wr : World} (h : MBox base n g w wr) : base + 2 ≤ wr.heap.size := h.res.lt
theorem MBox.first (w : World) (n : Int) (g : Bool) : MBox w.heap.size n g w ((w.alloc (.cells #[.int .i64 n, .bool g] 31)).alloc (.cells #[.int .i64 0, .int .i64 0] 61)) :=
  ⟨(Boxed.first w n g _).next (below_new _ _), blk_at _ _ _ _ (by simp)⟩
def MeRel (n : Int) (g : Bool) (ks : List Wk) (base : Nat) (w : World) (v i : Value) (wr : World) : Prop :=
  MBox base n g w wr ∧ ∃ k : Nat, k ≤ ks.length ∧ i = .int .i64 k ∧ OwnL (base + 2) v (walksL n g ks k) wr
set_option maxHeartbeats 3200000 in
set_option maxRecDepth 20000 in
theorem meet_any (n : Int) (g : Bool) (v : Value) (ks : List Wk) (w : World) (hv : ReadsW w v ks) (hne : 1 ≤ ks.length) (hlen : ks.length ≤ 1048576) (hN : NM w) :
    Calls Tryd.prog 34 #[rd n g, v] w fun e w' => e = .returned (.tuple #[.agg #[.int .i64 (gathR n g ks).1.1, .int .i64 (gathR n g ks).1.2], .bool (gathR n g ks).2]) ∧ Below w.heap.size w w' := by
  obtain ⟨i1, hi, hz0, hz1, hz2⟩ := info_parts infoInts
  have HAW := Lib.hid (fun v w hv => areWalkers_any n g v ks w hv)
  have HWK := Lib.hid (fun k m w hv hk => walk_nat n g k m 60 w hv hk (by omega))
  have HFM := Lib.hid (fun v w hv hN => firstMeeting_any v (walksL n g ks ks.length) w hv (by rw [walksL_len (Nat.le_refl _)]; exact hne) walksL_61 hN)
  have HX := Lib.hid (MBox.first w n g)
  have HN := Lib.hid hN
  have HV := Lib.hid hv
  obtain ⟨y, c, rfl, hc, hm, hx⟩ := hv
  have HL := Lib.hid hx
  unfold maxLen at hm
  clear hx hN
  unfold wkv rd at *
  go_enter Tryd.func34, Tryd.ntmps34
  go_wp2_with fail
  refine (HAW.out _ _ (HV.out.below HX.out.road.below)).mono ?_
  rintro e w1 ⟨rfl, hb⟩
  have HX := Lib.hid (HX.out.next hb)
  clear hb
  have s0 := HX.out.res.cell 0
  have s1 := HX.out.res.cell 1
  have f0 := HX.out.res.free 0
  have f1 := HX.out.res.free 1
  cases hks : wksB n g ks
  · have HR := Lib.hid (gathR_no (n := n) (g := g) (ks := ks) (fun h => by rw [h.1] at hks; cases hks))
    clear hks
    go_wp2_with fail
    refine bodyPost_ret (v := .tuple #[.agg #[.int .i64 0, .int .i64 0], .bool false]) (by simp [results, Tryd.results34, go_sem, s0, s1]) rfl ⟨ret_G HR.out, ?_⟩
    exact (HX.out.road.below.setCell (p := ⟨w.heap.size + 1, 0, none⟩) (by show w.heap.size ≤ w.heap.size + 1; omega) _).setCell (p := ⟨w.heap.size + 1, 1, none⟩) (by show w.heap.size ≤ w.heap.size + 1; omega) _
  · have HKS := Lib.hid hks
    have HO := Lib.hid (ownL_new w1 (w.heap.size + 2) w1.heap.size rfl HX.out.lt)
    have HX := Lib.hid (HX.out.next (below_new w1 (.cells #[] 24)))
    clear hks s0 s1 f0 f1
    go_wp2_with fail
    go_loopw [6, 18] (fun v i wr => MeRel n g ks w.heap.size w v i wr) (fun _ i _ => ks.length - (intOf i).toNat)
    case atStart => exact ⟨HX.out, 0, Nat.zero_le _, rfl, HO.out⟩
    case round =>
      obtain ⟨hx, k, hk, rfl, hown⟩ := hrel
      clear HX HO
      have HX := Lib.hid hx
      have HO := Lib.hid hown
      clear hx hown
      by_cases hlt : k < ks.length
      · obtain ⟨x, hxk⟩ := get_some hlt
        obtain ⟨b, o, m, rfl, hbl, h0, h1, h2, h3, hr⟩ := HL.out k x hxk
        have hrr := hr
        obtain ⟨ma, mc, hmm, _⟩ := hrr
        generalize hml : x.ms.length = ml at hmm
        clear hml
        subst hmm
        have HXK := Lib.hid hxk
        have HWOK := Lib.hid ((wkB_iff n g x).1 (((wksB_iff n g ks).1 HKS.out).2 k x hxk))
        have HR := Lib.hid ((hr.below HX.out.road.below).below (below_new _ (.cells #[.int .i64 x.s, .int .i64 x.f, .int .i64 x.d, .slice ma ml mc] 33)))
        have HX2 := Lib.hid (HX.out.next (below_new _ (.cells #[.int .i64 x.s, .int .i64 x.f, .int .i64 x.d, .slice ma ml mc] 33)))
        have HO2 := Lib.hid (ownL_below HO.out (below_new _ (.cells #[.int .i64 x.s, .int .i64 x.f, .int .i64 x.d, .slice ma ml mc] 33)))
        have h0 := (HX.out.road.below.cell (p := ⟨b, _, none⟩) hbl).trans h0
        have h1 := (HX.out.road.below.cell (p := ⟨b, _, none⟩) hbl).trans h1
        have h2 := (HX.out.road.below.cell (p := ⟨b, _, none⟩) hbl).trans h2
        have h3 := (HX.out.road.below.cell (p := ⟨b, _, none⟩) hbl).trans h3
        have hsz := HX.out.road.size
        have ha0 := HX2.out.road.c0
        have ha1 := HX2.out.road.c1
        clear hxk hr
        go_wp2_with fail
        refine (HWK.out x (.slice ma ml mc) _ HR.out HWOK.out).mono ?_
        rintro e w2 ⟨u, rfl, ho, hb⟩
        have ho : w2.ownsRow _ 3 1 u (walkW n g x 60).length ((walkW n g x 60).map iv) := ho
        have HU := Lib.hid ((rdT_of ho (by rw [show (walkW n g x 60).length = 61 from pathL_len _ _]; unfold maxLen; omega)).lower HX2.out.lt)
        obtain ⟨ua, uc, huu, _⟩ := owns_shape ho
        generalize (walkW n g x 60).length = ul at huu
        subst huu
        have HX := Lib.hid (HX2.out.next hb)
        have HO := Lib.hid (ownL_below HO2.out hb)
        clear hb ho h0 h1 h2 h3 ha0 ha1 hsz
        obtain ⟨us, how, hus⟩ := HO.out
        have HUS := Lib.hid hus
        have HOW := Lib.hid how
        have hll := walksL_len (n := n) (g := g) hk
        have hul : us.length = (walksL n g ks k).length := by have := how.1; omega
        have HUL := Lib.hid hul
        have HLB := Lib.hid (fun b hb => (ownL_block HO.out b hb).1)
        rw [hll] at HOW
        clear how hus hul
        go_wp2_with (at_builtin; refine wpList_append_own _ rfl _ _ 28 rfl (w.heap.size + 2) 24 i1 (.slice none 0 0) 1 24 Tryd.underlying28 hi hz0 hz1 hz2 rfl (by decide) _ _ _ rfl (HOW.out.alloc _) ⟨w2.heap.size, 0, none⟩ 1 1 [.slice ua ul uc] rfl rfl (cell_one_new _ _ _) ?c2 ?c3 ?c4 ?c5 ?_)
        case c2 => intro u hu; simp at hu; subst hu; rfl
        case c3 => unfold maxLen; omega
        case c4 => omega
        case c5 => have := HX.out.lt; simp; omega
        intro v' w9 hown' hgrow _
        have HX9 := Lib.hid (MBox.nextAt (HX.out.next (below_new _ _)) (Nat.lt_succ_self _) (below_grown hgrow HLB.out (by have := HX.out.lt; simp; omega)))
        have HN9 := Lib.hid (ownL_append HO.out HUS.out HUL.out HU.out (by rw [hll]; exact hown') hgrow)
        clear hgrow hown'
        go_wp2_with fail
        go_roundw
        case rel =>
          refine ⟨HX9.out, k + 1, by omega, by go_num, ?_⟩
          rw [walksL_next HXK.out]
          exact HN9.out
        case measure => simp [intOf]; omega
      · have hke : k = ks.length := by omega
        subst hke
        have HRL := Lib.hid (ownL_reads HO.out (by rw [walksL_len (Nat.le_refl _)]; unfold maxLen; omega))
        obtain ⟨la, lc, hsh⟩ := ownL_shape HO.out
        rw [walksL_len (Nat.le_refl _)] at hsh
        subst hsh
        have HNW := Lib.hid (HN.out.below HX.out.road.below)
        go_wp2_with fail
        refine (HFM.out _ _ HRL.out HNW.out).mono ?_
        rintro e w3 ⟨rfl, hb⟩
        have HX := Lib.hid (HX.out.next hb)
        have HN3 := Lib.hid (HNW.out.below hb)
        clear hb
        have hlo := (meetT_low (walksL n g ks ks.length)).1
        have hn0 := HN3.out.1
        have hn1 := HN3.out.2
        have hnl := HN3.out.lt
        have hsz := HX.out.lt
        have hsz2 : w.heap.size + 1 < w3.heap.size := by omega
        by_cases ht : 0 ≤ meetT (walksL n g ks ks.length)
        · have HR := Lib.hid (gathR_yes ⟨HKS.out, ht⟩)
          generalize meetT (walksL n g ks ks.length) = t at *
          generalize meetP (walksL n g ks ks.length) = p at *
          have hne1 : ¬ t = -1 := by omega
          have hne2 : (t == -1) = false := by simp [hne1]
          have HXA := Lib.hid (HX.out.next (below_new w3 (.cells #[.int .i64 t, .int .i64 p] 61)))
          have s0 := HX.out.res.cell 0
          have s1 := HX.out.res.cell 1
          have f0 := HX.out.res.free 0
          have f1 := HX.out.res.free 1
          have t0 := HXA.out.res.cell 0
          have t1 := HXA.out.res.cell 1
          have g0 := HXA.out.res.free 0
          have g1 := HXA.out.res.free 1
          have heq : ∀ w, (Op.equalIn 10000 61 (.agg #[.int .i64 t, .int .i64 p]) (.agg #[.int .i64 (-1), .int .i64 (-1)])).run Tryd.prog w = .ok false w := fun w => by rw [eq_meeting, hne2]; rfl
          go_wp2_with fail
          refine bodyPost_ret (v := .tuple #[.agg #[.int .i64 t, .int .i64 p], .bool true]) (by simp [results, Tryd.results34, go_sem, s0, s1, hsz2, Nat.ne_of_lt hsz2]) rfl ⟨ret_G HR.out, ?_⟩
          exact (((HX.out.road.below.setCell (p := ⟨w.heap.size + 1, 0, none⟩) (by show w.heap.size ≤ w.heap.size + 1; omega) _).setCell (p := ⟨w.heap.size + 1, 1, none⟩) (by show w.heap.size ≤ w.heap.size + 1; omega) _)).alloc (by simp; omega) _
        · have HR := Lib.hid (gathR_no (n := n) (g := g) (ks := ks) (fun h => ht h.2))
          have hT : meetT (walksL n g ks ks.length) = -1 := by omega
          have HP := Lib.hid (meetP_none hT)
          rw [hT, HP.out]
          clear hlo ht hT
          have HXA := Lib.hid (HX.out.next (below_new w3 (.cells #[.int .i64 (-1), .int .i64 (-1)] 61)))
          have s0 := HX.out.res.cell 0
          have s1 := HX.out.res.cell 1
          have f0 := HX.out.res.free 0
          have f1 := HX.out.res.free 1
          have t0 := HXA.out.res.cell 0
          have t1 := HXA.out.res.cell 1
          have g0 := HXA.out.res.free 0
          have g1 := HXA.out.res.free 1
          have heq : ∀ w, (Op.equalIn 10000 61 (.agg #[.int .i64 (-1), .int .i64 (-1)]) (.agg #[.int .i64 (-1), .int .i64 (-1)])).run Tryd.prog w = .ok true w := fun w => by rw [eq_meeting]; rfl
          go_wp2_with fail
          refine bodyPost_ret (v := .tuple #[.agg #[.int .i64 0, .int .i64 0], .bool false]) (by simp [results, Tryd.results34, go_sem, s0, s1, hsz2, Nat.ne_of_lt hsz2]) rfl ⟨ret_G HR.out, ?_⟩
          exact (((HX.out.road.below.setCell (p := ⟨w.heap.size + 1, 0, none⟩) (by show w.heap.size ≤ w.heap.size + 1; omega) _).setCell (p := ⟨w.heap.size + 1, 1, none⟩) (by show w.heap.size ≤ w.heap.size + 1; omega) _)).alloc (by simp; omega) _
end Go.Proofs.YtefjignlhlpndaaDoor
