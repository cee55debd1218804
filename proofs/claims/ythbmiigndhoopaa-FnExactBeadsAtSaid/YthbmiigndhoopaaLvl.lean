/-
  What is proved: BeadsAt of the program. Conditions: those of each contract.
-/
import Derived.Test.YthbmiigndhoopaaLvk
import Derived.Test.YthbmiigndhoopaaSrt
import Derived.Test.YthbmiigndhoopaaLvg
namespace Go.Proofs.Ythbmiigndhoopaa
open Go.RowKit Go.Sort
set_option linter.unusedVariables false
set_option linter.unusedSimpArgs false

/-- the shades that have not fallen off at t, and their places then -/
def saP (L : Int) (ps ds : List Int) (t : Int) (i : Nat) : Bool := decide (t ≤ shd L ps ds i)
def saF (ps ds : List Int) (t : Int) (i : Nat) : Int := ps.getD i 0 + ds.getD i 0 * t
noncomputable def beadsR (L : Int) (ps ds : List Int) (t : Int) : List Int × List Int × Bool := if wireB L ps ds = true ∧ 0 ≤ t then (bdsL (falT L ps ds) t (falT L ps ds).length, insTo (saP L ps ds t) (saF ps ds t) ps.length, true) else ([], [], false)
theorem falT_len {L : Int} {ps ds : List Int} (h : WireOK L ps ds) : (falT L ps ds).length ≤ 8 := by
  have h1 := h.n8
  have h2 := h.same
  have h3 := sel_both ds (shd L ps ds) (shd L ps ds) ds.length
  unfold falT
  omega
theorem beadsR_len (L : Int) (ps ds : List Int) (t : Int) : (beadsR L ps ds t).1.length + (beadsR L ps ds t).2.1.length ≤ 1048576 := by
  unfold beadsR
  split
  · rename_i h
    have h1 := (wire_ok h.1).n8
    have h2 := falT_len (wire_ok h.1)
    have h3 := selTo_len (fun i => decide (t ≤ (falT L ps ds).getD i 0)) (fun i => (i : Int)) (falT L ps ds).length
    have h4 := insTo_len (saP L ps ds t) (saF ps ds t) ps.length
    show (bdsL (falT L ps ds) t (falT L ps ds).length).length + (insTo (saP L ps ds t) (saF ps ds t) ps.length).length ≤ _
    unfold bdsL
    omega
  · simp
def SaRel (L : Int) (v u : Value) (ps ds : List Int) (t : Int) (base : Nat) (w : World) (vo vi : Value) (wr : World) : Prop :=
  ∃ k : Nat, k ≤ ps.length ∧ vi = .int .i64 k ∧ (∃ g n c, vo = .slice (some ⟨g, 0, none⟩) n c) ∧ wr.ownsRow base 3 1 vo (selTo (saP L ps ds t) (saF ps ds t) k).length ((selTo (saP L ps ds t) (saF ps ds t) k).map iv) ∧ Blk wr base (wrC L v u) 39 ∧ Below base w wr
theorem sa_yes {L : Int} {v u : Value} {ps ds : List Int} {t x sx : Int} {base k m : Nat} {w wr : World} {vi : Value} {ys : List Value} {g n c : Nat} (hys : (selTo (saP L ps ds t) (saF ps ds t) k).map iv = ys) (hm : (selTo (saP L ps ds t) (saF ps ds t) k).length = m) (hk : k < ps.length) (hs : shd L ps ds k = sx) (ht : t ≤ sx) (hx : saF ps ds t k = x) (hi : vi = .int .i64 ((k + 1 : Nat) : Int))
    (ho : wr.ownsRow base 3 1 (.slice (some ⟨g, 0, none⟩) n c) (m + 1) (ys ++ [.int .i64 x])) (hbx : Blk wr base (wrC L v u) 39) (hb : Below base w wr) : SaRel L v u ps ds t base w (.slice (some ⟨g, 0, none⟩) n c) vi wr := by
  subst hys hm hs hx
  have hp : saP L ps ds t k = true := by unfold saP; simpa using ht
  refine ⟨k + 1, hk, hi, ⟨_, _, _, rfl⟩, ?_, hbx, hb⟩
  rw [selTo_yes hp, List.length_append, List.map_append]
  exact ho
theorem sa_no {L : Int} {v u : Value} {ps ds : List Int} {t sx : Int} {base k : Nat} {w wr : World} {vo vi : Value} (hk : k < ps.length) (hs : shd L ps ds k = sx) (ht : ¬ t ≤ sx) (hi : vi = .int .i64 ((k + 1 : Nat) : Int)) (hv : ∃ g n c, vo = .slice (some ⟨g, 0, none⟩) n c)
    (ho : wr.ownsRow base 3 1 vo (selTo (saP L ps ds t) (saF ps ds t) k).length ((selTo (saP L ps ds t) (saF ps ds t) k).map iv)) (hbx : Blk wr base (wrC L v u) 39) (hb : Below base w wr) : SaRel L v u ps ds t base w vo vi wr := by
  subst hs
  have hp : saP L ps ds t k = false := by unfold saP; simpa using ht
  refine ⟨k + 1, hk, hi, hv, ?_, hbx, hb⟩
  rw [selTo_no hp]
  exact ho
def BdRel (L : Int) (v u : Value) (T : TypeId) (fs : List Int) (t : Int) (bx base : Nat) (w : World) (v9 v8 : Value) (v7 vi : Value) (wr : World) : Prop :=
  ∃ k : Nat, k ≤ fs.length ∧ vi = .int .i64 k ∧ wr.ownsRow base 3 1 v7 (bdsL fs t k).length ((bdsL fs t k).map iv) ∧ wr.ownsRow base 3 1 v9 fs.length (fs.map iv) ∧ wr.ownsRow base 3 1 v8 0 [] ∧ ApW v7 v9 ∧ ApW v7 v8 ∧ Blk wr bx (wrC L v u) T ∧ Below base w wr
theorem bd_yes {L : Int} {v u : Value} {T : TypeId} {fs : List Int} {t x : Int} {bx base k m : Nat} {w wr : World} {v9 v8 v7 vi : Value} {ys : List Value} (hys : (bdsL fs t k).map iv = ys) (hm : (bdsL fs t k).length = m) (hx : fs[k]? = some x) (ht : t ≤ x) (hi : vi = .int .i64 ((k + 1 : Nat) : Int))
    (ho : wr.ownsRow base 3 1 v7 (m + 1) (ys ++ [.int .i64 (k : Int)])) (h9 : wr.ownsRow base 3 1 v9 fs.length (fs.map iv)) (h8 : wr.ownsRow base 3 1 v8 0 []) (ha : ApW v7 v9) (ha8 : ApW v7 v8) (hbx : Blk wr bx (wrC L v u) T) (hb : Below base w wr) : BdRel L v u T fs t bx base w v9 v8 v7 vi wr := by
  subst hys hm
  have hp : (fun i => decide (t ≤ fs.getD i 0)) k = true := by simp [List.getD, hx, ht]
  refine ⟨k + 1, (List.getElem?_eq_some_iff.1 hx).1, hi, ?_, h9, h8, ha, ha8, hbx, hb⟩
  unfold bdsL
  rw [selTo_yes hp, List.length_append, List.map_append]
  exact ho
theorem bd_no {L : Int} {v u : Value} {T : TypeId} {fs : List Int} {t x : Int} {bx base k : Nat} {w wr : World} {v9 v8 v7 vi : Value} (hx : fs[k]? = some x) (ht : ¬ t ≤ x) (hi : vi = .int .i64 ((k + 1 : Nat) : Int))
    (ho : wr.ownsRow base 3 1 v7 (bdsL fs t k).length ((bdsL fs t k).map iv)) (h9 : wr.ownsRow base 3 1 v9 fs.length (fs.map iv)) (h8 : wr.ownsRow base 3 1 v8 0 []) (ha : ApW v7 v9) (ha8 : ApW v7 v8) (hbx : Blk wr bx (wrC L v u) T) (hb : Below base w wr) : BdRel L v u T fs t bx base w v9 v8 v7 vi wr := by
  have hp : (fun i => decide (t ≤ fs.getD i 0)) k = false := by simp [List.getD, hx]; omega
  refine ⟨k + 1, (List.getElem?_eq_some_iff.1 hx).1, hi, ?_, h9, h8, ha, ha8, hbx, hb⟩
  unfold bdsL
  rw [selTo_no hp]
  exact ho
theorem sort_blk (g c : Nat) (xs : List Int) (base : Nat) (w : World) (h : w.ownsRow base 3 1 (.slice (some ⟨g, 0, none⟩) xs.length c) xs.length (xs.map iv)) (hm : xs.length ≤ 1048576) :
    Calls Try.prog 86 #[.slice (some ⟨g, 0, none⟩) xs.length c] w fun e w' => e = .returned (.tuple #[]) ∧ w'.ownsRow base 3 1 (.slice (some ⟨g, 0, none⟩) xs.length c) xs.length ((sortI xs).map iv) ∧ w.grownBy w' (some g) := by
  obtain ⟨g', cap, e0, hb, hlt, hn, hmx, hl2, hH⟩ := Lib.holds_of_ownsRow h (by intro e; cases e)
  cases e0
  refine (Try.slices_Sort_int g 0 c xs w hH hlt (by omega)).mono ?_
  rintro e w' ⟨rfl, n, os, rfl⟩
  have h1 := Lib.ownsRow_putRow (q := n) (k := xs.length) (ys := sortI xs) h (sortI_len xs) (Nat.le_refl _)
  rw [List.take_of_length_le (by rw [sortI_len]; exact Nat.le_refl _)] at h1
  refine ⟨rfl, ?_, rfl, rfl, rfl, by simp [putRow, mapBlock, Sort.ahead], fun k hk hne => ?_⟩
  · refine owns_below h1 ⟨rfl, rfl, rfl, by simp, fun k hk => ?_⟩
    exact heap_grow_old _ _ hk
  · have hgk : g ≠ k := fun e => hne (by rw [← e])
    rw [heap_grow_old _ _ (by simpa [putRow, mapBlock, Sort.ahead] using hk)]
    simp [putRow, mapBlock, Sort.ahead, Array.getElem?_modify, hgk]
set_option maxHeartbeats 3200000 in
set_option maxRecDepth 20000 in
theorem shadesAt_any (L : Int) (v u : Value) (ps ds : List Int) (t : Int) (w : World) (hv : ReadsI w v ps) (hu : ReadsI w u ds) (hw : wireB L ps ds = true) (ht0 : 0 ≤ t) :
    Calls Try.prog 78 #[wrV L v u, .int .i64 t] w (OwnsI w.heap.size (insTo (saP L ps ds t) (saF ps ds t) ps.length) w) := by
  obtain ⟨i0, hi, hz0, hz1, hz2⟩ := info_parts infoInt
  have HST := Lib.hid (fun k w hv hu h hk => shadeTime_any L v u ps ds k w hv hu h hk)
  have HSB := Lib.hid sort_blk
  have hb2 := (below_new w (.cells (wrC L v u) 39)).trans ((below_new (w.alloc (.cells (wrC L v u) 39)) (.cells #[] 3)).mono (by simp))
  have HB := Lib.hid hb2
  have HBX := Lib.hid ((blk_new w (wrC L v u) 39).below (below_new (w.alloc (.cells (wrC L v u) 39)) (.cells #[] 3)))
  have HM := Lib.hid (made_at (w.alloc (.cells (wrC L v u) 39)) w.heap.size (w.heap.size + 1) (by simp) (by omega))
  have HVW := Lib.hid hv
  have HUW := Lib.hid hu
  have HWB := Lib.hid hw
  have HWO := Lib.hid (wire_ok hw)
  have h8 := (wire_ok hw).n8
  have hL30 := (wire_ok hw).l30
  obtain ⟨y, c, rfl, hc, hm, hx⟩ := hv
  obtain ⟨z, e, rfl, he, hem, hy⟩ := hu
  have HL := Lib.hid hx
  have HD := Lib.hid hy
  unfold maxLen at hm hem
  clear hb2 hx hy hw
  unfold wrV wrC at *
  have HS := Lib.hid (show SaRel L (.slice y ps.length c) (.slice z ds.length e) ps ds t w.heap.size w (.slice (some ⟨w.heap.size + 1, 0, none⟩) 0 0) (.int .i64 0) ((w.alloc (.cells #[.int .i64 L, .slice y ps.length c, .slice z ds.length e] 39)).alloc (.cells #[] 3)) from ⟨0, Nat.zero_le _, rfl, ⟨_, _, _, rfl⟩, HM.out, HBX.out, HB.out⟩)
  have c1 := HBX.out.cell 1
  clear HM HBX HB
  go_enter Try.func78, Try.ntmps78
  go_wp2_with fail
  go_loopw [5, 12] (fun vo vi wr => SaRel L (.slice y ps.length c) (.slice z ds.length e) ps ds t w.heap.size w vo vi wr) (fun _ i _ => ps.length - (intOf i).toNat)
  case atStart => exact HS.out
  case round =>
    clear HS c1
    obtain ⟨k, hk, rfl, hsome, ho, hbx, hb⟩ := hrel
    have c0 := hbx.cell 0
    have c1 := hbx.cell 1
    have c2 := hbx.cell 2
    have HBX := Lib.hid hbx
    have HB := Lib.hid hb
    have HOW := Lib.hid ho
    have HSM := Lib.hid hsome
    have hlen := selTo_len (saP L ps ds t) (saF ps ds t) k
    clear ho hbx hb hsome
    by_cases hlt : k < ps.length
    · obtain ⟨p, hpk⟩ := get_some hlt
      obtain ⟨d, hdk⟩ := get_some (xs := ds) (k := k) (by have := HWO.out.same; omega)
      obtain ⟨bp, op, e7, hbp, hcp⟩ := HL.out k p hpk
      obtain ⟨bd, od, e8, hbd, hcd⟩ := HD.out k d hdk
      cases e7
      cases e8
      have hdw := HWO.out.way k d hdk
      have hpw := HWO.out.place k p hpk
      have hsr := shd_range HWO.out k hlt
      have hcp1 := (HB.out.cell (p := ⟨bp, op + k, none⟩) hbp).trans hcp
      have HCD := Lib.hid hcd
      have HF := Lib.hid (show saF ps ds t k = p + d * t by simp [saF, List.getD, hpk, hdk])
      have hi0 : 0 ≤ (k : Int) := by omega
      have hi1 : (k : Int) < ps.length := by omega
      have hi2 : (k : Int) < ds.length := by have := HWO.out.same; omega
      obtain ⟨sx, hsx⟩ : ∃ sx, shd L ps ds k = sx := ⟨_, rfl⟩
      have HX := Lib.hid hsx
      rw [hsx] at hsr
      clear hpk hdk hcp hcd
      go_wp2_with fail
      refine (HST.out k _ (HVW.out.below HB.out) (HUW.out.below HB.out) HWB.out hlt).mono ?_
      rintro e w3 ⟨rfl, hb⟩
      have HBX := Lib.hid (HBX.out.below hb)
      have HOW := Lib.hid (owns_below HOW.out hb)
      have HB := Lib.hid (HB.out.trans (hb.mono HB.out.size))
      have HSZ := Lib.hid HB.out.size
      have c2 := HBX.out.cell 2
      have hcd1 := (HB.out.cell (p := ⟨bd, od + k, none⟩) hbd).trans HCD.out
      rw [hsx]
      clear hb c0 c1 hsx hcp1
      by_cases htk : t ≤ sx
      · obtain ⟨m, hdm⟩ : ∃ m, d * t = m := ⟨_, rfl⟩
        have hmr : -30 ≤ m ∧ m ≤ 30 := by rcases hdw with h | h <;> subst h <;> omega
        rw [hdm] at HF
        have hwm : IntKind.i64.wrap (d * t) = m := by rw [hdm]; exact IntWalk.i64_in _ (by omega)
        have hwp : IntKind.i64.wrap (p + m) = p + m := IntWalk.i64_in _ (by omega)
        generalize hys : (selTo (saP L ps ds t) (saF ps ds t) k).map iv = ys at *
        generalize hml : (selTo (saP L ps ds t) (saF ps ds t) k).length = ml at *
        have HYS := Lib.hid hys
        have HML := Lib.hid hml
        have HOW := Lib.hid HOW.out
        clear hys hml hdm
        go_wp2_with (at_builtin; refine wpList_append_lies _ rfl _ _ 22 rfl (w.heap.size) 3 i0 (.int .i64 0) 1 8 Try.underlying22 hi hz0 hz1 hz2 rfl (by decide) _ _ _ rfl (HOW.out.alloc _) ⟨w3.heap.size, 0, none⟩ 1 1 [.int .i64 (p + m)] rfl rfl (cell_one_new _ _ _) ?c2 (by decide) ?c3 ?c4 ?c5 _ rfl ?_)
        case c2 => first | (intro u hu; simp at hu; subst hu; rfl) | rfl
        case c3 => unfold maxLen; omega
        case c4 => omega
        case c5 => have z0 := HSZ.out; simp; omega
        intro g9 c9 w9 hown' hgrow hlies hlt9
        have HBA := Lib.hid (below_new w3 (.cells #[.int .i64 (p + m)] 3))
        have HBX := Lib.hid (bkept (HBX.out.below HBA.out) hgrow (fun e => row_type (owns_below HOW.out HBA.out) (HBX.out.below HBA.out) (by decide) _ e rfl))
        have HB := Lib.hid ((HB.out.trans (HBA.out.mono HB.out.size)).trans (below_grown hgrow (fun b hb => (owns_block HOW.out b hb).1) (by have := HSZ.out; simp; omega)))
        have HOW := Lib.hid hown'
        clear hgrow hown' HBA hlies hlt9
        go_wp2_with fail
        go_roundw
        case rel => exact sa_yes HYS.out HML.out hlt HX.out htk HF.out (by go_num) HOW.out HBX.out HB.out
        case measure => simp [intOf] <;> omega
      · go_wp2_with fail
        go_roundw
        case rel => exact sa_no hlt HX.out (by omega) (by go_num) HSM.out HOW.out HBX.out HB.out
        case measure => simp [intOf] <;> omega
    · have hi1 : ¬ (k : Int) < ps.length := by omega
      have hke : k = ps.length := by omega
      have HKE := Lib.hid hke
      obtain ⟨g, n, c9, hvo⟩ := HSM.out
      obtain ⟨a7, c7, f7, _⟩ := owns_shape HOW.out
      cases f7
      cases hvo
      clear hke
      go_wp2_with fail
      refine (HSB.out _ _ _ _ _ HOW.out (by omega)).mono ?_
      rintro e w3 ⟨rfl, ho3, hg3⟩
      go_wp2_with fail
      go_ret
      refine ⟨_, rfl, ?_, HB.out.trans (below_grown (v := .slice (some ⟨g, 0, none⟩) 0 0) hg3 (fun b hb => (owns_block HOW.out b (hb.trans rfl)).1) HB.out.size)⟩
      have hs := sort_sel (saP L ps ds t) (saF ps ds t) k
      have e1 : sortI (selTo (saP L ps ds t) (saF ps ds t) k) = insTo (saP L ps ds t) (saF ps ds t) k := hs
      rw [e1] at ho3
      have hl2 := (insTo_perm (saP L ps ds t) (saF ps ds t) k).length_eq
      rw [← HKE.out, hl2]
      exact ho3
set_option maxHeartbeats 3200000 in
set_option maxRecDepth 20000 in
theorem impl_BeadsAt (L : Int) (v u : Value) (ps ds : List Int) (t : Int) (w : World) (hv : ReadsI w v ps) (hu : ReadsI w u ds) (ht64 : -9223372036854775808 ≤ t ∧ t ≤ 9223372036854775807) :
    Calls Try.prog 56 #[wrV L v u, .int .i64 t] w (OwnsLL w.heap.size (beadsR L ps ds t).1 (beadsR L ps ds t).2.1 (beadsR L ps ds t).2.2 w) := by
  obtain ⟨i0, hi, hz0, hz1, hz2⟩ := info_parts infoInt
  have HFO := Lib.hid (fun w hv hu => impl_FallsOf L v u ps ds w hv hu)
  have HSA := Lib.hid (fun w hv hu h h0 => shadesAt_any L v u ps ds t w hv hu h h0)
  have hb0 : Below w.heap.size w ((w.alloc (.cells (wrC L v u) 39)).alloc (.cells #[] 3)) := ((Below.refl _ w).alloc (Nat.le_refl _) _).alloc (by simp) _
  have HB := Lib.hid hb0
  have HBX := Lib.hid ((blk_new w (wrC L v u) 39).below (below_new _ (.cells #[] 3)))
  have HM7 := Lib.hid (made_at (w.alloc (.cells (wrC L v u) 39)) w.heap.size (w.heap.size + 1) (by simp) (by omega))
  have HV := Lib.hid (hv.below HB.out)
  have HU := Lib.hid (hu.below HB.out)
  have HVW := Lib.hid hv
  have HUW := Lib.hid hu
  obtain ⟨y, c, rfl, hc, hm, _⟩ := hv
  obtain ⟨z, e0, rfl, he, hem, _⟩ := hu
  unfold maxLen at hm hem
  clear hb0
  unfold wrV wrC at *
  have c0 := HBX.out.cell 0
  have c1 := HBX.out.cell 1
  have c2 := HBX.out.cell 2
  go_enter Try.func56, Try.ntmps56
  go_wp2_with fail
  refine (HFO.out _ HV.out HU.out).mono ?_
  rintro e2 w1 ⟨v9, u9, rfl, hwr, hb⟩
  replace HBX := Lib.hid (HBX.out.below hb)
  replace HM7 := Lib.hid (owns_below HM7.out hb)
  have HAP := Lib.hid (show ApW (.slice (some ⟨w.heap.size + 1, 0, none⟩) 0 0) v9 from fun b e e2 => by have := ob_eqW e; have := (owns_block hwr.pl b e2).1; simp at this; omega)
  have HO9 := Lib.hid (owns_lower hwr.pl HB.out.size)
  replace HB := Lib.hid (HB.out.trans (hb.mono HB.out.size))
  clear hb c0 c1 c2 hwr
  have HSZ := Lib.hid HB.out.size
  cases hl : wireB L ps ds
  · have HR := Lib.hid (show beadsR L ps ds t = ([], [], false) from if_neg (by rw [hl]; simp))
    have HF := Lib.hid (show fallsR L ps ds = ([], [], false) from if_neg (by rw [hl]; simp))
    rw [HF.out] at HO9 ⊢
    obtain ⟨a9, c9, f9, _⟩ := owns_shape HO9.out
    cases f9
    have HN := Lib.hid (made_at w1 w.heap.size w1.heap.size rfl HSZ.out)
    clear hl
    go_wp2_with fail
    go_ret3
    exact ll_R HR.out ⟨_, _, rfl, ⟨owns_below HM7.out (below_new _ _), HN.out, fun b e e2 => by have := ob_eqW e; have := ob_eqW e2; have := (owns_block HM7.out b e).2; omega, fun b e => by have := (owns_block HM7.out b e).2; simp; omega, fun b e => (owns_block HN.out b e).2⟩, HB.out.trans ((below_new w1 _).mono HSZ.out)⟩
  · have HWB := Lib.hid hl
    have HF := Lib.hid (show fallsR L ps ds = (falT L ps ds, falE ds, true) from if_pos hl)
    rw [HF.out] at HO9 ⊢
    have h8 := falT_len (wire_ok hl)
    obtain ⟨fs, hfs⟩ : ∃ fs, falT L ps ds = fs := ⟨_, rfl⟩
    rw [hfs] at HO9 h8
    obtain ⟨a9, c9, f9, _⟩ := owns_shape HO9.out
    cases f9
    by_cases htn : t < 0
    · have HR := Lib.hid (show beadsR L ps ds t = ([], [], false) from if_neg (by omega))
      have HN := Lib.hid (made_at w1 w.heap.size w1.heap.size rfl HSZ.out)
      clear hl
      go_wp2_with fail
      go_ret3
      exact ll_R HR.out ⟨_, _, rfl, ⟨owns_below HM7.out (below_new _ _), HN.out, fun b e e2 => by have := ob_eqW e; have := ob_eqW e2; have := (owns_block HM7.out b e).2; omega, fun b e => by have := (owns_block HM7.out b e).2; simp; omega, fun b e => (owns_block HN.out b e).2⟩, HB.out.trans ((below_new w1 _).mono HSZ.out)⟩
    · have HR := Lib.hid (show beadsR L ps ds t = (bdsL fs t fs.length, insTo (saP L ps ds t) (saF ps ds t) ps.length, true) from by rw [← hfs]; exact if_pos ⟨hl, by omega⟩)
      have HT0 := Lib.hid (show 0 ≤ t by omega)
      have HS := Lib.hid (show BdRel L (.slice y ps.length c) (.slice z ds.length e0) 39 fs t w.heap.size w.heap.size w (.slice a9 fs.length c9) (.slice none 0 0) (.slice (some ⟨w.heap.size + 1, 0, none⟩) 0 0) (.int .i64 0) w1 from ⟨0, Nat.zero_le _, rfl, HM7.out, HO9.out, own_nil _ _, HAP.out, (fun b _ e => by simp [Value.ownBlock] at e), HBX.out, HB.out⟩)
      clear hl hfs HO9 HAP HBX HB HM7
      go_wp2_with fail
      go_loopw [7, 30] (fun v7 vi wr => BdRel L (.slice y ps.length c) (.slice z ds.length e0) 39 fs t w.heap.size w.heap.size w (.slice a9 fs.length c9) (.slice none 0 0) v7 vi wr) (fun _ i _ => fs.length - (intOf i).toNat)
      case atStart => exact HS.out
      case round =>
        clear HS
        obtain ⟨k, hk, rfl, ho, h9, hn8, hap, hap8, hbx, hb⟩ := hrel
        have c0 := hbx.cell 0
        have c1 := hbx.cell 1
        have c2 := hbx.cell 2
        have HBX := Lib.hid hbx
        have HB := Lib.hid hb
        have HOW := Lib.hid ho
        have HO9 := Lib.hid h9
        have HAP := Lib.hid hap
        have HSZ := Lib.hid hb.size
        have hlen : (bdsL fs t k).length ≤ k := selTo_len _ _ k
        clear ho h9 hn8 hap hap8 hbx hb
        by_cases hlt : k < fs.length
        · obtain ⟨x, hxk⟩ := get_some hlt
          obtain ⟨_, _, e7, _, _, hrd⟩ := owns_reads HO9.out (by unfold maxLen; omega)
          cases e7
          obtain ⟨b9, o9, e8, hb9, hcx⟩ := hrd k x hxk
          cases e8
          have HXK := Lib.hid hxk
          have hi0 : 0 ≤ (k : Int) := by omega
          have hi1 : (k : Int) < fs.length := by omega
          clear hxk hrd
          by_cases htk : t ≤ x
          · generalize hys : (bdsL fs t k).map iv = ys at *
            generalize hml : (bdsL fs t k).length = ml at *
            have HYS := Lib.hid hys
            have HML := Lib.hid hml
            have HOW := Lib.hid HOW.out
            clear hys hml c0 c1 c2
            go_wp2_with (at_builtin; refine wpList_append_lies _ rfl _ _ 22 rfl (w.heap.size) 3 i0 (.int .i64 0) 1 8 Try.underlying22 hi hz0 hz1 hz2 rfl (by decide) _ _ _ rfl (HOW.out.alloc _) ⟨wr.heap.size, 0, none⟩ 1 1 [.int .i64 (k)] rfl rfl (cell_one_new _ _ _) ?c2 (by decide) ?c3 ?c4 ?c5 _ rfl ?_)
            case c2 => first | (intro u hu; simp at hu; subst hu; rfl) | rfl
            case c3 => unfold maxLen; omega
            case c4 => omega
            case c5 => have z0 := HSZ.out; simp; omega
            intro g9 c9 w9 hown' hgrow hlies hlt9
            have HBA := Lib.hid (below_new wr (.cells #[.int .i64 k] 3))
            have H9B := Lib.hid (fun b hb => (owns_block HO9.out b hb).2)
            have HO9 := Lib.hid (rkept (owns_below HO9.out HBA.out) hgrow (fun b e e2 => HAP.out b e2 e))
            have HBX := Lib.hid (bkept (HBX.out.below HBA.out) hgrow (fun e => row_type (owns_below HOW.out HBA.out) (HBX.out.below HBA.out) (by decide) _ e rfl))
            have HB := Lib.hid ((HB.out.trans (HBA.out.mono HB.out.size)).trans (below_grown hgrow (fun b hb => (owns_block HOW.out b hb).1) (by have := HSZ.out; simp; omega)))
            have HAP := Lib.hid (ap_left (n := ml + 1) (c := c9) HAP.out hlies (fun b e => by have := H9B.out b e; omega))
            have HOW := Lib.hid hown'
            clear hgrow hown' HBA hlies hlt9 H9B
            go_wp2_with fail
            go_roundw
            case rel => exact bd_yes HYS.out HML.out HXK.out htk (by go_num) HOW.out HO9.out (own_nil _ _) HAP.out (fun b _ e => by simp [Value.ownBlock] at e) HBX.out HB.out
            case measure => simp [intOf] <;> omega
          · go_wp2_with fail
            go_roundw
            case rel => exact bd_no HXK.out (by omega) (by go_num) HOW.out HO9.out (own_nil _ _) HAP.out (fun b _ e => by simp [Value.ownBlock] at e) HBX.out HB.out
            case measure => simp [intOf] <;> omega
        · have hi1 : ¬ (k : Int) < fs.length := by omega
          have hke : k = fs.length := by omega
          have HKE := Lib.hid hke
          clear hke
          go_wp2_with fail
          refine (HSA.out _ (HVW.out.below HB.out) (HUW.out.below HB.out) HWB.out HT0.out).mono ?_
          rintro e3 w3 ⟨v3, rfl, ho3, hb3⟩
          go_wp2_with fail
          go_ret3
          refine ll_R HR.out ⟨_, _, rfl, ⟨?_, owns_lower ho3 HSZ.out, ?_, ?_, fun b e => (owns_block ho3 b e).2⟩, HB.out.trans (hb3.mono HSZ.out)⟩
          · rw [← HKE.out]
            exact owns_below HOW.out hb3
          · intro b e e2
            have := (owns_block HOW.out b e).2
            have := (owns_block ho3 b e2).1
            omega
          · intro b e
            have := (owns_block HOW.out b e).2
            have := hb3.size
            omega
end Go.Proofs.Ythbmiigndhoopaa
