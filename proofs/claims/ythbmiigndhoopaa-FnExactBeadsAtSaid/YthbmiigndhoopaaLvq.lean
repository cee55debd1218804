/-
  What is proved: BeadsAt of the model. Conditions: those of each contract.
-/
import Derived.Test.YthbmiigndhoopaaLvl
import Derived.Test.YthbmiigndhoopaaFn19
namespace Go.Proofs.Ythbmiigndhoopaa
open Go.RowKit
set_option linter.unusedVariables false
set_option linter.unusedSimpArgs false

theorem shdL_get (L : Int) (ps ds : List Int) : ∀ (n k : Nat), k < n → (shdL L ps ds n)[k]? = some (shd L ps ds k)
  | 0, _, h => by omega
  | n + 1, k, h => by
    rw [shdL_next]
    by_cases hk : k < n
    · rw [List.getElem?_append_left (by rw [shdL_len]; exact hk)]
      exact shdL_get L ps ds n k hk
    · have : k = n := by omega
      subst this
      rw [List.getElem?_append_right (by rw [shdL_len]; exact Nat.le_refl _), shdL_len]
      simp
theorem nw_of {m : Nat} {x : Value} {t : TypeId} {w W : World} (_ : Below m W w) : ∀ j u, [x][j]? = some u → (w.alloc (.cells #[x] t)).cell? ((⟨w.heap.size, 0, none⟩ : Addr).add j) = some u := one_nw w w.heap.size rfl
theorem nw_below {x : Value} {a : Addr} {w w' : World} (h : ∀ j u, [x][j]? = some u → w.cell? (a.add j) = some u) (hb : Below w.heap.size w w') : ∀ j u, [x][j]? = some u → w'.cell? (a.add j) = some u :=
  fun j u hj => (hb.cell (World.block_lt_of_cell? _ _ (h j u hj))).trans (h j u hj)
theorem own_pos {w : World} {base n : Nat} {v : Value} {xs : List Value} (h : w.ownsRow base 3 1 v n xs) (hn : 0 < n) : ∃ g c, v = .slice (some ⟨g, 0, none⟩) n c := by
  obtain ⟨a, c, e, h2⟩ := owns_shape h
  obtain ⟨g, hg, _⟩ := h2 hn
  exact ⟨g, c, by rw [e, hg]⟩
/-- a part of an own list reads as that part -/
theorem part_take {w : World} {base g c : Nat} {xs : List Int} (h : w.ownsRow base 3 1 (.slice (some ⟨g, 0, none⟩) xs.length c) xs.length (xs.map iv)) (hm : xs.length ≤ maxLen) {q : Nat} (hq : q ≤ xs.length) : ReadsI w (.slice (some ⟨g, 0, none⟩) (xs.take q).length c) (xs.take q) := by
  obtain ⟨a, c2, e, hc, hmm, hx⟩ := owns_reads h hm
  cases e
  have hl : (xs.take q).length ≤ xs.length := by rw [List.length_take]; omega
  refine ⟨_, _, rfl, Nat.le_trans hl hc, Nat.le_trans hl hmm, fun j x hj => ?_⟩
  rw [List.getElem?_take] at hj
  split at hj
  · exact hx j x hj
  · cases hj
theorem part_drop {w w' : World} {base g c : Nat} {xs : List Int} (h : w.ownsRow base 3 1 (.slice (some ⟨g, 0, none⟩) xs.length c) xs.length (xs.map iv)) (hm : xs.length ≤ maxLen) (hb : Below w.heap.size w w') (q : Nat) : ∀ j u, ((xs.drop q).map iv)[j]? = some u → w'.cell? ((⟨g, q, none⟩ : Addr).add j) = some u := by
  obtain ⟨a, c2, e, hc, hmm, hx⟩ := owns_reads h hm
  cases e
  refine cells_list (fun i z hz => ?_)
  rw [List.getElem?_drop] at hz
  obtain ⟨b9, o9, e9, hl9, hc9⟩ := hx _ z hz
  cases e9
  rw [show q + i = 0 + (q + i) by omega]
  exact (hb.cell (p := ⟨g, 0 + (q + i), none⟩) hl9).trans hc9
def BaRel (L : Int) (v u : Value) (ps ds : List Int) (t : Int) (bs : List Int) (base : Nat) (w : World) (v7 v13 v8 vi : Value) (wr : World) : Prop :=
  ∃ k : Nat, k ≤ ps.length ∧ vi = .int .i64 k ∧ (∃ g n c, v8 = .slice (some ⟨g, 0, none⟩) n c) ∧ wr.ownsRow base 3 1 v8 (insTo (saP L ps ds t) (saF ps ds t) k).length ((insTo (saP L ps ds t) (saF ps ds t) k).map iv) ∧ wr.ownsRow base 3 1 v7 bs.length (bs.map iv) ∧ wr.ownsRow base 3 1 v13 (shdL L ps ds ps.length).length ((shdL L ps ds ps.length).map iv) ∧ ApW v7 v8 ∧ Blk wr base (wrC L v u) 39 ∧ Below base w wr
theorem pl_yes {L : Int} {v u : Value} {ps ds : List Int} {t x sx : Int} {bs xs : List Int} {base k q : Nat} {w wr w' : World} {v7 v13 v8 vi : Value} (hbw : base ≤ wr.heap.size) (hxs : insTo (saP L ps ds t) (saF ps ds t) k = xs) (hk : k < ps.length) (hs : shd L ps ds k = sx) (ht : t ≤ sx) (hx : saF ps ds t k = x) (hq : insAt xs x = q) (hi : vi = .int .i64 ((k + 1 : Nat) : Int))
    (ho : w'.ownsRow wr.heap.size 3 1 v8 ((xs.take q).length + 1 + (xs.length - q)) ((xs.take q).map iv ++ [.int .i64 x] ++ (xs.drop q).map iv)) (h7 : wr.ownsRow base 3 1 v7 bs.length (bs.map iv)) (h13 : wr.ownsRow base 3 1 v13 (shdL L ps ds ps.length).length ((shdL L ps ds ps.length).map iv)) (hbx : Blk wr base (wrC L v u) 39) (hb : Below base w wr) (hbw' : Below wr.heap.size wr w') : BaRel L v u ps ds t bs base w v7 v13 v8 vi w' := by
  have hp : saP L ps ds t k = true := by unfold saP; simpa [hs] using ht
  obtain ⟨g, c, e⟩ := own_pos ho (by omega)
  have hql : q ≤ xs.length := by rw [← hq]; exact insAt_le xs x
  have he : insTo (saP L ps ds t) (saF ps ds t) (k + 1) = xs.take q ++ [x] ++ xs.drop q := by rw [insTo_yes hp, hx, hxs, insI_eq, hq]
  refine ⟨k + 1, hk, hi, ⟨g, _, c, e⟩, ?_, owns_below h7 hbw', owns_below h13 hbw', fun b e1 e2 => ?_, hbx.below hbw', hb.trans (hbw'.mono hbw)⟩
  · have hl : (insTo (saP L ps ds t) (saF ps ds t) (k + 1)).length = (xs.take q).length + 1 + (xs.length - q) := by rw [he]; simp; omega
    rw [hl, he, List.map_append, List.map_append]
    exact owns_lower ho hbw
  · have := (owns_block h7 b e1).2
    have := (owns_block ho b e2).1
    omega
theorem pl_no {L : Int} {v u : Value} {ps ds : List Int} {t sx : Int} {bs : List Int} {base k : Nat} {w wr : World} {v7 v13 v8 vi : Value} (hk : k < ps.length) (hs : shd L ps ds k = sx) (ht : ¬ t ≤ sx) (hi : vi = .int .i64 ((k + 1 : Nat) : Int)) (hv : ∃ g n c, v8 = .slice (some ⟨g, 0, none⟩) n c)
    (ho : wr.ownsRow base 3 1 v8 (insTo (saP L ps ds t) (saF ps ds t) k).length ((insTo (saP L ps ds t) (saF ps ds t) k).map iv)) (h7 : wr.ownsRow base 3 1 v7 bs.length (bs.map iv)) (h13 : wr.ownsRow base 3 1 v13 (shdL L ps ds ps.length).length ((shdL L ps ds ps.length).map iv)) (hap : ApW v7 v8) (hbx : Blk wr base (wrC L v u) 39) (hb : Below base w wr) : BaRel L v u ps ds t bs base w v7 v13 v8 vi wr := by
  have hp : saP L ps ds t k = false := by unfold saP; simpa [hs] using ht
  refine ⟨k + 1, hk, hi, hv, ?_, h7, h13, hap, hbx, hb⟩
  rw [insTo_no hp]
  exact ho
set_option maxHeartbeats 800000 in
set_option maxRecDepth 20000 in
theorem own_part (b o c : Nat) (xs : List Int) (w : World) (hv : ReadsI w (.slice (some ⟨b, o, none⟩) xs.length c) xs) (hl2 : xs.length ≤ 1048576) :
    Calls Try.prog 67 #[.slice (some ⟨b, o, none⟩) xs.length c] w (OwnsI w.heap.size xs w) := by
  obtain ⟨i0, hi, hz0, hz1, hz2⟩ := info_parts infoInt
  obtain ⟨y, c2, he, hc, hm, hx⟩ := hv
  cases he
  unfold maxLen at hm
  have HC := Lib.hid (list_cells (w' := w.alloc (.cells #[] 3)) hx (below_new w _))
  have HOW := Lib.hid (made_at w w.heap.size w.heap.size rfl (Nat.le_refl _))
  clear hx
  go_enter Try.func67, Try.ntmps67
  go_wp2_with (at_builtin; refine wpList_append_own _ rfl _ _ 22 rfl w.heap.size 3 i0 (.int .i64 0) 1 8 Try.underlying22 hi hz0 hz1 hz2 rfl (by decide) _ _ _ rfl HOW.out ⟨b, o, none⟩ xs.length c (xs.map iv) rfl ?c1 HC.out ?c2 ?c3 ?c4 ?c5 ?_)
  case c1 => simp
  case c2 => intro u hu; simp at hu; obtain ⟨z, _, rfl⟩ := hu; rfl
  case c3 => unfold maxLen; omega
  case c4 => omega
  case c5 => simp
  intro v' w9 hown' hgrow _
  have HB := Lib.hid ((Below.refl w.heap.size w).alloc (Nat.le_refl _) (.cells #[] 3) |>.trans (below_grown hgrow (fun b hb => (owns_block HOW.out b hb).1) (by simp)))
  have HOW' := Lib.hid hown'
  clear hgrow hown'
  go_wp2_with fail
  go_ret
  exact ⟨_, rfl, by simpa using HOW'.out, HB.out⟩
set_option maxHeartbeats 6400000 in
set_option maxRecDepth 20000 in
theorem spec_BeadsAt (L : Int) (v u : Value) (ps ds : List Int) (t : Int) (w : World) (hv : ReadsI w v ps) (hu : ReadsI w u ds) :
    Calls Try.prog 55 #[wrV L v u, .int .i64 t] w (OwnsLL w.heap.size (beadsR L ps ds t).1 (beadsR L ps ds t).2.1 (beadsR L ps ds t).2.2 w) := by
  obtain ⟨i0, hi, hz0, hz1, hz2⟩ := info_parts infoInt
  have HW := Lib.hid (fun w hv hu => l8Wire_any L v u ps ds w hv hu)
  have HFO := Lib.hid (fun w hv hu => spec_FallsOf L v u ps ds w hv hu)
  have HSH := Lib.hid (fun w hv hu h => l8Shades_any L v u ps ds w hv hu h)
  have HOP := Lib.hid own_part
  have hb0 : Below w.heap.size w (((w.alloc (.cells (wrC L v u) 39)).alloc (.cells #[] 3)).alloc (.cells #[] 3)) := (((Below.refl _ w).alloc (Nat.le_refl _) _).alloc (by simp) _).alloc (by simp; omega) _
  have HB := Lib.hid hb0
  have HBX := Lib.hid (((blk_new w (wrC L v u) 39).below (below_new _ (.cells #[] 3))).below (below_new _ (.cells #[] 3)))
  have HM7 := Lib.hid (owns_below (made_at (w.alloc (.cells (wrC L v u) 39)) w.heap.size (w.heap.size + 1) (by simp) (by omega)) (below_new _ (.cells #[] 3)))
  have HM8 := Lib.hid (made_at ((w.alloc (.cells (wrC L v u) 39)).alloc (.cells #[] 3)) w.heap.size (w.heap.size + 1 + 1) (by simp) (by omega))
  have HA78 := Lib.hid (show ApW (.slice (some ⟨w.heap.size + 1, 0, none⟩) 0 0) (.slice (some ⟨w.heap.size + 1 + 1, 0, none⟩) 0 0) from fun b e e2 => by have := ob_eqW e; have := ob_eqW e2; omega)
  have HV := Lib.hid (hv.below HB.out)
  have HU := Lib.hid (hu.below HB.out)
  have HVW := Lib.hid hv
  have HUW := Lib.hid hu
  obtain ⟨y, c, rfl, hc, hm, hx⟩ := hv
  obtain ⟨z, e0, rfl, he, hem, hy⟩ := hu
  have HL := Lib.hid hx
  have HD := Lib.hid hy
  unfold maxLen at hm hem
  clear hx hy hb0
  unfold wrV wrC at *
  have c0 := HBX.out.cell 0
  have c1 := HBX.out.cell 1
  have c2 := HBX.out.cell 2
  go_enter Try.func55, Try.ntmps55
  go_wp2_with fail
  refine (HW.out _ HV.out HU.out).mono ?_
  rintro e2 w1 ⟨rfl, hb⟩
  replace HBX := Lib.hid (HBX.out.below hb)
  replace HM7 := Lib.hid (owns_below HM7.out hb)
  replace HM8 := Lib.hid (owns_below HM8.out hb)
  replace HB := Lib.hid (HB.out.trans (hb.mono HB.out.size))
  clear hb c0 c1 c2 HV HU
  cases hl : wireB L ps ds
  · have HR := Lib.hid (show beadsR L ps ds t = ([], [], false) from if_neg (by rw [hl]; simp))
    clear hl
    go_wp2_with fail
    go_ret3
    exact ll_R HR.out ⟨_, _, rfl, ⟨HM7.out, HM8.out, HA78.out, fun b hb => (owns_block HM7.out b hb).2, fun b hb => (owns_block HM8.out b hb).2⟩, HB.out⟩
  · by_cases htn : t < 0
    · have HR := Lib.hid (show beadsR L ps ds t = ([], [], false) from if_neg (by omega))
      clear hl
      go_wp2_with fail
      go_ret3
      exact ll_R HR.out ⟨_, _, rfl, ⟨HM7.out, HM8.out, HA78.out, fun b hb => (owns_block HM7.out b hb).2, fun b hb => (owns_block HM8.out b hb).2⟩, HB.out⟩
    · have HWB := Lib.hid hl
      have HWO := Lib.hid (wire_ok hl)
      have hn8 := (wire_ok hl).n8
      have hL30 := (wire_ok hl).l30
      have HF := Lib.hid (show fallsR L ps ds = (falT L ps ds, falE ds, true) from if_pos hl)
      have h8 := falT_len (wire_ok hl)
      obtain ⟨fs, hfs⟩ : ∃ fs, falT L ps ds = fs := ⟨_, rfl⟩
      have HR := Lib.hid (show beadsR L ps ds t = (bdsL fs t fs.length, insTo (saP L ps ds t) (saF ps ds t) ps.length, true) from by rw [← hfs]; exact if_pos ⟨hl, by omega⟩)
      have HT0 := Lib.hid (show 0 ≤ t by omega)
      have ht0 := HT0.out
      have c0 := HBX.out.cell 0
      have c1 := HBX.out.cell 1
      have c2 := HBX.out.cell 2
      clear hl
      go_wp2_with fail
      refine (HFO.out _ (HVW.out.below HB.out) (HUW.out.below HB.out)).mono ?_
      rintro e2 w2 ⟨v9, u9, rfl, hwr, hb⟩
      rw [HF.out] at hwr ⊢
      rw [hfs] at hwr h8
      replace HBX := Lib.hid (HBX.out.below hb)
      have HAP := Lib.hid (show ApW (.slice (some ⟨w.heap.size + 1, 0, none⟩) 0 0) v9 from fun b e e2 => by have h1 := (owns_block hwr.pl b e2).1; have h2 := (owns_block HM7.out b e).2; omega)
      have HO9 := Lib.hid (owns_lower hwr.pl HB.out.size)
      replace HM7 := Lib.hid (owns_below HM7.out hb)
      replace HM8 := Lib.hid (owns_below HM8.out hb)
      replace HB := Lib.hid (HB.out.trans (hb.mono HB.out.size))
      obtain ⟨a9, c9, f9, _⟩ := owns_shape HO9.out
      cases f9
      have HS := Lib.hid (show BdRel L (.slice y ps.length c) (.slice z ds.length e0) 39 fs t w.heap.size w.heap.size w (.slice a9 fs.length c9) (.slice (some ⟨w.heap.size + 1 + 1, 0, none⟩) 0 0) (.slice (some ⟨w.heap.size + 1, 0, none⟩) 0 0) (.int .i64 0) w2 from ⟨0, Nat.zero_le _, rfl, HM7.out, HO9.out, HM8.out, HAP.out, HA78.out, HBX.out, HB.out⟩)
      clear hb c0 c1 c2 hwr hfs HO9 HAP HA78 HBX HB HM7 HM8
      go_wp2_with fail
      go_loopw [7, 12] (fun v7 vi wr => BdRel L (.slice y ps.length c) (.slice z ds.length e0) 39 fs t w.heap.size w.heap.size w (.slice a9 fs.length c9) (.slice (some ⟨w.heap.size + 1 + 1, 0, none⟩) 0 0) v7 vi wr) (fun _ i _ => fs.length - (intOf i).toNat)
      case atStart => exact HS.out
      case round =>
        clear HS
        obtain ⟨k, hk, rfl, ho, h9, hn8, hap, hap8, hbx, hb⟩ := hrel
        have c0 := hbx.cell 0
        have c1 := hbx.cell 1
        have c2 := hbx.cell 2
        have HBX := Lib.hid hbx
        have HB := Lib.hid hb
        have HOW := Lib.hid ho
        have HO9 := Lib.hid h9
        have HO8 := Lib.hid hn8
        have HAP := Lib.hid hap
        have HAP8 := Lib.hid hap8
        have HSZ := Lib.hid hb.size
        have hlen : (bdsL fs t k).length ≤ k := selTo_len _ _ k
        clear ho h9 hn8 hap hap8 hbx hb
        by_cases hlt : k < fs.length
        · obtain ⟨x, hxk⟩ := get_some hlt
          obtain ⟨_, _, e7, _, _, hrd⟩ := owns_reads HO9.out (by unfold maxLen; omega)
          cases e7
          obtain ⟨b9, o9, e8, hb9, hcx⟩ := hrd k x hxk
          cases e8
          have HXK := Lib.hid hxk
          have hi0 : 0 ≤ (k : Int) := by omega
          have hi1 : (k : Int) < fs.length := by omega
          clear hxk hrd
          by_cases htk : t ≤ x
          · generalize hys : (bdsL fs t k).map iv = ys at *
            generalize hml : (bdsL fs t k).length = ml at *
            have HYS := Lib.hid hys
            have HML := Lib.hid hml
            have HOW := Lib.hid HOW.out
            clear hys hml c0 c1 c2
            go_wp2_with (at_builtin; refine wpList_append_lies _ rfl _ _ 22 rfl (w.heap.size) 3 i0 (.int .i64 0) 1 8 Try.underlying22 hi hz0 hz1 hz2 rfl (by decide) _ _ _ rfl (HOW.out.alloc _) ⟨wr.heap.size, 0, none⟩ 1 1 [.int .i64 (k)] rfl rfl (cell_one_new _ _ _) ?c2 (by decide) ?c3 ?c4 ?c5 _ rfl ?_)
            case c2 => first | (intro u hu; simp at hu; subst hu; rfl) | rfl
            case c3 => unfold maxLen; omega
            case c4 => omega
            case c5 => have z0 := HSZ.out; simp; omega
            intro g9 c9 w9 hown' hgrow hlies hlt9
            have HBA := Lib.hid (below_new wr (.cells #[.int .i64 k] 3))
            have H9B := Lib.hid (fun b hb => (owns_block HO9.out b hb).2)
            have H8B := Lib.hid (fun b hb => (owns_block HO8.out b hb).2)
            have HO9 := Lib.hid (rkept (owns_below HO9.out HBA.out) hgrow (fun b e e2 => HAP.out b e2 e))
            have HO8 := Lib.hid (rkept (owns_below HO8.out HBA.out) hgrow (fun b e e2 => HAP8.out b e2 e))
            have HBX := Lib.hid (bkept (HBX.out.below HBA.out) hgrow (fun e => row_type (owns_below HOW.out HBA.out) (HBX.out.below HBA.out) (by decide) _ e rfl))
            have HB := Lib.hid ((HB.out.trans (HBA.out.mono HB.out.size)).trans (below_grown hgrow (fun b hb => (owns_block HOW.out b hb).1) (by have := HSZ.out; simp; omega)))
            have HAP := Lib.hid (ap_left (n := ml + 1) (c := c9) HAP.out hlies (fun b e => by have := H9B.out b e; omega))
            have HAP8 := Lib.hid (ap_left (n := ml + 1) (c := c9) HAP8.out hlies (fun b e => by have := H8B.out b e; omega))
            have HOW := Lib.hid hown'
            clear hgrow hown' HBA hlies hlt9 H9B H8B
            go_wp2_with fail
            go_roundw
            case rel => exact bd_yes HYS.out HML.out HXK.out htk (by go_num) HOW.out HO9.out HO8.out HAP.out HAP8.out HBX.out HB.out
            case measure => simp [intOf] <;> omega
          · go_wp2_with fail
            go_roundw
            case rel => exact bd_no HXK.out (by omega) (by go_num) HOW.out HO9.out HO8.out HAP.out HAP8.out HBX.out HB.out
            case measure => simp [intOf] <;> omega
        · have hi1 : ¬ (k : Int) < fs.length := by omega
          have hke : k = fs.length := by omega
          have HKE := Lib.hid hke
          obtain ⟨bs, hbs⟩ : ∃ bs, bdsL fs t k = bs := ⟨_, rfl⟩
          have HBS := Lib.hid (show bdsL fs t fs.length = bs by rw [← hbs, hke])
          rw [hbs] at HOW hlen
          clear hke hbs
          go_wp2_with fail
          refine (HSH.out _ (HVW.out.below HB.out) (HUW.out.below HB.out) HWB.out).mono ?_
          rintro e3 w3 ⟨v13, rfl, ho13, hb3⟩
          obtain ⟨a13, c13, f13, _⟩ := owns_shape ho13
          cases f13
          obtain ⟨a7, c7, f7, _⟩ := owns_shape HOW.out
          cases f7
          have HS2 := Lib.hid (show BaRel L (.slice y ps.length c) (.slice z ds.length e0) ps ds t bs w.heap.size w (.slice a7 bs.length c7) (.slice a13 (shdL L ps ds ps.length).length c13) (.slice (some ⟨w.heap.size + 1 + 1, 0, none⟩) 0 0) (.int .i64 0) w3 from ⟨0, Nat.zero_le _, rfl, ⟨_, _, _, rfl⟩, owns_below HO8.out hb3, owns_below HOW.out hb3, owns_lower ho13 HSZ.out, HAP8.out, HBX.out.below hb3, HB.out.trans (hb3.mono HSZ.out)⟩)
          clear ho13 hb3 HOW HO8 HO9 HAP HAP8 HBX HB c0 c1 c2
          have hsl : (shdL L ps ds ps.length).length = ps.length := shdL_len L ps ds ps.length
          have HSL := Lib.hid hsl
          rw [hsl] at HS2 ⊢
          clear hsl
          go_wp2_with fail
          go_loopw [8, 14] (fun v8 vi wr => BaRel L (.slice y ps.length c) (.slice z ds.length e0) ps ds t bs w.heap.size w (.slice a7 bs.length c7) (.slice a13 ps.length c13) v8 vi wr) (fun _ i _ => ps.length - (intOf i).toNat)
          case atStart => exact HS2.out
          case round =>
            clear HS2
            obtain ⟨k, hk, rfl, hsm, ho8, ho7, ho13, hap, hbx, hb⟩ := hrel
            obtain ⟨g8, n8, c8, rfl⟩ := hsm
            obtain ⟨a8, c82, f8, _⟩ := owns_shape ho8
            cases f8
            have c0 := hbx.cell 0
            have c1 := hbx.cell 1
            have c2 := hbx.cell 2
            have HBX := Lib.hid hbx
            have HB := Lib.hid hb
            have HO8 := Lib.hid ho8
            have HO7 := Lib.hid ho7
            have HO13 := Lib.hid ho13
            have HAP := Lib.hid hap
            have HSZ := Lib.hid hb.size
            have hlen8 := insTo_len (saP L ps ds t) (saF ps ds t) k
            clear ho8 ho7 ho13 hap hbx hb
            by_cases hlt : k < ps.length
            · obtain ⟨p, hpk⟩ := get_some hlt
              obtain ⟨d, hdk⟩ := get_some (xs := ds) (k := k) (by have := HWO.out.same; omega)
              obtain ⟨bp, op, e7, hbp, hcp⟩ := HL.out k p hpk
              obtain ⟨bd, od, e8, hbd, hcd⟩ := HD.out k d hdk
              cases e7
              cases e8
              have hdw := HWO.out.way k d hdk
              have hpw := HWO.out.place k p hpk
              have hsr := shd_range HWO.out k hlt
              obtain ⟨y13, d13, e13, _, _, hrd⟩ := owns_reads HO13.out (by rw [HSL.out]; unfold maxLen; omega)
              obtain ⟨b13, o13, e14, hb13, hc13⟩ := hrd k _ (shdL_get L ps ds ps.length k hlt)
              injection e13 with e13a e13b e13c
              subst e13a
              clear e13b e13c
              cases e14
              have HCP := Lib.hid hcp
              have HCD := Lib.hid hcd
              have HF2 := Lib.hid (show saF ps ds t k = p + d * t by simp [saF, List.getD, hpk, hdk])
              have hi0 : 0 ≤ (k : Int) := by omega
              have hi1 : (k : Int) < ps.length := by omega
              have hi2 : (k : Int) < ds.length := by have := HWO.out.same; omega
              obtain ⟨sx, hsx⟩ : ∃ sx, shd L ps ds k = sx := ⟨_, rfl⟩
              have HX := Lib.hid hsx
              rw [hsx] at hsr hc13
              clear hpk hdk hcp hcd hsx hrd
              by_cases htk : t ≤ sx
              · obtain ⟨m, hdm⟩ : ∃ m, d * t = m := ⟨_, rfl⟩
                have hmr : -30 ≤ m ∧ m ≤ 30 := by rcases hdw with h | h <;> subst h <;> omega
                rw [hdm] at HF2
                have hwm : IntKind.i64.wrap (d * t) = m := by rw [hdm]; exact IntWalk.i64_in _ (by omega)
                have hwp : IntKind.i64.wrap (p + m) = p + m := IntWalk.i64_in _ (by omega)
                obtain ⟨xs, hxs⟩ : ∃ xs, insTo (saP L ps ds t) (saF ps ds t) k = xs := ⟨_, rfl⟩
                have HXS := Lib.hid hxs
                rw [hxs] at HO8 hlen8 ⊢
                obtain ⟨q, hq⟩ : ∃ q, insAt xs (p + m) = q := ⟨_, rfl⟩
                have HQ := Lib.hid hq
                have hql : q ≤ xs.length := by rw [← hq]; exact insAt_le xs (p + m)
                have HCS := Lib.hid hc13
                clear hdm hxs hq hdw
                go_wp2_with fail
                refine wp_region_noPanic ?_
                have HBX := Lib.hid (HBX.out.below (below_drewN _ 1))
                have HO7 := Lib.hid (owns_below HO7.out (below_drewN _ 1))
                have HO8 := Lib.hid (owns_below HO8.out (below_drewN _ 1))
                have HO13 := Lib.hid (owns_below HO13.out (below_drewN _ 1))
                have HB := Lib.hid (HB.out.trans ((below_drewN _ 1).mono HB.out.size))
                refine wp_region_held_drew (S := fun w' => w'.cell? ⟨w.heap.size, 1, none⟩ = some (.slice (some ⟨bp, op, none⟩) ps.length c) ∧ w'.cell? ⟨w.heap.size, 2, none⟩ = some (.slice (some ⟨bd, od, none⟩) ds.length e0) ∧ w'.cell? ⟨bp, op + k, none⟩ = some (.int .i64 p) ∧ w'.cell? ⟨bd, od + k, none⟩ = some (.int .i64 d)) (by kernel_rfl) (⟨HBX.out.cell 1, HBX.out.cell 2, (HB.out.cell (p := ⟨bp, op + k, none⟩) hbp).trans HCP.out, (HB.out.cell (p := ⟨bd, od + k, none⟩) hbd).trans HCD.out⟩) (fun hHeld => ?_)
                refine wpAnyH_take (i := 0) (oi := _) (v := ?_) rfl (by kernel_rfl) (by kernel_rfl) (by kernel_rfl) (fun _ _ _ h => h) (Or.inl ⟨by rfl, ?_⟩) (by assumption) ?_
                rotate_left
                · (intro w hSw; (try dsimp only at hSw); (first | (go_simp; done) | (go_simp; with_reducible rfl)))
                simp only [Act.put, List.getElem_toArray, List.getElem_cons_succ, List.getElem_cons_zero, List.setIfInBounds_toArray, List.set_cons_zero, List.set_cons_succ]
                refine wpAnyH_take (i := 1) (oi := _) (v := ?_) rfl (by kernel_rfl) (by kernel_rfl) (by kernel_rfl) (fun _ _ _ h => h) (Or.inl ⟨by rfl, ?_⟩) (by assumption) ?_
                rotate_left
                · (intro w hSw; (try dsimp only at hSw); (first | (go_simp; done) | (go_simp; with_reducible rfl)))
                simp only [Act.put, List.getElem_toArray, List.getElem_cons_succ, List.getElem_cons_zero, List.setIfInBounds_toArray, List.set_cons_zero, List.set_cons_succ]
                refine wpAnyH_take (i := 2) (oi := _) (v := ?_) rfl (by kernel_rfl) (by kernel_rfl) (by kernel_rfl) (fun _ _ _ h => h) (Or.inl ⟨by rfl, ?_⟩) (by assumption) ?_
                rotate_left
                · (intro w hSw; (try dsimp only at hSw); (first | (go_simp; done) | (go_simp; with_reducible rfl)))
                simp only [Act.put, List.getElem_toArray, List.getElem_cons_succ, List.getElem_cons_zero, List.setIfInBounds_toArray, List.set_cons_zero, List.set_cons_succ]
                refine wpAnyH_take (i := 3) (oi := _) (v := .pointer (some ⟨bp, op + k, none⟩)) rfl (by kernel_rfl) (by kernel_rfl) (by kernel_rfl) (fun _ _ _ h => h) (Or.inl ⟨by rfl, ?_⟩) (by assumption) ?_
                · (intro w hSw; (try dsimp only at hSw); go_simp; first | done | (simp [hi0, hi1]; done) | omega | (simp <;> omega) | trace_state)
                simp only [Act.put, List.getElem_toArray, List.getElem_cons_succ, List.getElem_cons_zero, List.setIfInBounds_toArray, List.set_cons_zero, List.set_cons_succ]
                refine wpAnyH_take (i := 4) (oi := _) (v := ?_) rfl (by kernel_rfl) (by kernel_rfl) (by kernel_rfl) (fun _ _ _ h => h) (Or.inl ⟨by rfl, ?_⟩) (by assumption) ?_
                rotate_left
                · (intro w hSw; (try dsimp only at hSw); (first | (go_simp; done) | (go_simp; with_reducible rfl)))
                simp only [Act.put, List.getElem_toArray, List.getElem_cons_succ, List.getElem_cons_zero, List.setIfInBounds_toArray, List.set_cons_zero, List.set_cons_succ]
                refine wpAnyH_take (i := 5) (oi := _) (v := ?_) rfl (by kernel_rfl) (by kernel_rfl) (by kernel_rfl) (fun _ _ _ h => h) (Or.inl ⟨by rfl, ?_⟩) (by assumption) ?_
                rotate_left
                · (intro w hSw; (try dsimp only at hSw); (first | (go_simp; done) | (go_simp; with_reducible rfl)))
                simp only [Act.put, List.getElem_toArray, List.getElem_cons_succ, List.getElem_cons_zero, List.setIfInBounds_toArray, List.set_cons_zero, List.set_cons_succ]
                refine wpAnyH_take (i := 6) (oi := _) (v := ?_) rfl (by kernel_rfl) (by kernel_rfl) (by kernel_rfl) (fun _ _ _ h => h) (Or.inl ⟨by rfl, ?_⟩) (by assumption) ?_
                rotate_left
                · (intro w hSw; (try dsimp only at hSw); (first | (go_simp; done) | (go_simp; with_reducible rfl)))
                simp only [Act.put, List.getElem_toArray, List.getElem_cons_succ, List.getElem_cons_zero, List.setIfInBounds_toArray, List.set_cons_zero, List.set_cons_succ]
                refine wpAnyH_take (i := 7) (oi := _) (v := ?_) rfl (by kernel_rfl) (by kernel_rfl) (by kernel_rfl) (fun _ _ _ h => h) (Or.inl ⟨by rfl, ?_⟩) (by assumption) ?_
                rotate_left
                · (intro w hSw; (try dsimp only at hSw); (first | (go_simp; done) | (go_simp; with_reducible rfl)))
                simp only [Act.put, List.getElem_toArray, List.getElem_cons_succ, List.getElem_cons_zero, List.setIfInBounds_toArray, List.set_cons_zero, List.set_cons_succ]
                refine wpAnyH_take (i := 8) (oi := _) (v := .pointer (some ⟨bd, od + k, none⟩)) rfl (by kernel_rfl) (by kernel_rfl) (by kernel_rfl) (fun _ _ _ h => h) (Or.inl ⟨by rfl, ?_⟩) (by assumption) ?_
                · (intro w hSw; (try dsimp only at hSw); go_simp; first | done | (simp [hi0, hi2]; done) | omega | (simp <;> omega) | trace_state)
                simp only [Act.put, List.getElem_toArray, List.getElem_cons_succ, List.getElem_cons_zero, List.setIfInBounds_toArray, List.set_cons_zero, List.set_cons_succ]
                refine wpAnyH_take (i := 9) (oi := _) (v := ?_) rfl (by kernel_rfl) (by kernel_rfl) (by kernel_rfl) (fun _ _ _ h => h) (Or.inl ⟨by rfl, ?_⟩) (by assumption) ?_
                rotate_left
                · (intro w hSw; (try dsimp only at hSw); (first | (go_simp; done) | (go_simp; with_reducible rfl)))
                simp only [Act.put, List.getElem_toArray, List.getElem_cons_succ, List.getElem_cons_zero, List.setIfInBounds_toArray, List.set_cons_zero, List.set_cons_succ]
                refine wpAnyH_take (i := 10) (oi := _) (v := ?_) rfl (by kernel_rfl) (by kernel_rfl) (by kernel_rfl) (fun _ _ _ h => h) (Or.inl ⟨by rfl, ?_⟩) (by assumption) ?_
                rotate_left
                · (intro w hSw; (try dsimp only at hSw); (first | (go_simp; done) | (go_simp; with_reducible rfl)))
                simp only [Act.put, List.getElem_toArray, List.getElem_cons_succ, List.getElem_cons_zero, List.setIfInBounds_toArray, List.set_cons_zero, List.set_cons_succ]
                refine wpAnyH_take (i := 11) (oi := _) (v := .int .i64 m) rfl (by kernel_rfl) (by kernel_rfl) (by kernel_rfl) (fun _ _ _ h => h) (Or.inl ⟨by rfl, ?_⟩) (by assumption) ?_
                · (intro w hSw; (try dsimp only at hSw); go_simp; first | done | (simp [hwm]; done) | omega | (simp <;> omega) | trace_state)
                simp only [Act.put, List.getElem_toArray, List.getElem_cons_succ, List.getElem_cons_zero, List.setIfInBounds_toArray, List.set_cons_zero, List.set_cons_succ]
                refine wpAnyH_take (i := 12) (oi := _) (v := .int .i64 (p + m)) rfl (by kernel_rfl) (by kernel_rfl) (by kernel_rfl) (fun _ _ _ h => h) (Or.inl ⟨by rfl, ?_⟩) (by assumption) ?_
                · (intro w hSw; (try dsimp only at hSw); go_simp; first | done | (simp [hwp]; done) | omega | (simp <;> omega) | trace_state)
                simp only [Act.put, List.getElem_toArray, List.getElem_cons_succ, List.getElem_cons_zero, List.setIfInBounds_toArray, List.set_cons_zero, List.set_cons_succ]
                refine wpAnyH_take (i := 13) (oi := _) (v := ?_) rfl (by kernel_rfl) (by kernel_rfl) (by kernel_rfl) (fun _ _ _ h => h) (Or.inl ⟨by rfl, ?_⟩) (by assumption) ?_
                rotate_left
                · (intro w hSw; (try dsimp only at hSw); (first | (go_simp; done) | (go_simp; with_reducible rfl)))
                simp only [Act.put, List.getElem_toArray, List.getElem_cons_succ, List.getElem_cons_zero, List.setIfInBounds_toArray, List.set_cons_zero, List.set_cons_succ]
                refine wpAnyH_take (i := 14) (oi := _) (v := ?_) rfl (by kernel_rfl) (by kernel_rfl) (by kernel_rfl) (fun _ _ _ h => h) (Or.inl ⟨by rfl, ?_⟩) (by assumption) ?_
                rotate_left
                · (intro w hSw; (try dsimp only at hSw); (first | (go_simp; done) | (go_simp; with_reducible rfl)))
                simp only [Act.put, List.getElem_toArray, List.getElem_cons_succ, List.getElem_cons_zero, List.setIfInBounds_toArray, List.set_cons_zero, List.set_cons_succ]
                refine wpAnyH_done (by kernel_rfl) ?_ _
                refine NoPanic.normal ?_
                clear hHeld
                go_wp2_with fail
                obtain ⟨wd, hwd⟩ : ∃ wd, wd = wr.drewN 1 := ⟨_, rfl⟩
                have hwe : wr.drew = wd := hwd.symm
                rw [← hwd] at HBX HO8 HO7 HO13 HB
                rw [hwe]
                clear hwd hwe c0 c1 c2 hc13
                have HSZ := Lib.hid HB.out.size
                go_loopw [16] (fun v16 wr2 => ∃ j : Nat, v16 = .int .i64 j ∧ j ≤ q ∧ wr2 = wd) (fun j _ => xs.length - (intOf j).toNat)
                case atStart => exact ⟨0, rfl, Nat.zero_le _, rfl⟩
                case round =>
                  obtain ⟨j, rfl, hjq, hwx⟩ := hrel
                  have hwx2 := hwx.symm
                  subst hwx2
                  by_cases hjl : j < xs.length
                  · obtain ⟨x8, hx8⟩ := get_some hjl
                    obtain ⟨_, _, e18, _, _, hrd⟩ := owns_reads HO8.out (by unfold maxLen; omega)
                    obtain ⟨b8, o8, e19, hb8, hc8⟩ := hrd j x8 hx8
                    cases e18
                    cases e19
                    rw [Nat.zero_add] at hc8
                    have hj0 : 0 ≤ (j : Int) := by omega
                    have hj1 : (j : Int) < xs.length := by omega
                    have HX8 := Lib.hid hx8
                    clear hrd hx8
                    by_cases hle : x8 ≤ p + m
                    · have hjq2 : j < q := by
                        rcases Nat.lt_or_ge j q with h | h
                        · exact h
                        · have e : j = q := by omega
                          exact absurd hle (insAt_stop xs (p + m) x8 (by rw [HQ.out, ← e]; exact HX8.out))
                      go_wp2_with fail
                      go_roundw
                      case rel => exact ⟨j + 1, by go_num, hjq2, by first | rfl | trivial⟩
                      case measure => simp [intOf] <;> omega
                    · have hje : j = q := by
                        rcases Nat.lt_or_ge j q with h | h
                        · exact absurd (insAt_lt xs (p + m) j x8 (by rw [HQ.out]; exact h) HX8.out) hle
                        · omega
                      subst hje
                      go_wp2_with fail
                      have HP8 := Lib.hid HO8.out
                      have HPT := Lib.hid (part_take HO8.out (by unfold maxLen; omega) hql)
                      have HTK := Lib.hid (show (xs.take j).length = j by rw [List.length_take]; omega)
                      have hq0 : 0 ≤ (j : Int) := by omega
                      have hq1 : (j : Int) ≤ xs.length := by omega
                      have hqc : j ≤ c8 := by obtain ⟨_, _, e28, hcc, _⟩ := owns_reads HO8.out (by unfold maxLen; omega); cases e28; omega
                      have hxc : xs.length ≤ c8 := by obtain ⟨_, _, e28, hcc, _⟩ := owns_reads HO8.out (by unfold maxLen; omega); cases e28; omega
                      by_cases hcq : c8 = j
                      · have HCQ := Lib.hid hcq
                        clear hcq
                        refine wp_region_noPanic ?_
                        have HBD := Lib.hid (below_drewN wd 1)
                        refine wp_region_held_drew (S := fun w' => Below wd.heap.size wd w') (by kernel_rfl) (HBD.out) (fun hHeld => ?_)
                        refine wpAnyH_take (i := 0) (oi := _) (v := ?_) rfl (by kernel_rfl) (by kernel_rfl) (by kernel_rfl) (fun _ _ _ h => h) (Or.inl ⟨by rfl, ?_⟩) (by assumption) ?_
                        rotate_left
                        · (intro w hSw; (try dsimp only at hSw); (first | (go_simp; done) | (go_simp; with_reducible rfl)))
                        simp only [Act.put, List.getElem_toArray, List.getElem_cons_succ, List.getElem_cons_zero, List.setIfInBounds_toArray, List.set_cons_zero, List.set_cons_succ]
                        refine wpAnyH_take (i := 1) (oi := _) (v := ?_) rfl (by kernel_rfl) (by kernel_rfl) (by kernel_rfl) (fun _ _ _ h => h) (Or.inl ⟨by rfl, ?_⟩) (by assumption) ?_
                        rotate_left
                        · (intro w hSw; (try dsimp only at hSw); (first | (go_simp; done) | (go_simp; with_reducible rfl)))
                        simp only [Act.put, List.getElem_toArray, List.getElem_cons_succ, List.getElem_cons_zero, List.setIfInBounds_toArray, List.set_cons_zero, List.set_cons_succ]
                        refine wpAnyH_take (i := 2) (oi := _) (v := .slice (some ⟨g8, 0, none⟩) j c8) rfl (by kernel_rfl) (by kernel_rfl) (by kernel_rfl) (fun _ _ _ h => h) (Or.inl ⟨by rfl, ?_⟩) (by assumption) ?_
                        · (intro w hSw; (try dsimp only at hSw); go_simp; first | done | (simp [hq0, hq1, hqc, HTK.out]; done) | omega | (simp <;> omega) | trace_state)
                        simp only [Act.put, List.getElem_toArray, List.getElem_cons_succ, List.getElem_cons_zero, List.setIfInBounds_toArray, List.set_cons_zero, List.set_cons_succ]
                        refine wpAnyH_take (i := 4) (oi := _) (v := ?_) rfl (by kernel_rfl) (by kernel_rfl) (by kernel_rfl) (fun _ _ _ h => h) (Or.inl ⟨by rfl, ?_⟩) (by assumption) ?_
                        rotate_left
                        · (intro w hSw; (try dsimp only at hSw); (first | (go_simp; done) | (go_simp; with_reducible rfl)))
                        simp only [Act.put, List.getElem_toArray, List.getElem_cons_succ, List.getElem_cons_zero, List.setIfInBounds_toArray, List.set_cons_zero, List.set_cons_succ]
                        refine wpAnyH_take (i := 7) (oi := _) (v := ?_) rfl (by kernel_rfl) (by kernel_rfl) (by kernel_rfl) (fun _ _ _ h => h) (Or.inl ⟨by rfl, ?_⟩) (by assumption) ?_
                        rotate_left
                        · (intro w hSw; (try dsimp only at hSw); (first | (go_simp; done) | (go_simp; with_reducible rfl)))
                        simp only [Act.put, List.getElem_toArray, List.getElem_cons_succ, List.getElem_cons_zero, List.setIfInBounds_toArray, List.set_cons_zero, List.set_cons_succ]
                        refine wpAnyH_take (i := 8) (oi := _) (v := ?_) rfl (by kernel_rfl) (by kernel_rfl) (by kernel_rfl) (fun _ _ _ h => h) (Or.inl ⟨by rfl, ?_⟩) (by assumption) ?_
                        rotate_left
                        · (intro w hSw; (try dsimp only at hSw); (first | (go_simp; done) | (go_simp; with_reducible rfl)))
                        simp only [Act.put, List.getElem_toArray, List.getElem_cons_succ, List.getElem_cons_zero, List.setIfInBounds_toArray, List.set_cons_zero, List.set_cons_succ]
                        refine wpAnyH_take (i := 9) (oi := _) (v := .slice (some ⟨g8, 0, none⟩) (xs.length - j) (c8 - j)) rfl (by kernel_rfl) (by kernel_rfl) (by kernel_rfl) (fun _ _ _ h => h) (Or.inl ⟨by rfl, ?_⟩) (by assumption) ?_
                        · (intro w hSw; (try dsimp only at hSw); go_simp; first | done | (simp [hq0, hq1, hqc, HCQ.out]; done) | omega | (simp <;> omega) | trace_state)
                        simp only [Act.put, List.getElem_toArray, List.getElem_cons_succ, List.getElem_cons_zero, List.setIfInBounds_toArray, List.set_cons_zero, List.set_cons_succ]
                        refine wpAnyH_ready (rs := [3, 5]) (by kernel_rfl) (by simp) ?_
                        refine AllReadyH.cons rfl (fun K hK => ?_) (AllReadyH.cons rfl (fun K hK => ?_) AllReadyH.nil)
                        · skip
                          go_simp
                          have hop := HOP.out _ _ _ _ _ (HPT.out.below hHeld) (by rw [List.length_take]; omega)
                          rw [HTK.out] at hop
                          refine hop.mono ?_
                          clear hop
                          rintro e21 w21 ⟨v21, rfl, ho21, hb21⟩
                          try replace HNW := Lib.hid (nw_below HNW.out hb21)
                          have HO := Lib.hid (owns_lower ho21 hHeld.size)
                          have HBD := Lib.hid (hHeld.trans (hb21.mono hHeld.size))
                          clear ho21 hb21
                          clear hHeld
                          try go_wp2_with fail
                          refine hK.out _ _ (HBD.out) (fun hHeld => ?_)
                          clear hK K
                          refine wpAnyH_ready (rs := [5]) (by kernel_rfl) (by simp) ?_
                          refine AllReadyH.cons rfl (fun K hK => ?_) AllReadyH.nil
                          go_simp
                          have HNW := Lib.hid (nw_of (x := .int .i64 (p + m)) (t := 3) hHeld)
                          try replace HO := Lib.hid (owns_below HO.out (below_new _ (.cells #[.int .i64 (p + m)] 3)))
                          have HBD := Lib.hid (hHeld.trans ((below_new _ (.cells #[.int .i64 (p + m)] 3)).mono hHeld.size))
                          refine hK.out _ _ (HBD.out) (fun hHeld => ?_)
                          clear hK K
                          skip
                          refine wpAnyH_ready (rs := [6]) (by kernel_rfl) (by simp) ?_
                          refine AllReadyH.cons rfl (fun K hK => ?_) AllReadyH.nil
                          refine step_append_lies _ (by rfl) _ _ _ (by rfl) (wd.heap.size) 3 i0 (.int .i64 0) 1 8 Try.underlying22 hi hz0 hz1 hz2 rfl (by decide) _ _ _ (by rfl) HO.out _ 1 1 [.int .i64 (p + m)] (by rfl) (by rfl) HNW.out ?c2 (by decide) ?c3 ?c4 ?c5 _ rfl ?_
                          case c2 => first | (intro u hu; simp at hu; subst hu; rfl) | rfl
                          case c3 => unfold maxLen; rw [List.length_take]; omega
                          case c4 => rw [List.length_take]; omega
                          case c5 => exact HBD.out.size
                          intro g31 c31 w31 hown' hgrow hlies hlt9
                          have HBD := Lib.hid (HBD.out.trans (below_grown hgrow (fun b hb => (owns_block HO.out b hb).1) HBD.out.size))
                          have HO := Lib.hid hown'
                          clear hown' hgrow hlies hlt9 HNW
                          clear hHeld
                          refine hK.out _ _ (HBD.out) (fun hHeld => ?_)
                          clear hK K
                          refine wpAnyH_ready (rs := [10]) (by kernel_rfl) (by simp) ?_
                          refine AllReadyH.cons rfl (fun K hK => ?_) AllReadyH.nil
                          refine step_append_any (by rfl) _ _ _ (by rfl) (wd.heap.size) 3 i0 (.int .i64 0) 1 8 Try.underlying22 hi hz0 hz1 hz2 rfl (by decide) _ _ _ (by rfl) HO.out ⟨g8, 0, none⟩ (xs.length - j) (c8 - j) ((xs.drop j).map iv) (by rfl) ?c1 (fun j u hj => by rw [List.drop_eq_nil_of_le (by have := HCQ.out; omega)] at hj; simp at hj) ?c2 ?c3 ?c4 ?c5 ?_
                          case c1 => simp
                          case c2 => intro u hu; obtain ⟨z9, _, rfl⟩ := List.mem_map.1 hu; rfl
                          case c3 => unfold maxLen; rw [List.length_take]; omega
                          case c4 => rw [List.length_take]; omega
                          case c5 => exact HBD.out.size
                          intro v41 w41 hown' hgrow
                          have HBD := Lib.hid (HBD.out.trans (below_grown hgrow (fun b hb => (owns_block HO.out b hb).1) HBD.out.size))
                          have HO := Lib.hid hown'
                          clear hown' hgrow
                          clear hHeld
                          refine hK.out _ _ (HBD.out) (fun hHeld => ?_)
                          clear hK K
                          refine wpAnyH_take (i := 11) (oi := _) (v := ?_) rfl (by kernel_rfl) (by kernel_rfl) (by kernel_rfl) (fun _ _ _ h => h) (Or.inl ⟨by rfl, ?_⟩) (by assumption) ?_
                          rotate_left
                          · (intro w hSw; (try dsimp only at hSw); (first | (go_simp; done) | (go_simp; with_reducible rfl)))
                          simp only [Act.put, List.getElem_toArray, List.getElem_cons_succ, List.getElem_cons_zero, List.setIfInBounds_toArray, List.set_cons_zero, List.set_cons_succ]
                          refine wpAnyH_done (by kernel_rfl) ?_ _
                          refine NoPanic.normal ?_
                          clear hHeld
                          go_wp2_with fail
                          go_roundw
                          case rel => exact pl_yes HSZ.out HXS.out hlt HX.out htk HF2.out HQ.out (by go_num) HO.out HO7.out HO13.out HBX.out HB.out HBD.out
                          case measure => simp [intOf] <;> omega
                        · skip
                          go_simp
                          have HNW := Lib.hid (nw_of (x := .int .i64 (p + m)) (t := 3) hHeld)
                          try replace HO := Lib.hid (owns_below HO.out (below_new _ (.cells #[.int .i64 (p + m)] 3)))
                          have HBD := Lib.hid (hHeld.trans ((below_new _ (.cells #[.int .i64 (p + m)] 3)).mono hHeld.size))
                          refine hK.out _ _ (HBD.out) (fun hHeld => ?_)
                          clear hK K
                          skip
                          refine wpAnyH_ready (rs := [3]) (by kernel_rfl) (by simp) ?_
                          refine AllReadyH.cons rfl (fun K hK => ?_) AllReadyH.nil
                          go_simp
                          have hop := HOP.out _ _ _ _ _ (HPT.out.below hHeld) (by rw [List.length_take]; omega)
                          rw [HTK.out] at hop
                          refine hop.mono ?_
                          clear hop
                          rintro e21 w26 ⟨v21, rfl, ho21, hb21⟩
                          try replace HNW := Lib.hid (nw_below HNW.out hb21)
                          have HO := Lib.hid (owns_lower ho21 hHeld.size)
                          have HBD := Lib.hid (hHeld.trans (hb21.mono hHeld.size))
                          clear ho21 hb21
                          clear hHeld
                          try go_wp2_with fail
                          refine hK.out _ _ (HBD.out) (fun hHeld => ?_)
                          clear hK K
                          refine wpAnyH_ready (rs := [6]) (by kernel_rfl) (by simp) ?_
                          refine AllReadyH.cons rfl (fun K hK => ?_) AllReadyH.nil
                          refine step_append_lies _ (by rfl) _ _ _ (by rfl) (wd.heap.size) 3 i0 (.int .i64 0) 1 8 Try.underlying22 hi hz0 hz1 hz2 rfl (by decide) _ _ _ (by rfl) HO.out _ 1 1 [.int .i64 (p + m)] (by rfl) (by rfl) HNW.out ?c2 (by decide) ?c3 ?c4 ?c5 _ rfl ?_
                          case c2 => first | (intro u hu; simp at hu; subst hu; rfl) | rfl
                          case c3 => unfold maxLen; rw [List.length_take]; omega
                          case c4 => rw [List.length_take]; omega
                          case c5 => exact HBD.out.size
                          intro g31 c31 w31 hown' hgrow hlies hlt9
                          have HBD := Lib.hid (HBD.out.trans (below_grown hgrow (fun b hb => (owns_block HO.out b hb).1) HBD.out.size))
                          have HO := Lib.hid hown'
                          clear hown' hgrow hlies hlt9 HNW
                          clear hHeld
                          refine hK.out _ _ (HBD.out) (fun hHeld => ?_)
                          clear hK K
                          refine wpAnyH_ready (rs := [10]) (by kernel_rfl) (by simp) ?_
                          refine AllReadyH.cons rfl (fun K hK => ?_) AllReadyH.nil
                          refine step_append_any (by rfl) _ _ _ (by rfl) (wd.heap.size) 3 i0 (.int .i64 0) 1 8 Try.underlying22 hi hz0 hz1 hz2 rfl (by decide) _ _ _ (by rfl) HO.out ⟨g8, 0, none⟩ (xs.length - j) (c8 - j) ((xs.drop j).map iv) (by rfl) ?c1 (fun j u hj => by rw [List.drop_eq_nil_of_le (by have := HCQ.out; omega)] at hj; simp at hj) ?c2 ?c3 ?c4 ?c5 ?_
                          case c1 => simp
                          case c2 => intro u hu; obtain ⟨z9, _, rfl⟩ := List.mem_map.1 hu; rfl
                          case c3 => unfold maxLen; rw [List.length_take]; omega
                          case c4 => rw [List.length_take]; omega
                          case c5 => exact HBD.out.size
                          intro v41 w41 hown' hgrow
                          have HBD := Lib.hid (HBD.out.trans (below_grown hgrow (fun b hb => (owns_block HO.out b hb).1) HBD.out.size))
                          have HO := Lib.hid hown'
                          clear hown' hgrow
                          clear hHeld
                          refine hK.out _ _ (HBD.out) (fun hHeld => ?_)
                          clear hK K
                          refine wpAnyH_take (i := 11) (oi := _) (v := ?_) rfl (by kernel_rfl) (by kernel_rfl) (by kernel_rfl) (fun _ _ _ h => h) (Or.inl ⟨by rfl, ?_⟩) (by assumption) ?_
                          rotate_left
                          · (intro w hSw; (try dsimp only at hSw); (first | (go_simp; done) | (go_simp; with_reducible rfl)))
                          simp only [Act.put, List.getElem_toArray, List.getElem_cons_succ, List.getElem_cons_zero, List.setIfInBounds_toArray, List.set_cons_zero, List.set_cons_succ]
                          refine wpAnyH_done (by kernel_rfl) ?_ _
                          refine NoPanic.normal ?_
                          clear hHeld
                          go_wp2_with fail
                          go_roundw
                          case rel => exact pl_yes HSZ.out HXS.out hlt HX.out htk HF2.out HQ.out (by go_num) HO.out HO7.out HO13.out HBX.out HB.out HBD.out
                          case measure => simp [intOf] <;> omega
                      · have HCQ := Lib.hid hcq
                        clear hcq
                        refine wp_region_noPanic ?_
                        have HBD := Lib.hid (below_drewN wd 1)
                        refine wp_region_held_drew (S := fun w' => Below wd.heap.size wd w') (by kernel_rfl) (HBD.out) (fun hHeld => ?_)
                        refine wpAnyH_take (i := 0) (oi := _) (v := ?_) rfl (by kernel_rfl) (by kernel_rfl) (by kernel_rfl) (fun _ _ _ h => h) (Or.inl ⟨by rfl, ?_⟩) (by assumption) ?_
                        rotate_left
                        · (intro w hSw; (try dsimp only at hSw); (first | (go_simp; done) | (go_simp; with_reducible rfl)))
                        simp only [Act.put, List.getElem_toArray, List.getElem_cons_succ, List.getElem_cons_zero, List.setIfInBounds_toArray, List.set_cons_zero, List.set_cons_succ]
                        refine wpAnyH_take (i := 1) (oi := _) (v := ?_) rfl (by kernel_rfl) (by kernel_rfl) (by kernel_rfl) (fun _ _ _ h => h) (Or.inl ⟨by rfl, ?_⟩) (by assumption) ?_
                        rotate_left
                        · (intro w hSw; (try dsimp only at hSw); (first | (go_simp; done) | (go_simp; with_reducible rfl)))
                        simp only [Act.put, List.getElem_toArray, List.getElem_cons_succ, List.getElem_cons_zero, List.setIfInBounds_toArray, List.set_cons_zero, List.set_cons_succ]
                        refine wpAnyH_take (i := 2) (oi := _) (v := .slice (some ⟨g8, 0, none⟩) j c8) rfl (by kernel_rfl) (by kernel_rfl) (by kernel_rfl) (fun _ _ _ h => h) (Or.inl ⟨by rfl, ?_⟩) (by assumption) ?_
                        · (intro w hSw; (try dsimp only at hSw); go_simp; first | done | (simp [hq0, hq1, hqc, HTK.out]; done) | omega | (simp <;> omega) | trace_state)
                        simp only [Act.put, List.getElem_toArray, List.getElem_cons_succ, List.getElem_cons_zero, List.setIfInBounds_toArray, List.set_cons_zero, List.set_cons_succ]
                        refine wpAnyH_take (i := 4) (oi := _) (v := ?_) rfl (by kernel_rfl) (by kernel_rfl) (by kernel_rfl) (fun _ _ _ h => h) (Or.inl ⟨by rfl, ?_⟩) (by assumption) ?_
                        rotate_left
                        · (intro w hSw; (try dsimp only at hSw); (first | (go_simp; done) | (go_simp; with_reducible rfl)))
                        simp only [Act.put, List.getElem_toArray, List.getElem_cons_succ, List.getElem_cons_zero, List.setIfInBounds_toArray, List.set_cons_zero, List.set_cons_succ]
                        refine wpAnyH_take (i := 7) (oi := _) (v := ?_) rfl (by kernel_rfl) (by kernel_rfl) (by kernel_rfl) (fun _ _ _ h => h) (Or.inl ⟨by rfl, ?_⟩) (by assumption) ?_
                        rotate_left
                        · (intro w hSw; (try dsimp only at hSw); (first | (go_simp; done) | (go_simp; with_reducible rfl)))
                        simp only [Act.put, List.getElem_toArray, List.getElem_cons_succ, List.getElem_cons_zero, List.setIfInBounds_toArray, List.set_cons_zero, List.set_cons_succ]
                        refine wpAnyH_take (i := 8) (oi := _) (v := ?_) rfl (by kernel_rfl) (by kernel_rfl) (by kernel_rfl) (fun _ _ _ h => h) (Or.inl ⟨by rfl, ?_⟩) (by assumption) ?_
                        rotate_left
                        · (intro w hSw; (try dsimp only at hSw); (first | (go_simp; done) | (go_simp; with_reducible rfl)))
                        simp only [Act.put, List.getElem_toArray, List.getElem_cons_succ, List.getElem_cons_zero, List.setIfInBounds_toArray, List.set_cons_zero, List.set_cons_succ]
                        refine wpAnyH_take (i := 9) (oi := _) (v := .slice (some ⟨g8, j, none⟩) (xs.length - j) (c8 - j)) rfl (by kernel_rfl) (by kernel_rfl) (by kernel_rfl) (fun _ _ _ h => h) (Or.inl ⟨by rfl, ?_⟩) (by assumption) ?_
                        · (intro w hSw; (try dsimp only at hSw); go_simp; first | done | (simp [hq0, hq1, hqc, HCQ.out]; done) | omega | (simp <;> omega) | trace_state)
                        simp only [Act.put, List.getElem_toArray, List.getElem_cons_succ, List.getElem_cons_zero, List.setIfInBounds_toArray, List.set_cons_zero, List.set_cons_succ]
                        refine wpAnyH_ready (rs := [3, 5]) (by kernel_rfl) (by simp) ?_
                        refine AllReadyH.cons rfl (fun K hK => ?_) (AllReadyH.cons rfl (fun K hK => ?_) AllReadyH.nil)
                        · skip
                          go_simp
                          have hop := HOP.out _ _ _ _ _ (HPT.out.below hHeld) (by rw [List.length_take]; omega)
                          rw [HTK.out] at hop
                          refine hop.mono ?_
                          clear hop
                          rintro e21 w21 ⟨v21, rfl, ho21, hb21⟩
                          try replace HNW := Lib.hid (nw_below HNW.out hb21)
                          have HO := Lib.hid (owns_lower ho21 hHeld.size)
                          have HBD := Lib.hid (hHeld.trans (hb21.mono hHeld.size))
                          clear ho21 hb21
                          clear hHeld
                          try go_wp2_with fail
                          refine hK.out _ _ (HBD.out) (fun hHeld => ?_)
                          clear hK K
                          refine wpAnyH_ready (rs := [5]) (by kernel_rfl) (by simp) ?_
                          refine AllReadyH.cons rfl (fun K hK => ?_) AllReadyH.nil
                          go_simp
                          have HNW := Lib.hid (nw_of (x := .int .i64 (p + m)) (t := 3) hHeld)
                          try replace HO := Lib.hid (owns_below HO.out (below_new _ (.cells #[.int .i64 (p + m)] 3)))
                          have HBD := Lib.hid (hHeld.trans ((below_new _ (.cells #[.int .i64 (p + m)] 3)).mono hHeld.size))
                          refine hK.out _ _ (HBD.out) (fun hHeld => ?_)
                          clear hK K
                          skip
                          refine wpAnyH_ready (rs := [6]) (by kernel_rfl) (by simp) ?_
                          refine AllReadyH.cons rfl (fun K hK => ?_) AllReadyH.nil
                          refine step_append_lies _ (by rfl) _ _ _ (by rfl) (wd.heap.size) 3 i0 (.int .i64 0) 1 8 Try.underlying22 hi hz0 hz1 hz2 rfl (by decide) _ _ _ (by rfl) HO.out _ 1 1 [.int .i64 (p + m)] (by rfl) (by rfl) HNW.out ?c2 (by decide) ?c3 ?c4 ?c5 _ rfl ?_
                          case c2 => first | (intro u hu; simp at hu; subst hu; rfl) | rfl
                          case c3 => unfold maxLen; rw [List.length_take]; omega
                          case c4 => rw [List.length_take]; omega
                          case c5 => exact HBD.out.size
                          intro g31 c31 w31 hown' hgrow hlies hlt9
                          have HBD := Lib.hid (HBD.out.trans (below_grown hgrow (fun b hb => (owns_block HO.out b hb).1) HBD.out.size))
                          have HO := Lib.hid hown'
                          clear hown' hgrow hlies hlt9 HNW
                          clear hHeld
                          refine hK.out _ _ (HBD.out) (fun hHeld => ?_)
                          clear hK K
                          refine wpAnyH_ready (rs := [10]) (by kernel_rfl) (by simp) ?_
                          refine AllReadyH.cons rfl (fun K hK => ?_) AllReadyH.nil
                          refine step_append_any (by rfl) _ _ _ (by rfl) (wd.heap.size) 3 i0 (.int .i64 0) 1 8 Try.underlying22 hi hz0 hz1 hz2 rfl (by decide) _ _ _ (by rfl) HO.out ⟨g8, j, none⟩ (xs.length - j) (c8 - j) ((xs.drop j).map iv) (by rfl) ?c1 (part_drop HP8.out (by unfold maxLen; omega) hHeld j) ?c2 ?c3 ?c4 ?c5 ?_
                          case c1 => simp
                          case c2 => intro u hu; obtain ⟨z9, _, rfl⟩ := List.mem_map.1 hu; rfl
                          case c3 => unfold maxLen; rw [List.length_take]; omega
                          case c4 => rw [List.length_take]; omega
                          case c5 => exact HBD.out.size
                          intro v41 w41 hown' hgrow
                          have HBD := Lib.hid (HBD.out.trans (below_grown hgrow (fun b hb => (owns_block HO.out b hb).1) HBD.out.size))
                          have HO := Lib.hid hown'
                          clear hown' hgrow
                          clear hHeld
                          refine hK.out _ _ (HBD.out) (fun hHeld => ?_)
                          clear hK K
                          refine wpAnyH_take (i := 11) (oi := _) (v := ?_) rfl (by kernel_rfl) (by kernel_rfl) (by kernel_rfl) (fun _ _ _ h => h) (Or.inl ⟨by rfl, ?_⟩) (by assumption) ?_
                          rotate_left
                          · (intro w hSw; (try dsimp only at hSw); (first | (go_simp; done) | (go_simp; with_reducible rfl)))
                          simp only [Act.put, List.getElem_toArray, List.getElem_cons_succ, List.getElem_cons_zero, List.setIfInBounds_toArray, List.set_cons_zero, List.set_cons_succ]
                          refine wpAnyH_done (by kernel_rfl) ?_ _
                          refine NoPanic.normal ?_
                          clear hHeld
                          go_wp2_with fail
                          go_roundw
                          case rel => exact pl_yes HSZ.out HXS.out hlt HX.out htk HF2.out HQ.out (by go_num) HO.out HO7.out HO13.out HBX.out HB.out HBD.out
                          case measure => simp [intOf] <;> omega
                        · skip
                          go_simp
                          have HNW := Lib.hid (nw_of (x := .int .i64 (p + m)) (t := 3) hHeld)
                          try replace HO := Lib.hid (owns_below HO.out (below_new _ (.cells #[.int .i64 (p + m)] 3)))
                          have HBD := Lib.hid (hHeld.trans ((below_new _ (.cells #[.int .i64 (p + m)] 3)).mono hHeld.size))
                          refine hK.out _ _ (HBD.out) (fun hHeld => ?_)
                          clear hK K
                          skip
                          refine wpAnyH_ready (rs := [3]) (by kernel_rfl) (by simp) ?_
                          refine AllReadyH.cons rfl (fun K hK => ?_) AllReadyH.nil
                          go_simp
                          have hop := HOP.out _ _ _ _ _ (HPT.out.below hHeld) (by rw [List.length_take]; omega)
                          rw [HTK.out] at hop
                          refine hop.mono ?_
                          clear hop
                          rintro e21 w26 ⟨v21, rfl, ho21, hb21⟩
                          try replace HNW := Lib.hid (nw_below HNW.out hb21)
                          have HO := Lib.hid (owns_lower ho21 hHeld.size)
                          have HBD := Lib.hid (hHeld.trans (hb21.mono hHeld.size))
                          clear ho21 hb21
                          clear hHeld
                          try go_wp2_with fail
                          refine hK.out _ _ (HBD.out) (fun hHeld => ?_)
                          clear hK K
                          refine wpAnyH_ready (rs := [6]) (by kernel_rfl) (by simp) ?_
                          refine AllReadyH.cons rfl (fun K hK => ?_) AllReadyH.nil
                          refine step_append_lies _ (by rfl) _ _ _ (by rfl) (wd.heap.size) 3 i0 (.int .i64 0) 1 8 Try.underlying22 hi hz0 hz1 hz2 rfl (by decide) _ _ _ (by rfl) HO.out _ 1 1 [.int .i64 (p + m)] (by rfl) (by rfl) HNW.out ?c2 (by decide) ?c3 ?c4 ?c5 _ rfl ?_
                          case c2 => first | (intro u hu; simp at hu; subst hu; rfl) | rfl
                          case c3 => unfold maxLen; rw [List.length_take]; omega
                          case c4 => rw [List.length_take]; omega
                          case c5 => exact HBD.out.size
                          intro g31 c31 w31 hown' hgrow hlies hlt9
                          have HBD := Lib.hid (HBD.out.trans (below_grown hgrow (fun b hb => (owns_block HO.out b hb).1) HBD.out.size))
                          have HO := Lib.hid hown'
                          clear hown' hgrow hlies hlt9 HNW
                          clear hHeld
                          refine hK.out _ _ (HBD.out) (fun hHeld => ?_)
                          clear hK K
                          refine wpAnyH_ready (rs := [10]) (by kernel_rfl) (by simp) ?_
                          refine AllReadyH.cons rfl (fun K hK => ?_) AllReadyH.nil
                          refine step_append_any (by rfl) _ _ _ (by rfl) (wd.heap.size) 3 i0 (.int .i64 0) 1 8 Try.underlying22 hi hz0 hz1 hz2 rfl (by decide) _ _ _ (by rfl) HO.out ⟨g8, j, none⟩ (xs.length - j) (c8 - j) ((xs.drop j).map iv) (by rfl) ?c1 (part_drop HP8.out (by unfold maxLen; omega) hHeld j) ?c2 ?c3 ?c4 ?c5 ?_
                          case c1 => simp
                          case c2 => intro u hu; obtain ⟨z9, _, rfl⟩ := List.mem_map.1 hu; rfl
                          case c3 => unfold maxLen; rw [List.length_take]; omega
                          case c4 => rw [List.length_take]; omega
                          case c5 => exact HBD.out.size
                          intro v41 w41 hown' hgrow
                          have HBD := Lib.hid (HBD.out.trans (below_grown hgrow (fun b hb => (owns_block HO.out b hb).1) HBD.out.size))
                          have HO := Lib.hid hown'
                          clear hown' hgrow
                          clear hHeld
                          refine hK.out _ _ (HBD.out) (fun hHeld => ?_)
                          clear hK K
                          refine wpAnyH_take (i := 11) (oi := _) (v := ?_) rfl (by kernel_rfl) (by kernel_rfl) (by kernel_rfl) (fun _ _ _ h => h) (Or.inl ⟨by rfl, ?_⟩) (by assumption) ?_
                          rotate_left
                          · (intro w hSw; (try dsimp only at hSw); (first | (go_simp; done) | (go_simp; with_reducible rfl)))
                          simp only [Act.put, List.getElem_toArray, List.getElem_cons_succ, List.getElem_cons_zero, List.setIfInBounds_toArray, List.set_cons_zero, List.set_cons_succ]
                          refine wpAnyH_done (by kernel_rfl) ?_ _
                          refine NoPanic.normal ?_
                          clear hHeld
                          go_wp2_with fail
                          go_roundw
                          case rel => exact pl_yes HSZ.out HXS.out hlt HX.out htk HF2.out HQ.out (by go_num) HO.out HO7.out HO13.out HBX.out HB.out HBD.out
                          case measure => simp [intOf] <;> omega
                  · have hje : j = q := by omega
                    have hj1 : ¬ (j : Int) < xs.length := by omega
                    subst hje
                    go_wp2_with fail
                    have HP8 := Lib.hid HO8.out
                    have HPT := Lib.hid (part_take HO8.out (by unfold maxLen; omega) hql)
                    have HTK := Lib.hid (show (xs.take j).length = j by rw [List.length_take]; omega)
                    have hq0 : 0 ≤ (j : Int) := by omega
                    have hq1 : (j : Int) ≤ xs.length := by omega
                    have hqc : j ≤ c8 := by obtain ⟨_, _, e28, hcc, _⟩ := owns_reads HO8.out (by unfold maxLen; omega); cases e28; omega
                    have hxc : xs.length ≤ c8 := by obtain ⟨_, _, e28, hcc, _⟩ := owns_reads HO8.out (by unfold maxLen; omega); cases e28; omega
                    by_cases hcq : c8 = j
                    · have HCQ := Lib.hid hcq
                      clear hcq
                      refine wp_region_noPanic ?_
                      have HBD := Lib.hid (below_drewN wd 1)
                      refine wp_region_held_drew (S := fun w' => Below wd.heap.size wd w') (by kernel_rfl) (HBD.out) (fun hHeld => ?_)
                      refine wpAnyH_take (i := 0) (oi := _) (v := ?_) rfl (by kernel_rfl) (by kernel_rfl) (by kernel_rfl) (fun _ _ _ h => h) (Or.inl ⟨by rfl, ?_⟩) (by assumption) ?_
                      rotate_left
                      · (intro w hSw; (try dsimp only at hSw); (first | (go_simp; done) | (go_simp; with_reducible rfl)))
                      simp only [Act.put, List.getElem_toArray, List.getElem_cons_succ, List.getElem_cons_zero, List.setIfInBounds_toArray, List.set_cons_zero, List.set_cons_succ]
                      refine wpAnyH_take (i := 1) (oi := _) (v := ?_) rfl (by kernel_rfl) (by kernel_rfl) (by kernel_rfl) (fun _ _ _ h => h) (Or.inl ⟨by rfl, ?_⟩) (by assumption) ?_
                      rotate_left
                      · (intro w hSw; (try dsimp only at hSw); (first | (go_simp; done) | (go_simp; with_reducible rfl)))
                      simp only [Act.put, List.getElem_toArray, List.getElem_cons_succ, List.getElem_cons_zero, List.setIfInBounds_toArray, List.set_cons_zero, List.set_cons_succ]
                      refine wpAnyH_take (i := 2) (oi := _) (v := .slice (some ⟨g8, 0, none⟩) j c8) rfl (by kernel_rfl) (by kernel_rfl) (by kernel_rfl) (fun _ _ _ h => h) (Or.inl ⟨by rfl, ?_⟩) (by assumption) ?_
                      · (intro w hSw; (try dsimp only at hSw); go_simp; first | done | (simp [hq0, hq1, hqc, HTK.out]; done) | omega | (simp <;> omega) | trace_state)
                      simp only [Act.put, List.getElem_toArray, List.getElem_cons_succ, List.getElem_cons_zero, List.setIfInBounds_toArray, List.set_cons_zero, List.set_cons_succ]
                      refine wpAnyH_take (i := 4) (oi := _) (v := ?_) rfl (by kernel_rfl) (by kernel_rfl) (by kernel_rfl) (fun _ _ _ h => h) (Or.inl ⟨by rfl, ?_⟩) (by assumption) ?_
                      rotate_left
                      · (intro w hSw; (try dsimp only at hSw); (first | (go_simp; done) | (go_simp; with_reducible rfl)))
                      simp only [Act.put, List.getElem_toArray, List.getElem_cons_succ, List.getElem_cons_zero, List.setIfInBounds_toArray, List.set_cons_zero, List.set_cons_succ]
                      refine wpAnyH_take (i := 7) (oi := _) (v := ?_) rfl (by kernel_rfl) (by kernel_rfl) (by kernel_rfl) (fun _ _ _ h => h) (Or.inl ⟨by rfl, ?_⟩) (by assumption) ?_
                      rotate_left
                      · (intro w hSw; (try dsimp only at hSw); (first | (go_simp; done) | (go_simp; with_reducible rfl)))
                      simp only [Act.put, List.getElem_toArray, List.getElem_cons_succ, List.getElem_cons_zero, List.setIfInBounds_toArray, List.set_cons_zero, List.set_cons_succ]
                      refine wpAnyH_take (i := 8) (oi := _) (v := ?_) rfl (by kernel_rfl) (by kernel_rfl) (by kernel_rfl) (fun _ _ _ h => h) (Or.inl ⟨by rfl, ?_⟩) (by assumption) ?_
                      rotate_left
                      · (intro w hSw; (try dsimp only at hSw); (first | (go_simp; done) | (go_simp; with_reducible rfl)))
                      simp only [Act.put, List.getElem_toArray, List.getElem_cons_succ, List.getElem_cons_zero, List.setIfInBounds_toArray, List.set_cons_zero, List.set_cons_succ]
                      refine wpAnyH_take (i := 9) (oi := _) (v := .slice (some ⟨g8, 0, none⟩) (xs.length - j) (c8 - j)) rfl (by kernel_rfl) (by kernel_rfl) (by kernel_rfl) (fun _ _ _ h => h) (Or.inl ⟨by rfl, ?_⟩) (by assumption) ?_
                      · (intro w hSw; (try dsimp only at hSw); go_simp; first | done | (simp [hq0, hq1, hqc, HCQ.out]; done) | omega | (simp <;> omega) | trace_state)
                      simp only [Act.put, List.getElem_toArray, List.getElem_cons_succ, List.getElem_cons_zero, List.setIfInBounds_toArray, List.set_cons_zero, List.set_cons_succ]
                      refine wpAnyH_ready (rs := [3, 5]) (by kernel_rfl) (by simp) ?_
                      refine AllReadyH.cons rfl (fun K hK => ?_) (AllReadyH.cons rfl (fun K hK => ?_) AllReadyH.nil)
                      · skip
                        go_simp
                        have hop := HOP.out _ _ _ _ _ (HPT.out.below hHeld) (by rw [List.length_take]; omega)
                        rw [HTK.out] at hop
                        refine hop.mono ?_
                        clear hop
                        rintro e21 w21 ⟨v21, rfl, ho21, hb21⟩
                        try replace HNW := Lib.hid (nw_below HNW.out hb21)
                        have HO := Lib.hid (owns_lower ho21 hHeld.size)
                        have HBD := Lib.hid (hHeld.trans (hb21.mono hHeld.size))
                        clear ho21 hb21
                        clear hHeld
                        try go_wp2_with fail
                        refine hK.out _ _ (HBD.out) (fun hHeld => ?_)
                        clear hK K
                        refine wpAnyH_ready (rs := [5]) (by kernel_rfl) (by simp) ?_
                        refine AllReadyH.cons rfl (fun K hK => ?_) AllReadyH.nil
                        go_simp
                        have HNW := Lib.hid (nw_of (x := .int .i64 (p + m)) (t := 3) hHeld)
                        try replace HO := Lib.hid (owns_below HO.out (below_new _ (.cells #[.int .i64 (p + m)] 3)))
                        have HBD := Lib.hid (hHeld.trans ((below_new _ (.cells #[.int .i64 (p + m)] 3)).mono hHeld.size))
                        refine hK.out _ _ (HBD.out) (fun hHeld => ?_)
                        clear hK K
                        skip
                        refine wpAnyH_ready (rs := [6]) (by kernel_rfl) (by simp) ?_
                        refine AllReadyH.cons rfl (fun K hK => ?_) AllReadyH.nil
                        refine step_append_lies _ (by rfl) _ _ _ (by rfl) (wd.heap.size) 3 i0 (.int .i64 0) 1 8 Try.underlying22 hi hz0 hz1 hz2 rfl (by decide) _ _ _ (by rfl) HO.out _ 1 1 [.int .i64 (p + m)] (by rfl) (by rfl) HNW.out ?c2 (by decide) ?c3 ?c4 ?c5 _ rfl ?_
                        case c2 => first | (intro u hu; simp at hu; subst hu; rfl) | rfl
                        case c3 => unfold maxLen; rw [List.length_take]; omega
                        case c4 => rw [List.length_take]; omega
                        case c5 => exact HBD.out.size
                        intro g31 c31 w31 hown' hgrow hlies hlt9
                        have HBD := Lib.hid (HBD.out.trans (below_grown hgrow (fun b hb => (owns_block HO.out b hb).1) HBD.out.size))
                        have HO := Lib.hid hown'
                        clear hown' hgrow hlies hlt9 HNW
                        clear hHeld
                        refine hK.out _ _ (HBD.out) (fun hHeld => ?_)
                        clear hK K
                        refine wpAnyH_ready (rs := [10]) (by kernel_rfl) (by simp) ?_
                        refine AllReadyH.cons rfl (fun K hK => ?_) AllReadyH.nil
                        refine step_append_any (by rfl) _ _ _ (by rfl) (wd.heap.size) 3 i0 (.int .i64 0) 1 8 Try.underlying22 hi hz0 hz1 hz2 rfl (by decide) _ _ _ (by rfl) HO.out ⟨g8, 0, none⟩ (xs.length - j) (c8 - j) ((xs.drop j).map iv) (by rfl) ?c1 (fun j u hj => by rw [List.drop_eq_nil_of_le (by have := HCQ.out; omega)] at hj; simp at hj) ?c2 ?c3 ?c4 ?c5 ?_
                        case c1 => simp
                        case c2 => intro u hu; obtain ⟨z9, _, rfl⟩ := List.mem_map.1 hu; rfl
                        case c3 => unfold maxLen; rw [List.length_take]; omega
                        case c4 => rw [List.length_take]; omega
                        case c5 => exact HBD.out.size
                        intro v41 w41 hown' hgrow
                        have HBD := Lib.hid (HBD.out.trans (below_grown hgrow (fun b hb => (owns_block HO.out b hb).1) HBD.out.size))
                        have HO := Lib.hid hown'
                        clear hown' hgrow
                        clear hHeld
                        refine hK.out _ _ (HBD.out) (fun hHeld => ?_)
                        clear hK K
                        refine wpAnyH_take (i := 11) (oi := _) (v := ?_) rfl (by kernel_rfl) (by kernel_rfl) (by kernel_rfl) (fun _ _ _ h => h) (Or.inl ⟨by rfl, ?_⟩) (by assumption) ?_
                        rotate_left
                        · (intro w hSw; (try dsimp only at hSw); (first | (go_simp; done) | (go_simp; with_reducible rfl)))
                        simp only [Act.put, List.getElem_toArray, List.getElem_cons_succ, List.getElem_cons_zero, List.setIfInBounds_toArray, List.set_cons_zero, List.set_cons_succ]
                        refine wpAnyH_done (by kernel_rfl) ?_ _
                        refine NoPanic.normal ?_
                        clear hHeld
                        go_wp2_with fail
                        go_roundw
                        case rel => exact pl_yes HSZ.out HXS.out hlt HX.out htk HF2.out HQ.out (by go_num) HO.out HO7.out HO13.out HBX.out HB.out HBD.out
                        case measure => simp [intOf] <;> omega
                      · skip
                        go_simp
                        have HNW := Lib.hid (nw_of (x := .int .i64 (p + m)) (t := 3) hHeld)
                        try replace HO := Lib.hid (owns_below HO.out (below_new _ (.cells #[.int .i64 (p + m)] 3)))
                        have HBD := Lib.hid (hHeld.trans ((below_new _ (.cells #[.int .i64 (p + m)] 3)).mono hHeld.size))
                        refine hK.out _ _ (HBD.out) (fun hHeld => ?_)
                        clear hK K
                        skip
                        refine wpAnyH_ready (rs := [3]) (by kernel_rfl) (by simp) ?_
                        refine AllReadyH.cons rfl (fun K hK => ?_) AllReadyH.nil
                        go_simp
                        have hop := HOP.out _ _ _ _ _ (HPT.out.below hHeld) (by rw [List.length_take]; omega)
                        rw [HTK.out] at hop
                        refine hop.mono ?_
                        clear hop
                        rintro e21 w26 ⟨v21, rfl, ho21, hb21⟩
                        try replace HNW := Lib.hid (nw_below HNW.out hb21)
                        have HO := Lib.hid (owns_lower ho21 hHeld.size)
                        have HBD := Lib.hid (hHeld.trans (hb21.mono hHeld.size))
                        clear ho21 hb21
                        clear hHeld
                        try go_wp2_with fail
                        refine hK.out _ _ (HBD.out) (fun hHeld => ?_)
                        clear hK K
                        refine wpAnyH_ready (rs := [6]) (by kernel_rfl) (by simp) ?_
                        refine AllReadyH.cons rfl (fun K hK => ?_) AllReadyH.nil
                        refine step_append_lies _ (by rfl) _ _ _ (by rfl) (wd.heap.size) 3 i0 (.int .i64 0) 1 8 Try.underlying22 hi hz0 hz1 hz2 rfl (by decide) _ _ _ (by rfl) HO.out _ 1 1 [.int .i64 (p + m)] (by rfl) (by rfl) HNW.out ?c2 (by decide) ?c3 ?c4 ?c5 _ rfl ?_
                        case c2 => first | (intro u hu; simp at hu; subst hu; rfl) | rfl
                        case c3 => unfold maxLen; rw [List.length_take]; omega
                        case c4 => rw [List.length_take]; omega
                        case c5 => exact HBD.out.size
                        intro g31 c31 w31 hown' hgrow hlies hlt9
                        have HBD := Lib.hid (HBD.out.trans (below_grown hgrow (fun b hb => (owns_block HO.out b hb).1) HBD.out.size))
                        have HO := Lib.hid hown'
                        clear hown' hgrow hlies hlt9 HNW
                        clear hHeld
                        refine hK.out _ _ (HBD.out) (fun hHeld => ?_)
                        clear hK K
                        refine wpAnyH_ready (rs := [10]) (by kernel_rfl) (by simp) ?_
                        refine AllReadyH.cons rfl (fun K hK => ?_) AllReadyH.nil
                        refine step_append_any (by rfl) _ _ _ (by rfl) (wd.heap.size) 3 i0 (.int .i64 0) 1 8 Try.underlying22 hi hz0 hz1 hz2 rfl (by decide) _ _ _ (by rfl) HO.out ⟨g8, 0, none⟩ (xs.length - j) (c8 - j) ((xs.drop j).map iv) (by rfl) ?c1 (fun j u hj => by rw [List.drop_eq_nil_of_le (by have := HCQ.out; omega)] at hj; simp at hj) ?c2 ?c3 ?c4 ?c5 ?_
                        case c1 => simp
                        case c2 => intro u hu; obtain ⟨z9, _, rfl⟩ := List.mem_map.1 hu; rfl
                        case c3 => unfold maxLen; rw [List.length_take]; omega
                        case c4 => rw [List.length_take]; omega
                        case c5 => exact HBD.out.size
                        intro v41 w41 hown' hgrow
                        have HBD := Lib.hid (HBD.out.trans (below_grown hgrow (fun b hb => (owns_block HO.out b hb).1) HBD.out.size))
                        have HO := Lib.hid hown'
                        clear hown' hgrow
                        clear hHeld
                        refine hK.out _ _ (HBD.out) (fun hHeld => ?_)
                        clear hK K
                        refine wpAnyH_take (i := 11) (oi := _) (v := ?_) rfl (by kernel_rfl) (by kernel_rfl) (by kernel_rfl) (fun _ _ _ h => h) (Or.inl ⟨by rfl, ?_⟩) (by assumption) ?_
                        rotate_left
                        · (intro w hSw; (try dsimp only at hSw); (first | (go_simp; done) | (go_simp; with_reducible rfl)))
                        simp only [Act.put, List.getElem_toArray, List.getElem_cons_succ, List.getElem_cons_zero, List.setIfInBounds_toArray, List.set_cons_zero, List.set_cons_succ]
                        refine wpAnyH_done (by kernel_rfl) ?_ _
                        refine NoPanic.normal ?_
                        clear hHeld
                        go_wp2_with fail
                        go_roundw
                        case rel => exact pl_yes HSZ.out HXS.out hlt HX.out htk HF2.out HQ.out (by go_num) HO.out HO7.out HO13.out HBX.out HB.out HBD.out
                        case measure => simp [intOf] <;> omega
                    · have HCQ := Lib.hid hcq
                      clear hcq
                      refine wp_region_noPanic ?_
                      have HBD := Lib.hid (below_drewN wd 1)
                      refine wp_region_held_drew (S := fun w' => Below wd.heap.size wd w') (by kernel_rfl) (HBD.out) (fun hHeld => ?_)
                      refine wpAnyH_take (i := 0) (oi := _) (v := ?_) rfl (by kernel_rfl) (by kernel_rfl) (by kernel_rfl) (fun _ _ _ h => h) (Or.inl ⟨by rfl, ?_⟩) (by assumption) ?_
                      rotate_left
                      · (intro w hSw; (try dsimp only at hSw); (first | (go_simp; done) | (go_simp; with_reducible rfl)))
                      simp only [Act.put, List.getElem_toArray, List.getElem_cons_succ, List.getElem_cons_zero, List.setIfInBounds_toArray, List.set_cons_zero, List.set_cons_succ]
                      refine wpAnyH_take (i := 1) (oi := _) (v := ?_) rfl (by kernel_rfl) (by kernel_rfl) (by kernel_rfl) (fun _ _ _ h => h) (Or.inl ⟨by rfl, ?_⟩) (by assumption) ?_
                      rotate_left
                      · (intro w hSw; (try dsimp only at hSw); (first | (go_simp; done) | (go_simp; with_reducible rfl)))
                      simp only [Act.put, List.getElem_toArray, List.getElem_cons_succ, List.getElem_cons_zero, List.setIfInBounds_toArray, List.set_cons_zero, List.set_cons_succ]
                      refine wpAnyH_take (i := 2) (oi := _) (v := .slice (some ⟨g8, 0, none⟩) j c8) rfl (by kernel_rfl) (by kernel_rfl) (by kernel_rfl) (fun _ _ _ h => h) (Or.inl ⟨by rfl, ?_⟩) (by assumption) ?_
                      · (intro w hSw; (try dsimp only at hSw); go_simp; first | done | (simp [hq0, hq1, hqc, HTK.out]; done) | omega | (simp <;> omega) | trace_state)
                      simp only [Act.put, List.getElem_toArray, List.getElem_cons_succ, List.getElem_cons_zero, List.setIfInBounds_toArray, List.set_cons_zero, List.set_cons_succ]
                      refine wpAnyH_take (i := 4) (oi := _) (v := ?_) rfl (by kernel_rfl) (by kernel_rfl) (by kernel_rfl) (fun _ _ _ h => h) (Or.inl ⟨by rfl, ?_⟩) (by assumption) ?_
                      rotate_left
                      · (intro w hSw; (try dsimp only at hSw); (first | (go_simp; done) | (go_simp; with_reducible rfl)))
                      simp only [Act.put, List.getElem_toArray, List.getElem_cons_succ, List.getElem_cons_zero, List.setIfInBounds_toArray, List.set_cons_zero, List.set_cons_succ]
                      refine wpAnyH_take (i := 7) (oi := _) (v := ?_) rfl (by kernel_rfl) (by kernel_rfl) (by kernel_rfl) (fun _ _ _ h => h) (Or.inl ⟨by rfl, ?_⟩) (by assumption) ?_
                      rotate_left
                      · (intro w hSw; (try dsimp only at hSw); (first | (go_simp; done) | (go_simp; with_reducible rfl)))
                      simp only [Act.put, List.getElem_toArray, List.getElem_cons_succ, List.getElem_cons_zero, List.setIfInBounds_toArray, List.set_cons_zero, List.set_cons_succ]
                      refine wpAnyH_take (i := 8) (oi := _) (v := ?_) rfl (by kernel_rfl) (by kernel_rfl) (by kernel_rfl) (fun _ _ _ h => h) (Or.inl ⟨by rfl, ?_⟩) (by assumption) ?_
                      rotate_left
                      · (intro w hSw; (try dsimp only at hSw); (first | (go_simp; done) | (go_simp; with_reducible rfl)))
                      simp only [Act.put, List.getElem_toArray, List.getElem_cons_succ, List.getElem_cons_zero, List.setIfInBounds_toArray, List.set_cons_zero, List.set_cons_succ]
                      refine wpAnyH_take (i := 9) (oi := _) (v := .slice (some ⟨g8, j, none⟩) (xs.length - j) (c8 - j)) rfl (by kernel_rfl) (by kernel_rfl) (by kernel_rfl) (fun _ _ _ h => h) (Or.inl ⟨by rfl, ?_⟩) (by assumption) ?_
                      · (intro w hSw; (try dsimp only at hSw); go_simp; first | done | (simp [hq0, hq1, hqc, HCQ.out]; done) | omega | (simp <;> omega) | trace_state)
                      simp only [Act.put, List.getElem_toArray, List.getElem_cons_succ, List.getElem_cons_zero, List.setIfInBounds_toArray, List.set_cons_zero, List.set_cons_succ]
                      refine wpAnyH_ready (rs := [3, 5]) (by kernel_rfl) (by simp) ?_
                      refine AllReadyH.cons rfl (fun K hK => ?_) (AllReadyH.cons rfl (fun K hK => ?_) AllReadyH.nil)
                      · skip
                        go_simp
                        have hop := HOP.out _ _ _ _ _ (HPT.out.below hHeld) (by rw [List.length_take]; omega)
                        rw [HTK.out] at hop
                        refine hop.mono ?_
                        clear hop
                        rintro e21 w21 ⟨v21, rfl, ho21, hb21⟩
                        try replace HNW := Lib.hid (nw_below HNW.out hb21)
                        have HO := Lib.hid (owns_lower ho21 hHeld.size)
                        have HBD := Lib.hid (hHeld.trans (hb21.mono hHeld.size))
                        clear ho21 hb21
                        clear hHeld
                        try go_wp2_with fail
                        refine hK.out _ _ (HBD.out) (fun hHeld => ?_)
                        clear hK K
                        refine wpAnyH_ready (rs := [5]) (by kernel_rfl) (by simp) ?_
                        refine AllReadyH.cons rfl (fun K hK => ?_) AllReadyH.nil
                        go_simp
                        have HNW := Lib.hid (nw_of (x := .int .i64 (p + m)) (t := 3) hHeld)
                        try replace HO := Lib.hid (owns_below HO.out (below_new _ (.cells #[.int .i64 (p + m)] 3)))
                        have HBD := Lib.hid (hHeld.trans ((below_new _ (.cells #[.int .i64 (p + m)] 3)).mono hHeld.size))
                        refine hK.out _ _ (HBD.out) (fun hHeld => ?_)
                        clear hK K
                        skip
                        refine wpAnyH_ready (rs := [6]) (by kernel_rfl) (by simp) ?_
                        refine AllReadyH.cons rfl (fun K hK => ?_) AllReadyH.nil
                        refine step_append_lies _ (by rfl) _ _ _ (by rfl) (wd.heap.size) 3 i0 (.int .i64 0) 1 8 Try.underlying22 hi hz0 hz1 hz2 rfl (by decide) _ _ _ (by rfl) HO.out _ 1 1 [.int .i64 (p + m)] (by rfl) (by rfl) HNW.out ?c2 (by decide) ?c3 ?c4 ?c5 _ rfl ?_
                        case c2 => first | (intro u hu; simp at hu; subst hu; rfl) | rfl
                        case c3 => unfold maxLen; rw [List.length_take]; omega
                        case c4 => rw [List.length_take]; omega
                        case c5 => exact HBD.out.size
                        intro g31 c31 w31 hown' hgrow hlies hlt9
                        have HBD := Lib.hid (HBD.out.trans (below_grown hgrow (fun b hb => (owns_block HO.out b hb).1) HBD.out.size))
                        have HO := Lib.hid hown'
                        clear hown' hgrow hlies hlt9 HNW
                        clear hHeld
                        refine hK.out _ _ (HBD.out) (fun hHeld => ?_)
                        clear hK K
                        refine wpAnyH_ready (rs := [10]) (by kernel_rfl) (by simp) ?_
                        refine AllReadyH.cons rfl (fun K hK => ?_) AllReadyH.nil
                        refine step_append_any (by rfl) _ _ _ (by rfl) (wd.heap.size) 3 i0 (.int .i64 0) 1 8 Try.underlying22 hi hz0 hz1 hz2 rfl (by decide) _ _ _ (by rfl) HO.out ⟨g8, j, none⟩ (xs.length - j) (c8 - j) ((xs.drop j).map iv) (by rfl) ?c1 (part_drop HP8.out (by unfold maxLen; omega) hHeld j) ?c2 ?c3 ?c4 ?c5 ?_
                        case c1 => simp
                        case c2 => intro u hu; obtain ⟨z9, _, rfl⟩ := List.mem_map.1 hu; rfl
                        case c3 => unfold maxLen; rw [List.length_take]; omega
                        case c4 => rw [List.length_take]; omega
                        case c5 => exact HBD.out.size
                        intro v41 w41 hown' hgrow
                        have HBD := Lib.hid (HBD.out.trans (below_grown hgrow (fun b hb => (owns_block HO.out b hb).1) HBD.out.size))
                        have HO := Lib.hid hown'
                        clear hown' hgrow
                        clear hHeld
                        refine hK.out _ _ (HBD.out) (fun hHeld => ?_)
                        clear hK K
                        refine wpAnyH_take (i := 11) (oi := _) (v := ?_) rfl (by kernel_rfl) (by kernel_rfl) (by kernel_rfl) (fun _ _ _ h => h) (Or.inl ⟨by rfl, ?_⟩) (by assumption) ?_
                        rotate_left
                        · (intro w hSw; (try dsimp only at hSw); (first | (go_simp; done) | (go_simp; with_reducible rfl)))
                        simp only [Act.put, List.getElem_toArray, List.getElem_cons_succ, List.getElem_cons_zero, List.setIfInBounds_toArray, List.set_cons_zero, List.set_cons_succ]
                        refine wpAnyH_done (by kernel_rfl) ?_ _
                        refine NoPanic.normal ?_
                        clear hHeld
                        go_wp2_with fail
                        go_roundw
                        case rel => exact pl_yes HSZ.out HXS.out hlt HX.out htk HF2.out HQ.out (by go_num) HO.out HO7.out HO13.out HBX.out HB.out HBD.out
                        case measure => simp [intOf] <;> omega
                      · skip
                        go_simp
                        have HNW := Lib.hid (nw_of (x := .int .i64 (p + m)) (t := 3) hHeld)
                        try replace HO := Lib.hid (owns_below HO.out (below_new _ (.cells #[.int .i64 (p + m)] 3)))
                        have HBD := Lib.hid (hHeld.trans ((below_new _ (.cells #[.int .i64 (p + m)] 3)).mono hHeld.size))
                        refine hK.out _ _ (HBD.out) (fun hHeld => ?_)
                        clear hK K
                        skip
                        refine wpAnyH_ready (rs := [3]) (by kernel_rfl) (by simp) ?_
                        refine AllReadyH.cons rfl (fun K hK => ?_) AllReadyH.nil
                        go_simp
                        have hop := HOP.out _ _ _ _ _ (HPT.out.below hHeld) (by rw [List.length_take]; omega)
                        rw [HTK.out] at hop
                        refine hop.mono ?_
                        clear hop
                        rintro e21 w26 ⟨v21, rfl, ho21, hb21⟩
                        try replace HNW := Lib.hid (nw_below HNW.out hb21)
                        have HO := Lib.hid (owns_lower ho21 hHeld.size)
                        have HBD := Lib.hid (hHeld.trans (hb21.mono hHeld.size))
                        clear ho21 hb21
                        clear hHeld
                        try go_wp2_with fail
                        refine hK.out _ _ (HBD.out) (fun hHeld => ?_)
                        clear hK K
                        refine wpAnyH_ready (rs := [6]) (by kernel_rfl) (by simp) ?_
                        refine AllReadyH.cons rfl (fun K hK => ?_) AllReadyH.nil
                        refine step_append_lies _ (by rfl) _ _ _ (by rfl) (wd.heap.size) 3 i0 (.int .i64 0) 1 8 Try.underlying22 hi hz0 hz1 hz2 rfl (by decide) _ _ _ (by rfl) HO.out _ 1 1 [.int .i64 (p + m)] (by rfl) (by rfl) HNW.out ?c2 (by decide) ?c3 ?c4 ?c5 _ rfl ?_
                        case c2 => first | (intro u hu; simp at hu; subst hu; rfl) | rfl
                        case c3 => unfold maxLen; rw [List.length_take]; omega
                        case c4 => rw [List.length_take]; omega
                        case c5 => exact HBD.out.size
                        intro g31 c31 w31 hown' hgrow hlies hlt9
                        have HBD := Lib.hid (HBD.out.trans (below_grown hgrow (fun b hb => (owns_block HO.out b hb).1) HBD.out.size))
                        have HO := Lib.hid hown'
                        clear hown' hgrow hlies hlt9 HNW
                        clear hHeld
                        refine hK.out _ _ (HBD.out) (fun hHeld => ?_)
                        clear hK K
                        refine wpAnyH_ready (rs := [10]) (by kernel_rfl) (by simp) ?_
                        refine AllReadyH.cons rfl (fun K hK => ?_) AllReadyH.nil
                        refine step_append_any (by rfl) _ _ _ (by rfl) (wd.heap.size) 3 i0 (.int .i64 0) 1 8 Try.underlying22 hi hz0 hz1 hz2 rfl (by decide) _ _ _ (by rfl) HO.out ⟨g8, j, none⟩ (xs.length - j) (c8 - j) ((xs.drop j).map iv) (by rfl) ?c1 (part_drop HP8.out (by unfold maxLen; omega) hHeld j) ?c2 ?c3 ?c4 ?c5 ?_
                        case c1 => simp
                        case c2 => intro u hu; obtain ⟨z9, _, rfl⟩ := List.mem_map.1 hu; rfl
                        case c3 => unfold maxLen; rw [List.length_take]; omega
                        case c4 => rw [List.length_take]; omega
                        case c5 => exact HBD.out.size
                        intro v41 w41 hown' hgrow
                        have HBD := Lib.hid (HBD.out.trans (below_grown hgrow (fun b hb => (owns_block HO.out b hb).1) HBD.out.size))
                        have HO := Lib.hid hown'
                        clear hown' hgrow
                        clear hHeld
                        refine hK.out _ _ (HBD.out) (fun hHeld => ?_)
                        clear hK K
                        refine wpAnyH_take (i := 11) (oi := _) (v := ?_) rfl (by kernel_rfl) (by kernel_rfl) (by kernel_rfl) (fun _ _ _ h => h) (Or.inl ⟨by rfl, ?_⟩) (by assumption) ?_
                        rotate_left
                        · (intro w hSw; (try dsimp only at hSw); (first | (go_simp; done) | (go_simp; with_reducible rfl)))
                        simp only [Act.put, List.getElem_toArray, List.getElem_cons_succ, List.getElem_cons_zero, List.setIfInBounds_toArray, List.set_cons_zero, List.set_cons_succ]
                        refine wpAnyH_done (by kernel_rfl) ?_ _
                        refine NoPanic.normal ?_
                        clear hHeld
                        go_wp2_with fail
                        go_roundw
                        case rel => exact pl_yes HSZ.out HXS.out hlt HX.out htk HF2.out HQ.out (by go_num) HO.out HO7.out HO13.out HBX.out HB.out HBD.out
                        case measure => simp [intOf] <;> omega
              · go_wp2_with fail
                go_roundw
                case rel => exact pl_no hlt HX.out (by omega) (by go_num) ⟨_, _, _, rfl⟩ HO8.out HO7.out HO13.out HAP.out HBX.out HB.out
                case measure => simp [intOf] <;> omega
            · have hi1 : ¬ (k : Int) < ps.length := by omega
              have hke2 : k = ps.length := by omega
              have HKE2 := Lib.hid hke2
              clear hke2
              go_wp2_with fail
              go_ret3
              refine ll_R HR.out ⟨_, _, rfl, ⟨?_, ?_, HAP.out, fun b e => (owns_block HO7.out b e).2, fun b e => (owns_block HO8.out b e).2⟩, HB.out⟩
              · rw [HBS.out]
                exact HO7.out
              · rw [← HKE2.out]
                exact HO8.out
end Go.Proofs.Ythbmiigndhoopaa
