/-
  What is proved: the contracts of the laws' helpers on tables: the size, a copy, equality, the marks. Conditions: tables that read as lists of lists of numbers.
-/
import Derived.Test.YtefjignlhlpndaaDoorTba
import Derived.Test.YtefjignlhlpndaaDoorFn1
import Derived.Deep.QuietTactic
import Derived.BigQuiet
import Derived.Deep.RegionHeld3
namespace Go.Proofs.YtefjignlhlpndaaDoor
open Go.RowKit
set_option linter.unusedVariables false
set_option linter.unusedSimpArgs false

/-- what szIntSS says -/
def szP (xss : List (List Int)) (l : Nat) (e : Ending) : Prop := if sizeT xss ≤ l then e = .returned (.int .i64 ((l - sizeT xss : Nat) : Int)) else e = .returned (.int .i64 (-1))
/-- the cells of a copy when k rows stand -/
def rowsTo (us : List Value) (n k : Nat) : List Value := us ++ List.replicate (n - k) (.slice none 0 0)
def TtRel (xss : List (List Int)) (base : Nat) (w : World) (i : Value) (wr : World) : Prop :=
  ∃ (k : Nat) (us : List Value), k ≤ xss.length ∧ us.length = k ∧ i = .int .i64 k ∧ wr.ownsRow base 24 1 (.slice (some ⟨base, 0, none⟩) xss.length xss.length) xss.length (rowsTo us xss.length k) ∧
    (∀ (j : Nat) u xs, us[j]? = some u → xss[j]? = some xs → wr.ownsRow (base + 1) 3 1 u xs.length (xs.map iv)) ∧
    (∀ (i j b : Nat) u u', us[i]? = some u → us[j]? = some u' → u.ownBlock = some b → u'.ownBlock = some b → i = j) ∧ Below base w wr ∧ base < wr.heap.size
theorem rowsTo_set (us : List Value) (n k : Nat) (u : Value) (hl : us.length = k) (h : k < n) : (rowsTo us n k).set k u = rowsTo (us ++ [u]) n (k + 1) := by
  unfold rowsTo
  rw [List.set_append_right _ _ (by omega), hl, Nat.sub_self, show n - k = (n - (k + 1)) + 1 by omega, List.replicate_succ, List.set_cons_zero, List.append_assoc]
  rfl
theorem rowsTo_at (us : List Value) (n k : Nat) (hl : us.length = k) (h : k < n) : (rowsTo us n k)[k]? = some (.slice none 0 0) := by
  unfold rowsTo
  rw [List.getElem?_append_right (by omega), hl, Nat.sub_self, List.getElem?_replicate, if_pos (by omega)]
theorem apart_snoc {us : List Value} {u : Value} {m : Nat} (h : ∀ (i j b : Nat) u u', us[i]? = some u → us[j]? = some u' → u.ownBlock = some b → u'.ownBlock = some b → i = j)
    (h1 : ∀ (j b : Nat) y, us[j]? = some y → y.ownBlock = some b → b < m) (h2 : ∀ b, u.ownBlock = some b → m ≤ b) : ∀ (i j b : Nat) y y', (us ++ [u])[i]? = some y → (us ++ [u])[j]? = some y' → y.ownBlock = some b → y'.ownBlock = some b → i = j := by
  have new : ∀ (k : Nat) z, (us ++ [u])[k]? = some z → ¬ k < us.length → k = us.length ∧ z = u := by
    intro k z hz hk
    have hk2 : k = us.length := by
      have := (List.getElem?_eq_some_iff.1 hz).1
      simp at this
      omega
    subst hk2
    rw [List.getElem?_append_right (Nat.le_refl _), Nat.sub_self] at hz
    cases hz
    exact ⟨rfl, rfl⟩
  intro i j b y y' hy hy' hb hb'
  by_cases hi : i < us.length
  · rw [List.getElem?_append_left hi] at hy
    by_cases hj : j < us.length
    · rw [List.getElem?_append_left hj] at hy'
      exact h i j b y y' hy hy' hb hb'
    · obtain ⟨_, rfl⟩ := new j y' hy' hj
      have := h1 i b y hy hb
      have := h2 b hb'
      omega
  · obtain ⟨e, rfl⟩ := new i y hy hi
    by_cases hj : j < us.length
    · rw [List.getElem?_append_left hj] at hy'
      have := h1 j b y' hy' hb'
      have := h2 b hb
      omega
    · have := (new j y' hy' hj).1
      omega
def EtRel (n : Nat) (w : World) (i : Value) (wr : World) : Prop := ∃ k : Nat, k ≤ n ∧ i = .int .i64 k ∧ Below w.heap.size w wr
set_option maxHeartbeats 400000 in
theorem eqT_yes (v1 v2 : Value) (xss : List (List Int)) (w : World) (h1 : ReadsL w v1 xss) (h2 : ReadsL w v2 xss) :
    Calls Tryd.prog 10 #[v1, v2] w fun e w' => e = .returned (.bool true) ∧ Below w.heap.size w w' := by
  have HE := Lib.hid (fun v1 v2 xs w h1 h2 => eqI_yes v1 v2 xs w h1 h2)
  have H1 := Lib.hid h1
  have H2 := Lib.hid h2
  obtain ⟨a1, c1, rfl, hc1, hm1, _⟩ := h1
  obtain ⟨a2, c2, rfl, hc2, _, _⟩ := h2
  unfold maxLen at hm1
  go_enter Tryd.func10, Tryd.ntmps10
  go_wp2
  go_loopw [4, 5] (fun r i wr => r = .bool false ∧ EtRel xss.length w i wr) (fun _ i _ => xss.length - (intOf i).toNat)
  case atStart => exact ⟨rfl, 0, Nat.zero_le _, rfl, Below.refl _ _⟩
  case round =>
    obtain ⟨rfl, k, hk, rfl, hb⟩ := hrel
    by_cases hlt : k < xss.length
    · obtain ⟨xs, hxk⟩ := get_some hlt
      obtain ⟨b1, o1, a3, c3, rfl, _, hcell1, hr1⟩ := lists_in (H1.out.below hb) hxk
      obtain ⟨b2, o2, a4, c4, rfl, _, hcell2, hr2⟩ := lists_in (H2.out.below hb) hxk
      have HR1 := Lib.hid hr1
      have HR2 := Lib.hid hr2
      have HB := Lib.hid hb
      have hi0 : 0 ≤ (k : Int) := by omega
      have hi1 : (k : Int) < xss.length := by omega
      clear hxk hr1 hr2 hb
      go_wp2
      go_quiet ((go_at_call 27; exact Calls.quiet_of (HE.out _ _ xs _ (HR1.out.below (below_drewN _ _)) (HR2.out.below (below_drewN _ _)))))
      go_wp2
      go_roundw
      case rel => exact ⟨rfl, k + 1, by omega, by go_num, HB.out.trans ((below_drewN _ _).mono HB.out.size)⟩
      case measure => simp [intOf]; omega
    · have HB := Lib.hid hb
      clear hb
      go_wp2
      go_ret
      exact ⟨rfl, HB.out⟩
def MtRelT (K lo hi : Nat) (v : Value) (us : List Value) (xss : List (List Int)) (w : World) (kk i : Value) (wr : World) : Prop :=
  ∃ k j : Nat, k ≤ xss.length ∧ j = K + lenTo xss k ∧ i = .int .i64 k ∧ kk = .int .i64 j ∧ OwnT lo hi v us (mkT K xss k) wr ∧ ChgIn lo hi w wr
def MarkT (K lo hi : Nat) (v : Value) (us : List Value) (xss : List (List Int)) (w : World) (e : Ending) (w' : World) : Prop :=
  e = .returned (.int .i64 ((K + lenTo xss xss.length : Nat) : Int)) ∧ ChgIn lo hi w w' ∧ OwnT lo hi v us (mkT K xss xss.length) w'
set_option maxHeartbeats 800000 in
theorem markT_any (v : Value) (us : List Value) (xss : List (List Int)) (lo hi K : Nat) (w : World) (ho : OwnT lo hi v us xss w) (hn : sizeT xss ≤ 1048576) (hK : K + lenTo xss xss.length ≤ 1048586) :
    Calls Tryd.prog 13 #[v, .int .i64 K] w (MarkT K lo hi v us xss w) := by
  have HM := Lib.hid (fun v xs base K w ho hn hK => mark_list v xs base K w ho hn hK)
  obtain ⟨a, c, rfl, hlc, hcm, ha⟩ := row_shape ho.top
  unfold maxLen at hcm
  have hl : xss.length ≤ 1048576 := by unfold sizeT at hn; omega
  have HN := Lib.hid hn
  have Ho := Lib.hid ho
  have Ha := Lib.hid ha
  clear ho ha hn
  go_enter Tryd.func13, Tryd.ntmps13
  go_wp2
  go_loopw [1, 5] (fun kk i wr => MtRelT K lo hi (.slice a xss.length c) us xss w kk i wr) (fun _ i _ => xss.length - (intOf i).toNat)
  case atStart => exact ⟨0, K, Nat.zero_le _, by simp [lenTo], rfl, rfl, by rw [mkT_zero]; exact Ho.out, ChgIn.refl _ _ _⟩
  case round =>
    obtain ⟨k, j, hk, hj, rfl, rfl, ho, hc⟩ := hrel
    have Hj := Lib.hid hj
    have Hc := Lib.hid hc
    have Ho2 := Lib.hid ho
    clear hj hc ho
    by_cases hlt : k < xss.length
    · obtain ⟨g, rfl, _, _⟩ := Ha.out (by omega)
      obtain ⟨xs, hxs⟩ := get_some hlt
      have hft := row_fits hxs
      have hsz := HN.out
      unfold sizeT at hsz
      obtain ⟨u, hu⟩ := get_some (xs := us) (k := k) (by rw [Ho.out.len]; exact hlt)
      have hrow := Ho2.out.row k u xs hu (mkT_left hxs (Nat.lt_irrefl k))
      have hcell : wr.cell? ⟨g, k, none⟩ = some u := by
        have ht := Ho2.out.top
        rw [mkT_len] at ht
        rw [ht.cellAt k (by omega)]
        exact hu
      have hxl : xs.length ≤ 1048576 := by omega
      have hjK : j ≤ 1048586 := by have := Hj.out; omega
      have HXS := Lib.hid hxs
      have HU := Lib.hid hu
      have HROW := Lib.hid hrow
      have HRB := Lib.hid (fun b hb => And.intro (row_block hrow b hb).1 (Ho2.out.hrow k b u hu hb))
      clear hxs hu hrow hft hsz
      go_wp2_with fail
      refine (HM.out u xs lo j _ HROW.out hxl hjK).mono ?_
      rintro e w2 ⟨rfl, hg, ho2⟩
      have HG := Lib.hid hg
      have HO2 := Lib.hid ho2
      have hj2 : j + xs.length ≤ 2097172 := by omega
      clear hg ho2 hcell
      generalize hjj : j + xs.length = j2 at *
      have HJJ := Lib.hid hjj
      clear hjj
      go_wp2_with fail
      go_roundw
      case rel =>
        refine ⟨k + 1, j2, by omega, by rw [lenTo_next HXS.out]; have := Hj.out; have := HJJ.out; omega, by go_num, rfl, ownT_mark Ho2.out HU.out HXS.out HG.out (by rw [← Hj.out]; exact HO2.out), Hc.out.trans (ChgIn.of_grown HG.out HRB.out)⟩
      case measure => simp [intOf]; omega
    · have hke : k = xss.length := by omega
      subst hke
      go_wp2
      go_ret
      exact ⟨ret_int (by rw [Hj.out]), Hc.out, Ho2.out⟩
def HdRelT (K : Nat) (xss : List (List Int)) (w : World) (r kk i : Value) (wr : World) : Prop :=
  ∃ k j : Nat, k ≤ xss.length ∧ j = K + lenTo xss k ∧ i = .int .i64 k ∧ kk = .int .i64 j ∧ wr = w ∧ ∃ z : Int, r = .int .i64 z
set_option maxHeartbeats 800000 in
theorem heldT_any (v : Value) (xss : List (List Int)) (K : Nat) (w : World) (hv : ReadsL w v (mkT K xss xss.length)) (hn : sizeT xss ≤ 1048576) (hK : K + lenTo xss xss.length ≤ 1048586) :
    Calls Tryd.prog 14 #[v, .int .i64 K] w fun e w' => e = .returned (.int .i64 ((K + lenTo xss xss.length : Nat) : Int)) ∧ w = w' := by
  have HH := Lib.hid (fun v n K w hv hn hK => held_any v n K w hv hn hK)
  have HV := Lib.hid hv
  obtain ⟨a, c, rfl, hc, hm, _⟩ := hv
  rw [mkT_len] at *
  have hl : xss.length ≤ 1048576 := by unfold sizeT at hn; omega
  have HN := Lib.hid hn
  clear hn hm
  go_enter Tryd.func14, Tryd.ntmps14
  go_wp2
  go_loopw [1, 4, 5] (fun kk r i wr => HdRelT K xss w r kk i wr) (fun _ _ i _ => xss.length - (intOf i).toNat)
  case atStart => exact ⟨0, K, Nat.zero_le _, by simp [lenTo], rfl, rfl, rfl, _, rfl⟩
  case round =>
    obtain ⟨k, j, hk, hj, rfl, rfl, rfl, z, rfl⟩ := hrel
    have Hj := Lib.hid hj
    clear hj
    by_cases hlt : k < xss.length
    · obtain ⟨xs, hxs⟩ := get_some hlt
      have hft := row_fits hxs
      have hsz := HN.out
      unfold sizeT at hsz
      have hmk := mkT_done (K := K) (k := xss.length) hxs hlt
      obtain ⟨b, o, a2, c2, rfl, hbl, hcx, hrx⟩ := lists_in HV.out hmk
      rw [mts_len] at hcx hrx
      have hxl : xs.length ≤ 1048576 := by omega
      have hjK : j ≤ 1048586 := by have := Hj.out; omega
      rw [← Hj.out] at hrx
      have HXS := Lib.hid hxs
      have HRX := Lib.hid hrx
      have hj2 : j + xs.length ≤ 2097172 := by omega
      clear hxs hft hsz hmk hrx
      go_wp2_with fail
      refine (HH.out _ xs.length j _ HRX.out hxl hjK).mono ?_
      rintro e w2 ⟨rfl, rfl⟩
      generalize hjj : j + xs.length = j2 at *
      have HJJ := Lib.hid hjj
      clear hjj
      go_wp2_with fail
      go_roundw
      case rel => exact ⟨k + 1, j2, by omega, by rw [lenTo_next HXS.out]; have := Hj.out; have := HJJ.out; omega, by go_num, rfl, rfl, _, rfl⟩
      case measure => simp [intOf]; omega
    · have hke : k = xss.length := by omega
      subst hke
      go_wp2
      go_ret
      exact ⟨ret_int (by rw [Hj.out]), rfl⟩
end Go.Proofs.YtefjignlhlpndaaDoor
