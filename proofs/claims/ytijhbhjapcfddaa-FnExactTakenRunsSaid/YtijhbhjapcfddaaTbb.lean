/-
  What is proved: the contracts of the laws' helpers on tables: the size, a copy, equality, the marks. Conditions: tables that read as lists of lists of numbers.
-/
import Derived.Test.YtijhbhjapcfddaaTba
import Derived.Test.YtijhbhjapcfddaaFn1
import Derived.Deep.QuietTactic
import Derived.BigQuiet
import Derived.Deep.RegionHeld3
namespace Go.Proofs.Ytijhbhjapcfddaa
open Go.RowKit
set_option linter.unusedVariables false
set_option linter.unusedSimpArgs false

/-- what szIntSS says -/
def szP (xss : List (List Int)) (l : Nat) (e : Ending) : Prop := if sizeT xss ≤ l then e = .returned (.int .i64 ((l - sizeT xss : Nat) : Int)) else e = .returned (.int .i64 (-1))
theorem lrow_yes (v : Value) (xs : List Int) (l : Nat) (w : World) (hv : ReadsI w v xs) (hl : l ≤ 1048576) (h : xs.length ≤ l) :
    Calls Try.prog 87 #[v, .int .i64 l] w fun e w' => e = .returned (.int .i64 ((l - xs.length : Nat) : Int)) ∧ w = w' := by
  obtain ⟨y, c, rfl, hc, hm, hx⟩ := hv
  unfold maxLen at hm
  clear hx
  have e : ((l - xs.length : Nat) : Int) = (l : Int) - xs.length := by omega
  rw [e]
  have h1 : 0 ≤ (l : Int) - xs.length := by omega
  have h2 : ¬ (l : Int) - xs.length < 0 := by omega
  have h3 : ¬ (l : Int) < xs.length := by omega
  have h4 : (xs.length : Int) ≤ l := by omega
  clear e
  go_enter Try.func87, Try.ntmps87
  go_wp2
  go_ret
  exact ⟨rfl, rfl⟩
theorem lrow_no (v : Value) (xs : List Int) (l : Nat) (w : World) (hv : ReadsI w v xs) (hl : l ≤ 1048576) (h : l < xs.length) :
    Calls Try.prog 87 #[v, .int .i64 l] w fun e w' => e = .returned (.int .i64 (-1)) ∧ w = w' := by
  obtain ⟨y, c, rfl, hc, hm, hx⟩ := hv
  unfold maxLen at hm
  clear hx
  have h1 : ¬ 0 ≤ (l : Int) - xs.length := by omega
  have h2 : (l : Int) - xs.length < 0 := by omega
  have h3 : (l : Int) < xs.length := by omega
  go_enter Try.func87, Try.ntmps87
  go_wp2
  go_ret
  exact ⟨rfl, rfl⟩
def SzRel (xss : List (List Int)) (l : Nat) (w : World) (r q i : Value) (wr : World) : Prop :=
  ∃ k m : Nat, k ≤ xss.length ∧ i = .int .i64 k ∧ xss.length + lenTo xss k + m = l ∧ q = .int .i64 m ∧ wr = w ∧ ∃ z : Int, r = .int .i64 z
theorem szT_any (v : Value) (xss : List (List Int)) (l : Nat) (w : World) (hv : ReadsL w v xss) (hl : l ≤ 1048576) :
    Calls Try.prog 42 #[v, .int .i64 l] w fun e w' => szP xss l e ∧ w = w' := by
  have HY := Lib.hid (fun v xs l w hv hl h => lrow_yes v xs l w hv hl h)
  have HN := Lib.hid (fun v xs l w hv hl h => lrow_no v xs l w hv hl h)
  have HV := Lib.hid hv
  obtain ⟨va, vc, rfl, hvc, hvm, _⟩ := hv
  unfold maxLen at hvm
  by_cases h0 : xss.length ≤ l
  · obtain ⟨m0, hm0⟩ : ∃ m0 : Nat, (l : Int) - xss.length = m0 := ⟨l - xss.length, by omega⟩
    have h1 : 0 ≤ (l : Int) - xss.length := by omega
    have h2 : ¬ (l : Int) - xss.length < 0 := by omega
    have h3 : ¬ (l : Int) < xss.length := by omega
    have h4 : (xss.length : Int) ≤ l := by omega
    have HM0 := Lib.hid hm0
    have hm0b : m0 ≤ 1048576 := by omega
    clear hm0
    go_enter Try.func42, Try.ntmps42
    go_wp2
    rw [HM0.out]
    clear h1 h2 h3 h4
    go_loopw [1, 4, 5] (fun q r i wr => SzRel xss l w r q i wr) (fun _ _ i _ => xss.length - (intOf i).toNat)
    case atStart => exact ⟨0, m0, Nat.zero_le _, rfl, by have := HM0.out; simp [lenTo]; omega, rfl, rfl, _, rfl⟩
    case round =>
      obtain ⟨k, m, hk, rfl, hs, rfl, rfl, z, rfl⟩ := hrel
      have hmb : m ≤ 1048576 := by omega
      by_cases hlt : k < xss.length
      · obtain ⟨xs, hxs⟩ := get_some hlt
        obtain ⟨b, o, a2, c2, rfl, hbl, hcx, hrx⟩ := lists_in HV.out hxs
        have HLN := Lib.hid (lenTo_next hxs)
        have HFT := Lib.hid (row_fits hxs)
        have HS := Lib.hid hs
        have HRX := Lib.hid hrx
        clear hxs hs hrx
        by_cases hf : xs.length ≤ m
        · go_wp2_with fail
          refine (HY.out _ xs m _ HRX.out hmb hf).mono ?_
          rintro e w2 ⟨rfl, rfl⟩
          have hm2 : ((m - xs.length : Nat) : Int) ≥ 0 := by omega
          generalize hmm : m - xs.length = m2 at *
          have HMM := Lib.hid hmm
          clear hmm
          go_wp2_with fail
          go_roundw
          case rel => exact ⟨k + 1, m2, by omega, by go_num, by have := HLN.out; have := HS.out; have := HMM.out; omega, rfl, rfl, _, rfl⟩
          case measure => simp [intOf]; omega
        · have hf2 : m < xs.length := by omega
          go_wp2_with fail
          refine (HN.out _ xs m _ HRX.out hmb hf2).mono ?_
          rintro e w2 ⟨rfl, rfl⟩
          go_wp2_with fail
          go_ret
          refine ⟨?_, rfl⟩
          unfold szP
          rw [if_neg (by unfold sizeT; have := HFT.out; have := HS.out; omega)]
          rfl
      · have hke : k = xss.length := by omega
        subst hke
        have HS := Lib.hid hs
        clear hs
        go_wp2_with fail
        go_ret
        refine ⟨?_, rfl⟩
        unfold szP sizeT
        rw [if_pos (by have := HS.out; omega)]
        exact ret_int (by have := HS.out; omega)
  · have h1 : ¬ 0 ≤ (l : Int) - xss.length := by omega
    have h2 : (l : Int) - xss.length < 0 := by omega
    have h3 : (l : Int) < xss.length := by omega
    go_enter Try.func42, Try.ntmps42
    go_wp2
    go_ret
    refine ⟨?_, rfl⟩
    unfold szP
    rw [if_neg (by unfold sizeT; omega)]
    rfl
theorem szT_yes (v : Value) (xss : List (List Int)) (l : Nat) (w : World) (hv : ReadsL w v xss) (hl : l ≤ 1048576) (h : sizeT xss ≤ l) :
    Calls Try.prog 42 #[v, .int .i64 l] w fun e w' => e = .returned (.int .i64 ((l - sizeT xss : Nat) : Int)) ∧ w = w' :=
  (szT_any v xss l w hv hl).mono fun e w' ⟨he, hw⟩ => ⟨by unfold szP at he; rw [if_pos h] at he; exact he, hw⟩
theorem szT_no (v : Value) (xss : List (List Int)) (l : Nat) (w : World) (hv : ReadsL w v xss) (hl : l ≤ 1048576) (h : ¬ sizeT xss ≤ l) :
    Calls Try.prog 42 #[v, .int .i64 l] w fun e w' => e = .returned (.int .i64 (-1)) ∧ w = w' :=
  (szT_any v xss l w hv hl).mono fun e w' ⟨he, hw⟩ => ⟨by unfold szP at he; rw [if_neg h] at he; exact he, hw⟩
/-- the cells of a copy when k rows stand -/
def rowsTo (us : List Value) (n k : Nat) : List Value := us ++ List.replicate (n - k) (.slice none 0 0)
def TtRel (xss : List (List Int)) (base : Nat) (w : World) (i : Value) (wr : World) : Prop :=
  ∃ (k : Nat) (us : List Value), k ≤ xss.length ∧ us.length = k ∧ i = .int .i64 k ∧ wr.ownsRow base 24 1 (.slice (some ⟨base, 0, none⟩) xss.length xss.length) xss.length (rowsTo us xss.length k) ∧
    (∀ (j : Nat) u xs, us[j]? = some u → xss[j]? = some xs → wr.ownsRow (base + 1) 3 1 u xs.length (xs.map iv)) ∧
    (∀ (i j b : Nat) u u', us[i]? = some u → us[j]? = some u' → u.ownBlock = some b → u'.ownBlock = some b → i = j) ∧ Below base w wr ∧ base < wr.heap.size
theorem rowsTo_set (us : List Value) (n k : Nat) (u : Value) (hl : us.length = k) (h : k < n) : (rowsTo us n k).set k u = rowsTo (us ++ [u]) n (k + 1) := by
  unfold rowsTo
  rw [List.set_append_right _ _ (by omega), hl, Nat.sub_self, show n - k = (n - (k + 1)) + 1 by omega, List.replicate_succ, List.set_cons_zero, List.append_assoc]
  rfl
theorem rowsTo_at (us : List Value) (n k : Nat) (hl : us.length = k) (h : k < n) : (rowsTo us n k)[k]? = some (.slice none 0 0) := by
  unfold rowsTo
  rw [List.getElem?_append_right (by omega), hl, Nat.sub_self, List.getElem?_replicate, if_pos (by omega)]
theorem apart_snoc {us : List Value} {u : Value} {m : Nat} (h : ∀ (i j b : Nat) u u', us[i]? = some u → us[j]? = some u' → u.ownBlock = some b → u'.ownBlock = some b → i = j)
    (h1 : ∀ (j b : Nat) y, us[j]? = some y → y.ownBlock = some b → b < m) (h2 : ∀ b, u.ownBlock = some b → m ≤ b) : ∀ (i j b : Nat) y y', (us ++ [u])[i]? = some y → (us ++ [u])[j]? = some y' → y.ownBlock = some b → y'.ownBlock = some b → i = j := by
  have new : ∀ (k : Nat) z, (us ++ [u])[k]? = some z → ¬ k < us.length → k = us.length ∧ z = u := by
    intro k z hz hk
    have hk2 : k = us.length := by
      have := (List.getElem?_eq_some_iff.1 hz).1
      simp at this
      omega
    subst hk2
    rw [List.getElem?_append_right (Nat.le_refl _), Nat.sub_self] at hz
    cases hz
    exact ⟨rfl, rfl⟩
  intro i j b y y' hy hy' hb hb'
  by_cases hi : i < us.length
  · rw [List.getElem?_append_left hi] at hy
    by_cases hj : j < us.length
    · rw [List.getElem?_append_left hj] at hy'
      exact h i j b y y' hy hy' hb hb'
    · obtain ⟨_, rfl⟩ := new j y' hy' hj
      have := h1 i b y hy hb
      have := h2 b hb'
      omega
  · obtain ⟨e, rfl⟩ := new i y hy hi
    by_cases hj : j < us.length
    · rw [List.getElem?_append_left hj] at hy'
      have := h1 j b y' hy' hb'
      have := h2 b hb
      omega
    · have := (new j y' hy' hj).1
      omega
set_option maxHeartbeats 800000 in
theorem toT_any (v : Value) (xss : List (List Int)) (w : World) (hv : ReadsL w v xss) (hn : sizeT xss ≤ 1048576) :
    Calls Try.prog 44 #[v] w (OwnsT w.heap.size xss w) := by
  have HT := Lib.hid (fun v xs w hv hn => toI_any v xs w hv hn)
  have HV := Lib.hid hv
  obtain ⟨a, c, rfl, hc, hm, _⟩ := hv
  have hl : xss.length ≤ 1048576 := by unfold sizeT at hn; omega
  have HN := Lib.hid hn
  clear hm hn
  obtain ⟨i0, hi, hz0, hz1, hz2⟩ := info_parts infoTab
  go_enter Try.func44, Try.ntmps44
  go_wp2_with (at_make; refine wpList_make_full _ rfl _ _ 47 rfl w.heap.size 24 i0 (.slice none 0 0) 1 Try.underlying47 hi hz0 hz1 .i64 .i64 _ _ xss.length rfl rfl rfl rfl ?c1 ?c2 ?c3 ?_)
  case c1 => rw [hz2]; omega
  case c2 => unfold maxLen; omega
  case c3 => exact Nat.le_refl _
  intro w1 hown hgrow
  have hb1 : Below w.heap.size w w1 := (Below.refl _ _).grown hgrow (Nat.le_refl _) (fun k e => by cases e)
  have hz3 : w.heap.size < w1.heap.size := by
    rcases hown.2 with ⟨h, _⟩ | ⟨g, cap, cur, h, _, hb, _⟩
    · cases h
    · cases h
      exact (Array.getElem?_eq_some_iff.1 hb).1
  have hst : (madeCells #[Value.slice none 0 0] xss.length).toList = rowsTo [] xss.length 0 := by
    apply List.ext_getElem?
    intro j
    by_cases hj : j < xss.length
    · simp [rowsTo, madeCells, hj, Nat.mod_one]
    · simp [rowsTo, madeCells, hj]
  rw [hst] at hown
  clear hgrow hst
  go_wp2
  go_loopw [4] (fun i wr => TtRel xss w.heap.size w i wr) (fun i _ => xss.length - (intOf i).toNat)
  case atStart => exact ⟨0, [], Nat.zero_le _, rfl, rfl, hown, fun j u xs hu => by simp at hu, fun i j b u u' hu => by simp at hu, hb1, hz3⟩
  case round =>
    obtain ⟨k, us, hk, hul, rfl, ho, hrows, hap, hb, hz⟩ := hrel
    clear hown hb1 hz3
    by_cases hlt : k < xss.length
    · obtain ⟨xs, hxk⟩ := get_some hlt
      obtain ⟨bb, o, a2, c2, rfl, hbl, hcell, hrx⟩ := lists_in HV.out hxk
      have hxl : xs.length ≤ 1048576 := by have := row_fits hxk; have := HN.out; unfold sizeT at this; omega
      have hcr : wr.cell? ⟨bb, o + k, none⟩ = some (.slice a2 xs.length c2) := (hb.cell (p := ⟨bb, o + k, none⟩) hbl).trans hcell
      have HRX := Lib.hid (hrx.below hb)
      have Hb := Lib.hid hb
      have Ho := Lib.hid ho
      have HXK := Lib.hid hxk
      have HR := Lib.hid hrows
      have HA := Lib.hid hap
      have HU := Lib.hid hul
      clear hxk ho hb hcell hrx hrows hap hul
      go_wp2_with fail
      refine (HT.out _ xs _ HRX.out hxl).mono ?_
      rintro e w2 ⟨u, rfl, hou, hb2⟩
      have Ho2 := Lib.hid (row_below Ho.out hb2)
      have hold : w2.cell? ⟨w.heap.size, k, none⟩ = some (.slice none 0 0) := (Ho2.out.cellAt k (by omega)).trans (rowsTo_at us _ k HU.out hlt)
      have hfr := Ho2.out.frozenAt k
      have Hst := Lib.hid (Ho2.out.stored k u)
      have Hset := Lib.hid (rowsTo_set us xss.length k u HU.out hlt)
      have Hb2 := Lib.hid hb2
      have HZ2 := Lib.hid (Nat.lt_of_lt_of_le hz hb2.size)
      have HOU := Lib.hid hou
      obtain ⟨ua, uc, hus, _⟩ := row_shape hou
      subst hus
      clear hou hb2
      go_wp2_with fail
      go_roundw
      case rel =>
        have hg := Hst.out.2
        refine ⟨k + 1, us ++ [.slice ua xs.length uc], by omega, by rw [List.length_append, HU.out]; rfl, by go_num, by rw [← Hset.out]; exact Hst.out.1, fun j y ys hy hys => ?_, ?_, (Hb.out.trans (Hb2.out.mono (Nat.le_of_lt hz))).setCell (p := ⟨w.heap.size, k, none⟩) (Nat.le_refl _) _, by simpa [World.setCell] using HZ2.out⟩
        · have keep : ∀ (q : Value) n zs, w2.ownsRow (w.heap.size + 1) 3 1 q n zs → (w2.setCell ⟨w.heap.size, k, none⟩ (.slice ua xs.length uc)).ownsRow (w.heap.size + 1) 3 1 q n zs := by
            intro q n zs hq
            exact hq.kept (World.grownBy.mk hg.os hg.tape hg.output hg.size hg.block) (by
              cases hq2 : q.ownBlock
              · exact .inl rfl
              · refine .inr (fun e => ?_)
                have h1 := (row_block hq _ hq2).1
                simp [Value.ownBlock] at e
                omega)
          by_cases hj : j < k
          · rw [List.getElem?_append_left (by rw [HU.out]; exact hj)] at hy
            exact keep _ _ _ (row_below (HR.out j y ys hy hys) Hb2.out)
          · have hjk : j = k := by
              have := (List.getElem?_eq_some_iff.1 hy).1
              rw [List.length_append, HU.out] at this
              simp at this
              omega
            subst hjk
            rw [List.getElem?_append_right (by rw [HU.out]; exact Nat.le_refl _), HU.out, Nat.sub_self] at hy
            cases hy
            rw [HXK.out] at hys
            cases hys
            exact keep _ _ _ (row_lower HOU.out hz)
        · refine apart_snoc (m := wr.heap.size) HA.out (fun j b y hy hb => ?_) (fun b hb => (row_block HOU.out b hb).1)
          obtain ⟨ys, hys⟩ := get_some (xs := xss) (k := j) (by have := (List.getElem?_eq_some_iff.1 hy).1; rw [HU.out] at this; omega)
          exact (row_block (HR.out j y ys hy hys) b hb).2.1
      case measure => simp [intOf]; omega
    · have hke : k = xss.length := by omega
      subst hke
      have Ho := Lib.hid ho
      have Hb := Lib.hid hb
      have HR := Lib.hid hrows
      have HA := Lib.hid hap
      have HU := Lib.hid hul
      clear ho hb hrows hap hul
      go_wp2
      go_ret
      have e : rowsTo us xss.length xss.length = us := by simp [rowsTo]
      refine ⟨_, us, rfl, OwnT.lt (hi := wr.heap.size) ⟨HU.out, by rw [← e]; exact Ho.out, fun j u xs hu hx => row_lower (HR.out j u xs hu hx) (Nat.le_succ _), HA.out, fun b hb => (row_block Ho.out b hb).2.1, fun j b u hu hb => ?_⟩, Hb.out⟩
      obtain ⟨xs, hx⟩ := row_at HU.out hu
      exact (row_block (HR.out j u xs hu hx) b hb).2.1
def EtRel (n : Nat) (w : World) (i : Value) (wr : World) : Prop := ∃ k : Nat, k ≤ n ∧ i = .int .i64 k ∧ Below w.heap.size w wr
set_option maxHeartbeats 400000 in
theorem eqT_yes (v1 v2 : Value) (xss : List (List Int)) (w : World) (h1 : ReadsL w v1 xss) (h2 : ReadsL w v2 xss) :
    Calls Try.prog 46 #[v1, v2] w fun e w' => e = .returned (.bool true) ∧ Below w.heap.size w w' := by
  have HE := Lib.hid (fun v1 v2 xs w h1 h2 => eqI_yes v1 v2 xs w h1 h2)
  have H1 := Lib.hid h1
  have H2 := Lib.hid h2
  obtain ⟨a1, c1, rfl, hc1, hm1, _⟩ := h1
  obtain ⟨a2, c2, rfl, hc2, _, _⟩ := h2
  unfold maxLen at hm1
  go_enter Try.func46, Try.ntmps46
  go_wp2
  go_loopw [4, 5] (fun r i wr => r = .bool false ∧ EtRel xss.length w i wr) (fun _ i _ => xss.length - (intOf i).toNat)
  case atStart => exact ⟨rfl, 0, Nat.zero_le _, rfl, Below.refl _ _⟩
  case round =>
    obtain ⟨rfl, k, hk, rfl, hb⟩ := hrel
    by_cases hlt : k < xss.length
    · obtain ⟨xs, hxk⟩ := get_some hlt
      obtain ⟨b1, o1, a3, c3, rfl, _, hcell1, hr1⟩ := lists_in (H1.out.below hb) hxk
      obtain ⟨b2, o2, a4, c4, rfl, _, hcell2, hr2⟩ := lists_in (H2.out.below hb) hxk
      have HR1 := Lib.hid hr1
      have HR2 := Lib.hid hr2
      have HB := Lib.hid hb
      have hi0 : 0 ≤ (k : Int) := by omega
      have hi1 : (k : Int) < xss.length := by omega
      clear hxk hr1 hr2 hb
      go_wp2
      go_quiet ((go_at_call 23; exact Calls.quiet_of (HE.out _ _ xs _ (HR1.out.below (below_drewN _ _)) (HR2.out.below (below_drewN _ _)))))
      go_wp2
      go_roundw
      case rel => exact ⟨rfl, k + 1, by omega, by go_num, HB.out.trans ((below_drewN _ _).mono HB.out.size)⟩
      case measure => simp [intOf]; omega
    · have HB := Lib.hid hb
      clear hb
      go_wp2
      go_ret
      exact ⟨rfl, HB.out⟩
def MtRelT (K lo hi : Nat) (v : Value) (us : List Value) (xss : List (List Int)) (w : World) (kk i : Value) (wr : World) : Prop :=
  ∃ k j : Nat, k ≤ xss.length ∧ j = K + lenTo xss k ∧ i = .int .i64 k ∧ kk = .int .i64 j ∧ OwnT lo hi v us (mkT K xss k) wr ∧ ChgIn lo hi w wr
def MarkT (K lo hi : Nat) (v : Value) (us : List Value) (xss : List (List Int)) (w : World) (e : Ending) (w' : World) : Prop :=
  e = .returned (.int .i64 ((K + lenTo xss xss.length : Nat) : Int)) ∧ ChgIn lo hi w w' ∧ OwnT lo hi v us (mkT K xss xss.length) w'
set_option maxHeartbeats 800000 in
theorem markT_any (v : Value) (us : List Value) (xss : List (List Int)) (lo hi K : Nat) (w : World) (ho : OwnT lo hi v us xss w) (hn : sizeT xss ≤ 1048576) (hK : K + lenTo xss xss.length ≤ 1048586) :
    Calls Try.prog 47 #[v, .int .i64 K] w (MarkT K lo hi v us xss w) := by
  have HM := Lib.hid (fun v xs base K w ho hn hK => mark_list v xs base K w ho hn hK)
  obtain ⟨a, c, rfl, hlc, hcm, ha⟩ := row_shape ho.top
  unfold maxLen at hcm
  have hl : xss.length ≤ 1048576 := by unfold sizeT at hn; omega
  have HN := Lib.hid hn
  have Ho := Lib.hid ho
  have Ha := Lib.hid ha
  clear ho ha hn
  go_enter Try.func47, Try.ntmps47
  go_wp2
  go_loopw [1, 5] (fun kk i wr => MtRelT K lo hi (.slice a xss.length c) us xss w kk i wr) (fun _ i _ => xss.length - (intOf i).toNat)
  case atStart => exact ⟨0, K, Nat.zero_le _, by simp [lenTo], rfl, rfl, by rw [mkT_zero]; exact Ho.out, ChgIn.refl _ _ _⟩
  case round =>
    obtain ⟨k, j, hk, hj, rfl, rfl, ho, hc⟩ := hrel
    have Hj := Lib.hid hj
    have Hc := Lib.hid hc
    have Ho2 := Lib.hid ho
    clear hj hc ho
    by_cases hlt : k < xss.length
    · obtain ⟨g, rfl, _, _⟩ := Ha.out (by omega)
      obtain ⟨xs, hxs⟩ := get_some hlt
      have hft := row_fits hxs
      have hsz := HN.out
      unfold sizeT at hsz
      obtain ⟨u, hu⟩ := get_some (xs := us) (k := k) (by rw [Ho.out.len]; exact hlt)
      have hrow := Ho2.out.row k u xs hu (mkT_left hxs (Nat.lt_irrefl k))
      have hcell : wr.cell? ⟨g, k, none⟩ = some u := by
        have ht := Ho2.out.top
        rw [mkT_len] at ht
        rw [ht.cellAt k (by omega)]
        exact hu
      have hxl : xs.length ≤ 1048576 := by omega
      have hjK : j ≤ 1048586 := by have := Hj.out; omega
      have HXS := Lib.hid hxs
      have HU := Lib.hid hu
      have HROW := Lib.hid hrow
      have HRB := Lib.hid (fun b hb => And.intro (row_block hrow b hb).1 (Ho2.out.hrow k b u hu hb))
      clear hxs hu hrow hft hsz
      go_wp2_with fail
      refine (HM.out u xs lo j _ HROW.out hxl hjK).mono ?_
      rintro e w2 ⟨rfl, hg, ho2⟩
      have HG := Lib.hid hg
      have HO2 := Lib.hid ho2
      have hj2 : j + xs.length ≤ 2097172 := by omega
      clear hg ho2 hcell
      generalize hjj : j + xs.length = j2 at *
      have HJJ := Lib.hid hjj
      clear hjj
      go_wp2_with fail
      go_roundw
      case rel =>
        refine ⟨k + 1, j2, by omega, by rw [lenTo_next HXS.out]; have := Hj.out; have := HJJ.out; omega, by go_num, rfl, ownT_mark Ho2.out HU.out HXS.out HG.out (by rw [← Hj.out]; exact HO2.out), Hc.out.trans (ChgIn.of_grown HG.out HRB.out)⟩
      case measure => simp [intOf]; omega
    · have hke : k = xss.length := by omega
      subst hke
      go_wp2
      go_ret
      exact ⟨ret_int (by rw [Hj.out]), Hc.out, Ho2.out⟩
def HdRelT (K : Nat) (xss : List (List Int)) (w : World) (r kk i : Value) (wr : World) : Prop :=
  ∃ k j : Nat, k ≤ xss.length ∧ j = K + lenTo xss k ∧ i = .int .i64 k ∧ kk = .int .i64 j ∧ wr = w ∧ ∃ z : Int, r = .int .i64 z
set_option maxHeartbeats 800000 in
theorem heldT_any (v : Value) (xss : List (List Int)) (K : Nat) (w : World) (hv : ReadsL w v (mkT K xss xss.length)) (hn : sizeT xss ≤ 1048576) (hK : K + lenTo xss xss.length ≤ 1048586) :
    Calls Try.prog 52 #[v, .int .i64 K] w fun e w' => e = .returned (.int .i64 ((K + lenTo xss xss.length : Nat) : Int)) ∧ w = w' := by
  have HH := Lib.hid (fun v n K w hv hn hK => held_any v n K w hv hn hK)
  have HV := Lib.hid hv
  obtain ⟨a, c, rfl, hc, hm, _⟩ := hv
  rw [mkT_len] at *
  have hl : xss.length ≤ 1048576 := by unfold sizeT at hn; omega
  have HN := Lib.hid hn
  clear hn hm
  go_enter Try.func52, Try.ntmps52
  go_wp2
  go_loopw [1, 4, 5] (fun kk r i wr => HdRelT K xss w r kk i wr) (fun _ _ i _ => xss.length - (intOf i).toNat)
  case atStart => exact ⟨0, K, Nat.zero_le _, by simp [lenTo], rfl, rfl, rfl, _, rfl⟩
  case round =>
    obtain ⟨k, j, hk, hj, rfl, rfl, rfl, z, rfl⟩ := hrel
    have Hj := Lib.hid hj
    clear hj
    by_cases hlt : k < xss.length
    · obtain ⟨xs, hxs⟩ := get_some hlt
      have hft := row_fits hxs
      have hsz := HN.out
      unfold sizeT at hsz
      have hmk := mkT_done (K := K) (k := xss.length) hxs hlt
      obtain ⟨b, o, a2, c2, rfl, hbl, hcx, hrx⟩ := lists_in HV.out hmk
      rw [mts_len] at hcx hrx
      have hxl : xs.length ≤ 1048576 := by omega
      have hjK : j ≤ 1048586 := by have := Hj.out; omega
      rw [← Hj.out] at hrx
      have HXS := Lib.hid hxs
      have HRX := Lib.hid hrx
      have hj2 : j + xs.length ≤ 2097172 := by omega
      clear hxs hft hsz hmk hrx
      go_wp2_with fail
      refine (HH.out _ xs.length j _ HRX.out hxl hjK).mono ?_
      rintro e w2 ⟨rfl, rfl⟩
      generalize hjj : j + xs.length = j2 at *
      have HJJ := Lib.hid hjj
      clear hjj
      go_wp2_with fail
      go_roundw
      case rel => exact ⟨k + 1, j2, by omega, by rw [lenTo_next HXS.out]; have := Hj.out; have := HJJ.out; omega, by go_num, rfl, rfl, _, rfl⟩
      case measure => simp [intOf]; omega
    · have hke : k = xss.length := by omega
      subst hke
      go_wp2
      go_ret
      exact ⟨ret_int (by rw [Hj.out]), rfl⟩
end Go.Proofs.Ytijhbhjapcfddaa
