/-
  What is proved: plain facts on orders by their lengths; the model's l7Orders. Conditions: those of each.
-/
import Derived.Test.YtgchodielkodeaaHas
import Derived.Test.YtgchodielkodeaaExw
namespace Go.Proofs.Ytgchodielkodeaa
open Go.RowKit
set_option linter.unusedVariables false
set_option linter.unusedSimpArgs false

/-- an order with one more number, less than k, that it has not -/
def extO (o : List Int) (k : Nat) : List (List Int) := (List.range k).flatMap (fun (x : Nat) => if o.contains (x : Int) then [] else [o ++ [(x : Int)]])
theorem extO_yes {o : List Int} {k : Nat} (h : o.contains (k : Int) = true) : extO o (k + 1) = extO o k := by
  unfold extO
  rw [List.range_succ, List.flatMap_append]
  simp only [List.flatMap_cons, List.flatMap_nil, h, if_true, List.append_nil]
theorem extO_no {o : List Int} {k : Nat} (h : o.contains (k : Int) = false) : extO o (k + 1) = extO o k ++ [o ++ [(k : Int)]] := by
  unfold extO
  rw [List.range_succ, List.flatMap_append]
  simp only [List.flatMap_cons, List.flatMap_nil, h, List.append_nil]
  rfl
theorem extO_len (o : List Int) : ∀ k, (extO o k).length ≤ k
  | 0 => by simp [extO]
  | k + 1 => by
    have ih := extO_len o k
    cases h : o.contains (k : Int)
    · rw [extO_no h, List.length_append]
      simp
      omega
    · rw [extO_yes h]
      omega
theorem extO_elt {o y : List Int} : ∀ {k : Nat}, y ∈ extO o k → y.length = o.length + 1
  | 0, h => by simp [extO] at h
  | k + 1, h => by
    cases hc : o.contains (k : Int)
    · rw [extO_no hc, List.mem_append] at h
      rcases h with h | h
      · exact extO_elt h
      · simp at h
        rw [h]
        simp
    · rw [extO_yes hc] at h
      exact extO_elt h
/-- all orders of a length -/
def lvl (n : Nat) : Nat → List (List Int)
  | 0 => [[]]
  | k + 1 => (lvl n k).flatMap (fun o => extO o n)
theorem flat_len {L : List (List Int)} {n : Nat} : (L.flatMap (fun o => extO o n)).length ≤ L.length * n := by
  induction L with
  | nil => simp
  | cons o L ih =>
    rw [List.flatMap_cons, List.length_append, List.length_cons, Nat.succ_mul]
    have := extO_len o n
    omega
theorem lvl_len {n : Nat} (hn : n ≤ 6) : ∀ k, (lvl n k).length ≤ 6 ^ k
  | 0 => by simp [lvl]
  | k + 1 => by
    have ih := lvl_len hn k
    have h := flat_len (L := lvl n k) (n := n)
    rw [lvl, Nat.pow_succ]
    exact Nat.le_trans h (Nat.mul_le_mul ih hn)
theorem lvl_elt {n : Nat} : ∀ {k : Nat} {o : List Int}, o ∈ lvl n k → o.length = k
  | 0, o, h => by
    simp [lvl] at h
    rw [h]
    rfl
  | k + 1, o, h => by
    rw [lvl, List.mem_flatMap] at h
    obtain ⟨p, hp, ho⟩ := h
    rw [extO_elt ho, lvl_elt hp]
theorem take_flat {L : List (List Int)} {i n : Nat} {o : List Int} (h : L[i]? = some o) : (L.take (i + 1)).flatMap (fun o => extO o n) = (L.take i).flatMap (fun o => extO o n) ++ extO o n := by
  have h2 : L.take (i + 1) = L.take i ++ [o] := by
    rw [List.take_add_one, h]
    rfl
  rw [h2, List.flatMap_append]
  simp
/-- v reads as lists that all have a block -/
def RowsB (w : World) (v : Value) (L : List (List Int)) : Prop :=
  ∃ a c, v = .slice a L.length c ∧ ∀ (i : Nat) o, L[i]? = some o → ∃ go g cc, a = some ⟨go, 0, none⟩ ∧ go < w.heap.size ∧ w.cell? ⟨go, i, none⟩ = some (.slice (some ⟨g, 0, none⟩) o.length cc) ∧ ReadsI w (.slice (some ⟨g, 0, none⟩) o.length cc) o
theorem RowsB.below {w w' : World} {v : Value} {L : List (List Int)} (h : RowsB w v L) (hb : Below w.heap.size w w') : RowsB w' v L := by
  obtain ⟨a, c, hv, hx⟩ := h
  refine ⟨a, c, hv, fun i o hi => ?_⟩
  obtain ⟨go, g, cc, ha, hg, hcell, hr⟩ := hx i o hi
  exact ⟨go, g, cc, ha, Nat.lt_of_lt_of_le hg hb.size, (hb.cell (p := ⟨go, i, none⟩) hg).trans hcell, hr.below hb⟩
theorem rowsB_of {base : Nat} {w : World} {v : Value} {L : List (List Int)} (h : OwnL base v L w) (hne : ∀ o, o ∈ L → o ≠ []) : RowsB w v L := by
  obtain ⟨a, c, hv⟩ := ownL_shape h
  subst hv
  refine ⟨a, c, rfl, fun i o hi => ?_⟩
  obtain ⟨go, u, ha, hg, hcell, hrd⟩ := ownL_at h hi
  obtain ⟨g, cc, hu⟩ := rdT_shape hrd (hne o (List.mem_of_getElem? hi))
  subst hu
  exact ⟨go, g, cc, ha, hg, hcell, hrd.reads⟩
def Lr1 (n : Nat) (w : World) (o i : Value) (wr : World) : Prop :=
  Below w.heap.size w wr ∧ ∃ k : Nat, k ≤ 6 ∧ i = .int .i64 k ∧ OwnL w.heap.size o (lvl n k) wr ∧ RowsB wr o (lvl n k)
def Lr2 (n : Nat) (L : List (List Int)) (w : World) (m i : Value) (wr : World) : Prop :=
  Below w.heap.size w wr ∧ ∃ j : Nat, j ≤ L.length ∧ i = .int .i64 j ∧ OwnL w.heap.size m ((L.take j).flatMap (fun o => extO o n)) wr
def Lr3 (n : Nat) (M : List (List Int)) (o : List Int) (w : World) (m x : Value) (wr : World) : Prop :=
  Below w.heap.size w wr ∧ ∃ k : Nat, k ≤ n ∧ x = .int .i64 k ∧ OwnL w.heap.size m (M ++ extO o k) wr
set_option maxHeartbeats 6400000 in
set_option maxRecDepth 20000 in
theorem l7Orders_any (n many : Nat) (w : World) (hn : n ≤ 6) (hm : many ≤ 6) :
    Calls Try.prog 82 #[.int .i64 n, .int .i64 many] w fun e w' => ∃ v, e = .returned v ∧ OwnL w.heap.size v (lvl n many) w' ∧ RowsB w' v (lvl n many) ∧ Below w.heap.size w w' := by
  obtain ⟨i0, hi, hz0, hz1, hz2⟩ := info_parts infoInt
  obtain ⟨i1, ji, jz0, jz1, jz2⟩ := info_parts infoInts
  have HH := Lib.hid (fun v xs p w hv => l1Has_any v xs p w hv)
  have HOW := Lib.hid (fun g c xs w hv hl => own_some g 0 c xs w hv hl)
  have HLL := Lib.hid (fun k (hk : k ≤ 6) => show (lvl n k).length ≤ 46656 from Nat.le_trans (lvl_len hn k) (Nat.pow_le_pow_right (by omega) hk))
  have HB0 := Lib.hid ((below_new w (.cells #[] 3)).trans ((below_new _ (.cells #[.slice (some ⟨w.heap.size, 0, none⟩) 0 0] 41)).mono (by simp)))
  have hcb : Blk ((w.alloc (.cells #[] 3)).alloc (.cells #[.slice (some ⟨w.heap.size, 0, none⟩) 0 0] 41)) (w.heap.size + 1) #[.slice (some ⟨w.heap.size, 0, none⟩) 0 0] 41 := blk_at _ _ _ _ (by simp)
  have hrd0 : RdT w.heap.size ((w.alloc (.cells #[] 3)).alloc (.cells #[.slice (some ⟨w.heap.size, 0, none⟩) 0 0] 41)) (.slice (some ⟨w.heap.size, 0, none⟩) 0 0) [] :=
    (rdT_of (xs := []) (made_at w w.heap.size w.heap.size rfl (Nat.le_refl _)) (by simp)).below (below_new _ _)
  have HOL0 : Hid (OwnL w.heap.size (.slice (some ⟨w.heap.size + 1, 0, none⟩) 1 1) (lvl n 0) ((w.alloc (.cells #[] 3)).alloc (.cells #[.slice (some ⟨w.heap.size, 0, none⟩) 0 0] 41))) := Lib.hid
    ⟨[.slice (some ⟨w.heap.size, 0, none⟩) 0 0], ⟨rfl, .inr ⟨w.heap.size + 1, 1, #[.slice (some ⟨w.heap.size, 0, none⟩) 0 0], rfl, by omega, hcb, Nat.le_refl _, by decide, rfl, rfl⟩⟩, fun j u xs hu hx => by
      have hj : j = 0 := by
        have := (List.getElem?_eq_some_iff.1 hu).1
        simp at this
        exact this
      subst hj
      cases hu
      cases hx
      exact hrd0⟩
  have HRB0 : Hid (RowsB ((w.alloc (.cells #[] 3)).alloc (.cells #[.slice (some ⟨w.heap.size, 0, none⟩) 0 0] 41)) (.slice (some ⟨w.heap.size + 1, 0, none⟩) 1 1) (lvl n 0)) := Lib.hid
    ⟨_, 1, rfl, fun i o hi => by
      have hi0 : i = 0 := by
        have := (List.getElem?_eq_some_iff.1 hi).1
        simp [lvl] at this
        exact this
      subst hi0
      cases hi
      exact ⟨w.heap.size + 1, w.heap.size, 0, rfl, by simp, hcb.cell 0, hrd0.reads⟩⟩
  clear hcb hrd0
  go_enter Try.func82, Try.ntmps82
  go_wp2_with fail
  go_loopw [5, 6] (fun o i wr => Lr1 n w o i wr ∧ ∃ k : Nat, i = .int .i64 k ∧ k ≤ many) (fun _ i _ => many - (intOf i).toNat)
  case atStart => exact ⟨⟨HB0.out, 0, by omega, rfl, HOL0.out, HRB0.out⟩, 0, rfl, Nat.zero_le _⟩
  case round =>
    obtain ⟨⟨hb, k, hk6, rfl, hol, hrb⟩, k', hkk, hkm⟩ := hrel
    have hke : k' = k := by cases hkk; omega
    subst hke
    clear hkk HB0 HOL0 HRB0
    have HB := Lib.hid hb
    have HOL := Lib.hid hol
    have HRB := Lib.hid hrb
    have hll := HLL.out k' hk6
    obtain ⟨oa, oc, hov, hrows⟩ := hrb
    subst hov
    have HROW := Lib.hid hrows
    have HLN := Lib.hid (show lvl n (k' + 1) = (lvl n k').flatMap (fun o => extO o n) from rfl)
    have HEL := Lib.hid (fun o (h : o ∈ lvl n (k' + 1)) => lvl_elt h)
    have HEL0 := Lib.hid (fun o (h : o ∈ lvl n k') => lvl_elt h)
    clear hb hol hrows
    by_cases hlt : (k' : Int) < many
    · obtain ⟨L1, hL1⟩ : ∃ L1, lvl n (k' + 1) = L1 := ⟨_, rfl⟩
      obtain ⟨L, hL⟩ : ∃ L, lvl n k' = L := ⟨_, rfl⟩
      rw [hL1] at HLN HEL
      rw [hL] at HLN HEL0 hll HOL HRB HROW ⊢
      have HL1 := Lib.hid hL1
      clear hL hL1
      have HBN := Lib.hid (below_new wr (.cells #[] 41))
      have HON := Lib.hid (ownL_new wr wr.heap.size wr.heap.size rfl (Nat.le_refl _))
      go_wp2_with fail
      generalize hwk : wr = wk at *
      go_loopw [7, 8] (fun m i wr => Lr2 n L wk m i wr) (fun _ i _ => L.length - (intOf i).toNat)
      case atStart => exact ⟨HBN.out, 0, Nat.zero_le _, rfl, HON.out⟩
      case round =>
        obtain ⟨hb, j, hj, rfl, hol⟩ := hrel
        clear HBN HON
        have HB2 := Lib.hid hb
        have HO2 := Lib.hid hol
        clear hb hol
        by_cases hlt2 : j < L.length
        · obtain ⟨o, hoj⟩ : ∃ o, L[j]? = some o := ⟨L[j], List.getElem?_eq_getElem hlt2⟩
          obtain ⟨go, gr, cc, rfl, hgo, hcell, hrd⟩ := HROW.out j o hoj
          have HTF := Lib.hid (take_flat (n := n) hoj)
          have ho6 : o.length ≤ 6 := by have := HEL0.out o (List.mem_of_getElem? hoj); omega
          have HCE := Lib.hid hcell
          have HRD := Lib.hid hrd
          have hfl := flat_len (L := L.take j) (n := n)
          have hmt : (L.take j).length ≤ 46656 := by rw [List.length_take]; omega
          have hfl2 : ((L.take j).flatMap (fun o => extO o n)).length ≤ 46656 * 6 := Nat.le_trans hfl (Nat.mul_le_mul hmt hn)
          obtain ⟨MN, hMN⟩ : ∃ MN, (L.take (j + 1)).flatMap (fun o => extO o n) = MN := ⟨_, rfl⟩
          obtain ⟨M, hM⟩ : ∃ M, (L.take j).flatMap (fun o => extO o n) = M := ⟨_, rfl⟩
          rw [hMN, hM] at HTF
          rw [hM] at hfl2 HO2
          have HMN := Lib.hid hMN
          clear hM hMN hoj hcell hrd hfl hmt
          have HO3 := Lib.hid (show OwnL wk.heap.size _ (M ++ extO o 0) wr from by have h := HO2.out; simpa [extO] using h)
          have HLX := Lib.hid (fun k => extO_len o k)
          have hj0 : 0 ≤ (j : Int) := by omega
          have hj1 : (j : Int) < L.length := by omega
          go_wp2_with fail
          go_loopw [7, 9] (fun m x wr => Lr3 n M o wk m x wr) (fun _ x _ => n - (intOf x).toNat)
          case atStart => exact ⟨HB2.out, 0, Nat.zero_le _, rfl, HO3.out⟩
          case round =>
            obtain ⟨hb, x, hx, rfl, hol⟩ := hrel
            clear HB2 HO2 HO3
            have HB3 := Lib.hid hb
            have HO3 := Lib.hid hol
            clear hb hol
            have hcx := (HB3.out.cell (p := ⟨go, j, none⟩) hgo).trans HCE.out
            have hlx := HLX.out x
            by_cases hlt3 : (x : Int) < n
            · go_wp2_with fail
              refine (HH.out _ o x _ (HRD.out.below HB3.out)).mono ?_
              generalize hct : o.contains (x : Int) = ct
              have HCT := Lib.hid hct
              clear hct
              rintro e w1 ⟨rfl, rfl⟩
              cases ct
              · have HN := Lib.hid (extO_no (k := x) HCT.out)
                obtain ⟨E1, hE1⟩ : ∃ E1, extO o (x + 1) = E1 := ⟨_, rfl⟩
                obtain ⟨E0, hE0⟩ : ∃ E0, extO o x = E0 := ⟨_, rfl⟩
                rw [hE1, hE0] at HN
                rw [hE0] at HO3 hlx
                have HE1 := Lib.hid hE1
                clear hE0 hE1
                go_wp2_with fail
                refine (HOW.out gr cc o _ (HRD.out.below HB3.out) (by omega)).mono ?_
                rintro e w2 ⟨v2, rfl, ho2, hb2⟩
                have HV2 := Lib.hid ho2
                have HBV := Lib.hid hb2
                clear ho2 hb2 hcx
                have hs2 := HBV.out.size
                have hs1 := HB3.out.size
                go_wp2_with (at_builtin; refine wpList_append_own _ rfl _ _ 41 rfl w1.heap.size 3 i0 (.int .i64 0) 1 8 Try.underlying41 hi hz0 hz1 hz2 rfl (by decide) _ _ _ rfl (HV2.out.alloc _) ⟨w2.heap.size, 0, none⟩ 1 1 [.int .i64 (x)] rfl rfl (cell_one_new _ _ _) ?c2 ?c3 ?c4 ?c5 ?_)
                case c2 => intro u hu; simp at hu; subst hu; rfl
                case c3 => unfold maxLen; omega
                case c4 => omega
                case c5 => simp; omega
                intro v9 w9 hown' hgrow _
                obtain ⟨a9, c9, hv9, ha9⟩ := owns_shape hown'
                obtain ⟨g9, hg9, _, _⟩ := ha9 (by omega)
                subst hv9 hg9
                have hbx : Below w1.heap.size w1 w9 := (HBV.out.alloc hs2 _).trans (below_grown hgrow (fun b hb => (owns_block HV2.out b hb).1) (by simp; omega))
                have hrd9 : RdT wk.heap.size w9 (.slice (some ⟨g9, 0, none⟩) (o.length + 1) c9) (o ++ [(x : Int)]) := by
                  have h := (rdT_of (xs := o ++ [(x : Int)]) (by simpa using hown') (by simp; unfold maxLen; omega)).lower hs1
                  simpa using h
                have HB9 := Lib.hid (HB3.out.trans (hbx.mono hs1))
                have HO9 := Lib.hid (ownL_below HO3.out hbx)
                have HRD9 := Lib.hid hrd9
                obtain ⟨us, htop, hus⟩ := HO9.out
                have HTOP := Lib.hid htop
                have HUS := Lib.hid hus
                have HUL := Lib.hid (show us.length = (M ++ E0).length by have := htop.1; omega)
                have hml : (M ++ E0).length ≤ 300000 := by rw [List.length_append]; omega
                clear hown' hgrow ha9 hbx hrd9 htop hus
                obtain ⟨ma, mc, hmv⟩ := ownL_shape HO9.out
                subst hmv
                have hsz9 := HB9.out.size
                generalize hME : M ++ E0 = ME at *
                have HME := Lib.hid hME
                clear hME
                go_wp2_with (at_builtin; refine wpList_append_own _ rfl _ _ 87 rfl wk.heap.size 41 i1 (.slice none 0 0) 1 24 Try.underlying87 ji jz0 jz1 jz2 rfl (by decide) _ _ _ rfl (HTOP.out.alloc _) ⟨w9.heap.size, 0, none⟩ 1 1 [.slice (some ⟨g9, 0, none⟩) (o.length + 1) c9] rfl rfl (cell_one_new _ _ _) ?d2 ?d3 ?d4 ?d5 ?_)
                case d2 => intro u hu; simp at hu; subst hu; rfl
                case d3 => unfold maxLen; omega
                case d4 => omega
                case d5 => simp; omega
                intro v10 w10 hown10 hgrow10 _
                have HN10 := Lib.hid (ownL_append HO9.out HUS.out HUL.out HRD9.out hown10 hgrow10)
                have HB10 := Lib.hid ((HB9.out.trans ((below_new _ _).mono hsz9)).trans (below_grown (m := wk.heap.size) hgrow10 (fun b hb => (ownL_block HO9.out b hb).1) (by simp; omega)))
                clear hown10 hgrow10
                go_wp2_with fail
                go_roundw
                case rel =>
                  refine ⟨HB10.out, x + 1, by omega, by go_num, ?_⟩
                  rw [HE1.out, HN.out, ← List.append_assoc, HME.out]
                  exact HN10.out
                case measure => simp [intOf] <;> omega
              · have HN := Lib.hid (extO_yes (k := x) HCT.out)
                go_wp2_with fail
                go_roundw
                case rel => exact ⟨HB3.out, x + 1, by omega, by go_num, by rw [HN.out]; exact HO3.out⟩
                case measure => simp [intOf] <;> omega
            · have hxe : x = n := by omega
              subst hxe
              go_wp2_with fail
              go_roundw
              case rel => exact ⟨HB3.out, j + 1, by omega, by go_num, by rw [HMN.out, HTF.out]; exact HO3.out⟩
              case measure => simp [intOf] <;> omega
        · have hje : j = L.length := by omega
          subst hje
          have HOF := Lib.hid (show OwnL wk.heap.size _ L1 wr from by have h := HO2.out; rw [List.take_length, ← HLN.out] at h; exact h)
          have HRF := Lib.hid (rowsB_of HOF.out (fun o ho => by have := HEL.out o ho; intro e; rw [e] at this; simp at this))
          have HBF := Lib.hid (HB.out.trans (HB2.out.mono HB.out.size))
          have hszk := HB.out.size
          go_wp2_with fail
          go_roundw
          case rel => exact ⟨⟨HBF.out, k' + 1, by omega, by go_num, by rw [HL1.out]; exact ownL_lower HOF.out hszk, by rw [HL1.out]; exact HRF.out⟩, k' + 1, by go_num, by omega⟩
          case measure => simp [intOf] <;> omega
    · have hkf : k' = many := by omega
      subst hkf
      go_wp2_with fail
      go_ret
      exact ⟨_, rfl, HOL.out, HRB.out, HB.out⟩
end Go.Proofs.Ytgchodielkodeaa
