/-
  What is proved: ReachOrder of the model, its answer as a list that is read. Conditions: lists that read as carriers.
-/
import Derived.Test.YtgchodielkodeaaRya
import Derived.Test.YtgchodielkodeaaRll
namespace Go.Proofs.Ytgchodielkodeaa
open Go.RowKit
set_option linter.unusedVariables false
set_option linter.unusedSimpArgs false

theorem ordC_more {m : Nat} {us : List Int} {k : Nat} (h : ordC m us = true) (hk : k < m) (hc : us.contains (k : Int) = false) : ordC m (us ++ [(k : Int)]) = true := by
  rw [ordC_iff] at h ⊢
  constructor
  · intro j i hj
    by_cases hl : j < us.length
    · rw [List.getElem?_append_left hl] at hj
      exact h.1 j i hj
    · rw [List.getElem?_append_right (by omega)] at hj
      match hq : j - us.length, hj with
      | 0, hj => cases hj; omega
  · rw [List.nodup_append]
    refine ⟨h.2, by simp, fun a ha b hb e => ?_⟩
    simp at hb
    subst hb e
    have : us.contains (k : Int) = true := by simpa using ha
    rw [hc] at this
    cases this
theorem extO_ord {n : Nat} {o y : List Int} (ho : ordC n o = true) : ∀ {k : Nat}, k ≤ n → y ∈ extO o k → ordC n y = true
  | 0, _, h => by simp [extO] at h
  | k + 1, hk, h => by
    cases hc : o.contains (k : Int)
    · rw [extO_no hc, List.mem_append] at h
      rcases h with h | h
      · exact extO_ord ho (by omega) h
      · simp at h
        rw [h]
        exact ordC_more ho (by omega) hc
    · rw [extO_yes hc] at h
      exact extO_ord ho (by omega) h
theorem lvl_ord {n : Nat} : ∀ {k : Nat} {o : List Int}, o ∈ lvl n k → ordC n o = true
  | 0, o, h => by
    simp [lvl] at h
    rw [h]
    exact (ordC_iff n []).2 ⟨fun j i hj => by simp at hj, List.nodup_nil⟩
  | k + 1, o, h => by
    rw [lvl, List.mem_flatMap] at h
    obtain ⟨p, hp, ho⟩ := h
    exact extO_ord (lvl_ord hp) (Nat.le_refl _) ho
/-- the first order of the lengths below k with p -/
def roN (n : Nat) (p : List Int → Bool) : Nat → Option (List Int)
  | 0 => none
  | k + 1 => match roN n p k with | some o => some o | none => (lvl n k).find? p
theorem roN_none {n : Nat} {p : List Int → Bool} : ∀ {k : Nat}, (∀ m, m < k → ∀ o, o ∈ lvl n m → p o = false) → roN n p k = none
  | 0, _ => rfl
  | k + 1, h => by
    rw [roN, roN_none (fun m hm => h m (by omega))]
    show (lvl n k).find? p = none
    rw [List.find?_eq_none]
    intro o ho
    rw [h k (by omega) o ho]
    simp
theorem roN_some {n : Nat} {p : List Int → Bool} {m : Nat} {o : List Int} (h : ∀ q, q < m → ∀ o, o ∈ lvl n q → p o = false) (hf : (lvl n m).find? p = some o) : ∀ d, roN n p (m + 1 + d) = some o
  | 0 => by
    show roN n p (m + 1) = some o
    rw [roN, roN_none h]
    exact hf
  | d + 1 => by
    show roN n p ((m + 1 + d) + 1) = some o
    rw [roN, roN_some h hf d]
theorem find_at {L : List (List Int)} {p : List Int → Bool} {j : Nat} {o : List Int} (hj : L[j]? = some o) (hp : p o = true) (hn : ∀ i y, i < j → L[i]? = some y → p y = false) : L.find? p = some o := by
  induction L generalizing j with
  | nil => simp at hj
  | cons y L ih =>
    match j, hj, hn with
    | 0, hj, hn =>
      cases hj
      simp [hp]
    | j + 1, hj, hn =>
      have h0 := hn 0 y (by omega) rfl
      rw [List.find?_cons, h0]
      exact ih (by simpa using hj) (fun i z hi hz => hn (i + 1) z (by omega) (by simpa using hz))
/-- whether an order has the reach -/
def goesP (n : Int) (cs : List Cr) (a b : Int) (o : List Int) : Bool := decide (b ≤ rchF n cs a o)
def roF (n : Int) (cs : List Cr) (a b : Int) : Option (List Int) := roN cs.length (goesP n cs a b) (cs.length + 1)
def roR (n : Int) (g : Bool) (cs : List Cr) (a b : Int) : List Int × Bool := match (if askB n g cs a b then roF n cs a b else none) with | some o => (o, true) | none => ([], false)
theorem roR_no {n : Int} {g : Bool} {cs : List Cr} {a b : Int} (h : askB n g cs a b = false) : roR n g cs a b = ([], false) := by
  unfold roR
  rw [h]
  rfl
theorem roR_none {n : Int} {g : Bool} {cs : List Cr} {a b : Int} (h : askB n g cs a b = true) (h2 : roF n cs a b = none) : roR n g cs a b = ([], false) := by
  unfold roR
  rw [if_pos h, h2]
theorem roR_some {n : Int} {g : Bool} {cs : List Cr} {a b : Int} {o : List Int} (h : askB n g cs a b = true) (h2 : roF n cs a b = some o) : roR n g cs a b = (o, true) := by
  unfold roR
  rw [if_pos h, h2]
theorem roF_at {n : Int} {cs : List Cr} {a b : Int} {m j : Nat} {o : List Int} (hm : m ≤ cs.length) (h : ∀ q, q < m → ∀ o, o ∈ lvl cs.length q → goesP n cs a b o = false) (hj : (lvl cs.length m)[j]? = some o) (hp : goesP n cs a b o = true) (hn : ∀ i y, i < j → (lvl cs.length m)[i]? = some y → goesP n cs a b y = false) : roF n cs a b = some o := by
  have h1 := roN_some (n := cs.length) (p := goesP n cs a b) h (find_at hj hp hn) (cs.length - m)
  rwa [show m + 1 + (cs.length - m) = cs.length + 1 by omega] at h1
theorem lvl_none {n m : Nat} {p : List Int → Bool} (h : ∀ q, q < m → ∀ o, o ∈ lvl n q → p o = false) (h2 : ∀ i y, i < (lvl n m).length → (lvl n m)[i]? = some y → p y = false) : ∀ q, q < m + 1 → ∀ o, o ∈ lvl n q → p o = false := by
  intro q hq o ho
  by_cases hqm : q = m
  · subst hqm
    obtain ⟨i, hi⟩ := List.getElem?_of_mem ho
    exact h2 i o (List.getElem?_eq_some_iff.1 hi).1 hi
  · exact h q (by omega) o ho
theorem reads_none (w : World) : ReadsI (w.alloc (.cells #[] 3)) (.slice (some ⟨w.heap.size, 0, none⟩) 0 0) [] := ⟨_, 0, rfl, Nat.le_refl _, by simp, fun j x hj => by simp at hj⟩
theorem rd_ans {R : List Int × Bool} {xs : List Int} {b : Bool} {base : Nat} {w w' : World} {v : Value} (hR : R = (xs, b)) (hr : ReadsI w' v xs) (hb : Below base w w') : ∃ u, Ending.returned (.tuple #[v, .bool b]) = .returned (.tuple #[u, .bool R.2]) ∧ ReadsI w' u R.1 ∧ Below base w w' := by
  subst hR
  exact ⟨v, rfl, hr, hb⟩
def Ro1 (n : Int) (cs : List Cr) (a b : Int) (base : Nat) (w : World) (r s i : Value) (wr : World) : Prop :=
  r = .slice none 0 0 ∧ s = .bool false ∧ Boxed base n false w wr ∧ ∃ m : Nat, m ≤ cs.length + 1 ∧ i = .int .i64 m ∧ ∀ q, q < m → ∀ o, o ∈ lvl cs.length q → goesP n cs a b o = false
def Ro2 (n : Int) (cs : List Cr) (a b : Int) (L : List (List Int)) (base : Nat) (w wk : World) (r s i : Value) (wr : World) : Prop :=
  r = .slice none 0 0 ∧ s = .bool false ∧ Boxed base n false w wr ∧ Below wk.heap.size wk wr ∧ ∃ j : Nat, j ≤ L.length ∧ i = .int .i64 j ∧ ∀ q y, q < j → L[q]? = some y → goesP n cs a b y = false
set_option maxHeartbeats 3200000 in
set_option maxRecDepth 20000 in
theorem spec_ReachOrder (n : Int) (g : Bool) (v : Value) (cs : List Cr) (a b : Int) (w : World) (hv : ReadsC w v cs) :
    Calls Try.prog 34 #[rd n g, v, .int .i64 a, .int .i64 b] w fun e w' => ∃ u, e = .returned (.tuple #[u, .bool (roR n g cs a b).2]) ∧ ReadsI w' u (roR n g cs a b).1 ∧ Below w.heap.size w w' := by
  have HA := Lib.hid (fun w hv => l7Asks_any n g v cs a b w hv)
  have HRE := Lib.hid (fun v2 os w h1 h2 hc ho hx => l7Reach_any n v v2 cs os a w h1 h2 hc ho hx)
  have HLO := Lib.hid (fun m w hn hm => l7Orders_any cs.length m w hn hm)
  have H1 := Lib.hid hv
  have HX := Lib.hid (Boxed.first w n g 28)
  have HNO := Lib.hid (fun h => roR_no (n := n) (g := g) (cs := cs) (a := a) (b := b) h)
  have HNN := Lib.hid (fun h h2 => roR_none (n := n) (g := g) (cs := cs) (a := a) (b := b) h h2)
  have HSO := Lib.hid (fun o h h2 => roR_some (n := n) (g := g) (cs := cs) (a := a) (b := b) (o := o) h h2)
  obtain ⟨y1, c1, hv1, _, hm1, _⟩ := hv
  subst hv1
  clear hm1
  unfold rd at *
  go_enter Try.func34, Try.ntmps34
  go_wp2_with fail
  refine (HA.out _ (H1.out.below HX.out.below)).mono ?_
  rintro e w1 ⟨rfl, hb⟩
  replace HX := Lib.hid (HX.out.next hb)
  clear hb
  have h0 := HX.out.c0
  have h1 := HX.out.c1
  cases hk : askB n g cs a b
  · have HE := Lib.hid (HNO.out hk)
    have HXN := Lib.hid (HX.out.next (below_new w1 (.cells #[] 3)))
    have HRN := Lib.hid (reads_none w1)
    clear hk
    go_wp2_with fail
    go_ret2
    exact rd_ans HE.out HRN.out HXN.out.below
  · have HK := Lib.hid hk
    have HOK := Lib.hid (ask_ok hk)
    have hg := (ask_ok hk).1
    subst hg
    have hl6 := HOK.out.2.1.2.1
    clear hk h0 h1
    go_wp2_with fail
    go_loopw [8, 9, 10] (fun r s i wr => Ro1 n cs a b w.heap.size w r s i wr) (fun _ _ i _ => cs.length + 1 - (intOf i).toNat)
    case atStart => exact ⟨rfl, rfl, HX.out, 0, Nat.zero_le _, rfl, fun q hq => by omega⟩
    case round =>
      obtain ⟨rfl, rfl, hx, m, hm, rfl, hno⟩ := hrel
      clear HX
      have HX := Lib.hid hx
      have HNE := Lib.hid hno
      clear hx hno
      by_cases hlt : (m : Int) ≤ cs.length
      · have hml : m ≤ cs.length := by omega
        have HML := Lib.hid hml
        go_wp2_with fail
        refine (HLO.out m _ hl6 (by omega)).mono ?_
        rintro e w2 ⟨vl, rfl, _, hrows, hb⟩
        have HX2 := Lib.hid (HX.out.next hb)
        have HOL := Lib.hid (fun o (ho : o ∈ lvl cs.length m) => lvl_ord ho)
        have HRT := Lib.hid (fun j o hj => roF_at (n := n) (cs := cs) (a := a) (b := b) (m := m) (j := j) (o := o) hml HNE.out hj)
        have HLN := Lib.hid (fun h2 => lvl_none (n := cs.length) (m := m) (p := goesP n cs a b) HNE.out h2)
        have hLm : (lvl cs.length m).length ≤ 46656 := Nat.le_trans (lvl_len hl6 m) (Nat.pow_le_pow_right (by omega) (show m ≤ 6 by omega))
        obtain ⟨L, hL⟩ : ∃ L, lvl cs.length m = L := ⟨_, rfl⟩
        rw [hL] at hrows HOL HRT HLN hLm
        obtain ⟨la, lc, hlv, hrows⟩ := hrows
        subst hlv
        have HROW := Lib.hid hrows
        clear hrows hb hL hml
        go_wp2_with fail
        generalize hwk : w2 = wk at *
        go_loopw [8, 9, 12] (fun r s i wr => Ro2 n cs a b L w.heap.size w wk r s i wr) (fun _ _ i _ => L.length - (intOf i).toNat)
        case atStart => exact ⟨rfl, rfl, HX2.out, Below.refl _ _, 0, Nat.zero_le _, rfl, fun q y hq => by omega⟩
        case round =>
          obtain ⟨rfl, rfl, hx, hb, j, hj, rfl, hno⟩ := hrel
          clear HX2
          have HX := Lib.hid hx
          have HBK := Lib.hid hb
          have HNJ := Lib.hid hno
          clear hx hb hno
          by_cases hlt2 : j < L.length
          · obtain ⟨o, hoj⟩ : ∃ o, L[j]? = some o := ⟨L[j], List.getElem?_eq_getElem hlt2⟩
            obtain ⟨go, gr, cc, rfl, hgo, hcell, hrd⟩ := HROW.out j o hoj
            have HCE := Lib.hid hcell
            have HRD := Lib.hid hrd
            have HOC := Lib.hid (HOL.out o (List.mem_of_getElem? hoj))
            have HOJ := Lib.hid hoj
            have HGP := Lib.hid (show goesP n cs a b o = decide (b ≤ rchF n cs a o) from rfl)
            have HAA := Lib.hid (show 0 ≤ a ∧ a < n from ⟨HOK.out.2.2.1, by have h9 := HOK.out.2.2.2.1; have h8 := HOK.out.2.2.2.2; omega⟩)
            have hj0 : 0 ≤ (j : Int) := by omega
            have hj1 : (j : Int) < L.length := by omega
            clear hoj hcell hrd
            go_wp2_with fail
            refine wp_region_noPanic ?_
            have HX := Lib.hid (HX.out.next (below_drewN _ 1))
            have HBK := Lib.hid (HBK.out.trans ((below_drewN _ 1).mono HBK.out.size))
            refine wp_region_held_drew (S := fun w' => Boxed w.heap.size n false w w' ∧ w'.cell? ⟨w.heap.size, 0, none⟩ = some (.int .i64 n) ∧ w'.cell? ⟨w.heap.size, 1, none⟩ = some (.bool false) ∧ w'.cell? ⟨go, j, none⟩ = some (.slice (some ⟨gr, 0, none⟩) o.length cc)) (by kernel_rfl) (⟨HX.out, HX.out.c0, HX.out.c1, (HBK.out.cell (p := ⟨go, j, none⟩) hgo).trans HCE.out⟩) (fun hHeld => ?_)
            refine wpAnyH_take (i := 0) (oi := _) (v := ?_) rfl (by kernel_rfl) (by kernel_rfl) (by kernel_rfl) (fun _ _ _ h => h) (Or.inl ⟨by rfl, ?_⟩) (by assumption) ?_
            rotate_left
            · (intro w hSw; (try dsimp only at hSw); (first | (go_simp; done) | (go_simp; with_reducible rfl)))
            simp only [Act.put, List.getElem_toArray, List.getElem_cons_succ, List.getElem_cons_zero, List.setIfInBounds_toArray, List.set_cons_zero, List.set_cons_succ]
            refine wpAnyH_take (i := 1) (oi := _) (v := ?_) rfl (by kernel_rfl) (by kernel_rfl) (by kernel_rfl) (fun _ _ _ h => h) (Or.inl ⟨by rfl, ?_⟩) (by assumption) ?_
            rotate_left
            · (intro w hSw; (try dsimp only at hSw); (first | (go_simp; done) | (go_simp; with_reducible rfl)))
            simp only [Act.put, List.getElem_toArray, List.getElem_cons_succ, List.getElem_cons_zero, List.setIfInBounds_toArray, List.set_cons_zero, List.set_cons_succ]
            refine wpAnyH_take (i := 2) (oi := _) (v := ?_) rfl (by kernel_rfl) (by kernel_rfl) (by kernel_rfl) (fun _ _ _ h => h) (Or.inl ⟨by rfl, ?_⟩) (by assumption) ?_
            rotate_left
            · (intro w hSw; (try dsimp only at hSw); (first | (go_simp; done) | (go_simp; with_reducible rfl)))
            simp only [Act.put, List.getElem_toArray, List.getElem_cons_succ, List.getElem_cons_zero, List.setIfInBounds_toArray, List.set_cons_zero, List.set_cons_succ]
            refine wpAnyH_take (i := 3) (oi := _) (v := ?_) rfl (by kernel_rfl) (by kernel_rfl) (by kernel_rfl) (fun _ _ _ h => h) (Or.inl ⟨by rfl, ?_⟩) (by assumption) ?_
            rotate_left
            · (intro w hSw; (try dsimp only at hSw); (first | (go_simp; done) | (go_simp; with_reducible rfl)))
            simp only [Act.put, List.getElem_toArray, List.getElem_cons_succ, List.getElem_cons_zero, List.setIfInBounds_toArray, List.set_cons_zero, List.set_cons_succ]
            refine wpAnyH_take (i := 4) (oi := _) (v := ?_) rfl (by kernel_rfl) (by kernel_rfl) (by kernel_rfl) (fun _ _ _ h => h) (Or.inl ⟨by rfl, ?_⟩) (by assumption) ?_
            rotate_left
            · (intro w hSw; (try dsimp only at hSw); (first | (go_simp; done) | (go_simp; with_reducible rfl)))
            simp only [Act.put, List.getElem_toArray, List.getElem_cons_succ, List.getElem_cons_zero, List.setIfInBounds_toArray, List.set_cons_zero, List.set_cons_succ]
            refine wpAnyH_take (i := 5) (oi := _) (v := ?_) rfl (by kernel_rfl) (by kernel_rfl) (by kernel_rfl) (fun _ _ _ h => h) (Or.inl ⟨by rfl, ?_⟩) (by assumption) ?_
            rotate_left
            · (intro w hSw; (try dsimp only at hSw); (first | (go_simp; done) | (go_simp; with_reducible rfl)))
            simp only [Act.put, List.getElem_toArray, List.getElem_cons_succ, List.getElem_cons_zero, List.setIfInBounds_toArray, List.set_cons_zero, List.set_cons_succ]
            refine wpAnyH_take (i := 6) (oi := _) (v := ?_) rfl (by kernel_rfl) (by kernel_rfl) (by kernel_rfl) (fun _ _ _ h => h) (Or.inl ⟨by rfl, ?_⟩) (by assumption) ?_
            rotate_left
            · (intro w hSw; (try dsimp only at hSw); (first | (go_simp; done) | (go_simp; with_reducible rfl)))
            simp only [Act.put, List.getElem_toArray, List.getElem_cons_succ, List.getElem_cons_zero, List.setIfInBounds_toArray, List.set_cons_zero, List.set_cons_succ]
            refine wpAnyH_take (i := 8) (oi := _) (v := ?_) rfl (by kernel_rfl) (by kernel_rfl) (by kernel_rfl) (fun _ _ _ h => h) (Or.inl ⟨by rfl, ?_⟩) (by assumption) ?_
            rotate_left
            · (intro w hSw; (try dsimp only at hSw); (first | (go_simp; done) | (go_simp; with_reducible rfl)))
            simp only [Act.put, List.getElem_toArray, List.getElem_cons_succ, List.getElem_cons_zero, List.setIfInBounds_toArray, List.set_cons_zero, List.set_cons_succ]
            refine wpAnyH_ready (rs := [7]) (by kernel_rfl) (by simp) ?_
            refine AllReadyH.cons rfl (fun K hK => ?_) AllReadyH.nil
            go_simp
            refine (HRE.out _ o _ (H1.out.below HX.out.below) (HRD.out.below HBK.out) HOK.out.2.1 HOC.out HAA.out).mono ?_
            rintro en w21 ⟨rfl, hb⟩
            have HX := Lib.hid (HX.out.next hb)
            have HBK := Lib.hid (HBK.out.trans (hb.mono HBK.out.size))
            clear hb
            clear hHeld
            try go_wp2_with fail
            refine hK.out _ _ (⟨HX.out, HX.out.c0, HX.out.c1, (HBK.out.cell (p := ⟨go, j, none⟩) hgo).trans HCE.out⟩) (fun hHeld => ?_)
            clear hK K
            refine wpAnyH_take (i := 9) (oi := _) (v := ?_) rfl (by kernel_rfl) (by kernel_rfl) (by kernel_rfl) (fun _ _ _ h => h) (Or.inl ⟨by rfl, ?_⟩) (by assumption) ?_
            rotate_left
            · (intro w hSw; (try dsimp only at hSw); (first | (go_simp; done) | (go_simp; with_reducible rfl)))
            simp only [Act.put, List.getElem_toArray, List.getElem_cons_succ, List.getElem_cons_zero, List.setIfInBounds_toArray, List.set_cons_zero, List.set_cons_succ]
            refine wpAnyH_done (by kernel_rfl) ?_ _
            refine NoPanic.normal ?_
            clear hHeld
            have hcx := (HBK.out.cell (p := ⟨go, j, none⟩) hgo).trans HCE.out
            by_cases hge : b ≤ rchF n cs a o
            · have HE := Lib.hid (HSO.out o HK.out (HRT.out j o HOJ.out (by rw [HGP.out]; exact decide_eq_true hge) HNJ.out))
              go_wp2_with fail
              go_ret2
              exact rd_ans HE.out (HRD.out.below HBK.out) HX.out.below
            · have HPF := Lib.hid (show goesP n cs a b o = false by rw [HGP.out]; exact decide_eq_false hge)
              go_wp2_with fail
              go_roundw
              case rel =>
                refine ⟨rfl, rfl, HX.out, HBK.out, j + 1, by omega, by go_num, fun q y hq hy => ?_⟩
                by_cases hqj : q = j
                · subst hqj
                  rw [HOJ.out] at hy
                  cases hy
                  exact HPF.out
                · exact HNJ.out q y (by omega) hy
              case measure => simp [intOf] <;> omega
          · have hje : j = L.length := by omega
            subst hje
            have HN2 := Lib.hid (HLN.out HNJ.out)
            go_wp2_with fail
            go_roundw
            case rel => exact ⟨rfl, rfl, HX.out, m + 1, by have := HML.out; omega, by go_num, HN2.out⟩
            case measure => have := HML.out; simp [intOf] <;> omega
      · have hme : m = cs.length + 1 := by omega
        subst hme
        have HE := Lib.hid (HNN.out HK.out (roN_none HNE.out))
        have HXN := Lib.hid (HX.out.next (below_new wr (.cells #[] 3)))
        have HRN := Lib.hid (reads_none wr)
        go_wp2_with fail
        go_ret2
        exact rd_ans HE.out HRN.out HXN.out.below
end Go.Proofs.Ytgchodielkodeaa
