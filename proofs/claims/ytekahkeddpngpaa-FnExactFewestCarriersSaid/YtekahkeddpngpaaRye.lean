/-
  What is proved: ReachOrder of the program, its answer as memory of its own. Conditions: lists that read as carriers.
-/
import Derived.Test.YtekahkeddpngpaaRyc
import Derived.Test.YtekahkeddpngpaaRyd
namespace Go.Proofs.Ytekahkeddpngpaa
open Go.RowKit
set_option linter.unusedVariables false
set_option linter.unusedSimpArgs false

/-- v is a list of lists, each of them memory of its own -/
def OwnQ (base : Nat) (v : Value) (L : List (List Int)) (w : World) : Prop :=
  ∃ us : List Value, w.ownsRow base 24 1 v L.length us ∧ ∀ (j : Nat) u o, us[j]? = some u → L[j]? = some o → w.ownsRow base 3 1 u o.length (o.map iv)
theorem ownQ_below {base : Nat} {v : Value} {L : List (List Int)} {w w' : World} (h : OwnQ base v L w) (hb : Below w.heap.size w w') : OwnQ base v L w' := by
  obtain ⟨us, h1, h2⟩ := h
  exact ⟨us, row_below h1 hb, fun j u o hu ho => row_below (h2 j u o hu ho) hb⟩
theorem ownQ_shape {base : Nat} {v : Value} {L : List (List Int)} {w : World} (h : OwnQ base v L w) : ∃ a c, v = .slice a L.length c := by
  obtain ⟨us, ⟨hl, ⟨he, h0⟩ | ⟨g, cap, cur, he, _⟩⟩, h2⟩ := h
  · exact ⟨none, 0, by rw [he, h0]⟩
  · exact ⟨_, _, he⟩
theorem ownQ_at {base : Nat} {a : Option Addr} {m c : Nat} {L : List (List Int)} {w : World} {j : Nat} {o : List Int} (h : OwnQ base (.slice a m c) L w) (hj : L[j]? = some o) :
    ∃ g u, a = some ⟨g, 0, none⟩ ∧ g < w.heap.size ∧ w.cell? ⟨g, j, none⟩ = some u ∧ w.ownsRow base 3 1 u o.length (o.map iv) := by
  obtain ⟨us, h1, h2⟩ := h
  have hjl := (List.getElem?_eq_some_iff.1 hj).1
  obtain ⟨u, hu⟩ := get_some (xs := us) (k := j) (by have := h1.1; omega)
  rcases h1.2 with ⟨he, h0⟩ | ⟨g, cap, cur, he, hb, hh, hc, _, _, ht⟩
  · omega
  · cases he
    exact ⟨g, u, rfl, (Array.getElem?_eq_some_iff.1 hh).1, (h1.cellAt j (by omega)).trans hu, h2 j u o hu hj⟩
theorem ownQ_append {base : Nat} {v v' u : Value} {L : List (List Int)} {us : List Value} {o : List Int} {w w' : World} {ob : Obj} (h1 : w.ownsRow base 24 1 v L.length us)
    (h2 : ∀ (j : Nat) u o, us[j]? = some u → L[j]? = some o → w.ownsRow base 3 1 u o.length (o.map iv)) (hx : w.ownsRow base 3 1 u o.length (o.map iv))
    (hown : w'.ownsRow base 24 1 v' (L.length + 1) (us ++ [u])) (hg : (w.alloc ob).grownBy w' v.ownBlock) : OwnQ base v' (L ++ [o]) w' := by
  have hl : us.length = L.length := by have := h1.1; omega
  have keep : ∀ {u : Value} {o : List Int}, w.ownsRow base 3 1 u o.length (o.map iv) → w'.ownsRow base 3 1 u o.length (o.map iv) := by
    intro u o hr
    have hr2 := row_below hr (below_new w ob)
    refine hr2.kept hg ?_
    cases hv : u.ownBlock with
    | none => exact .inl rfl
    | some bu =>
      right
      intro e
      obtain ⟨_, hlt, cs, hcs⟩ := row_block hr bu hv
      cases hq : v.ownBlock with
      | none => rw [hq] at e; cases e
      | some bv =>
        rw [hq] at e
        cases e
        obtain ⟨_, _, cs2, hcs2⟩ := row_block h1 bu hq
        rw [hcs] at hcs2
        cases hcs2
  refine ⟨us ++ [u], by rw [List.length_append]; exact hown, fun j y ys hy hys => ?_⟩
  by_cases hj : j < L.length
  · rw [List.getElem?_append_left (by omega)] at hy
    rw [List.getElem?_append_left hj] at hys
    exact keep (h2 j y ys hy hys)
  · have hj2 : j = L.length := by
      have := (List.getElem?_eq_some_iff.1 hys).1
      simp at this
      omega
    subst hj2
    rw [List.getElem?_append_right (by omega), hl, Nat.sub_self] at hy
    rw [List.getElem?_append_right (by omega), Nat.sub_self] at hys
    cases hy
    cases hys
    exact keep hx
theorem ordC_step {m : Nat} {us : List Int} {k : Nat} (h : ordC m us = true) (hk : k < m) : ordC m (us ++ [(k : Int)]) = !us.contains (k : Int) := by
  cases hc : us.contains (k : Int)
  · exact ordC_more h hk hc
  · refine ordC_no (fun h2 => ?_)
    have hn := h2.2
    rw [List.nodup_append] at hn
    have hm : (k : Int) ∈ us := by simpa using hc
    exact hn.2.2 _ hm _ (by simp) rfl
theorem allT_few {n : Nat} (hn : n ≤ 6) (k : Nat) (o : List Int) (h : (queO n k)[k]? = some o) : (queO n k).length ≤ 400000 ∧ o.length ≤ 6 ∧ ordC n o = true := by
  have h1 : (allO n).length ≤ (n + 1) * 6 ^ n := allT_len hn n
  have h2 : (n + 1) * 6 ^ n ≤ 7 * 6 ^ 6 := Nat.mul_le_mul (by omega) (Nat.pow_le_pow_right (by omega) hn)
  have h3 := queO_all n k
  have h4 : (allO n).length = (queO n k).length + (((allO n).drop k).flatMap (fun o => extO o n)).length := by
    conv => lhs; rw [h3]
    rw [List.length_append]
  have ho := allO_ord (List.mem_of_getElem? (queO_at h))
  have h5 := (ordC_iff n o).1 ho
  have h6 := few_below n o h5.2 (fun x hx => by
    obtain ⟨j, hj⟩ := List.getElem?_of_mem hx
    exact h5.1 j x hj)
  exact ⟨by omega, by omega, ho⟩
def Rq1 (n : Int) (g : Bool) (v1 : Value) (cs : List Cr) (a b : Int) (bb : Nat) (w1 : World) (r s q i : Value) (wr : World) : Prop :=
  r = .slice none 0 0 ∧ s = .bool false ∧ Below w1.heap.size w1 wr ∧ ∃ k : Nat, i = .int .i64 k ∧ k ≤ (queO cs.length k).length ∧ OwnQ w1.heap.size q (queO cs.length k) wr ∧ ∀ j y, j < k → (allO cs.length)[j]? = some y → goesP n cs a b y = false
def Rq2 (Q : List (List Int)) (o : List Int) (w1 : World) (m : Nat) (q i : Value) (wr : World) : Prop :=
  Below w1.heap.size w1 wr ∧ ∃ x : Nat, x ≤ m ∧ i = .int .i64 x ∧ OwnQ w1.heap.size q (Q ++ extO o x) wr
theorem rq_ans {R : List Int × Bool} {xs : List Int} {b : Bool} {base : Nat} {w w' : World} {v : Value} (hR : R = (xs, b)) (ho : w'.ownsRow base 3 1 v xs.length (xs.map iv)) (hb : Below base w w') : OwnsB base R.1 R.2 w (.returned (.tuple #[v, .bool b])) w' := by
  subst hR
  exact ⟨v, rfl, ho, hb⟩
theorem queO_zero (m : Nat) : queO m 0 = [[]] := by simp [queO]
set_option maxHeartbeats 6400000 in
set_option maxRecDepth 20000 in
theorem impl_ReachOrder (n : Int) (g : Bool) (v1 : Value) (cs : List Cr) (a b : Int) (w : World) (h1 : ReadsC w v1 cs) :
    Calls Try.prog 48 #[rd n g, v1, .int .i64 a, .int .i64 b] w (OwnsB w.heap.size (roR n g cs a b).1 (roR n g cs a b).2 w) := by
  obtain ⟨i1, ji, jz0, jz1, jz2⟩ := info_parts infoInts
  have HA := Lib.hid (fun w hv => isValidE_any n g v1 cs a b w hv)
  have HRE := Lib.hid (fun v2 os w h1 h2 hc ho hx => reachE_any n g v1 v2 cs os a b w h1 h2 hc ho hx)
  have HIO := Lib.hid (fun y1 c1 v os w hv => isOrderE_any n g y1 cs.length c1 a b v os w hv)
  have HLG := Lib.hid (fun v o x w hv hl => lengthened_any v o x w hv hl)
  have H1 := Lib.hid h1
  have HNO := Lib.hid (fun h => roR_no (n := n) (g := g) (cs := cs) (a := a) (b := b) h)
  have HNN := Lib.hid (fun h h2 => roR_none (n := n) (g := g) (cs := cs) (a := a) (b := b) h h2)
  have HSO := Lib.hid (fun o h h2 => roR_some (n := n) (g := g) (cs := cs) (a := a) (b := b) (o := o) h h2)
  obtain ⟨y1, c1, hv1, _, hm1, _⟩ := h1
  subst hv1
  clear hm1
  have HW := Lib.hid ((below_new w (.cells #[.int .i64 n, .bool g] 27)).trans ((below_new _ (.cells (erC n g (.slice y1 cs.length c1) a b) 64)).mono (by simp)))
  have HB := Lib.hid (blk_at (w.alloc (.cells #[.int .i64 n, .bool g] 27)) (erC n g (.slice y1 cs.length c1) a b) 64 (w.heap.size + 1) (by simp))
  unfold rd erV erC at *
  go_enter Try.func48, Try.ntmps48
  go_wp2_with fail
  refine (HA.out _ (H1.out.below HW.out)).mono ?_
  rintro e w1 ⟨rfl, hb⟩
  replace HW := Lib.hid (HW.out.trans (hb.mono HW.out.size))
  replace HB := Lib.hid (HB.out.below hb)
  clear hb
  cases hk : askB n g cs a b
  · have HE := Lib.hid (HNO.out hk)
    have HMO := Lib.hid (made_at w1 w.heap.size w1.heap.size rfl HW.out.size)
    have HWN := Lib.hid (HW.out.trans ((below_new w1 (.cells #[] 3)).mono HW.out.size))
    clear hk
    go_wp2_with fail
    go_ret2
    exact rq_ans HE.out HMO.out HWN.out
  · have HK := Lib.hid hk
    have HOK := Lib.hid (ask_ok hk)
    have hl6 := HOK.out.2.1.2.1
    have HAA := Lib.hid (show 0 ≤ a ∧ a < n from ⟨HOK.out.2.2.1, by have h9 := HOK.out.2.2.2.1; have h8 := HOK.out.2.2.2.2; omega⟩)
    have HFW := Lib.hid (fun k o h => allT_few hl6 k o h)
    have HHT := Lib.hid (fun k o h hp hn => roF_hit (n := n) (cs := cs) (a := a) (b := b) (k := k) (o := o) h hp hn)
    have HMS := Lib.hid (fun k h hn => roF_miss (n := n) (cs := cs) (a := a) (b := b) (k := k) h hn)
    obtain ⟨NA, hNA⟩ : ∃ NA, (allO cs.length).length = NA := ⟨_, rfl⟩
    have HNA := Lib.hid hNA
    have HBI := Lib.hid ((below_new w1 (.cells #[] 3)).trans ((below_new _ (.cells #[.slice (some ⟨w1.heap.size, 0, none⟩) 0 0] 24)).mono (by simp)))
    have hcb : Blk ((w1.alloc (.cells #[] 3)).alloc (.cells #[.slice (some ⟨w1.heap.size, 0, none⟩) 0 0] 24)) (w1.heap.size + 1) #[.slice (some ⟨w1.heap.size, 0, none⟩) 0 0] 24 := blk_at _ _ _ _ (by simp)
    have HQ0 : Hid (OwnQ w1.heap.size (.slice (some ⟨w1.heap.size + 1, 0, none⟩) 1 1) (queO cs.length 0) ((w1.alloc (.cells #[] 3)).alloc (.cells #[.slice (some ⟨w1.heap.size, 0, none⟩) 0 0] 24))) := Lib.hid (by
      rw [queO_zero]
      exact ⟨[.slice (some ⟨w1.heap.size, 0, none⟩) 0 0], ⟨rfl, .inr ⟨w1.heap.size + 1, 1, #[.slice (some ⟨w1.heap.size, 0, none⟩) 0 0], rfl, by omega, hcb, Nat.le_refl _, by decide, rfl, rfl⟩⟩, fun j u o hu ho => by
        have hj : j = 0 := by
          have := (List.getElem?_eq_some_iff.1 hu).1
          simp at this
          exact this
        subst hj
        cases hu
        cases ho
        exact row_below (made_at w1 w1.heap.size w1.heap.size rfl (Nat.le_refl _)) (below_new _ _)⟩)
    clear hk hNA hcb
    go_wp2_with fail
    go_loopw [8, 9, 11, 12] (fun r s q i wr => Rq1 n g (.slice y1 cs.length c1) cs a b 0 w1 r s q i wr) (fun _ _ _ i _ => NA + 1 - (intOf i).toNat)
    case atStart => exact ⟨rfl, rfl, HBI.out, 0, rfl, Nat.zero_le _, HQ0.out, fun j y hj => by omega⟩
    case round =>
      obtain ⟨rfl, rfl, hb, k, rfl, hkl, hq, hno⟩ := hrel
      clear HBI HQ0
      have HBW := Lib.hid hb
      have HQ := Lib.hid hq
      have HNJ := Lib.hid hno
      have HWW := Lib.hid (HW.out.trans (hb.mono HW.out.size))
      have HBB := Lib.hid (HB.out.below hb)
      clear hb hq hno
      obtain ⟨qa, qc, hqv⟩ := ownQ_shape HQ.out
      subst hqv
      have HFE := Lib.hid (HMS.out k)
      have HNX := Lib.hid (fun o h => queO_next (n := cs.length) (k := k) (o := o) h)
      have HFK := Lib.hid (HFW.out k)
      have HHK := Lib.hid (HHT.out k)
      have HAT := Lib.hid (fun o h => queO_at (n := cs.length) (k := k) (o := o) h)
      obtain ⟨Q1, hQ1⟩ : ∃ Q1, queO cs.length (k + 1) = Q1 := ⟨_, rfl⟩
      obtain ⟨Q, hQ⟩ : ∃ Q, queO cs.length k = Q := ⟨_, rfl⟩
      rw [hQ] at hkl HQ HFE HFK HHK HAT
      rw [hQ1, hQ] at HNX
      have HQ1 := Lib.hid hQ1
      clear hQ1
      by_cases hlt : k < Q.length
      · obtain ⟨o, hok⟩ : ∃ o, Q[k]? = some o := ⟨Q[k], List.getElem?_eq_getElem hlt⟩
        rw [hQ] at *
        obtain ⟨go, u, rfl, hgo, hcell, hrow⟩ := ownQ_at HQ.out hok
        have hfw := HFK.out o hok
        have hQ4 := hfw.1
        have ho6 := hfw.2.1
        have HOC := Lib.hid hfw.2.2
        have HOK2 := Lib.hid hok
        have HUR := Lib.hid hrow
        have HCE := Lib.hid hcell
        have HGO := Lib.hid hgo
        obtain ⟨ua, uc, huv, _⟩ := owns_shape hrow
        subst huv
        have HGP := Lib.hid (show goesP n cs a b o = decide (b ≤ rchF n cs a o) from rfl)
        have HQN := Lib.hid (HNX.out o hok)
        have hk0 : 0 ≤ (k : Int) := by omega
        have hk1 : (k : Int) < Q.length := by omega
        have HKN := Lib.hid (show k < NA by have h9 := (List.getElem?_eq_some_iff.1 (HAT.out o hok)).1; have := HNA.out; omega)
        clear hfw hok hcell hrow hgo
        go_wp2_with fail
        refine wp_region_noPanic ?_
        have HGO2 := Lib.hid (Nat.lt_of_lt_of_le HGO.out ((below_drewN wr 1)).size)
        replace HCE := Lib.hid ((((below_drewN wr 1)).cell (p := ⟨go, k, none⟩) HGO.out).trans HCE.out)
        replace HGO := HGO2
        clear HGO2
        replace HBW := Lib.hid (HBW.out.trans (((below_drewN wr 1)).mono HBW.out.size))
        replace HWW := Lib.hid (HWW.out.trans (((below_drewN wr 1)).mono HWW.out.size))
        replace HBB := Lib.hid (HBB.out.below (below_drewN wr 1))
        replace HQ := Lib.hid (ownQ_below HQ.out (below_drewN wr 1))
        replace HUR := Lib.hid (row_below HUR.out (below_drewN wr 1))
        refine wp_region_held_drew (S := fun w' => (Below w1.heap.size w1 w' ∧ Blk w' (w.heap.size + 1) #[.int .i64 n, .bool g, .slice y1 cs.length c1, .int .i64 a, .int .i64 b] 64) ∧ w'.cell? ⟨w.heap.size + 1, 0, none⟩ = some (.int .i64 n) ∧ w'.cell? ⟨w.heap.size + 1, 1, none⟩ = some (.bool g) ∧ w'.cell? ⟨w.heap.size + 1, 2, none⟩ = some (.slice y1 cs.length c1) ∧ w'.cell? ⟨w.heap.size + 1, 3, none⟩ = some (.int .i64 a) ∧ w'.cell? ⟨w.heap.size + 1, 4, none⟩ = some (.int .i64 b) ∧ w'.cell? ⟨go, k, none⟩ = some (.slice ua o.length uc)) (by kernel_rfl) (⟨⟨HBW.out, HBB.out⟩, HBB.out.cell 0, HBB.out.cell 1, HBB.out.cell 2, HBB.out.cell 3, HBB.out.cell 4, HCE.out⟩) (fun hHeld => ?_)
        refine wpAnyH_take (i := 0) (oi := _) (v := ?_) rfl (by kernel_rfl) (by kernel_rfl) (by kernel_rfl) (fun _ _ _ h => h) (Or.inl ⟨by rfl, ?_⟩) (by assumption) ?_
        rotate_left
        · (intro w hSw; (try dsimp only at hSw); (first | (go_simp; done) | (go_simp; with_reducible rfl)))
        simp only [Act.put, List.getElem_toArray, List.getElem_cons_succ, List.getElem_cons_zero, List.setIfInBounds_toArray, List.set_cons_zero, List.set_cons_succ]
        refine wpAnyH_take (i := 1) (oi := _) (v := ?_) rfl (by kernel_rfl) (by kernel_rfl) (by kernel_rfl) (fun _ _ _ h => h) (Or.inl ⟨by rfl, ?_⟩) (by assumption) ?_
        rotate_left
        · (intro w hSw; (try dsimp only at hSw); (first | (go_simp; done) | (go_simp; with_reducible rfl)))
        simp only [Act.put, List.getElem_toArray, List.getElem_cons_succ, List.getElem_cons_zero, List.setIfInBounds_toArray, List.set_cons_zero, List.set_cons_succ]
        refine wpAnyH_take (i := 2) (oi := _) (v := ?_) rfl (by kernel_rfl) (by kernel_rfl) (by kernel_rfl) (fun _ _ _ h => h) (Or.inl ⟨by rfl, ?_⟩) (by assumption) ?_
        rotate_left
        · (intro w hSw; (try dsimp only at hSw); (first | (go_simp; done) | (go_simp; with_reducible rfl)))
        simp only [Act.put, List.getElem_toArray, List.getElem_cons_succ, List.getElem_cons_zero, List.setIfInBounds_toArray, List.set_cons_zero, List.set_cons_succ]
        refine wpAnyH_take (i := 3) (oi := _) (v := ?_) rfl (by kernel_rfl) (by kernel_rfl) (by kernel_rfl) (fun _ _ _ h => h) (Or.inl ⟨by rfl, ?_⟩) (by assumption) ?_
        rotate_left
        · (intro w hSw; (try dsimp only at hSw); (first | (go_simp; done) | (go_simp; with_reducible rfl)))
        simp only [Act.put, List.getElem_toArray, List.getElem_cons_succ, List.getElem_cons_zero, List.setIfInBounds_toArray, List.set_cons_zero, List.set_cons_succ]
        refine wpAnyH_take (i := 4) (oi := _) (v := ?_) rfl (by kernel_rfl) (by kernel_rfl) (by kernel_rfl) (fun _ _ _ h => h) (Or.inl ⟨by rfl, ?_⟩) (by assumption) ?_
        rotate_left
        · (intro w hSw; (try dsimp only at hSw); (first | (go_simp; done) | (go_simp; with_reducible rfl)))
        simp only [Act.put, List.getElem_toArray, List.getElem_cons_succ, List.getElem_cons_zero, List.setIfInBounds_toArray, List.set_cons_zero, List.set_cons_succ]
        refine wpAnyH_take (i := 6) (oi := _) (v := ?_) rfl (by kernel_rfl) (by kernel_rfl) (by kernel_rfl) (fun _ _ _ h => h) (Or.inl ⟨by rfl, ?_⟩) (by assumption) ?_
        rotate_left
        · (intro w hSw; (try dsimp only at hSw); (first | (go_simp; done) | (go_simp; with_reducible rfl)))
        simp only [Act.put, List.getElem_toArray, List.getElem_cons_succ, List.getElem_cons_zero, List.setIfInBounds_toArray, List.set_cons_zero, List.set_cons_succ]
        refine wpAnyH_ready (rs := [5]) (by kernel_rfl) (by simp) ?_
        refine AllReadyH.cons rfl (fun K hK => ?_) AllReadyH.nil
        go_simp
        refine (HRE.out _ o _ ((H1.out.below HWW.out)) (owns_reads HUR.out (by unfold maxLen; omega)) HOK.out.2.1 HOC.out HAA.out).mono ?_
        rintro en w21 ⟨rfl, hb⟩
        have HGO2 := Lib.hid (Nat.lt_of_lt_of_le HGO.out (hb).size)
        replace HCE := Lib.hid (((hb).cell (p := ⟨go, k, none⟩) HGO.out).trans HCE.out)
        replace HGO := HGO2
        clear HGO2
        replace HBW := Lib.hid (HBW.out.trans ((hb).mono HBW.out.size))
        replace HWW := Lib.hid (HWW.out.trans ((hb).mono HWW.out.size))
        replace HBB := Lib.hid (HBB.out.below hb)
        replace HQ := Lib.hid (ownQ_below HQ.out hb)
        replace HUR := Lib.hid (row_below HUR.out hb)
        clear hb
        clear hHeld
        try go_wp2_with fail
        refine hK.out _ _ (⟨⟨HBW.out, HBB.out⟩, HBB.out.cell 0, HBB.out.cell 1, HBB.out.cell 2, HBB.out.cell 3, HBB.out.cell 4, HCE.out⟩) (fun hHeld => ?_)
        clear hK K
        refine wpAnyH_take (i := 7) (oi := _) (v := ?_) rfl (by kernel_rfl) (by kernel_rfl) (by kernel_rfl) (fun _ _ _ h => h) (Or.inl ⟨by rfl, ?_⟩) (by assumption) ?_
        rotate_left
        · (intro w hSw; (try dsimp only at hSw); (first | (go_simp; done) | (go_simp; with_reducible rfl)))
        simp only [Act.put, List.getElem_toArray, List.getElem_cons_succ, List.getElem_cons_zero, List.setIfInBounds_toArray, List.set_cons_zero, List.set_cons_succ]
        refine wpAnyH_done (by kernel_rfl) ?_ _
        refine NoPanic.normal ?_
        clear hHeld
        by_cases hge : b ≤ rchF n cs a o
        · have HE := Lib.hid (HSO.out o HK.out (HHK.out o HOK2.out (by rw [HGP.out]; exact decide_eq_true hge) HNJ.out))
          have HUL := Lib.hid (row_lower HUR.out HW.out.size)
          have hce := HCE.out
          go_wp2_with fail
          go_ret2
          exact rq_ans HE.out HUL.out HWW.out
        · have HPF := Lib.hid (show goesP n cs a b o = false by rw [HGP.out]; exact decide_eq_false hge)
          have hce := HCE.out
          go_wp2_with fail
          have HQ3 := Lib.hid (show OwnQ w1.heap.size _ (Q ++ extO o 0) _ from by have h := HQ.out; simpa [extO] using h)
          go_loopw [11, 46] (fun q i wr => Rq2 Q o w1 cs.length q i wr) (fun _ i _ => cs.length - (intOf i).toNat)
          case atStart => exact ⟨HBW.out, 0, Nat.zero_le _, rfl, HQ3.out⟩
          case round =>
            obtain ⟨hb, x, hx, rfl, hq⟩ := hrel
            clear HBW HWW HBB HQ HQ3 HUR HCE HGO
            have HBW := Lib.hid hb
            have HQX := Lib.hid hq
            have HWW := Lib.hid (HW.out.trans (hb.mono HW.out.size))
            have HBB := Lib.hid (HB.out.below hb)
            have hxl := extO_len o x
            clear hb hq
            obtain ⟨QE, hQE⟩ : ∃ QE, Q ++ extO o x = QE := ⟨_, rfl⟩
            have hqk : QE[k]? = some o := by rw [← hQE, List.getElem?_append_left hlt]; exact HOK2.out
            have hql : QE.length ≤ 400006 := by rw [← hQE, List.length_append]; omega
            have hkq : (k : Int) < QE.length := by rw [← hQE, List.length_append]; omega
            rw [hQE] at HQX
            have HQE := Lib.hid hQE
            clear hQE hxl
            obtain ⟨qa, qc, hqv⟩ := ownQ_shape HQX.out
            subst hqv
            obtain ⟨gq, u2, rfl, hgq, hcq, hrq⟩ := ownQ_at HQX.out hqk
            obtain ⟨u2a, u2c, hu2, _⟩ := owns_shape hrq
            subst hu2
            have HRQ := Lib.hid hrq
            clear hqk hrq
            by_cases hlt3 : (x : Int) < cs.length
            · have HST := Lib.hid (ordC_step (k := x) HOC.out (by omega))
              go_wp2_with fail
              refine (HLG.out _ o x _ (owns_reads HRQ.out (by unfold maxLen; omega)) (by omega)).mono ?_
              rintro en w5 ⟨vl, rfl, hol, hbl⟩
              obtain ⟨vla, vlc, hvl, _⟩ := owns_shape hol
              rw [List.length_append, List.length_singleton] at hvl
              subst hvl
              have HVL := Lib.hid hol
              have HQ5 := Lib.hid (ownQ_below HQX.out hbl)
              have HBW5 := Lib.hid (HBW.out.trans (hbl.mono HBW.out.size))
              have HBB5 := Lib.hid (HBB.out.below hbl)
              have hsw := HBW.out.size
              clear hcq hol hbl
              have e0 := HBB5.out.cell 0
              have e1 := HBB5.out.cell 1
              have e2 := HBB5.out.cell 2
              have e3 := HBB5.out.cell 3
              have e4 := HBB5.out.cell 4
              go_wp2_with fail
              refine (HIO.out _ _ _ (o ++ [(x : Int)]) _ (owns_reads HVL.out (by simp; unfold maxLen; omega))).mono ?_
              rw [HST.out]
              generalize hct : o.contains (x : Int) = ct
              have HCT := Lib.hid hct
              clear hct
              rintro en w6 ⟨rfl, hb6⟩
              have HVL6 := Lib.hid (row_below (row_lower HVL.out hsw) hb6)
              have HQ6 := Lib.hid (ownQ_below HQ5.out hb6)
              have HBW6 := Lib.hid (HBW5.out.trans (hb6.mono HBW5.out.size))
              clear hb6 e0 e1 e2 e3 e4
              cases ct
              · have HN := Lib.hid (extO_no (k := x) HCT.out)
                obtain ⟨us, htop, hus⟩ := HQ6.out
                have HTOP := Lib.hid htop
                have HUS := Lib.hid hus
                have hsz6 := HBW6.out.size
                clear htop hus
                go_wp2_with (at_builtin; refine wpList_append_own _ rfl _ _ 78 rfl w1.heap.size 24 i1 (.slice none 0 0) 1 24 Try.underlying78 ji jz0 jz1 jz2 rfl (by decide) _ _ _ rfl (HTOP.out.alloc _) ⟨w6.heap.size, 0, none⟩ 1 1 [.slice vla (o.length + 1) vlc] rfl rfl (cell_one_new _ _ _) ?d2 ?d3 ?d4 ?d5 ?_)
                case d2 => intro u hu; simp at hu; subst hu; rfl
                case d3 => unfold maxLen; omega
                case d4 => omega
                case d5 => simp; omega
                intro v10 w10 hown10 hgrow10 _
                have HN10 := Lib.hid (ownQ_append HTOP.out HUS.out HVL6.out hown10 hgrow10)
                have HB10 := Lib.hid ((HBW6.out.trans ((below_new _ _).mono hsz6)).trans (below_grown (m := w1.heap.size) hgrow10 (fun b hb => (row_block HTOP.out b hb).1) (by simp; omega)))
                clear hown10 hgrow10
                go_wp2_with fail
                go_roundw
                case rel =>
                  refine ⟨HB10.out, x + 1, by omega, by go_num, ?_⟩
                  rw [HN.out, ← List.append_assoc, HQE.out]
                  exact HN10.out
                case measure => simp [intOf] <;> omega
              · have HN := Lib.hid (extO_yes (k := x) HCT.out)
                go_wp2_with fail
                go_roundw
                case rel => exact ⟨HBW6.out, x + 1, by omega, by go_num, by rw [HN.out, HQE.out]; exact HQ6.out⟩
                case measure => simp [intOf] <;> omega
            · have hxe : x = cs.length := by omega
              have HXE := Lib.hid hxe
              have HFI := Lib.hid (show OwnQ w1.heap.size _ Q1 wr from by rw [HQN.out, ← hxe, HQE.out]; exact HQX.out)
              have HKL := Lib.hid (show k + 1 ≤ Q1.length from by rw [HQN.out, List.length_append]; omega)
              clear hxe
              go_wp2_with fail
              go_roundw
              case rel =>
                refine ⟨rfl, rfl, HBW.out, k + 1, by go_num, by rw [HQ1.out]; exact HKL.out, by rw [HQ1.out]; exact HFI.out, fun j y hj hy => ?_⟩
                by_cases hjk : j = k
                · subst hjk
                  rw [HAT.out o HOK2.out] at hy
                  cases hy
                  exact HPF.out
                · exact HNJ.out j y (by omega) hy
              case measure => have := HKN.out; simp [intOf] <;> omega
      · have hke : k = Q.length := by omega
        have HE := Lib.hid (HNN.out HK.out (HFE.out hke.symm HNJ.out))
        have HMO := Lib.hid (made_at wr w.heap.size wr.heap.size rfl HWW.out.size)
        have HWN := Lib.hid (HWW.out.trans ((below_new wr (.cells #[] 3)).mono HWW.out.size))
        clear hke
        go_wp2_with fail
        go_ret2
        exact rq_ans HE.out HMO.out HWN.out
end Go.Proofs.Ytekahkeddpngpaa
