/-
  What is proved: lists of carriers that a function owns; the model's carriers with greater ranges, and its ExtraRange. Conditions: lists that read as carriers.
-/
import Derived.Test.YtgchodielkodeaaRlx
import Derived.Test.YtgchodielkodeaaRlv
import Derived.Test.YtgchodielkodeaaRll
import Derived.Test.YtgchodielkodeaaRlb
import Derived.Test.YtgchodielkodeaaFn19
namespace Go.Proofs.Ytgchodielkodeaa
open Go.RowKit
set_option linter.unusedVariables false
set_option linter.unusedSimpArgs false

/-- the cells of carriers -/
def crCells (cs : List Cr) : List Value := cs.flatMap fun c => [Value.int .i64 c.s, Value.int .i64 c.r, Value.int .i64 c.f]
theorem crCells_len (cs : List Cr) : (crCells cs).length = cs.length * 3 := by
  unfold crCells
  induction cs with
  | nil => rfl
  | cons c cs ih => simp only [List.flatMap_cons, List.length_append, List.length_cons, List.length_nil, ih]; omega
theorem crCells_at : ∀ {cs : List Cr} {j : Nat} {c : Cr}, cs[j]? = some c → (crCells cs)[j * 3]? = some (.int .i64 c.s) ∧ (crCells cs)[j * 3 + 1]? = some (.int .i64 c.r) ∧ (crCells cs)[j * 3 + 2]? = some (.int .i64 c.f)
  | d :: cs, 0, c, h => by
    cases h
    exact ⟨rfl, rfl, rfl⟩
  | d :: cs, j + 1, c, h => by
    have ih := crCells_at (cs := cs) (j := j) (c := c) (by simpa using h)
    have e : crCells (d :: cs) = [Value.int .i64 d.s, Value.int .i64 d.r, Value.int .i64 d.f] ++ crCells cs := rfl
    rw [e]
    refine ⟨?_, ?_, ?_⟩
    · rw [List.getElem?_append_right (by simp; omega)]
      simpa [show (j + 1) * 3 - 3 = j * 3 by omega] using ih.1
    · rw [List.getElem?_append_right (by simp; omega)]
      simpa [show (j + 1) * 3 + 1 - 3 = j * 3 + 1 by omega] using ih.2.1
    · rw [List.getElem?_append_right (by simp; omega)]
      simpa [show (j + 1) * 3 + 2 - 3 = j * 3 + 2 by omega] using ih.2.2
theorem crCells_snoc (cs : List Cr) (c : Cr) : crCells (cs ++ [c]) = crCells cs ++ [Value.int .i64 c.s, Value.int .i64 c.r, Value.int .i64 c.f] := by
  simp [crCells]
theorem row3_below {w w' : World} {base n : Nat} {t : TypeId} {v : Value} {xs : List Value} (h : w.ownsRow base t 3 v n xs) (hb : Below w.heap.size w w') : w'.ownsRow base t 3 v n xs := by
  obtain ⟨hl, h2⟩ := h
  refine ⟨hl, ?_⟩
  rcases h2 with h2 | ⟨g, cap, cur, hv, hgb, hblk, h3⟩
  · exact .inl h2
  · exact .inr ⟨g, cap, cur, hv, hgb, (hb.block g (Array.getElem?_eq_some_iff.1 hblk).1).trans hblk, h3⟩
theorem row3_reads {w : World} {base : Nat} {v : Value} {cs : List Cr} (h : w.ownsRow base 38 3 v cs.length (crCells cs)) (hm : cs.length ≤ maxLen) : ReadsC w v cs := by
  have h0 := h
  obtain ⟨hl, h2⟩ := h
  rcases h2 with ⟨rfl, hn⟩ | ⟨g, cap, cur, rfl, hgb, hblk, hcap, hcm, hcs, htk⟩
  · refine ⟨none, 0, by rw [hn], by omega, hm, fun j c hj => ?_⟩
    have := (List.getElem?_eq_some_iff.1 hj).1
    omega
  · refine ⟨some ⟨g, 0, none⟩, cap, rfl, hcap, hm, fun j c hj => ⟨g, 0, rfl, (Array.getElem?_eq_some_iff.1 hblk).1, ?_⟩⟩
    have hjl := (List.getElem?_eq_some_iff.1 hj).1
    obtain ⟨e0, e1, e2⟩ := crCells_at hj
    exact ⟨by rw [Nat.zero_add]; exact (h0.cellAt _ (by omega)).trans e0, by rw [Nat.zero_add]; exact (h0.cellAt _ (by omega)).trans e1, by rw [Nat.zero_add]; exact (h0.cellAt _ (by omega)).trans e2⟩
theorem row3_block {w : World} {base n : Nat} {t : TypeId} {v : Value} {xs : List Value} (h : w.ownsRow base t 3 v n xs) : ∀ b, v.ownBlock = some b → base ≤ b := by
  intro b hb
  rcases h.2 with ⟨rfl, _⟩ | ⟨g, cap, cur, rfl, hg, _⟩
  · cases hb
  · cases hb
    exact hg
theorem news3 {x y z : Value} {t : TypeId} (wc : World) (k : Nat) (hk : wc.heap.size = k) : ∀ (j : Nat) u, [x, y, z][j]? = some u → (wc.alloc (.cells #[x, y, z] t)).cell? ((⟨k, 0, none⟩ : Addr).add j) = some u := by
  subst hk
  intro j u hj
  have ha : (⟨wc.heap.size, 0, none⟩ : Addr).add j = ⟨wc.heap.size, j, none⟩ := by
    unfold Addr.add
    by_cases h : j = 0 <;> simp [h]
  rw [ha, cell_new]
  match j, hj with
  | 0, hj => cases hj; rfl
  | 1, hj => cases hj; rfl
  | 2, hj => cases hj; rfl
theorem moreL_take {cs : List Cr} {e : Int} {j : Nat} {c : Cr} (h : cs[j]? = some c) : moreL (cs.take (j + 1)) e = moreL (cs.take j) e ++ [⟨c.s, c.r + e, c.f⟩] := by
  have h2 : cs.take (j + 1) = cs.take j ++ [c] := by
    rw [List.take_add_one, h]
    rfl
  rw [h2]
  simp [moreL]
def MoRel (cs : List Cr) (e : Int) (w : World) (o i : Value) (wr : World) : Prop :=
  Below w.heap.size w wr ∧ ∃ j : Nat, j ≤ cs.length ∧ i = .int .i64 j ∧ wr.ownsRow w.heap.size 38 3 o j (crCells (moreL (cs.take j) e))
set_option maxHeartbeats 1600000 in
set_option maxRecDepth 20000 in
theorem l7More_any (v : Value) (cs : List Cr) (e : Nat) (w : World) (hv : ReadsC w v cs) (hl : cs.length ≤ 6) (hr : ∀ (j : Nat) c, cs[j]? = some c → 0 ≤ c.r ∧ c.r ≤ 1000) (he : e ≤ 1000) :
    Calls Try.prog 96 #[v, .int .i64 e] w fun en w' => ∃ u, en = .returned u ∧ ReadsC w' u (moreL cs e) ∧ Below w.heap.size w w' := by
  obtain ⟨i0, hi, hz0, hz1, hz2⟩ := info_parts infoCr
  have H1 := Lib.hid hv
  have HR := Lib.hid hr
  obtain ⟨y1, c1, hv1, _, hm1, _⟩ := hv
  subst hv1
  have HW := Lib.hid (below_new w (.cells #[] 38))
  have HO := Lib.hid (World.ownsRow_made (base := w.heap.size) (e := 38) (size := 3) w #[] 0 (Nat.le_refl _) (by unfold maxLen; omega) rfl)
  clear hm1 hr
  go_enter Try.func96, Try.ntmps96
  go_wp2_with fail
  go_loopw [5, 6] (fun o i wr => MoRel cs e w o i wr) (fun _ i _ => cs.length - (intOf i).toNat)
  case atStart => exact ⟨HW.out, 0, Nat.zero_le _, rfl, HO.out⟩
  case round =>
    obtain ⟨hw, j, hj, rfl, ho⟩ := hrel
    clear HW HO
    have HW := Lib.hid hw
    have HO := Lib.hid ho
    clear hw ho
    by_cases hlt : j < cs.length
    · obtain ⟨kc, hkc⟩ := get_cr hlt
      obtain ⟨b1, o1, rfl, _, _, hbl1, k0, k1, k2⟩ := carriers_at H1.out hkc
      have hrg := HR.out j kc hkc
      have HMT := Lib.hid (moreL_take (e := (e : Int)) hkc)
      have K0 := Lib.hid k0
      have K1 := Lib.hid k1
      have K2 := Lib.hid k2
      have hwr : IntKind.i64.wrap (kc.r + (e : Int)) = kc.r + (e : Int) := IntWalk.i64_in _ (by omega)
      have hi0 : 0 ≤ (j : Int) := by omega
      have hi1 : (j : Int) < cs.length := by omega
      clear hkc k0 k1 k2
      generalize hM1 : moreL (cs.take (j + 1)) (e : Int) = M1 at *
      have HM1 := Lib.hid hM1
      clear hM1
      generalize moreL (cs.take j) (e : Int) = M at *
      go_wp2_with fail
      refine wp_region_noPanic ?_
      have HW := Lib.hid (HW.out.trans ((below_drewN wr 1).mono HW.out.size))
      have HO := Lib.hid (row3_below HO.out (below_drewN wr 1))
      refine wp_region_held_drew (S := fun w' => Below w.heap.size w w' ∧ w'.cell? ⟨b1, o1 + j * 3, none⟩ = some (.int .i64 kc.s) ∧ w'.cell? ⟨b1, o1 + j * 3 + 1, none⟩ = some (.int .i64 kc.r) ∧ w'.cell? ⟨b1, o1 + j * 3 + 2, none⟩ = some (.int .i64 kc.f)) (by kernel_rfl) (⟨HW.out, (HW.out.cell (p := ⟨b1, o1 + j * 3, none⟩) hbl1).trans K0.out, (HW.out.cell (p := ⟨b1, o1 + j * 3 + 1, none⟩) hbl1).trans K1.out, (HW.out.cell (p := ⟨b1, o1 + j * 3 + 2, none⟩) hbl1).trans K2.out⟩) (fun hHeld => ?_)
      refine wpAnyH_take (i := 0) (oi := _) (v := ?_) rfl (by kernel_rfl) (by kernel_rfl) (by kernel_rfl) (fun _ _ _ h => h) (Or.inl ⟨by rfl, ?_⟩) (by assumption) ?_
      rotate_left
      · (intro w hSw; (try dsimp only at hSw); (first | (go_simp; done) | (go_simp; with_reducible rfl)))
      simp only [Act.put, List.getElem_toArray, List.getElem_cons_succ, List.getElem_cons_zero, List.setIfInBounds_toArray, List.set_cons_zero, List.set_cons_succ]
      refine wpAnyH_take (i := 1) (oi := _) (v := ?_) rfl (by kernel_rfl) (by kernel_rfl) (by kernel_rfl) (fun _ _ _ h => h) (Or.inl ⟨by rfl, ?_⟩) (by assumption) ?_
      rotate_left
      · (intro w hSw; (try dsimp only at hSw); (first | (go_simp; done) | (go_simp; with_reducible rfl)))
      simp only [Act.put, List.getElem_toArray, List.getElem_cons_succ, List.getElem_cons_zero, List.setIfInBounds_toArray, List.set_cons_zero, List.set_cons_succ]
      refine wpAnyH_take (i := 2) (oi := _) (v := ?_) rfl (by kernel_rfl) (by kernel_rfl) (by kernel_rfl) (fun _ _ _ h => h) (Or.inl ⟨by rfl, ?_⟩) (by assumption) ?_
      rotate_left
      · (intro w hSw; (try dsimp only at hSw); (first | (go_simp; done) | (go_simp; with_reducible rfl)))
      simp only [Act.put, List.getElem_toArray, List.getElem_cons_succ, List.getElem_cons_zero, List.setIfInBounds_toArray, List.set_cons_zero, List.set_cons_succ]
      refine wpAnyH_take (i := 3) (oi := _) (v := ?_) rfl (by kernel_rfl) (by kernel_rfl) (by kernel_rfl) (fun _ _ _ h => h) (Or.inl ⟨by rfl, ?_⟩) (by assumption) ?_
      rotate_left
      · (intro w hSw; (try dsimp only at hSw); (first | (go_simp; done) | (go_simp; with_reducible rfl)))
      simp only [Act.put, List.getElem_toArray, List.getElem_cons_succ, List.getElem_cons_zero, List.setIfInBounds_toArray, List.set_cons_zero, List.set_cons_succ]
      refine wpAnyH_take (i := 4) (oi := _) (v := ?_) rfl (by kernel_rfl) (by kernel_rfl) (by kernel_rfl) (fun _ _ _ h => h) (Or.inl ⟨by rfl, ?_⟩) (by assumption) ?_
      rotate_left
      · (intro w hSw; (try dsimp only at hSw); (first | (go_simp; done) | (go_simp; with_reducible rfl)))
      simp only [Act.put, List.getElem_toArray, List.getElem_cons_succ, List.getElem_cons_zero, List.setIfInBounds_toArray, List.set_cons_zero, List.set_cons_succ]
      refine wpAnyH_take (i := 5) (oi := _) (v := ?_) rfl (by kernel_rfl) (by kernel_rfl) (by kernel_rfl) (fun _ _ _ h => h) (Or.inl ⟨by rfl, ?_⟩) (by assumption) ?_
      rotate_left
      · (intro w hSw; (try dsimp only at hSw); (first | (go_simp; done) | (go_simp; with_reducible rfl)))
      simp only [Act.put, List.getElem_toArray, List.getElem_cons_succ, List.getElem_cons_zero, List.setIfInBounds_toArray, List.set_cons_zero, List.set_cons_succ]
      refine wpAnyH_take (i := 6) (oi := _) (v := ?_) rfl (by kernel_rfl) (by kernel_rfl) (by kernel_rfl) (fun _ _ _ h => h) (Or.inl ⟨by rfl, ?_⟩) (by assumption) ?_
      rotate_left
      · (intro w hSw; (try dsimp only at hSw); (first | (go_simp; done) | (go_simp; with_reducible rfl)))
      simp only [Act.put, List.getElem_toArray, List.getElem_cons_succ, List.getElem_cons_zero, List.setIfInBounds_toArray, List.set_cons_zero, List.set_cons_succ]
      refine wpAnyH_take (i := 7) (oi := _) (v := ?_) rfl (by kernel_rfl) (by kernel_rfl) (by kernel_rfl) (fun _ _ _ h => h) (Or.inl ⟨by rfl, ?_⟩) (by assumption) ?_
      rotate_left
      · (intro w hSw; (try dsimp only at hSw); (first | (go_simp; done) | (go_simp; with_reducible rfl)))
      simp only [Act.put, List.getElem_toArray, List.getElem_cons_succ, List.getElem_cons_zero, List.setIfInBounds_toArray, List.set_cons_zero, List.set_cons_succ]
      refine wpAnyH_take (i := 8) (oi := _) (v := ?_) rfl (by kernel_rfl) (by kernel_rfl) (by kernel_rfl) (fun _ _ _ h => h) (Or.inl ⟨by rfl, ?_⟩) (by assumption) ?_
      rotate_left
      · (intro w hSw; (try dsimp only at hSw); (first | (go_simp; done) | (go_simp; with_reducible rfl)))
      simp only [Act.put, List.getElem_toArray, List.getElem_cons_succ, List.getElem_cons_zero, List.setIfInBounds_toArray, List.set_cons_zero, List.set_cons_succ]
      refine wpAnyH_take (i := 9) (oi := _) (v := ?_) rfl (by kernel_rfl) (by kernel_rfl) (by kernel_rfl) (fun _ _ _ h => h) (Or.inl ⟨by rfl, ?_⟩) (by assumption) ?_
      rotate_left
      · (intro w hSw; (try dsimp only at hSw); (first | (go_simp; done) | (go_simp; with_reducible rfl)))
      simp only [Act.put, List.getElem_toArray, List.getElem_cons_succ, List.getElem_cons_zero, List.setIfInBounds_toArray, List.set_cons_zero, List.set_cons_succ]
      refine wpAnyH_take (i := 10) (oi := _) (v := ?_) rfl (by kernel_rfl) (by kernel_rfl) (by kernel_rfl) (fun _ _ _ h => h) (Or.inl ⟨by rfl, ?_⟩) (by assumption) ?_
      rotate_left
      · (intro w hSw; (try dsimp only at hSw); (first | (go_simp; done) | (go_simp; with_reducible rfl)))
      simp only [Act.put, List.getElem_toArray, List.getElem_cons_succ, List.getElem_cons_zero, List.setIfInBounds_toArray, List.set_cons_zero, List.set_cons_succ]
      refine wpAnyH_take (i := 11) (oi := _) (v := ?_) rfl (by kernel_rfl) (by kernel_rfl) (by kernel_rfl) (fun _ _ _ h => h) (Or.inl ⟨by rfl, ?_⟩) (by assumption) ?_
      rotate_left
      · (intro w hSw; (try dsimp only at hSw); (first | (go_simp; done) | (go_simp; with_reducible rfl)))
      simp only [Act.put, List.getElem_toArray, List.getElem_cons_succ, List.getElem_cons_zero, List.setIfInBounds_toArray, List.set_cons_zero, List.set_cons_succ]
      refine wpAnyH_take (i := 12) (oi := _) (v := .int .i64 (kc.r + (e : Int))) rfl (by kernel_rfl) (by kernel_rfl) (by kernel_rfl) (fun _ _ _ h => h) (Or.inl ⟨by rfl, ?_⟩) (by assumption) ?_
      · (intro w hSw; (try dsimp only at hSw); go_simp; first | done | exact hwr | simp [hwr])
      simp only [Act.put, List.getElem_toArray, List.getElem_cons_succ, List.getElem_cons_zero, List.setIfInBounds_toArray, List.set_cons_zero, List.set_cons_succ]
      refine wpAnyH_take (i := 13) (oi := _) (v := ?_) rfl (by kernel_rfl) (by kernel_rfl) (by kernel_rfl) (fun _ _ _ h => h) (Or.inl ⟨by rfl, ?_⟩) (by assumption) ?_
      rotate_left
      · (intro w hSw; (try dsimp only at hSw); (first | (go_simp; done) | (go_simp; with_reducible rfl)))
      simp only [Act.put, List.getElem_toArray, List.getElem_cons_succ, List.getElem_cons_zero, List.setIfInBounds_toArray, List.set_cons_zero, List.set_cons_succ]
      refine wpAnyH_take (i := 14) (oi := _) (v := ?_) rfl (by kernel_rfl) (by kernel_rfl) (by kernel_rfl) (fun _ _ _ h => h) (Or.inl ⟨by rfl, ?_⟩) (by assumption) ?_
      rotate_left
      · (intro w hSw; (try dsimp only at hSw); (first | (go_simp; done) | (go_simp; with_reducible rfl)))
      simp only [Act.put, List.getElem_toArray, List.getElem_cons_succ, List.getElem_cons_zero, List.setIfInBounds_toArray, List.set_cons_zero, List.set_cons_succ]
      refine wpAnyH_take (i := 15) (oi := _) (v := ?_) rfl (by kernel_rfl) (by kernel_rfl) (by kernel_rfl) (fun _ _ _ h => h) (Or.inl ⟨by rfl, ?_⟩) (by assumption) ?_
      rotate_left
      · (intro w hSw; (try dsimp only at hSw); (first | (go_simp; done) | (go_simp; with_reducible rfl)))
      simp only [Act.put, List.getElem_toArray, List.getElem_cons_succ, List.getElem_cons_zero, List.setIfInBounds_toArray, List.set_cons_zero, List.set_cons_succ]
      refine wpAnyH_take (i := 16) (oi := _) (v := ?_) rfl (by kernel_rfl) (by kernel_rfl) (by kernel_rfl) (fun _ _ _ h => h) (Or.inl ⟨by rfl, ?_⟩) (by assumption) ?_
      rotate_left
      · (intro w hSw; (try dsimp only at hSw); (first | (go_simp; done) | (go_simp; with_reducible rfl)))
      simp only [Act.put, List.getElem_toArray, List.getElem_cons_succ, List.getElem_cons_zero, List.setIfInBounds_toArray, List.set_cons_zero, List.set_cons_succ]
      refine wpAnyH_take (i := 17) (oi := _) (v := ?_) rfl (by kernel_rfl) (by kernel_rfl) (by kernel_rfl) (fun _ _ _ h => h) (Or.inl ⟨by rfl, ?_⟩) (by assumption) ?_
      rotate_left
      · (intro w hSw; (try dsimp only at hSw); (first | (go_simp; done) | (go_simp; with_reducible rfl)))
      simp only [Act.put, List.getElem_toArray, List.getElem_cons_succ, List.getElem_cons_zero, List.setIfInBounds_toArray, List.set_cons_zero, List.set_cons_succ]
      refine wpAnyH_take (i := 18) (oi := _) (v := ?_) rfl (by kernel_rfl) (by kernel_rfl) (by kernel_rfl) (fun _ _ _ h => h) (Or.inl ⟨by rfl, ?_⟩) (by assumption) ?_
      rotate_left
      · (intro w hSw; (try dsimp only at hSw); (first | (go_simp; done) | (go_simp; with_reducible rfl)))
      simp only [Act.put, List.getElem_toArray, List.getElem_cons_succ, List.getElem_cons_zero, List.setIfInBounds_toArray, List.set_cons_zero, List.set_cons_succ]
      refine wpAnyH_ready (rs := [19]) (by kernel_rfl) (by simp) ?_
      refine AllReadyH.cons rfl (fun K hK => ?_) AllReadyH.nil
      go_simp
      have HNW := Lib.hid (news3 (x := .int .i64 kc.s) (y := .int .i64 (kc.r + (e : Int))) (z := .int .i64 kc.f) (t := 38) (wr.drewN 1) wr.heap.size rfl)
      have HO := Lib.hid (row3_below HO.out (below_new _ (.cells #[.int .i64 kc.s, .int .i64 (kc.r + (e : Int)), .int .i64 kc.f] 38)))
      have HW := Lib.hid (HW.out.trans ((below_new _ (.cells #[.int .i64 kc.s, .int .i64 (kc.r + (e : Int)), .int .i64 kc.f] 38)).mono HW.out.size))
      refine hK.out _ _ (⟨HW.out, (HW.out.cell (p := ⟨b1, o1 + j * 3, none⟩) hbl1).trans K0.out, (HW.out.cell (p := ⟨b1, o1 + j * 3 + 1, none⟩) hbl1).trans K1.out, (HW.out.cell (p := ⟨b1, o1 + j * 3 + 2, none⟩) hbl1).trans K2.out⟩) (fun hHeld => ?_)
      clear hK K
      have HX := Lib.hid hHeld.1
      refine wpAnyH_ready (rs := [20]) (by kernel_rfl) (by simp) ?_
      refine AllReadyH.cons rfl (fun K hK => ?_) AllReadyH.nil
      refine step_append_any (by rfl) _ _ _ (by rfl) (w.heap.size) 38 i0 (.agg #[.int .i64 0, .int .i64 0, .int .i64 0]) 3 24 Try.underlying30 hi hz0 hz1 hz2 rfl (by decide) _ _ _ (by rfl) HO.out ⟨wr.heap.size, 0, none⟩ 1 1 [.int .i64 kc.s, .int .i64 (kc.r + (e : Int)), .int .i64 kc.f] (by rfl) (by rfl) HNW.out ?c2 ?c3 ?c4 ?c5 ?_
      case c2 => intro u hu; simp at hu; rcases hu with rfl | rfl | rfl <;> rfl
      case c3 => unfold maxLen; omega
      case c4 => omega
      case c5 => have := HW.out.size; simp at this ⊢; omega
      intro v9 w22 hown9 hgrow9
      have HWN := Lib.hid (HW.out.trans (below_grown (m := w.heap.size) hgrow9 (fun b hb => row3_block HO.out b hb) (by have := HW.out.size; omega)))
      have HW := HWN
      have HO9 := Lib.hid hown9
      clear hown9 hgrow9
      clear hHeld
      refine hK.out _ _ (⟨HW.out, (HW.out.cell (p := ⟨b1, o1 + j * 3, none⟩) hbl1).trans K0.out, (HW.out.cell (p := ⟨b1, o1 + j * 3 + 1, none⟩) hbl1).trans K1.out, (HW.out.cell (p := ⟨b1, o1 + j * 3 + 2, none⟩) hbl1).trans K2.out⟩) (fun hHeld => ?_)
      clear hK K
      refine wpAnyH_take (i := 21) (oi := _) (v := ?_) rfl (by kernel_rfl) (by kernel_rfl) (by kernel_rfl) (fun _ _ _ h => h) (Or.inl ⟨by rfl, ?_⟩) (by assumption) ?_
      rotate_left
      · (intro w hSw; (try dsimp only at hSw); (first | (go_simp; done) | (go_simp; with_reducible rfl)))
      simp only [Act.put, List.getElem_toArray, List.getElem_cons_succ, List.getElem_cons_zero, List.setIfInBounds_toArray, List.set_cons_zero, List.set_cons_succ]
      refine wpAnyH_done (by kernel_rfl) ?_ _
      refine NoPanic.normal ?_
      clear hHeld
      go_wp2_with fail
      go_roundw
      case rel => exact ⟨HW.out, j + 1, by omega, by go_num, by rw [HM1.out, HMT.out, crCells_snoc]; exact HO9.out⟩
      case measure => simp [intOf]; omega
    · have hje : j = cs.length := by omega
      subst hje
      have HOE := Lib.hid (show wr.ownsRow w.heap.size 38 3 _ (moreL cs e).length (crCells (moreL cs e)) from by rw [moreL_len]; have h := HO.out; rw [List.take_length] at h; exact h)
      go_wp2_with fail
      go_ret
      exact ⟨_, rfl, row3_reads HOE.out (by rw [moreL_len]; unfold maxLen; omega), HW.out⟩
end Go.Proofs.Ytgchodielkodeaa
