/-
  What is proved: carriers that are copied, and an errand with greater ranges, of the program. Conditions: lists that read as carriers.
-/
import Derived.Test.YtgchodielkodeaaRlz
import Derived.Test.YtgchodielkodeaaRlh
import Derived.Lib.SliceRun
namespace Go.Proofs.Ytgchodielkodeaa
open Go.RowKit
set_option linter.unusedVariables false
set_option linter.unusedSimpArgs false

theorem carriers_cells {w : World} {a : Option Addr} {l c : Nat} {cs : List Cr} (h : ReadsC w (.slice a l c) cs) {ad : Addr} (ha : a = some ad) : ∀ (j : Nat) u, (crCells cs)[j]? = some u → w.cell? (ad.add j) = some u := by
  intro j u hj
  obtain ⟨a', c', e, hc, hm, hx⟩ := h
  cases e
  have hl : j < cs.length * 3 := by have := (List.getElem?_eq_some_iff.1 hj).1; rwa [crCells_len] at this
  obtain ⟨q, hq⟩ : ∃ q, j = q * 3 ∨ j = q * 3 + 1 ∨ j = q * 3 + 2 := ⟨j / 3, by omega⟩
  obtain ⟨k, hk⟩ : ∃ k, cs[q]? = some k := ⟨cs[q]'(by omega), List.getElem?_eq_getElem (by omega)⟩
  obtain ⟨b, o, e2, hb, h0, h1, h2⟩ := hx q k hk
  rw [ha] at e2
  cases e2
  obtain ⟨c0, c1, c2⟩ := crCells_at hk
  have hadd : ∀ j, (⟨b, o, none⟩ : Addr).add j = ⟨b, o + j, none⟩ := by
    intro j
    unfold Addr.add
    by_cases h : j = 0 <;> simp [h]
  rw [hadd]
  rcases hq with rfl | rfl | rfl
  · rw [c0] at hj
    cases hj
    exact h0
  · rw [c1] at hj
    cases hj
    exact h1
  · rw [c2] at hj
    cases hj
    exact h2
set_option maxHeartbeats 800000 in
set_option maxRecDepth 20000 in
theorem cloneC_any (v : Value) (cs : List Cr) (w : World) (hv : ReadsC w v cs) (hl : cs.length ≤ 6) :
    Calls Try.prog 131 #[v] w fun e w' => ∃ u, e = .returned u ∧ w'.ownsRow w.heap.size 38 3 u cs.length (crCells cs) ∧ Below w.heap.size w w' := by
  obtain ⟨i0, hi, hz0, hz1, hz2⟩ := info_parts infoCr
  have q30 : ∀ (w : World) (a : Option Addr) (n c n' c' : Nat), (binOp .eql 30 (.slice a n c) (.slice none n' c')).run Try.prog w = .ok (.bool a.isNone) w := fun w a n c n' c' => Lib.run_eql_slice_nil w _ _ a n c n' c' Try.underlying30
  have H1 := Lib.hid hv
  obtain ⟨y1, c1, hv1, hc1, hm1, hx1⟩ := hv
  subst hv1
  cases y1 with
  | none =>
    have hn : cs = [] := by
      cases cs with
      | nil => rfl
      | cons c cs =>
        obtain ⟨b, o, h, _⟩ := hx1 0 c rfl
        cases h
    subst hn
    have HB := Lib.hid (Below.refl w.heap.size w)
    clear hx1
    go_enter Try.func131, Try.ntmps131
    go_wp2_with fail
    go_ret
    exact ⟨_, rfl, ⟨rfl, .inl ⟨rfl, rfl⟩⟩, HB.out⟩
  | some ad =>
    have HB := Lib.hid (below_new w (.cells #[] 38))
    have HO := Lib.hid (World.ownsRow_made (base := w.heap.size) (e := 38) (size := 3) w #[] 0 (Nat.le_refl _) (by unfold maxLen; omega) rfl)
    have HC := Lib.hid (carriers_cells (H1.out.below HB.out) rfl)
    have HCL := Lib.hid (crCells_len cs)
    have HON : Hid (∀ u ∈ crCells cs, u.oneCell' = true) := Lib.hid (fun u hu => by
      unfold crCells at hu
      rw [List.mem_flatMap] at hu
      obtain ⟨c, _, hc⟩ := hu
      simp at hc
      rcases hc with rfl | rfl | rfl <;> rfl)
    clear hx1
    go_enter Try.func131, Try.ntmps131
    go_wp2_with (at_builtin; refine wpList_append_own _ rfl _ _ 30 rfl w.heap.size 38 i0 (.agg #[.int .i64 0, .int .i64 0, .int .i64 0]) 3 24 Try.underlying30 hi hz0 hz1 hz2 rfl (by decide) _ _ _ rfl HO.out ad cs.length c1 (crCells cs) rfl ?c1 HC.out HON.out ?c3 ?c4 ?c5 ?_)
    case c1 => rw [HCL.out]
    case c3 => unfold maxLen; omega
    case c4 => omega
    case c5 => simp
    intro v9 w9 hown9 hgrow9 _
    have HB9 := Lib.hid (HB.out.trans (below_grown (m := w.heap.size) hgrow9 (fun b hb => row3_block HO.out b hb) (by simp)))
    have HO9 := Lib.hid hown9
    clear hown9 hgrow9
    go_wp2_with fail
    go_ret
    exact ⟨_, rfl, by simpa using HO9.out, HB9.out⟩
/-- the first j of the carriers with greater ranges -/
def moreTo (cs : List Cr) (e : Int) (j : Nat) : List Cr := moreL (cs.take j) e ++ cs.drop j
theorem moreTo_zero (cs : List Cr) (e : Int) : moreTo cs e 0 = cs := by simp [moreTo, moreL]
theorem moreTo_all (cs : List Cr) (e : Int) : moreTo cs e cs.length = moreL cs e := by simp [moreTo]
theorem moreTo_len (cs : List Cr) (e : Int) (j : Nat) (h : j ≤ cs.length) : (moreTo cs e j).length = cs.length := by
  simp [moreTo, moreL]
  omega
theorem crCells_app (a b : List Cr) : crCells (a ++ b) = crCells a ++ crCells b := by simp [crCells]
theorem moreTo_at {cs : List Cr} {e : Int} {j : Nat} {c : Cr} (h : cs[j]? = some c) : moreTo cs e j = moreL (cs.take j) e ++ c :: cs.drop (j + 1) := by
  have hl := (List.getElem?_eq_some_iff.1 h).1
  have he := (List.getElem?_eq_some_iff.1 h).2
  unfold moreTo
  rw [List.drop_eq_getElem_cons hl, he]
theorem moreTo_next {cs : List Cr} {e : Int} {j : Nat} {c : Cr} (h : cs[j]? = some c) : moreTo cs e (j + 1) = moreL (cs.take j) e ++ ⟨c.s, c.r + e, c.f⟩ :: cs.drop (j + 1) := by
  unfold moreTo
  rw [moreL_take h]
  simp
theorem moreTo_cell {cs : List Cr} {e : Int} {j : Nat} {c : Cr} (h : cs[j]? = some c) : (crCells (moreTo cs e j))[j * 3 + 1]? = some (.int .i64 c.r) := by
  have hl := (List.getElem?_eq_some_iff.1 h).1
  rw [moreTo_at h]
  have h2 : (moreL (cs.take j) e ++ c :: cs.drop (j + 1))[j]? = some c := by
    rw [List.getElem?_append_right (by simp [moreL]; omega)]
    have : j - (moreL (cs.take j) e).length = 0 := by simp [moreL]; omega
    rw [this]
    rfl
  exact (crCells_at h2).2.1
theorem moreTo_set {cs : List Cr} {e : Int} {j : Nat} {c : Cr} (h : cs[j]? = some c) : (crCells (moreTo cs e j)).set (j * 3 + 1) (.int .i64 (c.r + e)) = crCells (moreTo cs e (j + 1)) := by
  have hl := (List.getElem?_eq_some_iff.1 h).1
  rw [moreTo_at h, moreTo_next h, crCells_app, crCells_app]
  have hlen : (crCells (moreL (cs.take j) e)).length = j * 3 := by rw [crCells_len, moreL_len, List.length_take]; congr 1; omega
  rw [List.set_append_right _ _ (by omega), hlen, show j * 3 + 1 - j * 3 = 1 by omega]
  rfl
theorem grown_set (w : World) (b j : Nat) (v : Value) : w.grownBy (w.setCell ⟨b, j, none⟩ v) (some b) :=
  ⟨rfl, rfl, rfl, by simp [World.setCell], fun k _ hk => heap_setCell_other w ⟨b, j, none⟩ k v (fun e => hk (by simp [e]))⟩
end Go.Proofs.Ytgchodielkodeaa
