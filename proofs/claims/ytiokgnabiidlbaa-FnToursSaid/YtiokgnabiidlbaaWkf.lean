/-
  What is proved: contracts of the draws of walks. Conditions: those of each contract.
-/
import Derived.Test.YtiokgnabiidlbaaDrw
import Derived.Test.YtiokgnabiidlbaaFn4
namespace Go.Proofs.Ytiokgnabiidlbaa
open Go.RowKit
set_option linter.unusedVariables false
set_option linter.unusedSimpArgs false

theorem made1 (w : World) (base k : Nat) (a : Int) (hk : w.heap.size = k) (hb : base ≤ k) : (w.alloc (.cells #[.int .i64 a] 3)).ownsRow base 3 1 (.slice (some ⟨k, 0, none⟩) 1 1) 1 [iv a] := by
  subst hk
  exact ⟨by simp, .inr ⟨w.heap.size, 1, #[iv a], rfl, hb, heap_alloc_new w _, Nat.le_refl _, by decide, rfl, by simp⟩⟩
/-- the length of a slice -/
def lenV : Value → Nat
  | .slice _ n _ => n
  | _ => 0
theorem owns_lenV {w : World} {base n : Nat} {v : Value} {xs : List Value} (h : w.ownsRow base 3 1 v n xs) : lenV v = n := by
  obtain ⟨a, c, rfl, _⟩ := owns_shape h
  rfl
theorem owns_cur {w w' : World} {b base n : Nat} {v : Value} {xs : List Value} (h : w.ownsRow base 3 1 v n xs) (hg : w.grownBy w' (some b)) (hb : b < base) : w'.ownsRow base 3 1 v n xs := by
  refine h.kept hg ?_
  cases hv : v.ownBlock with
  | none => exact .inl rfl
  | some k =>
    refine .inr fun e => ?_
    cases e
    have := (h.lt _ hv).1
    omega
theorem cur_row {base b t n : Nat} {w w' : World} {v : Value} {xs : List Value} {o : Obj} {rb : Nat} (h : CurOK base b t w) (ho : w.ownsRow rb 3 1 v n xs) (hg : (w.alloc o).grownBy w' v.ownBlock) (hb : b < rb) (hrb : rb ≤ w.heap.size) : CurOK base b t w' :=
  (h.alloc o h.base).low hb (below_grown hg (fun k e => (ho.lt k e).1) (by simp; omega))
theorem stepI_range {n : Int} {g : Bool} {p d : Int} (hn : 2 ≤ n) (hp : 0 ≤ p ∧ p < n) : 0 ≤ stepI n g p d ∧ stepI n g p d < n := by
  unfold stepI
  split
  · exact ⟨Int.emod_nonneg _ (by omega), Int.emod_lt_of_pos _ (by omega)⟩
  · omega
abbrev KeepW (R : Nat) (n : Int) (g : Bool) (gk k : Nat) (p : Int) (w1 w' : World) : Prop :=
  Below w1.heap.size w1 w' ∧ w'.cell? ⟨R, 0, none⟩ = some (.int .i64 n) ∧ w'.cell? ⟨R, 1, none⟩ = some (.bool g) ∧ w'.cell? ⟨gk, k, none⟩ = some (.int .i64 p)
theorem keepW {R gk k : Nat} {n p : Int} {g : Bool} {w1 w2 w3 : World} (h : KeepW R n g gk k p w1 w2) (hb : Below w2.heap.size w2 w3) (hR : R < w1.heap.size) (hG : gk < w1.heap.size) : KeepW R n g gk k p w1 w3 := by
  have hs := h.1.size
  exact ⟨h.1.trans (hb.mono hs), (hb.cell (p := ⟨R, 0, none⟩) (Nat.lt_of_lt_of_le hR hs)).trans h.2.1, (hb.cell (p := ⟨R, 1, none⟩) (Nat.lt_of_lt_of_le hR hs)).trans h.2.2.1, (hb.cell (p := ⟨gk, k, none⟩) (Nat.lt_of_lt_of_le hG hs)).trans h.2.2.2⟩
theorem among_blk (base b t n k : Nat) (xs : List Int) (cs : Array Value) (w : World) (hcs : cs.toList = xs.map iv) (hxn : xs.length = n) (hblk : w.heap[k]? = some (.cells cs 3 (0, 0))) (hkb : k ≠ b) (h : CurOK base b t w) (ht : t ≤ 100000) (h1 : 1 ≤ n) (hn : n ≤ 100) :
    Calls Try.prog 65 #[.pointer (some ⟨b, 0, none⟩), .slice (some ⟨k, 0, none⟩) n n] w (Drew (· ∈ xs) base b (t + 2) w) := by
  subst hxn
  have hr : ∀ w', w.grownBy w' (some b) → ReadsI w' (.slice (some ⟨k, 0, none⟩) xs.length xs.length) xs := by
    intro w' hg
    have hh : w'.heap[k]? = some (.cells cs 3 (0, 0)) := (hg.block k (Array.getElem?_eq_some_iff.1 hblk).1 (by intro e; cases e; exact hkb rfl)).trans hblk
    refine ⟨_, _, rfl, Nat.le_refl _, by unfold maxLen; omega, fun j x hj => ⟨k, 0, rfl, (Array.getElem?_eq_some_iff.1 hh).1, ?_⟩⟩
    rw [Nat.zero_add, cell_of_block hh j, ← Array.getElem?_toList, hcs, List.getElem?_map, hj]
    rfl
  exact among_any base b t _ xs _ h ht h1 hn hr
def WfRel (base b t R : Nat) (n : Int) (g : Bool) (w0 : World) (v d : Value) (wr : World) : Prop :=
  ∃ (xs : List Int) (p dd : Int), 1 ≤ xs.length ∧ xs.length ≤ 62 ∧ d = .int .i64 dd ∧ (dd = 1 ∨ dd = -1) ∧ xs[xs.length - 1]? = some p ∧ (0 ≤ p ∧ p < n) ∧ wr.ownsRow (R + 1) 3 1 v xs.length (xs.map iv) ∧
    wr.heap[R]? = some (.cells #[.int .i64 n, .bool g] 25 (0, 0)) ∧ CurOK base b (t + 2 * xs.length) wr ∧ w0.grownBy wr (some b) ∧ R + 1 ≤ wr.heap.size
theorem wf_more {base b t R : Nat} {n : Int} {g : Bool} {w0 w2 w3 : World} {v v' : Value} {xs : List Int} {x dd : Int} {o : Obj} (hl : 1 ≤ xs.length) (hmx : xs.length < 62)
    (hown : w2.ownsRow (R + 1) 3 1 v xs.length (xs.map iv)) (hR : w2.heap[R]? = some (.cells #[.int .i64 n, .bool g] 25 (0, 0))) (hC : CurOK base b (t + 2 * xs.length + 2) w2) (hG : w0.grownBy w2 (some b))
    (hbR : b < R) (hRw : w0.heap.size = R) (hsz : R + 1 ≤ w2.heap.size) (hg : (w2.alloc o).grownBy w3 v.ownBlock) (hown' : w3.ownsRow (R + 1) 3 1 v' (xs.length + 1) (xs.map iv ++ [Value.int .i64 x])) (hx : 0 ≤ x ∧ x < n) (hdd : dd = 1 ∨ dd = -1) :
    WfRel base b t R n g w0 v' (.int .i64 dd) w3 := by
  have hb : Below (R + 1) (w2.alloc o) w3 := below_grown hg (fun k e => (hown.lt k e).1) (by simp; omega)
  have hb2 : Below (R + 1) w2 w3 := ((below_new w2 o).mono hsz).trans hb
  refine ⟨xs ++ [x], x, dd, by simp, by simp; omega, rfl, hdd, by simp, hx, by simpa using hown', (hb2.block R (Nat.lt_succ_self _)).trans hR, ?_, ?_, Nat.le_trans hsz hb2.size⟩
  · have h := (cur_row (t := t + 2 * xs.length + 2) hC hown hg (Nat.lt_succ_of_lt hbR) hsz)
    rw [show t + 2 * (xs ++ [x]).length = t + 2 * xs.length + 2 by simp; omega]
    exact h
  · exact grown_low hG (hb2.mono (by omega))
/-- what a draw of a list leaves -/
def DrewL (base b t : Nat) (w : World) (e : Ending) (w' : World) : Prop :=
  ∃ (v : Value) (xs : List Int), e = .returned v ∧ 1 ≤ xs.length ∧ xs.length ≤ 62 ∧ w'.ownsRow w.heap.size 3 1 v xs.length (xs.map iv) ∧ CurOK base b t w' ∧ w.grownBy w' (some b)
set_option maxHeartbeats 3200000 in
set_option maxRecDepth 20000 in
theorem walkFrom_any (base b t : Nat) (n : Int) (g : Bool) (a m : Int) (w : World) (h : CurOK base b t w) (ht : t ≤ 1000) (hm : m ≤ 62) :
    Calls Try.prog 80 #[.pointer (some ⟨b, 0, none⟩), rd n g, .int .i64 a, .int .i64 m] w (DrewL base b (t + 200) w) := by
  obtain ⟨i0, hi, hz0, hz1, hz2⟩ := info_parts infoInt
  have HPL := Lib.hid (fun w => l2Place_any n g a w)
  have hbR := h.lt
  have H := Lib.hid ((h.alloc (.cells #[.int .i64 n, .bool g] 25) h.base).alloc (.cells #[.int .i64 a] 3) (by simp; have := h.base; omega))
  have HX := Lib.hid (grown_trans (grown_alloc w (.cells #[.int .i64 n, .bool g] 25) (some b)) (grown_alloc _ (.cells #[.int .i64 a] 3) (some b)))
  have HR0 := Lib.hid (((below_new (w.alloc (.cells #[.int .i64 n, .bool g] 25)) (.cells #[.int .i64 a] 3)).block w.heap.size (by simp)).trans (MapKept.heap_alloc w (.cells #[.int .i64 n, .bool g] 25)).1)
  have HO0 := Lib.hid (made1 (w.alloc (.cells #[.int .i64 n, .bool g] 25)) (w.heap.size + 1) (w.heap.size + 1) a (by simp) (Nat.le_refl _))
  clear h
  unfold rd at *
  go_enter Try.func80, Try.ntmps80
  go_wp2_with fail
  refine (HPL.out _).mono ?_
  rintro e w1 ⟨rfl, hb⟩
  have HC1 := Lib.hid (H.out.below hb H.out.base)
  have HG1 := Lib.hid (grown_low HX.out (hb.mono HX.out.size))
  have HR1 := Lib.hid ((hb.block _ (Array.getElem?_eq_some_iff.1 HR0.out).1).trans HR0.out)
  have HO1 := Lib.hid (owns_below HO0.out hb)
  have hs1 : w.heap.size + 1 ≤ w1.heap.size := by have := hb.size; simp at this; omega
  clear hb H HX HR0 HO0 HPL
  cases hpl : placeB n g a
  · go_wp2_with fail
    go_ret
    exact ⟨_, [a], rfl, by simp, by simp, owns_lower HO1.out (Nat.le_succ _), HC1.out.more (by omega), HG1.out⟩
  · obtain ⟨hrb, ha0, ha1⟩ := (placeB_iff n g a).1 hpl
    obtain ⟨hn2, hn24, _⟩ := (roadB_iff n g).1 hrb
    have HST := Lib.hid (fun p d w (h0 : 0 ≤ p) (h1 : p < n) hd => l2Step_any n g p d w ⟨hn2, hn24⟩ ⟨h0, h1⟩ hd)
    have HRNG := Lib.hid (fun p d (h0 : 0 ≤ p) (h1 : p < n) (_ : -1 ≤ d) => stepI_range (g := g) (d := d) hn2 ⟨h0, h1⟩)
    unfold rd at *
    clear hpl hrb
    go_wp2_with fail
    go_loopw [9, 10] (fun v d wr => WfRel base b t w.heap.size n g w v d wr) (fun v _ _ => m.toNat - lenV v)
    case atStart => exact ⟨[a], a, 1, by simp, by simp, rfl, .inl rfl, by simp, ⟨ha0, ha1⟩, HO1.out, HR1.out, HC1.out.more (by omega), HG1.out, hs1⟩
    case round =>
      obtain ⟨xs, p, dd, hl1, hl62, rfl, hdd, hpk, ⟨hp0, hp1⟩, hown, hR, hC, hG, hsz⟩ := hrel
      clear HC1 HG1 HR1 HO1 hs1
      obtain ⟨av, cv, rfl, hav⟩ := owns_shape hown
      obtain ⟨gk, rfl, hgk, hgl⟩ := hav (by omega)
      have HPK := Lib.hid hpk
      have HOW := Lib.hid hown
      have HR := Lib.hid hR
      have HC := Lib.hid hC
      have HG := Lib.hid hG
      have hlm : xs.length ≤ 9223372036854775807 := by omega
      clear hpk hown hR hC hG
      by_cases hlt : (xs.length : Int) < m
      · go_wp2_with fail
        refine (pick_any base b (t + 2 * xs.length) 8 _ HC.out (by omega) (by omega) (by omega)).mono ?_
        rintro e w1 ⟨r, rfl, ⟨hr0, hr8⟩, hc, hg⟩
        have HOW1 := Lib.hid (owns_cur HOW.out hg (by omega))
        have HR1 := Lib.hid ((hg.block _ (Array.getElem?_eq_some_iff.1 HR.out).1 (by intro e; cases e; omega)).trans HR.out)
        have HC1 := Lib.hid hc
        have HG1 := Lib.hid (grown_trans HG.out hg)
        have hs1 := Nat.le_trans hsz hg.size
        have hsR : w.heap.size < w1.heap.size := by omega
        have hsG : gk < w1.heap.size := Nat.lt_of_lt_of_le hgl hg.size
        have r0 : w1.cell? ⟨w.heap.size, 0, none⟩ = some (.int .i64 n) := cell_of_block HR1.out 0
        have r1 : w1.cell? ⟨w.heap.size, 1, none⟩ = some (.bool g) := cell_of_block HR1.out 1
        have hcp1 : w1.cell? ⟨gk, xs.length - 1, none⟩ = some (.int .i64 p) := by
          have h := HOW1.out.cellAt (xs.length - 1) (by omega)
          rw [List.getElem?_map, HPK.out] at h
          exact h
        have hi0 : 0 ≤ (xs.length : Int) - 1 := by omega
        have hi1 : (xs.length : Int) - 1 < xs.length := by omega
        have hw9 : IntKind.i64.wrap ((xs.length : Int) - 1) = (xs.length : Int) - 1 := IntWalk.i64_in _ (by omega)
        have hi4 : (1 : Int) ≤ (xs.length : Int) := by omega
        have hi5 : ((xs.length : Int) - 1).toNat = xs.length - 1 := by omega
        clear hc hg HOW HR HC HG HPK
        by_cases hra : r = 0
        · subst hra
          rcases hdd with rfl | rfl
          · go_wp2_with fail
            refine wp_region_noPanic ?_
            refine wp_region_held_drew (S := fun w' => Below w1.heap.size w1 w' ∧ w'.cell? ⟨w.heap.size, 0, none⟩ = some (.int .i64 n) ∧ w'.cell? ⟨w.heap.size, 1, none⟩ = some (.bool g) ∧ w'.cell? ⟨gk, xs.length - 1, none⟩ = some (.int .i64 p)) (by kernel_rfl) ⟨below_drewN w1 1, r0, r1, hcp1⟩ (fun hHeld => ?_)
            refine wpAnyH_take (i := 0) (oi := _) (v := ?_) rfl (by kernel_rfl) (by kernel_rfl) (by kernel_rfl) (fun _ _ _ h => h) (Or.inl ⟨by rfl, ?_⟩) (by assumption) ?_
            rotate_left
            · (intro w hSw; (try dsimp only at hSw); (first | (go_simp; done) | (go_simp; with_reducible rfl)))
            simp only [Act.put, List.getElem_toArray, List.getElem_cons_succ, List.getElem_cons_zero, List.setIfInBounds_toArray, List.set_cons_zero, List.set_cons_succ]
            refine wpAnyH_take (i := 1) (oi := _) (v := ?_) rfl (by kernel_rfl) (by kernel_rfl) (by kernel_rfl) (fun _ _ _ h => h) (Or.inl ⟨by rfl, ?_⟩) (by assumption) ?_
            rotate_left
            · (intro w hSw; (try dsimp only at hSw); (first | (go_simp; done) | (go_simp; with_reducible rfl)))
            simp only [Act.put, List.getElem_toArray, List.getElem_cons_succ, List.getElem_cons_zero, List.setIfInBounds_toArray, List.set_cons_zero, List.set_cons_succ]
            refine wpAnyH_take (i := 2) (oi := _) (v := ?_) rfl (by kernel_rfl) (by kernel_rfl) (by kernel_rfl) (fun _ _ _ h => h) (Or.inl ⟨by rfl, ?_⟩) (by assumption) ?_
            rotate_left
            · (intro w hSw; (try dsimp only at hSw); (first | (go_simp; done) | (go_simp; with_reducible rfl)))
            simp only [Act.put, List.getElem_toArray, List.getElem_cons_succ, List.getElem_cons_zero, List.setIfInBounds_toArray, List.set_cons_zero, List.set_cons_succ]
            refine wpAnyH_take (i := 3) (oi := _) (v := ?_) rfl (by kernel_rfl) (by kernel_rfl) (by kernel_rfl) (fun _ _ _ h => h) (Or.inl ⟨by rfl, ?_⟩) (by assumption) ?_
            rotate_left
            · (intro w hSw; (try dsimp only at hSw); (first | (go_simp; done) | (go_simp; with_reducible rfl)))
            simp only [Act.put, List.getElem_toArray, List.getElem_cons_succ, List.getElem_cons_zero, List.setIfInBounds_toArray, List.set_cons_zero, List.set_cons_succ]
            refine wpAnyH_take (i := 4) (oi := _) (v := ?_) rfl (by kernel_rfl) (by kernel_rfl) (by kernel_rfl) (fun _ _ _ h => h) (Or.inl ⟨by rfl, ?_⟩) (by assumption) ?_
            rotate_left
            · (intro w hSw; (try dsimp only at hSw); (first | (go_simp; done) | (go_simp; with_reducible rfl)))
            simp only [Act.put, List.getElem_toArray, List.getElem_cons_succ, List.getElem_cons_zero, List.setIfInBounds_toArray, List.set_cons_zero, List.set_cons_succ]
            refine wpAnyH_take (i := 5) (oi := _) (v := ?_) rfl (by kernel_rfl) (by kernel_rfl) (by kernel_rfl) (fun _ _ _ h => h) (Or.inl ⟨by rfl, ?_⟩) (by assumption) ?_
            rotate_left
            · (intro w hSw; (try dsimp only at hSw); (first | (go_simp; done) | (go_simp; with_reducible rfl)))
            simp only [Act.put, List.getElem_toArray, List.getElem_cons_succ, List.getElem_cons_zero, List.setIfInBounds_toArray, List.set_cons_zero, List.set_cons_succ]
            refine wpAnyH_take (i := 6) (oi := _) (v := ?_) rfl (by kernel_rfl) (by kernel_rfl) (by kernel_rfl) (fun _ _ _ h => h) (Or.inl ⟨by rfl, ?_⟩) (by assumption) ?_
            rotate_left
            · (intro w hSw; (try dsimp only at hSw); (first | (go_simp; done) | (go_simp; with_reducible rfl)))
            simp only [Act.put, List.getElem_toArray, List.getElem_cons_succ, List.getElem_cons_zero, List.setIfInBounds_toArray, List.set_cons_zero, List.set_cons_succ]
            refine wpAnyH_take (i := 7) (oi := _) (v := ?_) rfl (by kernel_rfl) (by kernel_rfl) (by kernel_rfl) (fun _ _ _ h => h) (Or.inl ⟨by rfl, ?_⟩) (by assumption) ?_
            rotate_left
            · (intro w hSw; (try dsimp only at hSw); (first | (go_simp; done) | (go_simp; with_reducible rfl)))
            simp only [Act.put, List.getElem_toArray, List.getElem_cons_succ, List.getElem_cons_zero, List.setIfInBounds_toArray, List.set_cons_zero, List.set_cons_succ]
            refine wpAnyH_ready (rs := [8]) (by kernel_rfl) (by simp) ?_
            refine AllReadyH.cons rfl (fun K hK => ?_) AllReadyH.nil
            go_simp
            refine (HST.out p (-1) _ hp0 hp1 (by omega)).mono ?_
            rintro e w2 ⟨rfl, hb⟩
            have hS : KeepW w.heap.size n g gk (xs.length - 1) p w1 w2 := keepW hHeld hb hsR hsG
            clear hHeld hb
            have HQ := Lib.hid (HRNG.out p (-1) hp0 hp1 (by omega))
            generalize stepI n g p (-1) = q at *
            go_wp2_with fail
            refine hK.out _ _ (hS) (fun hHeld => ?_)
            clear hK K
            refine wpAnyH_take (i := 9) (oi := _) (v := ?_) rfl (by kernel_rfl) (by kernel_rfl) (by kernel_rfl) (fun _ _ _ h => h) (Or.inl ⟨by rfl, ?_⟩) (by assumption) ?_
            rotate_left
            · (intro w hSw; (try dsimp only at hSw); (first | (go_simp; done) | (go_simp; with_reducible rfl)))
            simp only [Act.put, List.getElem_toArray, List.getElem_cons_succ, List.getElem_cons_zero, List.setIfInBounds_toArray, List.set_cons_zero, List.set_cons_succ]
            refine wpAnyH_done (by kernel_rfl) ?_ _
            refine NoPanic.normal ?_
            have HB2 := Lib.hid hHeld.1
            have hcp2 := hHeld.2.2.2
            clear hHeld hcp1 r0 r1
            have HOW2 := Lib.hid (owns_below HOW1.out HB2.out)
            have HR2 := Lib.hid ((HB2.out.block _ (Array.getElem?_eq_some_iff.1 HR1.out).1).trans HR1.out)
            have HC2 := Lib.hid (HC1.out.below HB2.out HC1.out.base)
            have HG2 := Lib.hid (grown_low HG1.out (HB2.out.mono HG1.out.size))
            have hs2 := Nat.le_trans hs1 HB2.out.size
            by_cases hqp : q = p
            · have hqb : (q == p) = true := by simp [hqp]
              subst hqp
              go_wp2_with (at_builtin; refine wpList_append_own _ rfl _ _ 26 rfl (w.heap.size + 1) 3 i0 (.int .i64 0) 1 8 Try.underlying26 hi hz0 hz1 hz2 rfl (by decide) _ _ _ rfl (HOW2.out.alloc _) ⟨w2.heap.size, 0, none⟩ 1 1 [.int .i64 q] rfl rfl (cell_one_new _ _ _) ?c2 ?c3 ?c4 ?c5 ?_)
              case c2 => intro u hu; simp at hu; subst hu; rfl
              case c3 => unfold maxLen; omega
              case c4 => omega
              case c5 => simp; omega
              intro v' w9 hown' hgrow _
              have HW := Lib.hid (wf_more (dd := 1) hl1 (by omega) HOW2.out HR2.out HC2.out HG2.out hbR rfl hs2 hgrow hown' (HQ.out) (by omega))
              have hl9 := owns_lenV hown'
              have HL9 := Lib.hid hl9
              clear hgrow hown' hl9
              go_wp2_with fail
              go_roundw
              case rel => exact HW.out
              case measure => rw [HL9.out]; simp [lenV]; omega
            · have hqb : (q == p) = false := by simp [hqp]
              go_wp2_with (at_builtin; refine wpList_append_own _ rfl _ _ 26 rfl (w.heap.size + 1) 3 i0 (.int .i64 0) 1 8 Try.underlying26 hi hz0 hz1 hz2 rfl (by decide) _ _ _ rfl (HOW2.out.alloc _) ⟨w2.heap.size, 0, none⟩ 1 1 [.int .i64 q] rfl rfl (cell_one_new _ _ _) ?c2 ?c3 ?c4 ?c5 ?_)
              case c2 => intro u hu; simp at hu; subst hu; rfl
              case c3 => unfold maxLen; omega
              case c4 => omega
              case c5 => simp; omega
              intro v' w9 hown' hgrow _
              have HW := Lib.hid (wf_more (dd := -1) hl1 (by omega) HOW2.out HR2.out HC2.out HG2.out hbR rfl hs2 hgrow hown' (HQ.out) (by omega))
              have hl9 := owns_lenV hown'
              have HL9 := Lib.hid hl9
              clear hgrow hown' hl9
              go_wp2_with fail
              go_roundw
              case rel => exact HW.out
              case measure => rw [HL9.out]; simp [lenV]; omega
          · go_wp2_with fail
            refine wp_region_noPanic ?_
            refine wp_region_held_drew (S := fun w' => Below w1.heap.size w1 w' ∧ w'.cell? ⟨w.heap.size, 0, none⟩ = some (.int .i64 n) ∧ w'.cell? ⟨w.heap.size, 1, none⟩ = some (.bool g) ∧ w'.cell? ⟨gk, xs.length - 1, none⟩ = some (.int .i64 p)) (by kernel_rfl) ⟨below_drewN w1 1, r0, r1, hcp1⟩ (fun hHeld => ?_)
            refine wpAnyH_take (i := 0) (oi := _) (v := ?_) rfl (by kernel_rfl) (by kernel_rfl) (by kernel_rfl) (fun _ _ _ h => h) (Or.inl ⟨by rfl, ?_⟩) (by assumption) ?_
            rotate_left
            · (intro w hSw; (try dsimp only at hSw); (first | (go_simp; done) | (go_simp; with_reducible rfl)))
            simp only [Act.put, List.getElem_toArray, List.getElem_cons_succ, List.getElem_cons_zero, List.setIfInBounds_toArray, List.set_cons_zero, List.set_cons_succ]
            refine wpAnyH_take (i := 1) (oi := _) (v := ?_) rfl (by kernel_rfl) (by kernel_rfl) (by kernel_rfl) (fun _ _ _ h => h) (Or.inl ⟨by rfl, ?_⟩) (by assumption) ?_
            rotate_left
            · (intro w hSw; (try dsimp only at hSw); (first | (go_simp; done) | (go_simp; with_reducible rfl)))
            simp only [Act.put, List.getElem_toArray, List.getElem_cons_succ, List.getElem_cons_zero, List.setIfInBounds_toArray, List.set_cons_zero, List.set_cons_succ]
            refine wpAnyH_take (i := 2) (oi := _) (v := ?_) rfl (by kernel_rfl) (by kernel_rfl) (by kernel_rfl) (fun _ _ _ h => h) (Or.inl ⟨by rfl, ?_⟩) (by assumption) ?_
            rotate_left
            · (intro w hSw; (try dsimp only at hSw); (first | (go_simp; done) | (go_simp; with_reducible rfl)))
            simp only [Act.put, List.getElem_toArray, List.getElem_cons_succ, List.getElem_cons_zero, List.setIfInBounds_toArray, List.set_cons_zero, List.set_cons_succ]
            refine wpAnyH_take (i := 3) (oi := _) (v := ?_) rfl (by kernel_rfl) (by kernel_rfl) (by kernel_rfl) (fun _ _ _ h => h) (Or.inl ⟨by rfl, ?_⟩) (by assumption) ?_
            rotate_left
            · (intro w hSw; (try dsimp only at hSw); (first | (go_simp; done) | (go_simp; with_reducible rfl)))
            simp only [Act.put, List.getElem_toArray, List.getElem_cons_succ, List.getElem_cons_zero, List.setIfInBounds_toArray, List.set_cons_zero, List.set_cons_succ]
            refine wpAnyH_take (i := 4) (oi := _) (v := ?_) rfl (by kernel_rfl) (by kernel_rfl) (by kernel_rfl) (fun _ _ _ h => h) (Or.inl ⟨by rfl, ?_⟩) (by assumption) ?_
            rotate_left
            · (intro w hSw; (try dsimp only at hSw); (first | (go_simp; done) | (go_simp; with_reducible rfl)))
            simp only [Act.put, List.getElem_toArray, List.getElem_cons_succ, List.getElem_cons_zero, List.setIfInBounds_toArray, List.set_cons_zero, List.set_cons_succ]
            refine wpAnyH_take (i := 5) (oi := _) (v := ?_) rfl (by kernel_rfl) (by kernel_rfl) (by kernel_rfl) (fun _ _ _ h => h) (Or.inl ⟨by rfl, ?_⟩) (by assumption) ?_
            rotate_left
            · (intro w hSw; (try dsimp only at hSw); (first | (go_simp; done) | (go_simp; with_reducible rfl)))
            simp only [Act.put, List.getElem_toArray, List.getElem_cons_succ, List.getElem_cons_zero, List.setIfInBounds_toArray, List.set_cons_zero, List.set_cons_succ]
            refine wpAnyH_take (i := 6) (oi := _) (v := ?_) rfl (by kernel_rfl) (by kernel_rfl) (by kernel_rfl) (fun _ _ _ h => h) (Or.inl ⟨by rfl, ?_⟩) (by assumption) ?_
            rotate_left
            · (intro w hSw; (try dsimp only at hSw); (first | (go_simp; done) | (go_simp; with_reducible rfl)))
            simp only [Act.put, List.getElem_toArray, List.getElem_cons_succ, List.getElem_cons_zero, List.setIfInBounds_toArray, List.set_cons_zero, List.set_cons_succ]
            refine wpAnyH_take (i := 7) (oi := _) (v := ?_) rfl (by kernel_rfl) (by kernel_rfl) (by kernel_rfl) (fun _ _ _ h => h) (Or.inl ⟨by rfl, ?_⟩) (by assumption) ?_
            rotate_left
            · (intro w hSw; (try dsimp only at hSw); (first | (go_simp; done) | (go_simp; with_reducible rfl)))
            simp only [Act.put, List.getElem_toArray, List.getElem_cons_succ, List.getElem_cons_zero, List.setIfInBounds_toArray, List.set_cons_zero, List.set_cons_succ]
            refine wpAnyH_ready (rs := [8]) (by kernel_rfl) (by simp) ?_
            refine AllReadyH.cons rfl (fun K hK => ?_) AllReadyH.nil
            go_simp
            refine (HST.out p (1) _ hp0 hp1 (by omega)).mono ?_
            rintro e w2 ⟨rfl, hb⟩
            have hS : KeepW w.heap.size n g gk (xs.length - 1) p w1 w2 := keepW hHeld hb hsR hsG
            clear hHeld hb
            have HQ := Lib.hid (HRNG.out p (1) hp0 hp1 (by omega))
            generalize stepI n g p (1) = q at *
            go_wp2_with fail
            refine hK.out _ _ (hS) (fun hHeld => ?_)
            clear hK K
            refine wpAnyH_take (i := 9) (oi := _) (v := ?_) rfl (by kernel_rfl) (by kernel_rfl) (by kernel_rfl) (fun _ _ _ h => h) (Or.inl ⟨by rfl, ?_⟩) (by assumption) ?_
            rotate_left
            · (intro w hSw; (try dsimp only at hSw); (first | (go_simp; done) | (go_simp; with_reducible rfl)))
            simp only [Act.put, List.getElem_toArray, List.getElem_cons_succ, List.getElem_cons_zero, List.setIfInBounds_toArray, List.set_cons_zero, List.set_cons_succ]
            refine wpAnyH_done (by kernel_rfl) ?_ _
            refine NoPanic.normal ?_
            have HB2 := Lib.hid hHeld.1
            have hcp2 := hHeld.2.2.2
            clear hHeld hcp1 r0 r1
            have HOW2 := Lib.hid (owns_below HOW1.out HB2.out)
            have HR2 := Lib.hid ((HB2.out.block _ (Array.getElem?_eq_some_iff.1 HR1.out).1).trans HR1.out)
            have HC2 := Lib.hid (HC1.out.below HB2.out HC1.out.base)
            have HG2 := Lib.hid (grown_low HG1.out (HB2.out.mono HG1.out.size))
            have hs2 := Nat.le_trans hs1 HB2.out.size
            by_cases hqp : q = p
            · have hqb : (q == p) = true := by simp [hqp]
              subst hqp
              go_wp2_with (at_builtin; refine wpList_append_own _ rfl _ _ 26 rfl (w.heap.size + 1) 3 i0 (.int .i64 0) 1 8 Try.underlying26 hi hz0 hz1 hz2 rfl (by decide) _ _ _ rfl (HOW2.out.alloc _) ⟨w2.heap.size, 0, none⟩ 1 1 [.int .i64 q] rfl rfl (cell_one_new _ _ _) ?c2 ?c3 ?c4 ?c5 ?_)
              case c2 => intro u hu; simp at hu; subst hu; rfl
              case c3 => unfold maxLen; omega
              case c4 => omega
              case c5 => simp; omega
              intro v' w9 hown' hgrow _
              have HW := Lib.hid (wf_more (dd := -1) hl1 (by omega) HOW2.out HR2.out HC2.out HG2.out hbR rfl hs2 hgrow hown' (HQ.out) (by omega))
              have hl9 := owns_lenV hown'
              have HL9 := Lib.hid hl9
              clear hgrow hown' hl9
              go_wp2_with fail
              go_roundw
              case rel => exact HW.out
              case measure => rw [HL9.out]; simp [lenV]; omega
            · have hqb : (q == p) = false := by simp [hqp]
              go_wp2_with (at_builtin; refine wpList_append_own _ rfl _ _ 26 rfl (w.heap.size + 1) 3 i0 (.int .i64 0) 1 8 Try.underlying26 hi hz0 hz1 hz2 rfl (by decide) _ _ _ rfl (HOW2.out.alloc _) ⟨w2.heap.size, 0, none⟩ 1 1 [.int .i64 q] rfl rfl (cell_one_new _ _ _) ?c2 ?c3 ?c4 ?c5 ?_)
              case c2 => intro u hu; simp at hu; subst hu; rfl
              case c3 => unfold maxLen; omega
              case c4 => omega
              case c5 => simp; omega
              intro v' w9 hown' hgrow _
              have HW := Lib.hid (wf_more (dd := 1) hl1 (by omega) HOW2.out HR2.out HC2.out HG2.out hbR rfl hs2 hgrow hown' (HQ.out) (by omega))
              have hl9 := owns_lenV hown'
              have HL9 := Lib.hid hl9
              clear hgrow hown' hl9
              go_wp2_with fail
              go_roundw
              case rel => exact HW.out
              case measure => rw [HL9.out]; simp [lenV]; omega
        · have hra2 : (r == 0) = false := by simp [hra]
          by_cases hrc : r = 1
          · subst hrc
            go_wp2_with (at_builtin; refine wpList_append_own _ rfl _ _ 26 rfl (w.heap.size + 1) 3 i0 (.int .i64 0) 1 8 Try.underlying26 hi hz0 hz1 hz2 rfl (by decide) _ _ _ rfl (HOW1.out.alloc _) ⟨w1.heap.size, 0, none⟩ 1 1 [.int .i64 p] rfl rfl (cell_one_new _ _ _) ?c2 ?c3 ?c4 ?c5 ?_)
            case c2 => intro u hu; simp at hu; subst hu; rfl
            case c3 => unfold maxLen; omega
            case c4 => omega
            case c5 => simp; omega
            intro v' w9 hown' hgrow _
            have HW := Lib.hid (wf_more hl1 (by omega) HOW1.out HR1.out HC1.out HG1.out hbR rfl hs1 hgrow hown' ⟨hp0, hp1⟩ hdd)
            have hl9 := owns_lenV hown'
            have HL9 := Lib.hid hl9
            clear hgrow hown' hl9 hcp1 r0 r1
            go_wp2_with fail
            go_roundw
            case rel => exact HW.out
            case measure => rw [HL9.out]; simp [lenV]; omega
          · have hrc2 : (r == 1) = false := by simp [hrc]
            rcases hdd with rfl | rfl
            · go_wp2_with fail
              refine wp_region_noPanic ?_
              refine wp_region_held_drew (S := fun w' => Below w1.heap.size w1 w' ∧ w'.cell? ⟨w.heap.size, 0, none⟩ = some (.int .i64 n) ∧ w'.cell? ⟨w.heap.size, 1, none⟩ = some (.bool g) ∧ w'.cell? ⟨gk, xs.length - 1, none⟩ = some (.int .i64 p)) (by kernel_rfl) ⟨below_drewN w1 1, r0, r1, hcp1⟩ (fun hHeld => ?_)
              refine wpAnyH_take (i := 0) (oi := _) (v := ?_) rfl (by kernel_rfl) (by kernel_rfl) (by kernel_rfl) (fun _ _ _ h => h) (Or.inl ⟨by rfl, ?_⟩) (by assumption) ?_
              rotate_left
              · (intro w hSw; (try dsimp only at hSw); (first | (go_simp; done) | (go_simp; with_reducible rfl)))
              simp only [Act.put, List.getElem_toArray, List.getElem_cons_succ, List.getElem_cons_zero, List.setIfInBounds_toArray, List.set_cons_zero, List.set_cons_succ]
              refine wpAnyH_take (i := 1) (oi := _) (v := ?_) rfl (by kernel_rfl) (by kernel_rfl) (by kernel_rfl) (fun _ _ _ h => h) (Or.inl ⟨by rfl, ?_⟩) (by assumption) ?_
              rotate_left
              · (intro w hSw; (try dsimp only at hSw); (first | (go_simp; done) | (go_simp; with_reducible rfl)))
              simp only [Act.put, List.getElem_toArray, List.getElem_cons_succ, List.getElem_cons_zero, List.setIfInBounds_toArray, List.set_cons_zero, List.set_cons_succ]
              refine wpAnyH_take (i := 2) (oi := _) (v := ?_) rfl (by kernel_rfl) (by kernel_rfl) (by kernel_rfl) (fun _ _ _ h => h) (Or.inl ⟨by rfl, ?_⟩) (by assumption) ?_
              rotate_left
              · (intro w hSw; (try dsimp only at hSw); (first | (go_simp; done) | (go_simp; with_reducible rfl)))
              simp only [Act.put, List.getElem_toArray, List.getElem_cons_succ, List.getElem_cons_zero, List.setIfInBounds_toArray, List.set_cons_zero, List.set_cons_succ]
              refine wpAnyH_take (i := 3) (oi := _) (v := ?_) rfl (by kernel_rfl) (by kernel_rfl) (by kernel_rfl) (fun _ _ _ h => h) (Or.inl ⟨by rfl, ?_⟩) (by assumption) ?_
              rotate_left
              · (intro w hSw; (try dsimp only at hSw); (first | (go_simp; done) | (go_simp; with_reducible rfl)))
              simp only [Act.put, List.getElem_toArray, List.getElem_cons_succ, List.getElem_cons_zero, List.setIfInBounds_toArray, List.set_cons_zero, List.set_cons_succ]
              refine wpAnyH_take (i := 4) (oi := _) (v := ?_) rfl (by kernel_rfl) (by kernel_rfl) (by kernel_rfl) (fun _ _ _ h => h) (Or.inl ⟨by rfl, ?_⟩) (by assumption) ?_
              rotate_left
              · (intro w hSw; (try dsimp only at hSw); (first | (go_simp; done) | (go_simp; with_reducible rfl)))
              simp only [Act.put, List.getElem_toArray, List.getElem_cons_succ, List.getElem_cons_zero, List.setIfInBounds_toArray, List.set_cons_zero, List.set_cons_succ]
              refine wpAnyH_take (i := 5) (oi := _) (v := ?_) rfl (by kernel_rfl) (by kernel_rfl) (by kernel_rfl) (fun _ _ _ h => h) (Or.inl ⟨by rfl, ?_⟩) (by assumption) ?_
              rotate_left
              · (intro w hSw; (try dsimp only at hSw); (first | (go_simp; done) | (go_simp; with_reducible rfl)))
              simp only [Act.put, List.getElem_toArray, List.getElem_cons_succ, List.getElem_cons_zero, List.setIfInBounds_toArray, List.set_cons_zero, List.set_cons_succ]
              refine wpAnyH_take (i := 6) (oi := _) (v := ?_) rfl (by kernel_rfl) (by kernel_rfl) (by kernel_rfl) (fun _ _ _ h => h) (Or.inl ⟨by rfl, ?_⟩) (by assumption) ?_
              rotate_left
              · (intro w hSw; (try dsimp only at hSw); (first | (go_simp; done) | (go_simp; with_reducible rfl)))
              simp only [Act.put, List.getElem_toArray, List.getElem_cons_succ, List.getElem_cons_zero, List.setIfInBounds_toArray, List.set_cons_zero, List.set_cons_succ]
              refine wpAnyH_take (i := 7) (oi := _) (v := ?_) rfl (by kernel_rfl) (by kernel_rfl) (by kernel_rfl) (fun _ _ _ h => h) (Or.inl ⟨by rfl, ?_⟩) (by assumption) ?_
              rotate_left
              · (intro w hSw; (try dsimp only at hSw); (first | (go_simp; done) | (go_simp; with_reducible rfl)))
              simp only [Act.put, List.getElem_toArray, List.getElem_cons_succ, List.getElem_cons_zero, List.setIfInBounds_toArray, List.set_cons_zero, List.set_cons_succ]
              refine wpAnyH_ready (rs := [8]) (by kernel_rfl) (by simp) ?_
              refine AllReadyH.cons rfl (fun K hK => ?_) AllReadyH.nil
              go_simp
              refine (HST.out p (1) _ hp0 hp1 (by omega)).mono ?_
              rintro e w2 ⟨rfl, hb⟩
              have hS : KeepW w.heap.size n g gk (xs.length - 1) p w1 w2 := keepW hHeld hb hsR hsG
              clear hHeld hb
              have HQ := Lib.hid (HRNG.out p (1) hp0 hp1 (by omega))
              generalize stepI n g p (1) = q at *
              go_wp2_with fail
              refine hK.out _ _ (hS) (fun hHeld => ?_)
              clear hK K
              refine wpAnyH_take (i := 9) (oi := _) (v := ?_) rfl (by kernel_rfl) (by kernel_rfl) (by kernel_rfl) (fun _ _ _ h => h) (Or.inl ⟨by rfl, ?_⟩) (by assumption) ?_
              rotate_left
              · (intro w hSw; (try dsimp only at hSw); (first | (go_simp; done) | (go_simp; with_reducible rfl)))
              simp only [Act.put, List.getElem_toArray, List.getElem_cons_succ, List.getElem_cons_zero, List.setIfInBounds_toArray, List.set_cons_zero, List.set_cons_succ]
              refine wpAnyH_done (by kernel_rfl) ?_ _
              refine NoPanic.normal ?_
              have HB2 := Lib.hid hHeld.1
              have hcp2 := hHeld.2.2.2
              clear hHeld hcp1 r0 r1
              have HOW2 := Lib.hid (owns_below HOW1.out HB2.out)
              have HR2 := Lib.hid ((HB2.out.block _ (Array.getElem?_eq_some_iff.1 HR1.out).1).trans HR1.out)
              have HC2 := Lib.hid (HC1.out.below HB2.out HC1.out.base)
              have HG2 := Lib.hid (grown_low HG1.out (HB2.out.mono HG1.out.size))
              have hs2 := Nat.le_trans hs1 HB2.out.size
              by_cases hqp : q = p
              · have hqb : (q == p) = true := by simp [hqp]
                subst hqp
                go_wp2_with (at_builtin; refine wpList_append_own _ rfl _ _ 26 rfl (w.heap.size + 1) 3 i0 (.int .i64 0) 1 8 Try.underlying26 hi hz0 hz1 hz2 rfl (by decide) _ _ _ rfl (HOW2.out.alloc _) ⟨w2.heap.size, 0, none⟩ 1 1 [.int .i64 q] rfl rfl (cell_one_new _ _ _) ?c2 ?c3 ?c4 ?c5 ?_)
                case c2 => intro u hu; simp at hu; subst hu; rfl
                case c3 => unfold maxLen; omega
                case c4 => omega
                case c5 => simp; omega
                intro v' w9 hown' hgrow _
                have HW := Lib.hid (wf_more (dd := -1) hl1 (by omega) HOW2.out HR2.out HC2.out HG2.out hbR rfl hs2 hgrow hown' (HQ.out) (by omega))
                have hl9 := owns_lenV hown'
                have HL9 := Lib.hid hl9
                clear hgrow hown' hl9
                go_wp2_with fail
                go_roundw
                case rel => exact HW.out
                case measure => rw [HL9.out]; simp [lenV]; omega
              · have hqb : (q == p) = false := by simp [hqp]
                go_wp2_with (at_builtin; refine wpList_append_own _ rfl _ _ 26 rfl (w.heap.size + 1) 3 i0 (.int .i64 0) 1 8 Try.underlying26 hi hz0 hz1 hz2 rfl (by decide) _ _ _ rfl (HOW2.out.alloc _) ⟨w2.heap.size, 0, none⟩ 1 1 [.int .i64 q] rfl rfl (cell_one_new _ _ _) ?c2 ?c3 ?c4 ?c5 ?_)
                case c2 => intro u hu; simp at hu; subst hu; rfl
                case c3 => unfold maxLen; omega
                case c4 => omega
                case c5 => simp; omega
                intro v' w9 hown' hgrow _
                have HW := Lib.hid (wf_more (dd := 1) hl1 (by omega) HOW2.out HR2.out HC2.out HG2.out hbR rfl hs2 hgrow hown' (HQ.out) (by omega))
                have hl9 := owns_lenV hown'
                have HL9 := Lib.hid hl9
                clear hgrow hown' hl9
                go_wp2_with fail
                go_roundw
                case rel => exact HW.out
                case measure => rw [HL9.out]; simp [lenV]; omega
            · go_wp2_with fail
              refine wp_region_noPanic ?_
              refine wp_region_held_drew (S := fun w' => Below w1.heap.size w1 w' ∧ w'.cell? ⟨w.heap.size, 0, none⟩ = some (.int .i64 n) ∧ w'.cell? ⟨w.heap.size, 1, none⟩ = some (.bool g) ∧ w'.cell? ⟨gk, xs.length - 1, none⟩ = some (.int .i64 p)) (by kernel_rfl) ⟨below_drewN w1 1, r0, r1, hcp1⟩ (fun hHeld => ?_)
              refine wpAnyH_take (i := 0) (oi := _) (v := ?_) rfl (by kernel_rfl) (by kernel_rfl) (by kernel_rfl) (fun _ _ _ h => h) (Or.inl ⟨by rfl, ?_⟩) (by assumption) ?_
              rotate_left
              · (intro w hSw; (try dsimp only at hSw); (first | (go_simp; done) | (go_simp; with_reducible rfl)))
              simp only [Act.put, List.getElem_toArray, List.getElem_cons_succ, List.getElem_cons_zero, List.setIfInBounds_toArray, List.set_cons_zero, List.set_cons_succ]
              refine wpAnyH_take (i := 1) (oi := _) (v := ?_) rfl (by kernel_rfl) (by kernel_rfl) (by kernel_rfl) (fun _ _ _ h => h) (Or.inl ⟨by rfl, ?_⟩) (by assumption) ?_
              rotate_left
              · (intro w hSw; (try dsimp only at hSw); (first | (go_simp; done) | (go_simp; with_reducible rfl)))
              simp only [Act.put, List.getElem_toArray, List.getElem_cons_succ, List.getElem_cons_zero, List.setIfInBounds_toArray, List.set_cons_zero, List.set_cons_succ]
              refine wpAnyH_take (i := 2) (oi := _) (v := ?_) rfl (by kernel_rfl) (by kernel_rfl) (by kernel_rfl) (fun _ _ _ h => h) (Or.inl ⟨by rfl, ?_⟩) (by assumption) ?_
              rotate_left
              · (intro w hSw; (try dsimp only at hSw); (first | (go_simp; done) | (go_simp; with_reducible rfl)))
              simp only [Act.put, List.getElem_toArray, List.getElem_cons_succ, List.getElem_cons_zero, List.setIfInBounds_toArray, List.set_cons_zero, List.set_cons_succ]
              refine wpAnyH_take (i := 3) (oi := _) (v := ?_) rfl (by kernel_rfl) (by kernel_rfl) (by kernel_rfl) (fun _ _ _ h => h) (Or.inl ⟨by rfl, ?_⟩) (by assumption) ?_
              rotate_left
              · (intro w hSw; (try dsimp only at hSw); (first | (go_simp; done) | (go_simp; with_reducible rfl)))
              simp only [Act.put, List.getElem_toArray, List.getElem_cons_succ, List.getElem_cons_zero, List.setIfInBounds_toArray, List.set_cons_zero, List.set_cons_succ]
              refine wpAnyH_take (i := 4) (oi := _) (v := ?_) rfl (by kernel_rfl) (by kernel_rfl) (by kernel_rfl) (fun _ _ _ h => h) (Or.inl ⟨by rfl, ?_⟩) (by assumption) ?_
              rotate_left
              · (intro w hSw; (try dsimp only at hSw); (first | (go_simp; done) | (go_simp; with_reducible rfl)))
              simp only [Act.put, List.getElem_toArray, List.getElem_cons_succ, List.getElem_cons_zero, List.setIfInBounds_toArray, List.set_cons_zero, List.set_cons_succ]
              refine wpAnyH_take (i := 5) (oi := _) (v := ?_) rfl (by kernel_rfl) (by kernel_rfl) (by kernel_rfl) (fun _ _ _ h => h) (Or.inl ⟨by rfl, ?_⟩) (by assumption) ?_
              rotate_left
              · (intro w hSw; (try dsimp only at hSw); (first | (go_simp; done) | (go_simp; with_reducible rfl)))
              simp only [Act.put, List.getElem_toArray, List.getElem_cons_succ, List.getElem_cons_zero, List.setIfInBounds_toArray, List.set_cons_zero, List.set_cons_succ]
              refine wpAnyH_take (i := 6) (oi := _) (v := ?_) rfl (by kernel_rfl) (by kernel_rfl) (by kernel_rfl) (fun _ _ _ h => h) (Or.inl ⟨by rfl, ?_⟩) (by assumption) ?_
              rotate_left
              · (intro w hSw; (try dsimp only at hSw); (first | (go_simp; done) | (go_simp; with_reducible rfl)))
              simp only [Act.put, List.getElem_toArray, List.getElem_cons_succ, List.getElem_cons_zero, List.setIfInBounds_toArray, List.set_cons_zero, List.set_cons_succ]
              refine wpAnyH_take (i := 7) (oi := _) (v := ?_) rfl (by kernel_rfl) (by kernel_rfl) (by kernel_rfl) (fun _ _ _ h => h) (Or.inl ⟨by rfl, ?_⟩) (by assumption) ?_
              rotate_left
              · (intro w hSw; (try dsimp only at hSw); (first | (go_simp; done) | (go_simp; with_reducible rfl)))
              simp only [Act.put, List.getElem_toArray, List.getElem_cons_succ, List.getElem_cons_zero, List.setIfInBounds_toArray, List.set_cons_zero, List.set_cons_succ]
              refine wpAnyH_ready (rs := [8]) (by kernel_rfl) (by simp) ?_
              refine AllReadyH.cons rfl (fun K hK => ?_) AllReadyH.nil
              go_simp
              refine (HST.out p (-1) _ hp0 hp1 (by omega)).mono ?_
              rintro e w2 ⟨rfl, hb⟩
              have hS : KeepW w.heap.size n g gk (xs.length - 1) p w1 w2 := keepW hHeld hb hsR hsG
              clear hHeld hb
              have HQ := Lib.hid (HRNG.out p (-1) hp0 hp1 (by omega))
              generalize stepI n g p (-1) = q at *
              go_wp2_with fail
              refine hK.out _ _ (hS) (fun hHeld => ?_)
              clear hK K
              refine wpAnyH_take (i := 9) (oi := _) (v := ?_) rfl (by kernel_rfl) (by kernel_rfl) (by kernel_rfl) (fun _ _ _ h => h) (Or.inl ⟨by rfl, ?_⟩) (by assumption) ?_
              rotate_left
              · (intro w hSw; (try dsimp only at hSw); (first | (go_simp; done) | (go_simp; with_reducible rfl)))
              simp only [Act.put, List.getElem_toArray, List.getElem_cons_succ, List.getElem_cons_zero, List.setIfInBounds_toArray, List.set_cons_zero, List.set_cons_succ]
              refine wpAnyH_done (by kernel_rfl) ?_ _
              refine NoPanic.normal ?_
              have HB2 := Lib.hid hHeld.1
              have hcp2 := hHeld.2.2.2
              clear hHeld hcp1 r0 r1
              have HOW2 := Lib.hid (owns_below HOW1.out HB2.out)
              have HR2 := Lib.hid ((HB2.out.block _ (Array.getElem?_eq_some_iff.1 HR1.out).1).trans HR1.out)
              have HC2 := Lib.hid (HC1.out.below HB2.out HC1.out.base)
              have HG2 := Lib.hid (grown_low HG1.out (HB2.out.mono HG1.out.size))
              have hs2 := Nat.le_trans hs1 HB2.out.size
              by_cases hqp : q = p
              · have hqb : (q == p) = true := by simp [hqp]
                subst hqp
                go_wp2_with (at_builtin; refine wpList_append_own _ rfl _ _ 26 rfl (w.heap.size + 1) 3 i0 (.int .i64 0) 1 8 Try.underlying26 hi hz0 hz1 hz2 rfl (by decide) _ _ _ rfl (HOW2.out.alloc _) ⟨w2.heap.size, 0, none⟩ 1 1 [.int .i64 q] rfl rfl (cell_one_new _ _ _) ?c2 ?c3 ?c4 ?c5 ?_)
                case c2 => intro u hu; simp at hu; subst hu; rfl
                case c3 => unfold maxLen; omega
                case c4 => omega
                case c5 => simp; omega
                intro v' w9 hown' hgrow _
                have HW := Lib.hid (wf_more (dd := 1) hl1 (by omega) HOW2.out HR2.out HC2.out HG2.out hbR rfl hs2 hgrow hown' (HQ.out) (by omega))
                have hl9 := owns_lenV hown'
                have HL9 := Lib.hid hl9
                clear hgrow hown' hl9
                go_wp2_with fail
                go_roundw
                case rel => exact HW.out
                case measure => rw [HL9.out]; simp [lenV]; omega
              · have hqb : (q == p) = false := by simp [hqp]
                go_wp2_with (at_builtin; refine wpList_append_own _ rfl _ _ 26 rfl (w.heap.size + 1) 3 i0 (.int .i64 0) 1 8 Try.underlying26 hi hz0 hz1 hz2 rfl (by decide) _ _ _ rfl (HOW2.out.alloc _) ⟨w2.heap.size, 0, none⟩ 1 1 [.int .i64 q] rfl rfl (cell_one_new _ _ _) ?c2 ?c3 ?c4 ?c5 ?_)
                case c2 => intro u hu; simp at hu; subst hu; rfl
                case c3 => unfold maxLen; omega
                case c4 => omega
                case c5 => simp; omega
                intro v' w9 hown' hgrow _
                have HW := Lib.hid (wf_more (dd := -1) hl1 (by omega) HOW2.out HR2.out HC2.out HG2.out hbR rfl hs2 hgrow hown' (HQ.out) (by omega))
                have hl9 := owns_lenV hown'
                have HL9 := Lib.hid hl9
                clear hgrow hown' hl9
                go_wp2_with fail
                go_roundw
                case rel => exact HW.out
                case measure => rw [HL9.out]; simp [lenV]; omega
      · have hge : m ≤ (xs.length : Int) := by omega
        by_cases hm1 : 1 < m
        · go_wp2_with fail
          refine (one_any base b (t + 2 * xs.length) 40 _ HC.out (by omega) (by omega) (by omega)).mono ?_
          rintro e w1 ⟨⟨z, rfl⟩, hc, hg⟩
          have HOW1 := Lib.hid (owns_cur HOW.out hg (by omega))
          have HR1 := Lib.hid ((hg.block _ (Array.getElem?_eq_some_iff.1 HR.out).1 (by intro e; cases e; omega)).trans HR.out)
          have HC1 := Lib.hid hc
          have HG1 := Lib.hid (grown_trans HG.out hg)
          have hs1 := Nat.le_trans hsz hg.size
          clear hc hg HOW HR HC HG HPK
          cases z
          · go_wp2_with fail
            go_ret
            exact ⟨_, xs, rfl, hl1, hl62, owns_lower HOW1.out (Nat.le_succ _), HC1.out.more (by omega), HG1.out⟩
          · have r0 : w1.cell? ⟨w.heap.size, 0, none⟩ = some (.int .i64 n) := cell_of_block HR1.out 0
            go_wp2_with fail
            refine wp_region_noPanic ?_
            refine wp_region_held_drew (S := fun w' => w'.cell? ⟨w.heap.size, 0, none⟩ = some (.int .i64 n)) (by kernel_rfl) r0 (fun hHeld => ?_)
            refine wpAnyH_take (i := 0) (oi := _) (v := ?_) rfl (by kernel_rfl) (by kernel_rfl) (by kernel_rfl) (fun _ _ _ h => h) (Or.inl ⟨by rfl, ?_⟩) (by assumption) ?_
            rotate_left
            · (intro w hSw; (try dsimp only at hSw); (first | (go_simp; done) | (go_simp; with_reducible rfl)))
            simp only [Act.put, List.getElem_toArray, List.getElem_cons_succ, List.getElem_cons_zero, List.setIfInBounds_toArray, List.set_cons_zero, List.set_cons_succ]
            refine wpAnyH_take (i := 1) (oi := _) (v := ?_) rfl (by kernel_rfl) (by kernel_rfl) (by kernel_rfl) (fun _ _ _ h => h) (Or.inl ⟨by rfl, ?_⟩) (by assumption) ?_
            rotate_left
            · (intro w hSw; (try dsimp only at hSw); (first | (go_simp; done) | (go_simp; with_reducible rfl)))
            simp only [Act.put, List.getElem_toArray, List.getElem_cons_succ, List.getElem_cons_zero, List.setIfInBounds_toArray, List.set_cons_zero, List.set_cons_succ]
            refine wpAnyH_take (i := 2) (oi := _) (v := ?_) rfl (by kernel_rfl) (by kernel_rfl) (by kernel_rfl) (fun _ _ _ h => h) (Or.inl ⟨by rfl, ?_⟩) (by assumption) ?_
            rotate_left
            · (intro w hSw; (try dsimp only at hSw); (first | (go_simp; done) | (go_simp; with_reducible rfl)))
            simp only [Act.put, List.getElem_toArray, List.getElem_cons_succ, List.getElem_cons_zero, List.setIfInBounds_toArray, List.set_cons_zero, List.set_cons_succ]
            refine wpAnyH_take (i := 3) (oi := _) (v := ?_) rfl (by kernel_rfl) (by kernel_rfl) (by kernel_rfl) (fun _ _ _ h => h) (Or.inl ⟨by rfl, ?_⟩) (by assumption) ?_
            rotate_left
            · (intro w hSw; (try dsimp only at hSw); (first | (go_simp; done) | (go_simp; with_reducible rfl)))
            simp only [Act.put, List.getElem_toArray, List.getElem_cons_succ, List.getElem_cons_zero, List.setIfInBounds_toArray, List.set_cons_zero, List.set_cons_succ]
            refine wpAnyH_take (i := 5) (oi := _) (v := ?_) rfl (by kernel_rfl) (by kernel_rfl) (by kernel_rfl) (fun _ _ _ h => h) (Or.inl ⟨by rfl, ?_⟩) (by assumption) ?_
            rotate_left
            · (intro w hSw; (try dsimp only at hSw); (first | (go_simp; done) | (go_simp; with_reducible rfl)))
            simp only [Act.put, List.getElem_toArray, List.getElem_cons_succ, List.getElem_cons_zero, List.setIfInBounds_toArray, List.set_cons_zero, List.set_cons_succ]
            refine wpAnyH_take (i := 6) (oi := _) (v := ?_) rfl (by kernel_rfl) (by kernel_rfl) (by kernel_rfl) (fun _ _ _ h => h) (Or.inl ⟨by rfl, ?_⟩) (by assumption) ?_
            rotate_left
            · (intro w hSw; (try dsimp only at hSw); (first | (go_simp; done) | (go_simp; with_reducible rfl)))
            simp only [Act.put, List.getElem_toArray, List.getElem_cons_succ, List.getElem_cons_zero, List.setIfInBounds_toArray, List.set_cons_zero, List.set_cons_succ]
            refine wpAnyH_take (i := 7) (oi := _) (v := ?_) rfl (by kernel_rfl) (by kernel_rfl) (by kernel_rfl) (fun _ _ _ h => h) (Or.inl ⟨by rfl, ?_⟩) (by assumption) ?_
            rotate_left
            · (intro w hSw; (try dsimp only at hSw); (first | (go_simp; done) | (go_simp; with_reducible rfl)))
            simp only [Act.put, List.getElem_toArray, List.getElem_cons_succ, List.getElem_cons_zero, List.setIfInBounds_toArray, List.set_cons_zero, List.set_cons_succ]
            refine wpAnyH_ready (rs := [4, 8]) (by kernel_rfl) (by simp) ?_
            refine AllReadyH.cons rfl (fun K hK => ?_) (AllReadyH.cons rfl (fun K hK => ?_) AllReadyH.nil)
            · go_simp
              refine (pick_any base b (t + 2 * xs.length + 2) xs.length _ (HC1.out.below (below_drewN w1 1) HC1.out.base) (by omega) (by omega) (by omega)).mono ?_
              rintro e w2 ⟨r, rfl, ⟨hr0, hr1⟩, hc, hg⟩
              obtain ⟨k, rfl⟩ := Int.eq_ofNat_of_zero_le hr0
              have hkl : k < xs.length := by omega
              have HC2 := Lib.hid hc
              have HOW2 := Lib.hid (owns_cur (owns_below HOW1.out (below_drewN w1 1)) hg (by omega))
              have HR2 := Lib.hid ((hg.block w.heap.size (Array.getElem?_eq_some_iff.1 (HR1.out)).1 (by intro e; cases e; omega)).trans (HR1.out))
              have HG2 := Lib.hid (grown_trans (grown_low HG1.out ((below_drewN w1 1).mono HG1.out.size)) hg)
              clear hc hg hHeld
              go_wp2_with fail
              refine hK.out _ _ (cell_of_block HR2.out 0) (fun hHeld => ?_)
              clear hK K
              refine wpAnyH_ready (rs := [8]) (by kernel_rfl) (by simp) ?_
              refine AllReadyH.cons rfl (fun K hK => ?_) AllReadyH.nil
              go_simp
              refine hK.out _ _ (((below_new w2 _).cell (p := ⟨w.heap.size, 0, none⟩) (Array.getElem?_eq_some_iff.1 HR2.out).1).trans (cell_of_block HR2.out 0)) (fun hHeld => ?_)
              clear hK K
              have HC3 := Lib.hid (HC2.out.alloc (.cells #[.int .i64 (-1), .int .i64 n, .int .i64 0] 3) HC2.out.base)
              have HOW3 := Lib.hid (HOW2.out.alloc (.cells #[.int .i64 (-1), .int .i64 n, .int .i64 0] 3))
              have HR3 := Lib.hid (((below_new w2 (.cells #[.int .i64 (-1), .int .i64 n, .int .i64 0] 3)).block w.heap.size (Array.getElem?_eq_some_iff.1 HR2.out).1).trans HR2.out)
              have HG3 := Lib.hid (grown_trans HG2.out (grown_alloc w2 (.cells #[.int .i64 (-1), .int .i64 n, .int .i64 0] 3) (some b)))
              have hb9 := HC2.out.lt
              refine wpAnyH_ready (rs := [9]) (by kernel_rfl) (by simp) ?_
              refine AllReadyH.cons rfl (fun K hK => ?_) AllReadyH.nil
              go_simp
              refine (among_blk base b (t + 2 * xs.length + 4) 3 _ [-1, n, 0] _ _ ?hcs rfl ((MapKept.heap_alloc w2 _).1) ?hkb (HC3.out.more (by omega)) (by omega) (by omega) (by omega)).mono ?_
              case hcs => rfl
              case hkb => omega
              rintro e w4 ⟨x, rfl, _, hc, hg⟩
              have HC4 := Lib.hid hc
              have HOW4 := Lib.hid (owns_cur HOW3.out hg (by omega))
              have HR4 := Lib.hid ((hg.block w.heap.size (Array.getElem?_eq_some_iff.1 HR3.out).1 (by intro e; cases e; omega)).trans HR3.out)
              have HG4 := Lib.hid (grown_trans HG3.out hg)
              clear hc hg hHeld
              go_wp2_with fail
              refine hK.out _ _ (cell_of_block HR4.out 0) (fun hHeld => ?_)
              clear hK K
              refine wpAnyH_take (i := 10) (oi := _) (v := ?_) rfl (by kernel_rfl) (by kernel_rfl) (by kernel_rfl) (fun _ _ _ h => h) (Or.inl ⟨by rfl, ?_⟩) (by assumption) ?_
              rotate_left
              · (intro w hSw; (try dsimp only at hSw); (first | (go_simp; done) | (go_simp; with_reducible rfl)))
              simp only [Act.put, List.getElem_toArray, List.getElem_cons_succ, List.getElem_cons_zero, List.setIfInBounds_toArray, List.set_cons_zero, List.set_cons_succ]
              refine wpAnyH_ready (rs := [11]) (by kernel_rfl) (by simp) ?_
              refine AllReadyH.cons rfl (fun K hK => ?_) AllReadyH.nil
              have hold : ∃ u, w4.cell? ⟨gk, k, none⟩ = some u := ⟨_, (HOW4.out.cellAt k (by omega)).trans (by rw [List.getElem?_map, List.getElem?_eq_getElem hkl]; rfl)⟩
              obtain ⟨u, hu⟩ := hold
              have hfz := HOW4.out.frozenAt k
              go_simp
              have hs0 : (w4.setCell ⟨gk, k, none⟩ (.int .i64 x)).cell? ⟨w.heap.size, 0, none⟩ = some (.int .i64 n) := (((Below.refl (w.heap.size + 1) w4).setCell (p := ⟨gk, k, none⟩) hgk (.int .i64 x)).cell (p := ⟨w.heap.size, 0, none⟩) (Nat.lt_succ_self _)).trans (cell_of_block HR4.out 0)
              refine hK.out _ _ (hs0) (fun hHeld => ?_)
              clear hK K
              refine wpAnyH_done (by kernel_rfl) ?_ _
              refine NoPanic.normal ?_
              have HST5 := Lib.hid (HOW4.out.stored k (.int .i64 x)).1
              clear hu hfz hs0 hHeld
              go_wp2_with fail
              go_ret
              refine ⟨_, xs.set k x, rfl, by simpa using hl1, by simpa using hl62, ?_, ?_, ?_⟩
              · have h := HST5.out
                rw [← List.map_set] at h
                rw [List.length_set]
                exact owns_lower h (Nat.le_succ _)
              · exact (HC4.out.more (by omega)).low (N := w.heap.size + 1) (by omega) ((Below.refl _ _).setCell (p := ⟨gk, k, none⟩) hgk _)
              · exact grown_low HG4.out ((Below.refl _ _).setCell (p := ⟨gk, k, none⟩) (by show w.heap.size ≤ gk; omega) _)
            · go_simp
              refine hK.out _ _ (((below_new w1.drew _).cell (p := ⟨w.heap.size, 0, none⟩) (Array.getElem?_eq_some_iff.1 HR1.out).1).trans r0) (fun hHeld => ?_)
              clear hK K
              have HD2 := Lib.hid ((below_new w1 (.cells #[.int .i64 (-1), .int .i64 n, .int .i64 0] 3)).trans ((below_drewN _ 1).mono (by simp)))
              have HRD := Lib.hid ((HD2.out.block w.heap.size (Array.getElem?_eq_some_iff.1 HR1.out).1).trans HR1.out)
              have hb9 := HC1.out.lt
              refine wpAnyH_ready (rs := [4]) (by kernel_rfl) (by simp) ?_
              refine AllReadyH.cons rfl (fun K hK => ?_) AllReadyH.nil
              go_simp
              refine (pick_any base b (t + 2 * xs.length + 2) xs.length _ (HC1.out.below HD2.out HC1.out.base) (by omega) (by omega) (by omega)).mono ?_
              rintro e w2 ⟨r, rfl, ⟨hr0, hr1⟩, hc, hg⟩
              obtain ⟨k, rfl⟩ := Int.eq_ofNat_of_zero_le hr0
              have hkl : k < xs.length := by omega
              have HC2 := Lib.hid hc
              have HOW2 := Lib.hid (owns_cur (owns_below HOW1.out HD2.out) hg (by omega))
              have HR2 := Lib.hid ((hg.block w.heap.size (Array.getElem?_eq_some_iff.1 (HRD.out)).1 (by intro e; cases e; omega)).trans (HRD.out))
              have HG2 := Lib.hid (grown_trans (grown_low HG1.out (HD2.out.mono HG1.out.size)) hg)
              have HLB := Lib.hid ((hg.block w1.heap.size (by simp) (by intro e; cases e; omega)).trans (show ((w1.alloc (.cells #[.int .i64 (-1), .int .i64 n, .int .i64 0] 3)).drew).heap[w1.heap.size]? = some (.cells #[.int .i64 (-1), .int .i64 n, .int .i64 0] 3) from (MapKept.heap_alloc w1 _).1))
              clear hc hg hHeld
              go_wp2_with fail
              refine hK.out _ _ (cell_of_block HR2.out 0) (fun hHeld => ?_)
              clear hK K
              have HC3 := HC2
              have HOW3 := HOW2
              have HR3 := HR2
              have HG3 := HG2
              refine wpAnyH_ready (rs := [9]) (by kernel_rfl) (by simp) ?_
              refine AllReadyH.cons rfl (fun K hK => ?_) AllReadyH.nil
              go_simp
              refine (among_blk base b (t + 2 * xs.length + 4) 3 _ [-1, n, 0] _ _ ?hcs rfl (HLB.out) ?hkb (HC3.out.more (by omega)) (by omega) (by omega) (by omega)).mono ?_
              case hcs => rfl
              case hkb => omega
              rintro e w4 ⟨x, rfl, _, hc, hg⟩
              have HC4 := Lib.hid hc
              have HOW4 := Lib.hid (owns_cur HOW3.out hg (by omega))
              have HR4 := Lib.hid ((hg.block w.heap.size (Array.getElem?_eq_some_iff.1 HR3.out).1 (by intro e; cases e; omega)).trans HR3.out)
              have HG4 := Lib.hid (grown_trans HG3.out hg)
              clear hc hg hHeld
              go_wp2_with fail
              refine hK.out _ _ (cell_of_block HR4.out 0) (fun hHeld => ?_)
              clear hK K
              refine wpAnyH_take (i := 10) (oi := _) (v := ?_) rfl (by kernel_rfl) (by kernel_rfl) (by kernel_rfl) (fun _ _ _ h => h) (Or.inl ⟨by rfl, ?_⟩) (by assumption) ?_
              rotate_left
              · (intro w hSw; (try dsimp only at hSw); (first | (go_simp; done) | (go_simp; with_reducible rfl)))
              simp only [Act.put, List.getElem_toArray, List.getElem_cons_succ, List.getElem_cons_zero, List.setIfInBounds_toArray, List.set_cons_zero, List.set_cons_succ]
              refine wpAnyH_ready (rs := [11]) (by kernel_rfl) (by simp) ?_
              refine AllReadyH.cons rfl (fun K hK => ?_) AllReadyH.nil
              have hold : ∃ u, w4.cell? ⟨gk, k, none⟩ = some u := ⟨_, (HOW4.out.cellAt k (by omega)).trans (by rw [List.getElem?_map, List.getElem?_eq_getElem hkl]; rfl)⟩
              obtain ⟨u, hu⟩ := hold
              have hfz := HOW4.out.frozenAt k
              go_simp
              have hs0 : (w4.setCell ⟨gk, k, none⟩ (.int .i64 x)).cell? ⟨w.heap.size, 0, none⟩ = some (.int .i64 n) := (((Below.refl (w.heap.size + 1) w4).setCell (p := ⟨gk, k, none⟩) hgk (.int .i64 x)).cell (p := ⟨w.heap.size, 0, none⟩) (Nat.lt_succ_self _)).trans (cell_of_block HR4.out 0)
              refine hK.out _ _ (hs0) (fun hHeld => ?_)
              clear hK K
              refine wpAnyH_done (by kernel_rfl) ?_ _
              refine NoPanic.normal ?_
              have HST5 := Lib.hid (HOW4.out.stored k (.int .i64 x)).1
              clear hu hfz hs0 hHeld
              go_wp2_with fail
              go_ret
              refine ⟨_, xs.set k x, rfl, by simpa using hl1, by simpa using hl62, ?_, ?_, ?_⟩
              · have h := HST5.out
                rw [← List.map_set] at h
                rw [List.length_set]
                exact owns_lower h (Nat.le_succ _)
              · exact (HC4.out.more (by omega)).low (N := w.heap.size + 1) (by omega) ((Below.refl _ _).setCell (p := ⟨gk, k, none⟩) hgk _)
              · exact grown_low HG4.out ((Below.refl _ _).setCell (p := ⟨gk, k, none⟩) (by show w.heap.size ≤ gk; omega) _)
        · go_wp2_with fail
          go_ret
          exact ⟨_, xs, rfl, hl1, hl62, owns_lower HOW.out (Nat.le_succ _), HC.out.more (by omega), HG.out⟩
end Go.Proofs.Ytiokgnabiidlbaa
