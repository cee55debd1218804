/-
  What is proved: the contracts of spec.l6Taken and spec.TakenRuns. Conditions: lists that read as lists of numbers.
-/
import Derived.Test.YtijhbhjapcfddaaExo
import Derived.Test.YtijhbhjapcfddaaFn6
import Derived.BigQuiet
import Derived.Deep.RegionHeld3
import Derived.IntWalk
namespace Go.Proofs.Ytijhbhjapcfddaa
open Go.RowKit
set_option linter.unusedVariables false
set_option linter.unusedSimpArgs false

theorem made_zeros (K : Nat) : (madeCells #[Value.int .i64 0] K).toList = (List.replicate K (0 : Int)).map iv := by
  apply List.ext_getElem?
  intro j
  by_cases hj : j < K
  · simp [madeCells, hj, Nat.mod_one]
  · simp [madeCells, hj]
set_option maxHeartbeats 3200000 in
set_option maxRecDepth 20000 in
theorem l6Taken_any (n : Int) (g : Bool) (v1 v2 v3 : Value) (ss bs os : List Int) (x : Int) (back : Bool) (w : World) (h1 : ReadsI w v1 ss) (h2 : ReadsI w v2 bs) (h3 : ReadsI w v3 os)
    (hb : budB n g ss bs = true) (hx : 0 ≤ x ∧ x < n) (hgx : g = true ∨ x = 0) (ho : ordB os ss.length = true) :
    Calls Try.prog 76 #[rd n g, v1, v2, .int .i64 x, v3, .bool back] w fun e w' => ∃ u, e = .returned (.tuple #[u, .int .i64 ((tkS n g ss bs x os back os.length).1 : Nat)]) ∧ w'.ownsRow w.heap.size 3 1 u ss.length ((tkS n g ss bs x os back os.length).2.map iv) ∧ Below w.heap.size w w' := by
  obtain ⟨i0, hi, hz0, hz1, hz2⟩ := info_parts infoInt
  have hbb := (budB_iff n g ss bs).1 hb
  have hss := (startsB_iff n g ss).1 hbb.1
  have hrr := (roadB_iff n g).1 hss.1
  have hn1 := hrr.1
  have hn2 := hrr.2.1
  have hsl := hss.2.1
  have hsl4 := hss.2.2.1
  have hbl := hbb.2.2
  have hol := ((ordB_iff os ss.length).1 ho).2
  have HOI := Lib.hid (ord_in ho)
  have HSI := Lib.hid (fun (i : Nat) a (h : ss[i]? = some a) => show 0 ≤ a ∧ a < n by have := hss.2.2.2 i a h; omega)
  have HBI := Lib.hid (fun (i : Nat) b (h : bs[i]? = some b) => show 0 ≤ b ∧ b ≤ 99 from ((withB_iff 4 0 99 bs).1 hbb.2.1).2.2 i b h)
  have HFI := Lib.hid (fun (d m : Nat) hd hm => run_fits (n := n) (g := g) (x := x) (d := d) (m := m) hss.1 hx hgx hd hm)
  have HTM := Lib.hid (fun a y m w ha hf => l6Time_any n g a y m back w ha hf)
  have HRG := Lib.hid (fun k => tkS_range n g ss bs x os back k)
  have HX := Lib.hid (Boxed.first w n g 27)
  obtain ⟨y1, c1, hv1, hc1, hm1, hx1⟩ := h1
  obtain ⟨y2, c2, hv2, hc2, hm2, hx2⟩ := h2
  obtain ⟨y3, c3, hv3, hc3, hm3, hx3⟩ := h3
  subst hv1 hv2 hv3
  unfold maxLen at hm1 hm2 hm3
  have HL1 := Lib.hid hx1
  have HL2 := Lib.hid hx2
  have HL3 := Lib.hid hx3
  have hnz : n ≠ 0 := by omega
  clear hx1 hx2 hx3 hbb hss hrr hb ho hgx
  have hsk : ∀ i : Nat, i < ss.length → ∃ a b, ss[i]? = some a ∧ bs[i]? = some b := fun i hi => ⟨ss[i], bs[i]'(by omega), List.getElem?_eq_getElem hi, List.getElem?_eq_getElem (by omega)⟩
  have HSK := Lib.hid hsk
  have HZ0 := Lib.hid (show tkS n g ss bs x os back 0 = (0, List.replicate ss.length 0) from rfl)
  clear hsk
  generalize ss.length = K at *
  unfold rd at *
  go_enter Try.func76, Try.ntmps76
  go_wp2_with (at_make; refine wpList_make_full _ rfl _ _ 24 rfl (w.heap.size + 1) 3 i0 (.int .i64 0) 1 Try.underlying24 hi hz0 hz1 .i64 .i64 _ _ K rfl rfl rfl rfl ?c1 ?c2 ?c3 ?_)
  case c1 => first | omega | (rw [hz2]; omega)
  case c2 => first | (unfold maxLen; omega) | (have := HX.out.size; omega)
  case c3 => first | (simp; done) | (have := HX.out.size; omega)
  intro w2 hown hgrow
  rw [made_zeros] at hown
  have hb2 := (Below.refl _ _).grown hgrow (Nat.le_refl _) (fun k e => by cases e)
  have HX := Lib.hid (HX.out.next hb2)
  have HOW := Lib.hid hown
  clear hgrow hb2 hown
  go_wp2_with fail
  go_loopw [15, 16] (fun dv i wr => ∃ k : Nat, k ≤ os.length ∧ i = .int .i64 k ∧ dv = .int .i64 ((tkS n g ss bs x os back k).1 : Nat) ∧ Boxed w.heap.size n g w wr ∧ wr.ownsRow (w.heap.size + 1) 3 1 (.slice (some ⟨w.heap.size + 1, 0, none⟩) K K) K ((tkS n g ss bs x os back k).2.map iv)) (fun _ i _ => os.length - (intOf i).toNat)
  case atStart => exact ⟨0, Nat.zero_le _, rfl, rfl, HX.out, by rw [HZ0.out]; exact HOW.out⟩
  case round =>
    obtain ⟨k, hk, rfl, rfl, hx9, hown9⟩ := hrel
    clear HX HOW
    have HX := Lib.hid hx9
    have HOW := Lib.hid hown9
    have hrg := HRG.out k
    clear hx9 hown9
    by_cases hlt : k < os.length
    · obtain ⟨y, hyk⟩ := get_some hlt
      have hyr := HOI.out k y hyk
      obtain ⟨i, rfl⟩ : ∃ i : Nat, y = i := ⟨y.toNat, by omega⟩
      obtain ⟨b3, o3, rfl, hbl3, hcy0⟩ := HL3.out k _ hyk
      have hcy : wr.cell? ⟨b3, o3 + k, none⟩ = some (.int .i64 i) := (HX.out.below.cell (p := ⟨b3, o3 + k, none⟩) hbl3).trans hcy0
      obtain ⟨a, b, hsa, hsb⟩ := HSK.out i (by omega)
      obtain ⟨b1, o1, rfl, hbl1, hca⟩ := HL1.out i a hsa
      obtain ⟨b2, o2, rfl, hbl2, hcb⟩ := HL2.out i b hsb
      have har := HSI.out i a hsa
      have hbr := HBI.out i b hsb
      have HNX := Lib.hid (fun d zs (h : tkS n g ss bs x os back k = (d, zs)) => tkS_next h hyk hsa hsb)
      have HCA := Lib.hid hca
      have HCB := Lib.hid hcb
      have HB1 := Lib.hid hbl1
      have HB2 := Lib.hid hbl2
      generalize hSS : tkS n g ss bs x os back k = SS at *
      obtain ⟨d, zs⟩ := SS
      have HN := Lib.hid (HNX.out d zs rfl)
      have hdn : d ≤ n.toNat := hrg.1
      have hzl : zs.length = K := hrg.2
      have hi0 : 0 ≤ (k : Int) := by omega
      have hi1 : (k : Int) < os.length := by omega
      have hik : i < K := by omega
      obtain ⟨z, hz⟩ := get_some (xs := zs) (k := i) (by omega)
      have hxd : 0 ≤ x + (d : Int) := by omega
      have hym := And.intro (Int.emod_nonneg (x + (d : Int)) hnz) (Int.emod_lt_of_pos (x + (d : Int)) (show 0 < n by omega))
      have HMONO := Lib.hid (fun m : Nat => runT_mono (x := (x + (d : Int)) % n) (g := g) (back := back) hn1 har hym m)
      have HRNG := Lib.hid (fun (m : Nat) (hm : m ≤ n.toNat) => runT_range (x := (x + (d : Int)) % n) (g := g) (back := back) ⟨hn1, hn2⟩ har hym m (by omega))
      have HHI := Lib.hid (show 0 ≤ (i : Int) ∧ (i : Int) < (K : Int) ∧ (i : Int) < (bs.length : Int) by omega)
      have hw3 : IntKind.i64.wrap (x + (d : Int)) = x + (d : Int) := IntWalk.i64_in _ (by omega)
      have hw5 : (x + (d : Int)).tmod n = (x + (d : Int)) % n := Int.tmod_eq_emod_of_nonneg hxd
      clear hca hcb hcy0 hyk hsa hsb hbl1 hbl2 hbl3 HNX hSS
      go_wp2_with fail
      clear hcy
      go_loopw [18] (fun mv wr => ∃ m : Nat, mv = .int .i64 m ∧ m ≤ n.toNat - d ∧ (∀ j : Nat, 1 ≤ j → j ≤ m → runT n g a ((x + (d : Int)) % n) j back ≤ b) ∧ Boxed w.heap.size n g w wr ∧ wr.ownsRow (w.heap.size + 1) 3 1 (.slice (some ⟨w.heap.size + 1, 0, none⟩) K K) K (zs.map iv)) (fun mv _ => n.toNat - (intOf mv).toNat)
      case atStart => exact ⟨0, rfl, Nat.zero_le _, fun j h1 h2 => by omega, HX.out, HOW.out⟩
      case round =>
        obtain ⟨m, rfl, hm, hpre, hx9, hown9⟩ := hrel
        clear HX HOW
        have HX := Lib.hid hx9
        have HOW := Lib.hid hown9
        have HPR := Lib.hid hpre
        clear hx9 hown9 hpre
        have h0 := HX.out.c0
        have hw1 : IntKind.i64.wrap ((d : Int) + (m : Int)) = (d : Int) + (m : Int) := IntWalk.i64_in _ (by omega)
        have hw2 : IntKind.i64.wrap ((m : Int) + 1) = (m : Int) + 1 := IntWalk.i64_in _ (by omega)
        by_cases hdm : (d : Int) + (m : Int) < n
        · have hdd : decide ((d : Int) + (m : Int) < n) = true := decide_eq_true hdm
          have hfit := HFI.out d (m + 1) (by omega) (by omega)
          have HF := Lib.hid (show fitsB n g ((x + (d : Int)) % n) ((m : Int) + 1) = true from hfit)
          have hrng := HRNG.out (m + 1) (by omega)
          have hrng2 : 0 ≤ runT n g a ((x + (d : Int)) % n) ((m : Int) + 1) back ∧ runT n g a ((x + (d : Int)) % n) ((m : Int) + 1) back ≤ 200 := hrng
          clear hfit hrng h0
          go_wp2_with fail
          refine wp_region_noPanic ?_
          have HX := Lib.hid (HX.out.next (below_drewN _ 1))
          have HOW := Lib.hid (owns_below HOW.out (below_drewN _ 1))
          obtain ⟨hI0, hI1, hI2⟩ := HHI.out
          refine wp_region_held_drew (S := fun w' => Boxed w.heap.size n g w w' ∧ w'.cell? ⟨w.heap.size, 0, none⟩ = some (.int .i64 n) ∧ w'.cell? ⟨w.heap.size, 1, none⟩ = some (.bool g) ∧ w'.cell? ⟨b1, o1 + i, none⟩ = some (.int .i64 a) ∧ w'.cell? ⟨b2, o2 + i, none⟩ = some (.int .i64 b)) (by kernel_rfl) (⟨HX.out, HX.out.c0, HX.out.c1, (HX.out.below.cell (p := ⟨b1, o1 + i, none⟩) HB1.out).trans HCA.out, (HX.out.below.cell (p := ⟨b2, o2 + i, none⟩) HB2.out).trans HCB.out⟩) (fun hHeld => ?_)
          refine wpAnyH_take (i := 0) (oi := _) (v := ?_) rfl (by kernel_rfl) (by kernel_rfl) (by kernel_rfl) (fun _ _ _ h => h) (Or.inl ⟨by rfl, ?_⟩) (by assumption) ?_
          rotate_left
          · (intro w hSw; (try dsimp only at hSw); (first | (go_simp; done) | (go_simp; with_reducible rfl)))
          simp only [Act.put, List.getElem_toArray, List.getElem_cons_succ, List.getElem_cons_zero, List.setIfInBounds_toArray, List.set_cons_zero, List.set_cons_succ]
          refine wpAnyH_take (i := 1) (oi := _) (v := ?_) rfl (by kernel_rfl) (by kernel_rfl) (by kernel_rfl) (fun _ _ _ h => h) (Or.inl ⟨by rfl, ?_⟩) (by assumption) ?_
          rotate_left
          · (intro w hSw; (try dsimp only at hSw); (first | (go_simp; done) | (go_simp; with_reducible rfl)))
          simp only [Act.put, List.getElem_toArray, List.getElem_cons_succ, List.getElem_cons_zero, List.setIfInBounds_toArray, List.set_cons_zero, List.set_cons_succ]
          refine wpAnyH_take (i := 2) (oi := _) (v := ?_) rfl (by kernel_rfl) (by kernel_rfl) (by kernel_rfl) (fun _ _ _ h => h) (Or.inl ⟨by rfl, ?_⟩) (by assumption) ?_
          rotate_left
          · (intro w hSw; (try dsimp only at hSw); (first | (go_simp; done) | (go_simp; with_reducible rfl)))
          simp only [Act.put, List.getElem_toArray, List.getElem_cons_succ, List.getElem_cons_zero, List.setIfInBounds_toArray, List.set_cons_zero, List.set_cons_succ]
          refine wpAnyH_take (i := 3) (oi := _) (v := ?_) rfl (by kernel_rfl) (by kernel_rfl) (by kernel_rfl) (fun _ _ _ h => h) (Or.inl ⟨by rfl, ?_⟩) (by assumption) ?_
          rotate_left
          · (intro w hSw; (try dsimp only at hSw); (first | (go_simp; done) | (go_simp; with_reducible rfl)))
          simp only [Act.put, List.getElem_toArray, List.getElem_cons_succ, List.getElem_cons_zero, List.setIfInBounds_toArray, List.set_cons_zero, List.set_cons_succ]
          refine wpAnyH_take (i := 4) (oi := _) (v := ?_) rfl (by kernel_rfl) (by kernel_rfl) (by kernel_rfl) (fun _ _ _ h => h) (Or.inl ⟨by rfl, ?_⟩) (by assumption) ?_
          rotate_left
          · (intro w hSw; (try dsimp only at hSw); (first | (go_simp; done) | (go_simp; with_reducible rfl)))
          simp only [Act.put, List.getElem_toArray, List.getElem_cons_succ, List.getElem_cons_zero, List.setIfInBounds_toArray, List.set_cons_zero, List.set_cons_succ]
          refine wpAnyH_take (i := 5) (oi := _) (v := ?_) rfl (by kernel_rfl) (by kernel_rfl) (by kernel_rfl) (fun _ _ _ h => h) (Or.inl ⟨by rfl, ?_⟩) (by assumption) ?_
          rotate_left
          · (intro w hSw; (try dsimp only at hSw); (first | (go_simp; done) | (go_simp; with_reducible rfl)))
          simp only [Act.put, List.getElem_toArray, List.getElem_cons_succ, List.getElem_cons_zero, List.setIfInBounds_toArray, List.set_cons_zero, List.set_cons_succ]
          refine wpAnyH_take (i := 6) (oi := _) (v := ?_) rfl (by kernel_rfl) (by kernel_rfl) (by kernel_rfl) (fun _ _ _ h => h) (Or.inl ⟨by rfl, ?_⟩) (by assumption) ?_
          rotate_left
          · (intro w hSw; (try dsimp only at hSw); (first | (go_simp; done) | (go_simp; with_reducible rfl)))
          simp only [Act.put, List.getElem_toArray, List.getElem_cons_succ, List.getElem_cons_zero, List.setIfInBounds_toArray, List.set_cons_zero, List.set_cons_succ]
          refine wpAnyH_take (i := 7) (oi := _) (v := ?_) rfl (by kernel_rfl) (by kernel_rfl) (by kernel_rfl) (fun _ _ _ h => h) (Or.inl ⟨by rfl, ?_⟩) (by assumption) ?_
          rotate_left
          · (intro w hSw; (try dsimp only at hSw); (first | (go_simp; done) | (go_simp; with_reducible rfl)))
          simp only [Act.put, List.getElem_toArray, List.getElem_cons_succ, List.getElem_cons_zero, List.setIfInBounds_toArray, List.set_cons_zero, List.set_cons_succ]
          refine wpAnyH_take (i := 8) (oi := _) (v := ?_) rfl (by kernel_rfl) (by kernel_rfl) (by kernel_rfl) (fun _ _ _ h => h) (Or.inl ⟨by rfl, ?_⟩) (by assumption) ?_
          rotate_left
          · (intro w hSw; (try dsimp only at hSw); (first | (go_simp; done) | (go_simp; with_reducible rfl)))
          simp only [Act.put, List.getElem_toArray, List.getElem_cons_succ, List.getElem_cons_zero, List.setIfInBounds_toArray, List.set_cons_zero, List.set_cons_succ]
          refine wpAnyH_take (i := 9) (oi := _) (v := ?_) rfl (by kernel_rfl) (by kernel_rfl) (by kernel_rfl) (fun _ _ _ h => h) (Or.inl ⟨by rfl, ?_⟩) (by assumption) ?_
          rotate_left
          · (intro w hSw; (try dsimp only at hSw); (first | (go_simp; done) | (go_simp; with_reducible rfl)))
          simp only [Act.put, List.getElem_toArray, List.getElem_cons_succ, List.getElem_cons_zero, List.setIfInBounds_toArray, List.set_cons_zero, List.set_cons_succ]
          refine wpAnyH_take (i := 10) (oi := _) (v := ?_) rfl (by kernel_rfl) (by kernel_rfl) (by kernel_rfl) (fun _ _ _ h => h) (Or.inl ⟨by rfl, ?_⟩) (by assumption) ?_
          rotate_left
          · (intro w hSw; (try dsimp only at hSw); (first | (go_simp; done) | (go_simp; with_reducible rfl)))
          simp only [Act.put, List.getElem_toArray, List.getElem_cons_succ, List.getElem_cons_zero, List.setIfInBounds_toArray, List.set_cons_zero, List.set_cons_succ]
          refine wpAnyH_take (i := 11) (oi := _) (v := ?_) rfl (by kernel_rfl) (by kernel_rfl) (by kernel_rfl) (fun _ _ _ h => h) (Or.inl ⟨by rfl, ?_⟩) (by assumption) ?_
          rotate_left
          · (intro w hSw; (try dsimp only at hSw); (first | (go_simp; done) | (go_simp; with_reducible rfl)))
          simp only [Act.put, List.getElem_toArray, List.getElem_cons_succ, List.getElem_cons_zero, List.setIfInBounds_toArray, List.set_cons_zero, List.set_cons_succ]
          refine wpAnyH_take (i := 12) (oi := _) (v := ?_) rfl (by kernel_rfl) (by kernel_rfl) (by kernel_rfl) (fun _ _ _ h => h) (Or.inl ⟨by rfl, ?_⟩) (by assumption) ?_
          rotate_left
          · (intro w hSw; (try dsimp only at hSw); (first | (go_simp; done) | (go_simp; with_reducible rfl)))
          simp only [Act.put, List.getElem_toArray, List.getElem_cons_succ, List.getElem_cons_zero, List.setIfInBounds_toArray, List.set_cons_zero, List.set_cons_succ]
          refine wpAnyH_take (i := 13) (oi := _) (v := ?_) rfl (by kernel_rfl) (by kernel_rfl) (by kernel_rfl) (fun _ _ _ h => h) (Or.inl ⟨by rfl, ?_⟩) (by assumption) ?_
          rotate_left
          · (intro w hSw; (try dsimp only at hSw); (first | (go_simp; done) | (go_simp; with_reducible rfl)))
          simp only [Act.put, List.getElem_toArray, List.getElem_cons_succ, List.getElem_cons_zero, List.setIfInBounds_toArray, List.set_cons_zero, List.set_cons_succ]
          refine wpAnyH_take (i := 14) (oi := _) (v := ?_) rfl (by kernel_rfl) (by kernel_rfl) (by kernel_rfl) (fun _ _ _ h => h) (Or.inl ⟨by rfl, ?_⟩) (by assumption) ?_
          rotate_left
          · (intro w hSw; (try dsimp only at hSw); (first | (go_simp; done) | (go_simp; with_reducible rfl)))
          simp only [Act.put, List.getElem_toArray, List.getElem_cons_succ, List.getElem_cons_zero, List.setIfInBounds_toArray, List.set_cons_zero, List.set_cons_succ]
          refine wpAnyH_take (i := 15) (oi := _) (v := ?_) rfl (by kernel_rfl) (by kernel_rfl) (by kernel_rfl) (fun _ _ _ h => h) (Or.inl ⟨by rfl, ?_⟩) (by assumption) ?_
          rotate_left
          · (intro w hSw; (try dsimp only at hSw); (first | (go_simp; done) | (go_simp; with_reducible rfl)))
          simp only [Act.put, List.getElem_toArray, List.getElem_cons_succ, List.getElem_cons_zero, List.setIfInBounds_toArray, List.set_cons_zero, List.set_cons_succ]
          refine wpAnyH_take (i := 16) (oi := _) (v := ?_) rfl (by kernel_rfl) (by kernel_rfl) (by kernel_rfl) (fun _ _ _ h => h) (Or.inl ⟨by rfl, ?_⟩) (by assumption) ?_
          rotate_left
          · (intro w hSw; (try dsimp only at hSw); (first | (go_simp; done) | (go_simp; with_reducible rfl)))
          simp only [Act.put, List.getElem_toArray, List.getElem_cons_succ, List.getElem_cons_zero, List.setIfInBounds_toArray, List.set_cons_zero, List.set_cons_succ]
          refine wpAnyH_take (i := 17) (oi := _) (v := ?_) rfl (by kernel_rfl) (by kernel_rfl) (by kernel_rfl) (fun _ _ _ h => h) (Or.inl ⟨by rfl, ?_⟩) (by assumption) ?_
          rotate_left
          · (intro w hSw; (try dsimp only at hSw); (first | (go_simp; done) | (go_simp; with_reducible rfl)))
          simp only [Act.put, List.getElem_toArray, List.getElem_cons_succ, List.getElem_cons_zero, List.setIfInBounds_toArray, List.set_cons_zero, List.set_cons_succ]
          refine wpAnyH_take (i := 18) (oi := _) (v := ?_) rfl (by kernel_rfl) (by kernel_rfl) (by kernel_rfl) (fun _ _ _ h => h) (Or.inl ⟨by rfl, ?_⟩) (by assumption) ?_
          rotate_left
          · (intro w hSw; (try dsimp only at hSw); (first | (go_simp; done) | (go_simp; with_reducible rfl)))
          simp only [Act.put, List.getElem_toArray, List.getElem_cons_succ, List.getElem_cons_zero, List.setIfInBounds_toArray, List.set_cons_zero, List.set_cons_succ]
          refine wpAnyH_take (i := 19) (oi := _) (v := ?_) rfl (by kernel_rfl) (by kernel_rfl) (by kernel_rfl) (fun _ _ _ h => h) (Or.inl ⟨by rfl, ?_⟩) (by assumption) ?_
          rotate_left
          · (intro w hSw; (try dsimp only at hSw); (first | (go_simp; done) | (go_simp; with_reducible rfl)))
          simp only [Act.put, List.getElem_toArray, List.getElem_cons_succ, List.getElem_cons_zero, List.setIfInBounds_toArray, List.set_cons_zero, List.set_cons_succ]
          refine wpAnyH_take (i := 20) (oi := _) (v := ?_) rfl (by kernel_rfl) (by kernel_rfl) (by kernel_rfl) (fun _ _ _ h => h) (Or.inl ⟨by rfl, ?_⟩) (by assumption) ?_
          rotate_left
          · (intro w hSw; (try dsimp only at hSw); (first | (go_simp; done) | (go_simp; with_reducible rfl)))
          simp only [Act.put, List.getElem_toArray, List.getElem_cons_succ, List.getElem_cons_zero, List.setIfInBounds_toArray, List.set_cons_zero, List.set_cons_succ]
          refine wpAnyH_take (i := 22) (oi := _) (v := ?_) rfl (by kernel_rfl) (by kernel_rfl) (by kernel_rfl) (fun _ _ _ h => h) (Or.inl ⟨by rfl, ?_⟩) (by assumption) ?_
          rotate_left
          · (intro w hSw; (try dsimp only at hSw); (first | (go_simp; done) | (go_simp; with_reducible rfl)))
          simp only [Act.put, List.getElem_toArray, List.getElem_cons_succ, List.getElem_cons_zero, List.setIfInBounds_toArray, List.set_cons_zero, List.set_cons_succ]
          refine wpAnyH_take (i := 23) (oi := _) (v := ?_) rfl (by kernel_rfl) (by kernel_rfl) (by kernel_rfl) (fun _ _ _ h => h) (Or.inl ⟨by rfl, ?_⟩) (by assumption) ?_
          rotate_left
          · (intro w hSw; (try dsimp only at hSw); (first | (go_simp; done) | (go_simp; with_reducible rfl)))
          simp only [Act.put, List.getElem_toArray, List.getElem_cons_succ, List.getElem_cons_zero, List.setIfInBounds_toArray, List.set_cons_zero, List.set_cons_succ]
          refine wpAnyH_take (i := 24) (oi := _) (v := ?_) rfl (by kernel_rfl) (by kernel_rfl) (by kernel_rfl) (fun _ _ _ h => h) (Or.inl ⟨by rfl, ?_⟩) (by assumption) ?_
          rotate_left
          · (intro w hSw; (try dsimp only at hSw); (first | (go_simp; done) | (go_simp; with_reducible rfl)))
          simp only [Act.put, List.getElem_toArray, List.getElem_cons_succ, List.getElem_cons_zero, List.setIfInBounds_toArray, List.set_cons_zero, List.set_cons_succ]
          refine wpAnyH_take (i := 25) (oi := _) (v := ?_) rfl (by kernel_rfl) (by kernel_rfl) (by kernel_rfl) (fun _ _ _ h => h) (Or.inl ⟨by rfl, ?_⟩) (by assumption) ?_
          rotate_left
          · (intro w hSw; (try dsimp only at hSw); (first | (go_simp; done) | (go_simp; with_reducible rfl)))
          simp only [Act.put, List.getElem_toArray, List.getElem_cons_succ, List.getElem_cons_zero, List.setIfInBounds_toArray, List.set_cons_zero, List.set_cons_succ]
          refine wpAnyH_ready (rs := [21]) (by kernel_rfl) (by simp) ?_
          refine AllReadyH.cons rfl (fun K hK => ?_) AllReadyH.nil
          go_simp
          refine (HTM.out a _ _ _ har HF.out).mono ?_
          rintro e w21 ⟨rfl, hb⟩
          have HX := Lib.hid (HX.out.next hb)
          have HOW := Lib.hid (owns_below HOW.out hb)
          clear hb
          clear hHeld
          try go_wp2_with fail
          refine hK.out _ _ (⟨HX.out, HX.out.c0, HX.out.c1, (HX.out.below.cell (p := ⟨b1, o1 + i, none⟩) HB1.out).trans HCA.out, (HX.out.below.cell (p := ⟨b2, o2 + i, none⟩) HB2.out).trans HCB.out⟩) (fun hHeld => ?_)
          clear hK K
          refine wpAnyH_take (i := 26) (oi := _) (v := ?_) rfl (by kernel_rfl) (by kernel_rfl) (by kernel_rfl) (fun _ _ _ h => h) (Or.inl ⟨by rfl, ?_⟩) (by assumption) ?_
          rotate_left
          · (intro w hSw; (try dsimp only at hSw); (first | (go_simp; done) | (go_simp; with_reducible rfl)))
          simp only [Act.put, List.getElem_toArray, List.getElem_cons_succ, List.getElem_cons_zero, List.setIfInBounds_toArray, List.set_cons_zero, List.set_cons_succ]
          refine wpAnyH_take (i := 27) (oi := _) (v := ?_) rfl (by kernel_rfl) (by kernel_rfl) (by kernel_rfl) (fun _ _ _ h => h) (Or.inl ⟨by rfl, ?_⟩) (by assumption) ?_
          rotate_left
          · (intro w hSw; (try dsimp only at hSw); (first | (go_simp; done) | (go_simp; with_reducible rfl)))
          simp only [Act.put, List.getElem_toArray, List.getElem_cons_succ, List.getElem_cons_zero, List.setIfInBounds_toArray, List.set_cons_zero, List.set_cons_succ]
          refine wpAnyH_done (by kernel_rfl) ?_ _
          refine NoPanic.normal ?_
          clear hHeld
          by_cases hle : runT n g a ((x + (d : Int)) % n) ((m : Int) + 1) back ≤ b
          · have hle2 : runT n g a ((x + (d : Int)) % n) ((m + 1 : Nat) : Int) back ≤ b := hle
            have HLE := Lib.hid hle2
            clear hle2
            go_wp2_with fail
            go_roundw
            case rel =>
              refine ⟨m + 1, by go_num, by omega, fun j hj1 hj2 => ?_, HX.out, HOW.out⟩
              by_cases e : j = m + 1
              · subst e
                exact HLE.out
              · exact HPR.out j hj1 (by omega)
            case measure => simp [intOf] <;> omega
          · have HTK := Lib.hid (tkN_up (T := fun j : Nat => runT n g a ((x + (d : Int)) % n) j back) (b := b) HMONO.out hm HPR.out (Or.inr (show b < runT n g a ((x + (d : Int)) % n) ((m + 1 : Nat) : Int) back by have h8 : runT n g a ((x + (d : Int)) % n) ((m + 1 : Nat) : Int) back = runT n g a ((x + (d : Int)) % n) ((m : Int) + 1) back := rfl; rw [h8]; omega)))
            clear hrng2
            have hold := (HOW.out.cellAt i (by omega)).trans (show (zs.map iv)[i]? = some (.int .i64 z) by rw [List.getElem?_map, hz]; rfl)
            have hfr := HOW.out.frozenAt i
            have Hst := Lib.hid (HOW.out.stored i (.int .i64 (m : Nat)))
            have Hset := Lib.hid (show (zs.map iv).set i (.int .i64 (m : Nat)) = (zs.set i (m : Int)).map iv by rw [List.map_set])
            have HOB := Lib.hid (fun b hb => (owns_block HOW.out b hb).1)
            have hw9 : IntKind.i64.wrap ((d : Int) + (m : Int)) = (d : Int) + (m : Int) := IntWalk.i64_in _ (by omega)
            go_wp2_with fail
            go_roundw
            case rel =>
              refine ⟨k + 1, by omega, by go_num, by rw [HN.out, HTK.out]; show Value.int .i64 _ = Value.int .i64 _; congr 1, HX.out.nextAt (Nat.lt_succ_self _) (below_grown (v := .slice (some ⟨w.heap.size + 1, 0, none⟩) K K) Hst.out.2 HOB.out (Nat.succ_le_of_lt HX.out.size)), ?_⟩
              rw [HN.out, HTK.out]
              show World.ownsRow _ _ _ _ _ _ ((zs.set i (m : Int)).map iv)
              rw [← Hset.out]
              exact Hst.out.1
            case measure => simp [intOf] <;> omega
        · have hdd : decide ((d : Int) + (m : Int) < n) = false := decide_eq_false hdm
          have HTK := Lib.hid (tkN_up (T := fun j : Nat => runT n g a ((x + (d : Int)) % n) j back) (b := b) HMONO.out hm HPR.out (Or.inl (by omega)))
          clear h0
          go_wp2_with fail
          refine wp_region_noPanic ?_
          have HX := Lib.hid (HX.out.next (below_drewN _ 1))
          have HOW := Lib.hid (owns_below HOW.out (below_drewN _ 1))
          obtain ⟨hI0, hI1, hI2⟩ := HHI.out
          refine wp_region_held_drew (S := fun w' => Boxed w.heap.size n g w w' ∧ w'.cell? ⟨w.heap.size, 0, none⟩ = some (.int .i64 n) ∧ w'.cell? ⟨w.heap.size, 1, none⟩ = some (.bool g) ∧ w'.cell? ⟨b1, o1 + i, none⟩ = some (.int .i64 a) ∧ w'.cell? ⟨b2, o2 + i, none⟩ = some (.int .i64 b)) (by kernel_rfl) (⟨HX.out, HX.out.c0, HX.out.c1, (HX.out.below.cell (p := ⟨b1, o1 + i, none⟩) HB1.out).trans HCA.out, (HX.out.below.cell (p := ⟨b2, o2 + i, none⟩) HB2.out).trans HCB.out⟩) (fun hHeld => ?_)
          refine wpAnyH_take (i := 0) (oi := _) (v := ?_) rfl (by kernel_rfl) (by kernel_rfl) (by kernel_rfl) (fun _ _ _ h => h) (Or.inl ⟨by rfl, ?_⟩) (by assumption) ?_
          rotate_left
          · (intro w hSw; (try dsimp only at hSw); (first | (go_simp; done) | (go_simp; with_reducible rfl)))
          simp only [Act.put, List.getElem_toArray, List.getElem_cons_succ, List.getElem_cons_zero, List.setIfInBounds_toArray, List.set_cons_zero, List.set_cons_succ]
          refine wpAnyH_take (i := 1) (oi := _) (v := ?_) rfl (by kernel_rfl) (by kernel_rfl) (by kernel_rfl) (fun _ _ _ h => h) (Or.inl ⟨by rfl, ?_⟩) (by assumption) ?_
          rotate_left
          · (intro w hSw; (try dsimp only at hSw); (first | (go_simp; done) | (go_simp; with_reducible rfl)))
          simp only [Act.put, List.getElem_toArray, List.getElem_cons_succ, List.getElem_cons_zero, List.setIfInBounds_toArray, List.set_cons_zero, List.set_cons_succ]
          refine wpAnyH_take (i := 2) (oi := _) (v := ?_) rfl (by kernel_rfl) (by kernel_rfl) (by kernel_rfl) (fun _ _ _ h => h) (Or.inl ⟨by rfl, ?_⟩) (by assumption) ?_
          rotate_left
          · (intro w hSw; (try dsimp only at hSw); (first | (go_simp; done) | (go_simp; with_reducible rfl)))
          simp only [Act.put, List.getElem_toArray, List.getElem_cons_succ, List.getElem_cons_zero, List.setIfInBounds_toArray, List.set_cons_zero, List.set_cons_succ]
          refine wpAnyH_take (i := 3) (oi := _) (v := ?_) rfl (by kernel_rfl) (by kernel_rfl) (by kernel_rfl) (fun _ _ _ h => h) (Or.inl ⟨by rfl, ?_⟩) (by assumption) ?_
          rotate_left
          · (intro w hSw; (try dsimp only at hSw); (first | (go_simp; done) | (go_simp; with_reducible rfl)))
          simp only [Act.put, List.getElem_toArray, List.getElem_cons_succ, List.getElem_cons_zero, List.setIfInBounds_toArray, List.set_cons_zero, List.set_cons_succ]
          refine wpAnyH_take (i := 4) (oi := _) (v := ?_) rfl (by kernel_rfl) (by kernel_rfl) (by kernel_rfl) (fun _ _ _ h => h) (Or.inl ⟨by rfl, ?_⟩) (by assumption) ?_
          rotate_left
          · (intro w hSw; (try dsimp only at hSw); (first | (go_simp; done) | (go_simp; with_reducible rfl)))
          simp only [Act.put, List.getElem_toArray, List.getElem_cons_succ, List.getElem_cons_zero, List.setIfInBounds_toArray, List.set_cons_zero, List.set_cons_succ]
          refine wpAnyH_take (i := 5) (oi := _) (v := ?_) rfl (by kernel_rfl) (by kernel_rfl) (by kernel_rfl) (fun _ _ _ h => h) (Or.inl ⟨by rfl, ?_⟩) (by assumption) ?_
          rotate_left
          · (intro w hSw; (try dsimp only at hSw); (first | (go_simp; done) | (go_simp; with_reducible rfl)))
          simp only [Act.put, List.getElem_toArray, List.getElem_cons_succ, List.getElem_cons_zero, List.setIfInBounds_toArray, List.set_cons_zero, List.set_cons_succ]
          refine wpAnyH_take (i := 6) (oi := _) (v := ?_) rfl (by kernel_rfl) (by kernel_rfl) (by kernel_rfl) (fun _ _ _ h => h) (Or.inl ⟨by rfl, ?_⟩) (by assumption) ?_
          rotate_left
          · (intro w hSw; (try dsimp only at hSw); (first | (go_simp; done) | (go_simp; with_reducible rfl)))
          simp only [Act.put, List.getElem_toArray, List.getElem_cons_succ, List.getElem_cons_zero, List.setIfInBounds_toArray, List.set_cons_zero, List.set_cons_succ]
          refine wpAnyH_take (i := 7) (oi := _) (v := undef) rfl (by kernel_rfl) (by kernel_rfl) (by kernel_rfl) (fun _ _ _ h => h) (Or.inr ⟨by rfl, rfl⟩) (by assumption) ?_
          simp only [Act.put, List.getElem_toArray, List.getElem_cons_succ, List.getElem_cons_zero, List.setIfInBounds_toArray, List.set_cons_zero, List.set_cons_succ]
          refine wpAnyH_take (i := 8) (oi := _) (v := undef) rfl (by kernel_rfl) (by kernel_rfl) (by kernel_rfl) (fun _ _ _ h => h) (Or.inr ⟨by rfl, rfl⟩) (by assumption) ?_
          simp only [Act.put, List.getElem_toArray, List.getElem_cons_succ, List.getElem_cons_zero, List.setIfInBounds_toArray, List.set_cons_zero, List.set_cons_succ]
          refine wpAnyH_take (i := 9) (oi := _) (v := undef) rfl (by kernel_rfl) (by kernel_rfl) (by kernel_rfl) (fun _ _ _ h => h) (Or.inr ⟨by rfl, rfl⟩) (by assumption) ?_
          simp only [Act.put, List.getElem_toArray, List.getElem_cons_succ, List.getElem_cons_zero, List.setIfInBounds_toArray, List.set_cons_zero, List.set_cons_succ]
          refine wpAnyH_take (i := 10) (oi := _) (v := undef) rfl (by kernel_rfl) (by kernel_rfl) (by kernel_rfl) (fun _ _ _ h => h) (Or.inr ⟨by rfl, rfl⟩) (by assumption) ?_
          simp only [Act.put, List.getElem_toArray, List.getElem_cons_succ, List.getElem_cons_zero, List.setIfInBounds_toArray, List.set_cons_zero, List.set_cons_succ]
          refine wpAnyH_take (i := 11) (oi := _) (v := undef) rfl (by kernel_rfl) (by kernel_rfl) (by kernel_rfl) (fun _ _ _ h => h) (Or.inr ⟨by rfl, rfl⟩) (by assumption) ?_
          simp only [Act.put, List.getElem_toArray, List.getElem_cons_succ, List.getElem_cons_zero, List.setIfInBounds_toArray, List.set_cons_zero, List.set_cons_succ]
          refine wpAnyH_take (i := 12) (oi := _) (v := undef) rfl (by kernel_rfl) (by kernel_rfl) (by kernel_rfl) (fun _ _ _ h => h) (Or.inr ⟨by rfl, rfl⟩) (by assumption) ?_
          simp only [Act.put, List.getElem_toArray, List.getElem_cons_succ, List.getElem_cons_zero, List.setIfInBounds_toArray, List.set_cons_zero, List.set_cons_succ]
          refine wpAnyH_take (i := 13) (oi := _) (v := undef) rfl (by kernel_rfl) (by kernel_rfl) (by kernel_rfl) (fun _ _ _ h => h) (Or.inr ⟨by rfl, rfl⟩) (by assumption) ?_
          simp only [Act.put, List.getElem_toArray, List.getElem_cons_succ, List.getElem_cons_zero, List.setIfInBounds_toArray, List.set_cons_zero, List.set_cons_succ]
          refine wpAnyH_take (i := 14) (oi := _) (v := undef) rfl (by kernel_rfl) (by kernel_rfl) (by kernel_rfl) (fun _ _ _ h => h) (Or.inr ⟨by rfl, rfl⟩) (by assumption) ?_
          simp only [Act.put, List.getElem_toArray, List.getElem_cons_succ, List.getElem_cons_zero, List.setIfInBounds_toArray, List.set_cons_zero, List.set_cons_succ]
          refine wpAnyH_take (i := 15) (oi := _) (v := undef) rfl (by kernel_rfl) (by kernel_rfl) (by kernel_rfl) (fun _ _ _ h => h) (Or.inr ⟨by rfl, rfl⟩) (by assumption) ?_
          simp only [Act.put, List.getElem_toArray, List.getElem_cons_succ, List.getElem_cons_zero, List.setIfInBounds_toArray, List.set_cons_zero, List.set_cons_succ]
          refine wpAnyH_take (i := 16) (oi := _) (v := undef) rfl (by kernel_rfl) (by kernel_rfl) (by kernel_rfl) (fun _ _ _ h => h) (Or.inr ⟨by rfl, rfl⟩) (by assumption) ?_
          simp only [Act.put, List.getElem_toArray, List.getElem_cons_succ, List.getElem_cons_zero, List.setIfInBounds_toArray, List.set_cons_zero, List.set_cons_succ]
          refine wpAnyH_take (i := 17) (oi := _) (v := undef) rfl (by kernel_rfl) (by kernel_rfl) (by kernel_rfl) (fun _ _ _ h => h) (Or.inr ⟨by rfl, rfl⟩) (by assumption) ?_
          simp only [Act.put, List.getElem_toArray, List.getElem_cons_succ, List.getElem_cons_zero, List.setIfInBounds_toArray, List.set_cons_zero, List.set_cons_succ]
          refine wpAnyH_take (i := 18) (oi := _) (v := undef) rfl (by kernel_rfl) (by kernel_rfl) (by kernel_rfl) (fun _ _ _ h => h) (Or.inr ⟨by rfl, rfl⟩) (by assumption) ?_
          simp only [Act.put, List.getElem_toArray, List.getElem_cons_succ, List.getElem_cons_zero, List.setIfInBounds_toArray, List.set_cons_zero, List.set_cons_succ]
          refine wpAnyH_take (i := 19) (oi := _) (v := undef) rfl (by kernel_rfl) (by kernel_rfl) (by kernel_rfl) (fun _ _ _ h => h) (Or.inr ⟨by rfl, rfl⟩) (by assumption) ?_
          simp only [Act.put, List.getElem_toArray, List.getElem_cons_succ, List.getElem_cons_zero, List.setIfInBounds_toArray, List.set_cons_zero, List.set_cons_succ]
          refine wpAnyH_take (i := 20) (oi := _) (v := undef) rfl (by kernel_rfl) (by kernel_rfl) (by kernel_rfl) (fun _ _ _ h => h) (Or.inr ⟨by rfl, rfl⟩) (by assumption) ?_
          simp only [Act.put, List.getElem_toArray, List.getElem_cons_succ, List.getElem_cons_zero, List.setIfInBounds_toArray, List.set_cons_zero, List.set_cons_succ]
          refine wpAnyH_take (i := 21) (oi := _) (v := undef) rfl (by kernel_rfl) (by kernel_rfl) (by kernel_rfl) (fun _ _ _ h => h) (Or.inr ⟨by rfl, rfl⟩) (by assumption) ?_
          simp only [Act.put, List.getElem_toArray, List.getElem_cons_succ, List.getElem_cons_zero, List.setIfInBounds_toArray, List.set_cons_zero, List.set_cons_succ]
          refine wpAnyH_take (i := 22) (oi := _) (v := undef) rfl (by kernel_rfl) (by kernel_rfl) (by kernel_rfl) (fun _ _ _ h => h) (Or.inr ⟨by rfl, rfl⟩) (by assumption) ?_
          simp only [Act.put, List.getElem_toArray, List.getElem_cons_succ, List.getElem_cons_zero, List.setIfInBounds_toArray, List.set_cons_zero, List.set_cons_succ]
          refine wpAnyH_take (i := 23) (oi := _) (v := undef) rfl (by kernel_rfl) (by kernel_rfl) (by kernel_rfl) (fun _ _ _ h => h) (Or.inr ⟨by rfl, rfl⟩) (by assumption) ?_
          simp only [Act.put, List.getElem_toArray, List.getElem_cons_succ, List.getElem_cons_zero, List.setIfInBounds_toArray, List.set_cons_zero, List.set_cons_succ]
          refine wpAnyH_take (i := 24) (oi := _) (v := undef) rfl (by kernel_rfl) (by kernel_rfl) (by kernel_rfl) (fun _ _ _ h => h) (Or.inr ⟨by rfl, rfl⟩) (by assumption) ?_
          simp only [Act.put, List.getElem_toArray, List.getElem_cons_succ, List.getElem_cons_zero, List.setIfInBounds_toArray, List.set_cons_zero, List.set_cons_succ]
          refine wpAnyH_take (i := 25) (oi := _) (v := undef) rfl (by kernel_rfl) (by kernel_rfl) (by kernel_rfl) (fun _ _ _ h => h) (Or.inr ⟨by rfl, rfl⟩) (by assumption) ?_
          simp only [Act.put, List.getElem_toArray, List.getElem_cons_succ, List.getElem_cons_zero, List.setIfInBounds_toArray, List.set_cons_zero, List.set_cons_succ]
          refine wpAnyH_take (i := 26) (oi := _) (v := undef) rfl (by kernel_rfl) (by kernel_rfl) (by kernel_rfl) (fun _ _ _ h => h) (Or.inr ⟨by rfl, rfl⟩) (by assumption) ?_
          simp only [Act.put, List.getElem_toArray, List.getElem_cons_succ, List.getElem_cons_zero, List.setIfInBounds_toArray, List.set_cons_zero, List.set_cons_succ]
          refine wpAnyH_take (i := 27) (oi := _) (v := ?_) rfl (by kernel_rfl) (by kernel_rfl) (by kernel_rfl) (fun _ _ _ h => h) (Or.inl ⟨by rfl, ?_⟩) (by assumption) ?_
          rotate_left
          · (intro w hSw; (try dsimp only at hSw); (first | (go_simp; done) | (go_simp; with_reducible rfl)))
          simp only [Act.put, List.getElem_toArray, List.getElem_cons_succ, List.getElem_cons_zero, List.setIfInBounds_toArray, List.set_cons_zero, List.set_cons_succ]
          refine wpAnyH_done (by kernel_rfl) ?_ _
          refine NoPanic.normal ?_
          clear hHeld
          have e21 : wr.drew = wr.drewN 1 := rfl
          try rw [e21]
          generalize wr.drewN 1 = w21 at *
          clear e21
          have hold := (HOW.out.cellAt i (by omega)).trans (show (zs.map iv)[i]? = some (.int .i64 z) by rw [List.getElem?_map, hz]; rfl)
          have hfr := HOW.out.frozenAt i
          have Hst := Lib.hid (HOW.out.stored i (.int .i64 (m : Nat)))
          have Hset := Lib.hid (show (zs.map iv).set i (.int .i64 (m : Nat)) = (zs.set i (m : Int)).map iv by rw [List.map_set])
          have HOB := Lib.hid (fun b hb => (owns_block HOW.out b hb).1)
          have hw9 : IntKind.i64.wrap ((d : Int) + (m : Int)) = (d : Int) + (m : Int) := IntWalk.i64_in _ (by omega)
          go_wp2_with fail
          go_roundw
          case rel =>
            refine ⟨k + 1, by omega, by go_num, by rw [HN.out, HTK.out]; show Value.int .i64 _ = Value.int .i64 _; congr 1, HX.out.nextAt (Nat.lt_succ_self _) (below_grown (v := .slice (some ⟨w.heap.size + 1, 0, none⟩) K K) Hst.out.2 HOB.out (Nat.succ_le_of_lt HX.out.size)), ?_⟩
            rw [HN.out, HTK.out]
            show World.ownsRow _ _ _ _ _ _ ((zs.set i (m : Int)).map iv)
            rw [← Hset.out]
            exact Hst.out.1
          case measure => simp [intOf] <;> omega
    · have hE : k = os.length := by omega
      subst hE
      go_wp2_with fail
      go_ret2
      exact ⟨_, rfl, owns_lower HOW.out (Nat.le_succ _), HX.out.below⟩
end Go.Proofs.Ytijhbhjapcfddaa
