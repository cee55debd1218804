/-
  What is proved: the contract of spec.l5Idle. Conditions: valid roads, tables of rows of one length, of 1 to 60 numbers.
-/
import Derived.Test.YtijhbhjapcfddaaVtc
namespace Go.Proofs.Ytijhbhjapcfddaa
open Go.RowKit
set_option linter.unusedVariables false
set_option linter.unusedSimpArgs false

theorem pickV_in (P : Nat → Bool) : ∀ k x, x ∈ pickV P k → 0 ≤ x ∧ x < (k : Int)
  | 0, x, h => by simp [pickV] at h
  | k + 1, x, h => by
    by_cases hp : P k = true
    · rw [pickV_yes hp, List.mem_append] at h
      rcases h with h | h
      · have := pickV_in P k x h; omega
      · simp at h; omega
    · rw [pickV_no (by simpa using hp)] at h
      have := pickV_in P k x h
      omega
theorem timV_in {xss : List (List Int)} {p : Int} {L : Nat} : ∀ (j : Nat) x, (timV xss p L)[j]? = some x → 0 ≤ x ∧ x < (L : Int) := fun j x h => pickV_in _ _ x (List.mem_of_getElem? h)
theorem timV_len (xss : List (List Int)) (p : Int) (L : Nat) : (timV xss p L).length ≤ L := pickV_len _ _
/-- the idle time of the place p -/
def idlF (xss : List (List Int)) (L : Nat) (p : Nat) : Int := idleV (timV xss p L) L
theorem idleV_in {ts : List Int} {L : Nat} (hts : ∀ (j : Nat) x, ts[j]? = some x → 0 ≤ x ∧ x < (L : Int)) (hL : L ≤ 60) : -1 ≤ idleV ts L ∧ idleV ts L ≤ 120 :=
  ⟨topV_low _ _, topV_high (by omega) _ (fun j hj => (gapV_in (L := L) (fun j x h => by have := hts j x h; omega) hL hj).2)⟩
def VdRel (n : Int) (g : Bool) (f : Nat → Int) (m base : Nat) (w : World) (z i : Value) (wr : World) : Prop :=
  Boxed base n g w wr ∧ ∃ k : Nat, k ≤ m ∧ i = .int .i64 k ∧ wr.ownsRow (base + 1) 3 1 z k ((rowF f k).map iv)
theorem vd_next {n : Int} {g : Bool} {f : Nat → Int} {m base k : Nat} {w wr w' : World} {z z' i : Value} {t : TypeId} {x : Int} {ys : List Value} (hx : Boxed base n g w wr) (ho : wr.ownsRow (base + 1) 3 1 z k ys) (hys : (rowF f k).map iv = ys) (hk : k < m) (hi : i = .int .i64 ((k + 1 : Nat) : Int)) (hf : f k = x)
    (hown : w'.ownsRow (base + 1) 3 1 z' (k + 1) (ys ++ [.int .i64 x])) (hg : (wr.alloc (.cells #[.int .i64 x] t)).grownBy w' z.ownBlock) : VdRel n g f m base w z' i w' := by
  subst hys hf
  refine ⟨hx.nextAt (Nat.lt_succ_self _) (((Below.refl _ _).alloc (Nat.succ_le_of_lt hx.size) _).trans (below_grown hg (fun b hb => (row_block ho b hb).1) (by have := hx.size; simp; omega))), k + 1, hk, hi, ?_⟩
  rw [rowF_next, List.map_append]
  exact hown
def IiRel (f : Nat → Int) (m : Nat) (wB : World) (e i : Value) (wr : World) : Prop :=
  Below wB.heap.size wB wr ∧ ∃ j : Nat, j ≤ m ∧ i = .int .i64 j ∧ e = .int .i64 (topV f j)
set_option maxHeartbeats 1600000 in
set_option maxRecDepth 20000 in
theorem l5Idle_any (N : Nat) (g : Bool) (v : Value) (xss : List (List Int)) (L : Nat) (w : World) (hv : ReadsL w v xss) (hrows : ∀ (j : Nat) xs, xss[j]? = some xs → xs.length = L) (hL : 1 ≤ L ∧ L ≤ 60) (hk : 1 ≤ xss.length ∧ xss.length ≤ 6) (hN : N ≤ 24) :
    Calls Try.prog 106 #[rd N g, v] w (OwnsI w.heap.size (rowF (idlF xss L) N) w) := by
  obtain ⟨i0, hi, hz0, hz1, hz2⟩ := info_parts infoInt
  have HT := Lib.hid (fun p v w hv => l5Times_any v xss L p w hv hrows hL hk)
  have HV := Lib.hid hv
  have hl0 := hk.1
  obtain ⟨y0, hy0⟩ := get_some (xs := xss) (k := 0) (by omega)
  have hyl := hrows 0 y0 hy0
  obtain ⟨va, vc, rfl, hvc, hvm, _⟩ := hv
  unfold maxLen at hvm
  obtain ⟨b, o, a2, c2, rfl, hbl, hc0, _⟩ := lists_in HV.out hy0
  have HC0 := Lib.hid (show w.cell? ⟨b, o, none⟩ = some (.slice a2 L c2) from by rw [← hyl]; exact hc0)
  have hL60 := hL.2
  have hk0 : 0 < xss.length := hk.1
  have HX := Lib.hid (Boxed.first w N g 27)
  have HX2 := Lib.hid (HX.out.next (below_new _ (.cells #[] 3)))
  have HO := Lib.hid (made_at (w.alloc (.cells #[.int .i64 N, .bool g] 27)) (w.heap.size + 1) (w.heap.size + 1) (by simp) (Nat.le_refl _))
  clear hrows hyl hc0 hy0 hL hk hl0
  unfold rd at *
  go_enter Try.func106, Try.ntmps106
  go_wp2_with fail
  go_loopw [5, 6] (fun z i wr => VdRel N g (idlF xss L) N w.heap.size w z i wr) (fun _ i _ => N - (intOf i).toNat)
  case atStart => exact ⟨HX2.out, 0, Nat.zero_le _, rfl, HO.out⟩
  case round =>
    obtain ⟨hx, p, hp, rfl, hown⟩ := hrel
    clear HX HX2 HO
    have HX := Lib.hid hx
    have hx0 := hx.c0
    generalize hys : (rowF (idlF xss L) p).map iv = ys at hown
    have HYS := Lib.hid hys
    have HO := Lib.hid hown
    obtain ⟨za, zc, rfl, _, _, _⟩ := row_shape hown
    clear hys hx hown
    by_cases hlt : p < N
    · have HLT := Lib.hid hlt
      go_wp2_with fail
      refine (HT.out p _ _ (HV.out.below HX.out.below)).mono ?_
      rintro e wB ⟨u, rfl, ho, hb⟩
      have HSZ := Lib.hid HX.out.size
      have HX := Lib.hid (HX.out.next hb)
      have HO := Lib.hid (row_below HO.out hb)
      clear hx0
      have hlen := timV_len xss p L
      have HF := Lib.hid (show idlF xss L p = topV (gapV (timV xss p L) L) (timV xss p L).length from rfl)
      have HTI := Lib.hid (fun j x h => timV_in (xss := xss) (p := p) (L := L) j x h)
      have HIN := Lib.hid (idleV_in (ts := timV xss p L) HTI.out hL60)
      generalize timV xss p L = ts at *
      have HRD := Lib.hid (owns_reads ho (by unfold maxLen; omega))
      obtain ⟨ta, tc, rfl, _, _, _⟩ := row_shape ho
      have HTL := Lib.hid (fun j hj => topV_high (f := gapV ts L) (B := 120) (by omega) j hj)
      clear ho hb
      have hcr : wB.cell? ⟨b, o, none⟩ = some (.slice a2 L c2) := (HX.out.below.cell (p := ⟨b, o, none⟩) hbl).trans HC0.out
      have HCR := Lib.hid hcr
      clear hcr
      have hblB : b < wB.heap.size := Nat.lt_of_lt_of_le hbl HX.out.below.size
      have HNB := Lib.hid (Below.refl wB.heap.size wB)
      go_wp2_with fail
      go_loopw [8, 9] (fun e i wr => IiRel (gapV ts L) ts.length wB e i wr) (fun _ i _ => ts.length - (intOf i).toNat)
      case atStart => exact ⟨HNB.out, 0, Nat.zero_le _, rfl, rfl⟩
      case round =>
        obtain ⟨hb, j, hj, rfl, rfl⟩ := hrel
        have HB := Lib.hid hb
        clear hb
        by_cases hjl : j < ts.length
        · obtain ⟨z0, hz0'⟩ := get_some (xs := ts) (k := 0) (by omega)
          obtain ⟨x, hx⟩ := get_some hjl
          obtain ⟨ar, cr, er, hcr2, _, hxr⟩ := HRD.out
          cases er
          obtain ⟨b3, o3, rfl, hbl3, hcz0⟩ := hxr 0 z0 hz0'
          obtain ⟨b4, o4, e4, _, hcx0⟩ := hxr j x hx
          cases e4
          have hcz : wr.cell? ⟨b3, o3, none⟩ = some (.int .i64 z0) := (HB.out.cell (p := ⟨b3, o3, none⟩) hbl3).trans hcz0
          have hcx : wr.cell? ⟨b3, o3 + j, none⟩ = some (.int .i64 x) := (HB.out.cell (p := ⟨b3, o3 + j, none⟩) hbl3).trans hcx0
          have hcR : wr.cell? ⟨b, o, none⟩ = some (.slice a2 L c2) := (HB.out.cell (p := ⟨b, o, none⟩) hblB).trans HCR.out
          have h1 := HTI.out 0 z0 hz0'
          have h2 := HTI.out j x hx
          have hw1 : IntKind.i64.wrap (z0 + (L : Int)) = z0 + (L : Int) := IntWalk.i64_in _ (by omega)
          have HJL := Lib.hid hjl
          have HNX := Lib.hid (fun y (h : ts[j + 1]? = some y) => show b3 < wB.heap.size ∧ wB.cell? ⟨b3, o3 + (j + 1), none⟩ = some (.int .i64 y) from by obtain ⟨b5, o5, e5, h3, h4⟩ := hxr (j + 1) y h; cases e5; exact ⟨h3, h4⟩)
          have HST := Lib.hid (show topV (gapV ts L) (j + 1) = max (topV (gapV ts L) j) (gapV ts L j) from rfl)
          obtain ⟨e, he⟩ : ∃ e, e = topV (gapV ts L) j := ⟨_, rfl⟩
          rw [← he] at HST ⊢
          have HZ0 := Lib.hid hz0'
          have HXJ := Lib.hid hx
          clear he hxr hcx0 hcz0 hz0' hx
          have hlq : 0 < ts.length := by omega
          go_wp2_with fail
          go_quiet (fail)
          have HB := Lib.hid (HB.out.trans ((below_drewN _ nq).mono HB.out.size))
          have HC1 := Lib.hid (show (wr.drewN nq).cell? ⟨b3, o3 + j, none⟩ = some (.int .i64 x) from hcx)
          generalize wr.drewN nq = w5 at *
          clear hcz hcx hcR hw1
          by_cases hj1 : j + 1 < ts.length
          · obtain ⟨y, hy⟩ := get_some hj1
            have hcy : w5.cell? ⟨b3, o3 + (j + 1), none⟩ = some (.int .i64 y) := (HB.out.cell (p := ⟨b3, o3 + (j + 1), none⟩) (HNX.out y hy).1).trans (HNX.out y hy).2
            have hcx := HC1.out
            have h3 := HTI.out (j + 1) y hy
            have hw2 : IntKind.i64.wrap (y - x) = y - x := IntWalk.i64_in _ (by omega)
            have HG := Lib.hid (gapV_mid (L := L) HXJ.out hy)
            have hj1i : (j : Int) + 1 < (ts.length : Int) := by omega
            clear hy
            go_wp2_with fail
            refine (l1Most_any e (y - x) _).mono ?_
            rintro e9 w9 ⟨rfl, rfl⟩
            go_wp2_with fail
            go_roundw
            case rel => exact ⟨HB.out, j + 1, HJL.out, by go_num, by rw [HST.out, HG.out]⟩
            case measure => have := HJL.out; simp [intOf]; omega
          · have hcx := HC1.out
            have hw2 : IntKind.i64.wrap (z0 + (L : Int) - x) = z0 + (L : Int) - x := IntWalk.i64_in _ (by omega)
            have HG := Lib.hid (gapV_last (L := L) HXJ.out HZ0.out (by omega))
            have hj1i : ¬ (j : Int) + 1 < (ts.length : Int) := by omega
            go_wp2_with fail
            refine (l1Most_any e (z0 + (L : Int) - x) _).mono ?_
            rintro e9 w9 ⟨rfl, rfl⟩
            go_wp2_with fail
            go_roundw
            case rel => exact ⟨HB.out, j + 1, HJL.out, by go_num, by rw [HST.out, HG.out]⟩
            case measure => have := HJL.out; simp [intOf]; omega
        · have hje : j = ts.length := by omega
          subst hje
          have HX := Lib.hid (HX.out.next HB.out)
          have HO := Lib.hid (row_below HO.out HB.out)
          obtain ⟨x, hxe⟩ : ∃ x, x = topV (gapV ts L) ts.length := ⟨_, rfl⟩
          rw [← hxe] at HF ⊢
          have HFX := Lib.hid HF.out
          have hsz := HX.out.size
          clear hxe
          go_wp2_with (at_builtin; refine wpList_append_own _ rfl _ _ 24 rfl (w.heap.size + 1) 3 i0 (.int .i64 0) 1 8 Try.underlying24 hi hz0 hz1 hz2 rfl (by decide) _ _ _ rfl (row_below HO.out (below_new wr (.cells #[.int .i64 x] 3))) ⟨wr.heap.size, 0, none⟩ 1 1 [.int .i64 x] rfl rfl (cell_one_new _ _ _) ?c2 ?c3 ?c4 ?c5 ?_)
          case c2 => intro u hu; simp at hu; subst hu; rfl
          case c3 => unfold maxLen; omega
          case c4 => omega
          case c5 => simp; omega
          intro v9 w9 hown hgrow _
          have HN9 := Lib.hid (vd_next (m := N) (i := .int .i64 ((p + 1 : Nat) : Int)) HX.out HO.out HYS.out HLT.out rfl HFX.out hown hgrow)
          clear hown hgrow
          go_wp2_with fail
          go_roundw
          case rel => exact HN9.out
          case measure => have := HLT.out; simp [intOf]; omega
    · have hke : p = N := by omega
      subst hke
      go_wp2_with fail
      go_ret
      exact ⟨_, rfl, by rw [rowF_len, HYS.out]; exact row_lower HO.out (Nat.le_succ _), HX.out.below⟩
end Go.Proofs.Ytijhbhjapcfddaa
