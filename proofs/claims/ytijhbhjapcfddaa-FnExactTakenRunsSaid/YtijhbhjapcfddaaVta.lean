/-
  What is proved: plain facts on the visits of a place, and the contract of spec.l5Times. Conditions: tables of rows of one length, of 1 to 60 numbers.
-/
import Derived.Test.YtijhbhjapcfddaaPte
import Derived.Test.YtijhbhjapcfddaaTbc
import Derived.Test.YtijhbhjapcfddaaFn18
import Derived.Deep.QuietTactic
import Derived.BigQuiet
import Derived.Deep.RegionHeld3
import Derived.IntWalk
namespace Go.Proofs.Ytijhbhjapcfddaa
open Go.RowKit
set_option linter.unusedVariables false
set_option linter.unusedSimpArgs false

/-- the numbers below k that P picks -/
def pickV (P : Nat → Bool) : Nat → List Int
  | 0 => []
  | k + 1 => if P k then pickV P k ++ [(k : Int)] else pickV P k
theorem pickV_len (P : Nat → Bool) : ∀ k, (pickV P k).length ≤ k
  | 0 => Nat.le_refl _
  | k + 1 => by
    have := pickV_len P k
    unfold pickV
    split
    · simp; omega
    · omega
theorem pickV_yes {P : Nat → Bool} {k : Nat} (h : P k = true) : pickV P (k + 1) = pickV P k ++ [(k : Int)] := by
  show (if P k then pickV P k ++ [(k : Int)] else pickV P k) = _
  rw [if_pos h]
theorem pickV_no {P : Nat → Bool} {k : Nat} (h : P k = false) : pickV P (k + 1) = pickV P k := by
  show (if P k then pickV P k ++ [(k : Int)] else pickV P k) = _
  rw [if_neg (by rw [h]; exact Bool.false_ne_true)]
/-- a guard of the table is at the place p at the time t -/
def hitV (xss : List (List Int)) (p : Int) (t : Nat) : Bool := xss.any (fun xs => xs.getD t 0 == p)
theorem hitV_yes {xss : List (List Int)} {p : Int} {t j : Nat} {xs : List Int} (h : xss[j]? = some xs) (h2 : xs[t]? = some p) : hitV xss p t = true := by
  unfold hitV
  rw [List.any_eq_true]
  exact ⟨xs, List.mem_of_getElem? h, by simp [List.getD, h2]⟩
theorem hitV_no {xss : List (List Int)} {p : Int} {t : Nat} (h : ∀ (j : Nat) xs x, xss[j]? = some xs → xs[t]? = some x → x ≠ p) (hl : ∀ (j : Nat) xs, xss[j]? = some xs → t < xs.length) : hitV xss p t = false := by
  unfold hitV
  rw [List.any_eq_false]
  intro xs hx
  obtain ⟨j, hj⟩ := List.getElem?_of_mem hx
  obtain ⟨x, hxt⟩ := get_some (hl j xs hj)
  have := h j xs x hj hxt
  simp [List.getD, hxt]
  exact this
/-- the times below L at which a guard is at the place p -/
def timV (xss : List (List Int)) (p : Int) (L : Nat) : List Int := pickV (hitV xss p) L
def VtRel (P : Nat → Bool) (m base : Nat) (w : World) (z i : Value) (wr : World) : Prop :=
  Below base w wr ∧ base ≤ wr.heap.size ∧ ∃ k : Nat, k ≤ m ∧ i = .int .i64 k ∧ wr.ownsRow base 3 1 z (pickV P k).length ((pickV P k).map iv)
theorem vt_yes {P : Nat → Bool} {m base k : Nat} {w wr w' : World} {z z' i : Value} {t : TypeId} {l : Nat} {ys : List Value} (hx : Below base w wr) (hbs : base ≤ wr.heap.size) (ho : wr.ownsRow base 3 1 z l ys) (hl : (pickV P k).length = l) (hys : (pickV P k).map iv = ys) (hk : k < m) (hi : i = .int .i64 ((k + 1 : Nat) : Int)) (hP : P k = true)
    (hown : w'.ownsRow base 3 1 z' (l + 1) (ys ++ [.int .i64 k])) (hg : (wr.alloc (.cells #[.int .i64 k] t)).grownBy w' z.ownBlock) : VtRel P m base w z' i w' := by
  subst hl hys
  refine ⟨hx.trans (((Below.refl _ _).alloc hbs _).trans (below_grown hg (fun b hb => (row_block ho b hb).1) (by simp; omega))), Nat.le_trans (by simp; omega : base ≤ (wr.alloc (.cells #[.int .i64 k] t)).heap.size) hg.size, k + 1, hk, hi, ?_⟩
  rw [pickV_yes hP, List.length_append, List.map_append]
  exact hown
def InV (xss : List (List Int)) (p : Int) (t : Nat) (w0 : World) (z0 z i : Value) (wr : World) : Prop :=
  wr = w0 ∧ z = z0 ∧ ∃ j : Nat, j ≤ xss.length ∧ i = .int .i64 j ∧ ∀ (q : Nat) xs x, q < j → xss[q]? = some xs → xs[t]? = some x → x ≠ p
set_option maxHeartbeats 1600000 in
set_option maxRecDepth 20000 in
theorem l5Times_any (v : Value) (xss : List (List Int)) (L : Nat) (p : Int) (w : World) (hv : ReadsL w v xss) (hrows : ∀ (j : Nat) xs, xss[j]? = some xs → xs.length = L) (hL : 1 ≤ L ∧ L ≤ 60) (hk : 1 ≤ xss.length ∧ xss.length ≤ 6) :
    Calls Try.prog 102 #[v, .int .i64 p] w (OwnsI w.heap.size (timV xss p L) w) := by
  obtain ⟨i0, hi, hz0, hz1, hz2⟩ := info_parts infoInt
  have HRW := Lib.hid hrows
  have HV := Lib.hid hv
  obtain ⟨va, vc, rfl, hvc, hvm, _⟩ := hv
  unfold maxLen at hvm
  obtain ⟨y0, hy0⟩ := get_some (xs := xss) (k := 0) (by omega)
  have hyl := hrows 0 y0 hy0
  obtain ⟨b, o, a2, c2, rfl, hbl, hc0, _⟩ := lists_in HV.out hy0
  have HC0 := Lib.hid (show w.cell? ⟨b, o, none⟩ = some (.slice a2 L c2) from by rw [← hyl]; exact hc0)
  have HB := Lib.hid (below_new w (.cells #[] 3))
  have HT := Lib.hid (made_at w w.heap.size w.heap.size rfl (Nat.le_refl _))
  have HK := Lib.hid hk
  have hk0 : 0 < xss.length := hk.1
  have hLb := hL.2
  clear hrows hyl hc0 hy0 hL hk
  go_enter Try.func102, Try.ntmps102
  go_wp2_with fail
  go_loopw [5, 6] (fun z i wr => VtRel (hitV xss p) L w.heap.size w z i wr) (fun _ i _ => L - (intOf i).toNat)
  case atStart => exact ⟨HB.out, by simp, 0, Nat.zero_le _, rfl, HT.out⟩
  case round =>
    obtain ⟨hb, hbs, t, ht, rfl, ho⟩ := hrel
    clear HB HT
    have HB := Lib.hid hb
    have HBS := Lib.hid hbs
    have hcr : wr.cell? ⟨b, o, none⟩ = some (.slice a2 L c2) := (hb.cell (p := ⟨b, o, none⟩) hbl).trans HC0.out
    have hpl := pickV_len (hitV xss p) t
    generalize hys : (pickV (hitV xss p) t).map iv = ys at ho
    generalize hzl : (pickV (hitV xss p) t).length = m at ho hpl
    have HYS := Lib.hid hys
    have HZL := Lib.hid hzl
    have HO := Lib.hid ho
    obtain ⟨za, zc, rfl, _, _, _⟩ := row_shape ho
    clear hys hzl hb hbs ho
    by_cases hlt : t < L
    · have HLT := Lib.hid hlt
      go_wp2_with fail
      generalize hw0 : wr = w0 at *
      go_loopw [5, 7] (fun z i wr => InV xss p t w0 (.slice za m zc) z i wr) (fun _ i _ => xss.length - (intOf i).toNat)
      case atStart => exact ⟨rfl, rfl, 0, Nat.zero_le _, rfl, fun q xs x hq => by omega⟩
      case round =>
        obtain ⟨rfl, rfl, j, hj, rfl, hpre⟩ := hrel
        have HPRE := Lib.hid hpre
        clear hpre
        by_cases hjl : j < xss.length
        · obtain ⟨xs, hxs⟩ := get_some hjl
          have hxl := HRW.out j xs hxs
          obtain ⟨b9, o9, a3, c3, e9, _, hcj, hrx⟩ := lists_in HV.out hxs
          cases e9
          obtain ⟨x, hx⟩ := get_some (xs := xs) (k := t) (by omega)
          obtain ⟨ar, cr, er, hcr2, _, hxr⟩ := hrx
          cases er
          obtain ⟨b3, o3, rfl, hbl3, hcx0⟩ := hxr t x hx
          have hcx : wr.cell? ⟨b3, o3 + t, none⟩ = some (.int .i64 x) := (HB.out.cell (p := ⟨b3, o3 + t, none⟩) hbl3).trans hcx0
          have hcj2 : wr.cell? ⟨b, o + j, none⟩ = some (.slice (some ⟨b3, o3, none⟩) L c3) := by rw [← hxl]; exact (HB.out.cell (p := ⟨b, o + j, none⟩) hbl).trans hcj
          have HXS := Lib.hid hxs
          have HXX := Lib.hid hx
          have HJL := Lib.hid hjl
          clear hcx0 hcj hxr hxl hxs hx hcr
          by_cases hxp : x = p
          · subst hxp
            have HP := Lib.hid (hitV_yes HXS.out HXX.out)
            go_wp2_with (at_builtin; refine wpList_append_own _ rfl _ _ 24 rfl w.heap.size 3 i0 (.int .i64 0) 1 8 Try.underlying24 hi hz0 hz1 hz2 rfl (by decide) _ _ _ rfl (row_below HO.out (below_new wr (.cells #[.int .i64 t] 3))) ⟨wr.heap.size, 0, none⟩ 1 1 [.int .i64 t] rfl rfl (cell_one_new _ _ _) ?c2 ?c3 ?c4 ?c5 ?_)
            case c2 => intro u hu; simp at hu; subst hu; rfl
            case c3 => unfold maxLen; omega
            case c4 => omega
            case c5 => have := HBS.out; simp; omega
            intro v9 w9 hown hgrow _
            have HN9 := Lib.hid (vt_yes (m := L) (i := .int .i64 ((t + 1 : Nat) : Int)) HB.out HBS.out HO.out HZL.out HYS.out HLT.out rfl HP.out hown hgrow)
            clear hown hgrow
            go_wp2_with fail
            go_roundw
            case rel => exact HN9.out
            case measure => have := HLT.out; simp [intOf]; omega
          · have hxq : (x == p) = false := by simp [hxp]
            have hpn : ∀ (q : Nat) xs x, q < j + 1 → xss[q]? = some xs → xs[t]? = some x → x ≠ p := by
              intro q zs z hq hzs hz
              by_cases hqj : q < j
              · exact HPRE.out q zs z hqj hzs hz
              · have : q = j := by omega
                subst this
                rw [HXS.out] at hzs
                cases hzs
                rw [HXX.out] at hz
                cases hz
                exact hxp
            have HPN := Lib.hid hpn
            clear hpn
            go_wp2_with fail
            go_roundw
            case rel => exact ⟨rfl, rfl, j + 1, HJL.out, by go_num, HPN.out⟩
            case measure => have := HJL.out; simp [intOf]; omega
        · have hje : j = xss.length := by omega
          have HP := Lib.hid (hitV_no (xss := xss) (p := p) (t := t) (fun q zs z hz hz2 => HPRE.out q zs z (by have := (List.getElem?_eq_some_iff.1 hz).1; omega) hz hz2) (fun q zs hz => by rw [HRW.out q zs hz]; exact HLT.out))
          subst hje
          go_wp2_with fail
          go_roundw
          case rel => exact ⟨HB.out, HBS.out, t + 1, HLT.out, by go_num, by rw [pickV_no HP.out, HZL.out, HYS.out]; exact HO.out⟩
          case measure => have := HLT.out; simp [intOf]; omega
    · have hke : t = L := by omega
      subst hke
      go_wp2_with fail
      go_ret
      exact ⟨_, rfl, by unfold timV; rw [HZL.out, HYS.out]; exact HO.out, HB.out⟩
end Go.Proofs.Ytijhbhjapcfddaa
