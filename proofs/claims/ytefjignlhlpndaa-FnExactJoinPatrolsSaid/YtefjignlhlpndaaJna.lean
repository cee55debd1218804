/-
  What is proved: the contracts of spec.l5Long and impl.repeatedRounds, and plain facts on joined tables. Conditions: tables of rows of one length, of 1 to 60 numbers, repeated 1 to 60 times.
-/
import Derived.Test.YtefjignlhlpndaaRep
import Derived.Test.YtefjignlhlpndaaSpa
namespace Go.Proofs.Ytefjignlhlpndaa
open Go.RowKit
set_option linter.unusedVariables false
set_option linter.unusedSimpArgs false

/-- a list so many times, one behind the other -/
def repT (c : Nat) (xs : List Int) : List Int := rowF (cycF xs) (xs.length * c)
/-- a table that grows in memory of its own behind base -/
def TbRel (F : Nat → List Int) (m base : Nat) (w : World) (z i : Value) (wr : World) : Prop :=
  Below base w wr ∧ base ≤ wr.heap.size ∧ ∃ k : Nat, k ≤ m ∧ i = .int .i64 k ∧ ∃ us, OwnT base wr.heap.size z us (tabF F k) wr
theorem tb_next {F : Nat → List Int} {m base k b0 : Nat} {w wr w' : World} {z z' u i : Value} {us : List Value} {hi : Nat} {t : TypeId} (hx : Below base w wr) (ho : OwnT base hi z us (tabF F k) wr) (hh : hi ≤ b0) (hb0 : base ≤ b0) (hbs : b0 ≤ wr.heap.size)
    (hu : wr.ownsRow b0 3 1 u (F k).length ((F k).map iv)) (hk : k < m) (hi2 : i = .int .i64 ((k + 1 : Nat) : Int))
    (hown : w'.ownsRow base 43 1 z' (k + 1) (us ++ [u])) (hg : (wr.alloc (.cells #[u] t)).grownBy w' z.ownBlock) : TbRel F m base w z' i w' := by
  have hl : (tabF F k).length = k := tabF_len F k
  have hbb : base ≤ wr.heap.size := Nat.le_trans hb0 hbs
  refine ⟨hx.trans (((Below.refl _ _).alloc hbb _).trans (below_grown hg (fun b hb => (row_block ho.top b hb).1) (by simp; omega))), Nat.le_trans (by simp; omega : base ≤ (wr.alloc (.cells #[u] t)).heap.size) hg.size, k + 1, hk, hi2, us ++ [u], ?_⟩
  rw [tabF_next]
  exact ownT_append ho hu hh hb0 (by rw [hl]; exact hown) hg
/-- two tables, the one's rows behind the other's: one table -/
theorem ownT_concat {lo hi lo2 hi2 : Nat} {v v2 v' : Value} {us us2 : List Value} {xss yss : List (List Int)} {w w' : World} (h : OwnT lo hi v us xss w) (h2 : OwnT lo2 hi2 v2 us2 yss w) (hh : hi ≤ lo2) (hl : lo ≤ lo2)
    (hown : w'.ownsRow lo 43 1 v' (xss.length + yss.length) (us ++ us2)) (hkeep : ∀ (b : Nat) (cs : Array Value), w.heap[b]? = some (.cells cs 3 (0, 0)) → w'.heap[b]? = w.heap[b]?) : OwnT lo w'.heap.size v' (us ++ us2) (xss ++ yss) w' := by
  have keep : ∀ (q : Value) n zs base, w.ownsRow base 3 1 q n zs → w'.ownsRow base 3 1 q n zs := by
    intro q n zs base hq
    obtain ⟨hl, h2⟩ := hq
    refine ⟨hl, ?_⟩
    rcases h2 with h2 | ⟨g, cap, cur, rfl, hgb, hblk, h3⟩
    · exact .inl h2
    · exact .inr ⟨g, cap, cur, rfl, hgb, (hkeep g cur hblk).trans hblk, h3⟩
  have hul := h.len
  have hul2 := h2.len
  have parts : ∀ (j : Nat) y, (us ++ us2)[j]? = some y → (j < us.length ∧ us[j]? = some y ∧ ∀ b, y.ownBlock = some b → b < hi) ∨ (us.length ≤ j ∧ us2[j - us.length]? = some y ∧ ∀ b, y.ownBlock = some b → lo2 ≤ b) := by
    intro j y hy
    by_cases hj : j < us.length
    · rw [List.getElem?_append_left hj] at hy
      exact .inl ⟨hj, hy, fun b hb => h.hrow j b y hy hb⟩
    · rw [List.getElem?_append_right (by omega)] at hy
      obtain ⟨ys, hys⟩ := row_at hul2 hy
      exact .inr ⟨by omega, hy, fun b hb => (row_block (h2.row _ y ys hy hys) b hb).1⟩
  have rows : ∀ (j : Nat) y ys, (us ++ us2)[j]? = some y → (xss ++ yss)[j]? = some ys → w'.ownsRow lo 3 1 y ys.length (ys.map iv) := by
    intro j y ys hy hys
    by_cases hj : j < us.length
    · rw [List.getElem?_append_left hj] at hy
      rw [List.getElem?_append_left (by omega)] at hys
      exact keep _ _ _ _ (h.row j y ys hy hys)
    · rw [List.getElem?_append_right (by omega)] at hy
      rw [List.getElem?_append_right (by omega), ← hul] at hys
      exact row_lower (keep _ _ _ _ (h2.row _ y ys hy hys)) hl
  refine ⟨by simp [hul, hul2], by rw [List.length_append]; exact hown, rows, fun i j b y y' hy hy' hb hb' => ?_, fun b hb => (row_block hown b hb).2.1, fun j b y hy hb => ?_⟩
  · rcases parts i y hy with ⟨h1, e1, q1⟩ | ⟨h1, e1, q1⟩ <;> rcases parts j y' hy' with ⟨h3, e3, q3⟩ | ⟨h3, e3, q3⟩
    · exact h.apart i j b y y' e1 e3 hb hb'
    · have := q1 b hb; have := q3 b hb'; omega
    · have := q1 b hb; have := q3 b hb'; omega
    · have := h2.apart _ _ b y y' e1 e3 hb hb'; omega
  · obtain ⟨ys, hys⟩ := row_at (xss := xss ++ yss) (us := us ++ us2) (by simp [hul, hul2]) hy
    exact (row_block (rows j y ys hy hys) b hb).2.1
set_option maxHeartbeats 1600000 in
set_option maxRecDepth 20000 in
theorem repeatedRounds_any (v : Value) (xss : List (List Int)) (L c : Nat) (w : World) (hv : ReadsL w v xss) (hrows : ∀ (j : Nat) xs, xss[j]? = some xs → xs.length = L) (hL : 1 ≤ L ∧ L ≤ 60) (hc : 1 ≤ c ∧ c ≤ 60) (hx6 : xss.length ≤ 6) :
    Calls Try.prog 72 #[v, .int .i64 c] w (OwnsT w.heap.size (tabF (chgT (repT c) xss) xss.length) w) := by
  obtain ⟨i1, ji, jz0, jz1, jz2⟩ := info_parts infoTab
  have HRP := Lib.hid (fun v xs w hv hl => repeat_list v xs c w hv hl hc)
  have HRW := Lib.hid hrows
  have HV := Lib.hid hv
  obtain ⟨va, vc, rfl, hvc, hvm, _⟩ := hv
  unfold maxLen at hvm
  have HB := Lib.hid (below_new w (.cells #[] 43))
  have HT := Lib.hid (ownT_new w w.heap.size w.heap.size rfl (Nat.le_refl _))
  have HL := Lib.hid hL
  clear hrows hL hc
  go_enter Try.func72, Try.ntmps72
  go_wp2_with fail
  go_loopw [5, 11] (fun z i wr => TbRel (chgT (repT c) xss) xss.length w.heap.size w z i wr) (fun _ i _ => xss.length - (intOf i).toNat)
  case atStart => exact ⟨HB.out, by simp, 0, Nat.zero_le _, rfl, [], HT.out.lt⟩
  case round =>
    obtain ⟨hb, hbs, q, hq, rfl, us, ho⟩ := hrel
    clear HB HT
    have HB := Lib.hid hb
    have HBS := Lib.hid hbs
    have HO := Lib.hid ho
    clear hb hbs ho
    by_cases hlt : q < xss.length
    · obtain ⟨xs, hxs⟩ := get_some hlt
      have hxl := HRW.out q xs hxs
      obtain ⟨b, o, a2, c2, rfl, hbl, hcx0, hrx⟩ := lists_in HV.out hxs
      have hcx : wr.cell? ⟨b, o + q, none⟩ = some (.slice a2 xs.length c2) := (HB.out.cell (p := ⟨b, o + q, none⟩) hbl).trans hcx0
      have HRX := Lib.hid (hrx.below HB.out)
      have HCT := Lib.hid (chgT_at (T := repT c) hxs)
      have HXL := Lib.hid (show 1 ≤ xs.length ∧ xs.length ≤ 60 from by rw [hxl]; exact HL.out)
      have HLQ := Lib.hid hlt
      clear hxs hcx0 hrx hxl
      go_wp2_with fail
      refine (HRP.out _ xs _ HRX.out HXL.out).mono ?_
      rintro e w2 ⟨u, rfl, hou, hb⟩
      have HOR := Lib.hid (show w2.ownsRow wr.heap.size 3 1 u (chgT (repT c) xss q).length ((chgT (repT c) xss q).map iv) from by rw [HCT.out]; exact hou)
      have HLN := Lib.hid (show (rowF (cycF xs) (xs.length * c)).length = (chgT (repT c) xss q).length from by rw [HCT.out]; rfl)
      have HB2 := Lib.hid (HB.out.trans (hb.mono HBS.out))
      have HO := Lib.hid (HO.out.below hb)
      have HTP := Lib.hid (show w2.ownsRow w.heap.size 43 1 _ q us from by have h := HO.out.top; rw [tabF_len] at h; exact h)
      have hsz2 := hb.size
      have hsz1 := HBS.out
      clear hou hb hcx
      obtain ⟨ra, rc, hrs, _⟩ := row_shape HOR.out
      subst hrs
      go_wp2_with (at_builtin; refine wpList_append_own _ rfl _ _ 24 rfl w.heap.size 43 i1 (.slice none 0 0) 1 24 Try.underlying24 ji jz0 jz1 jz2 rfl (by decide) _ _ _ rfl (HTP.out.alloc _) ⟨w2.heap.size, 0, none⟩ 1 1 [.slice ra _ rc] rfl rfl (cell_one_new _ _ _) ?c2 ?c3 ?c4 ?c5 ?_)
      case c2 => first | rfl | (intro u hu; simp at hu; subst hu; rfl)
      case c3 => unfold maxLen; omega
      case c4 => omega
      case c5 => first | omega | (simp; omega)
      intro v' w9 hown' hgrow _
      have HN9 := Lib.hid (tb_next (t := 43) (m := xss.length) (i := .int .i64 ((q + 1 : Nat) : Int)) HB2.out HO.out (Nat.le_refl _) HBS.out hsz2 HOR.out HLQ.out rfl hown' hgrow)
      clear hgrow hown'
      go_wp2_with fail
      go_roundw
      case rel => exact HN9.out
      case measure => have := HLQ.out; simp [intOf]; omega
    · have hke : q = xss.length := by omega
      subst hke
      go_wp2_with fail
      go_ret
      exact ⟨_, us, rfl, HO.out, HB.out⟩
def LgRel (xs : List Int) (c base : Nat) (w0 : World) (v : Value) (wr : World) : Prop :=
  Below base w0 wr ∧ base ≤ wr.heap.size ∧ ∃ s : Nat, s ≤ c ∧ wr.ownsRow base 3 1 v (xs.length * s) ((rowF (cycF xs) (xs.length * s)).map iv)
def lenV : Value → Nat
  | .slice _ n _ => n
  | _ => 0
set_option maxHeartbeats 1600000 in
set_option maxRecDepth 20000 in
theorem l5Long_any (v : Value) (xss : List (List Int)) (L c P : Nat) (w : World) (hv : ReadsL w v xss) (hrows : ∀ (j : Nat) xs, xss[j]? = some xs → xs.length = L) (hL : 1 ≤ L ∧ L ≤ 60) (hc : 1 ≤ c ∧ c ≤ 60) (hx6 : xss.length ≤ 6) (hP : P = L * c) :
    Calls Try.prog 69 #[v, .int .i64 P] w (OwnsT w.heap.size (tabF (chgT (repT c) xss) xss.length) w) := by
  obtain ⟨i0, hi, hz0, hz1, hz2⟩ := info_parts infoInt
  obtain ⟨i1, ji, jz0, jz1, jz2⟩ := info_parts infoTab
  have HRW := Lib.hid hrows
  have HV := Lib.hid hv
  obtain ⟨va, vc, rfl, hvc, hvm, _⟩ := hv
  unfold maxLen at hvm
  have HB := Lib.hid (below_new w (.cells #[] 43))
  have HT := Lib.hid (ownT_new w w.heap.size w.heap.size rfl (Nat.le_refl _))
  obtain ⟨hL1, hL60⟩ := hL
  obtain ⟨hc1, hc60⟩ := hc
  have hPb : P ≤ 3600 := by rw [hP]; exact mul_bound hL60 hc60
  have HP := Lib.hid hP
  clear hrows hP
  go_enter Try.func69, Try.ntmps69
  go_wp2_with fail
  go_loopw [5, 6] (fun z i wr => TbRel (chgT (repT c) xss) xss.length w.heap.size w z i wr) (fun _ i _ => xss.length - (intOf i).toNat)
  case atStart => exact ⟨HB.out, by simp, 0, Nat.zero_le _, rfl, [], HT.out.lt⟩
  case round =>
    obtain ⟨hb, hbs, q, hq, rfl, us, ho⟩ := hrel
    clear HB HT
    have HB := Lib.hid hb
    have HBS := Lib.hid hbs
    have HO := Lib.hid ho
    clear hb hbs ho
    by_cases hlt : q < xss.length
    · obtain ⟨xs, hxs⟩ := get_some hlt
      have hxl := HRW.out q xs hxs
      obtain ⟨b, o, a2, c2, rfl, hbl, hcx0, hrx⟩ := lists_in HV.out hxs
      obtain ⟨y0, hy0⟩ := get_some (xs := xs) (k := 0) (by omega)
      obtain ⟨ar, cr, er, hcr, hmr, hxr⟩ := hrx
      cases er
      obtain ⟨b3, o3, rfl, hbl3, _⟩ := hxr 0 y0 hy0
      have HXR := Lib.hid (fun (i : Nat) x (hi : xs[i]? = some x) => show b3 < w.heap.size ∧ w.cell? ⟨b3, o3 + i, none⟩ = some (.int .i64 x) from by obtain ⟨_, _, e, h1, h2⟩ := hxr i x hi; cases e; exact ⟨h1, h2⟩)
      have HCX := Lib.hid hcx0
      have HCT := Lib.hid (chgT_at (T := repT c) hxs)
      have HXL := Lib.hid hxl
      have HLQ := Lib.hid hlt
      have HBN := Lib.hid (below_new wr (.cells #[] 3))
      have HMN := Lib.hid (made_at wr wr.heap.size wr.heap.size rfl (Nat.le_refl _))
      have hqi1 : (q : Int) < xss.length := by omega
      clear hxs hcx0 hxr hxl hy0
      go_wp2_with fail
      generalize hw0 : wr = w0 at *
      go_loopw [7] (fun z wr => LgRel xs c w0.heap.size w0 z wr) (fun z _ => P - lenV z)
      case atStart => exact ⟨HBN.out, by simp, 0, Nat.zero_le _, by rw [Nat.mul_zero]; exact HMN.out⟩
      case round =>
        obtain ⟨hb, hbs, s, hs, hown⟩ := hrel
        clear HBN HMN
        have HBI := Lib.hid hb
        have HBSI := Lib.hid hbs
        have HOI := Lib.hid hown
        obtain ⟨za, zc, hzz, _, hzm, _⟩ := row_shape hown
        subst hzz
        clear hb hbs hown
        have HBW := Lib.hid (HB.out.trans (HBI.out.mono HBS.out))
        by_cases hls : s < c
        · have hsl : xs.length * s < P := by rw [HP.out, HXL.out]; exact Nat.mul_lt_mul_of_pos_left hls (by omega)
          have hsn : xs.length * (s + 1) ≤ P := by rw [HP.out, HXL.out]; exact Nat.mul_le_mul_left _ hls
          have HSE := Lib.hid (show rowF (cycF xs) (xs.length * (s + 1)) = rowF (cycF xs) (xs.length * s) ++ xs from by rw [Nat.mul_succ, cyc_more (Nat.mul_mod_right _ _), cyc_once])
          have HLE := Lib.hid (show xs.length * (s + 1) = xs.length * s + xs.length from Nat.mul_succ _ _)
          have hcq : wr.cell? ⟨b, o + q, none⟩ = some (.slice (some ⟨b3, o3, none⟩) xs.length c2) := (HBW.out.cell (p := ⟨b, o + q, none⟩) hbl).trans HCX.out
          have HNE := Lib.hid (cells_list (w' := wr) (xs := xs) (b := b3) (o := o3) (fun i x hi => (HBW.out.cell (p := ⟨b3, o3 + i, none⟩) (HXR.out i x hi).1).trans (HXR.out i x hi).2))
          have hxlb := HXL.out
          have hxl60 : xs.length ≤ 60 := by omega
          clear hxlb
          have hsnl : xs.length * s + xs.length ≤ 3600 := by have := HLE.out; omega
          clear hsn
          generalize hP1 : xs.length * s = l1 at *
          have HP1 := Lib.hid hP1
          clear hP1
          generalize hys : (rowF (cycF xs) l1).map iv = ys at *
          have HYS := Lib.hid hys
          clear hys
          have hdl : (l1 : Int) < (P : Int) := by omega
          go_wp2_with (at_builtin; refine wpList_append_own _ rfl _ _ 43 rfl w0.heap.size 3 i0 (.int .i64 0) 1 8 Try.underlying43 hi hz0 hz1 hz2 rfl (by decide) _ _ _ rfl HOI.out ⟨b3, o3, none⟩ xs.length c2 (xs.map iv) rfl (by simp) HNE.out ?c2 ?c3 ?c4 ?c5 ?_)
          case c2 => intro u hu; rw [List.mem_map] at hu; obtain ⟨x, _, rfl⟩ := hu; rfl
          case c3 => unfold maxLen; omega
          case c4 => omega
          case c5 => exact HBSI.out
          intro v9 w9 hown9 hgrow9 _
          have HB9 := Lib.hid (HBI.out.trans (below_grown hgrow9 (fun b hb => (row_block HOI.out b hb).1) HBSI.out))
          have HBS9 := Lib.hid (Nat.le_trans HBSI.out hgrow9.size)
          have HO9 := Lib.hid hown9
          obtain ⟨z9, c9, hz9, _⟩ := row_shape hown9
          subst hz9
          clear hown9 hgrow9 hcq
          go_wp2_with fail
          go_roundw
          case rel => exact ⟨HB9.out, HBS9.out, s + 1, by omega, by rw [HSE.out, HLE.out, List.map_append, HYS.out]; exact HO9.out⟩
          case measure => show P - (l1 + xs.length) < P - l1; have := HXL.out; omega
        · have hse : s = c := by omega
          subst hse
          have hsl : ¬ xs.length * s < P := by rw [HP.out, HXL.out]; omega
          have HOR := Lib.hid (show wr.ownsRow w0.heap.size 3 1 (.slice za (xs.length * s) zc) (chgT (repT s) xss q).length ((chgT (repT s) xss q).map iv) from by rw [HCT.out]; unfold repT; rw [rowF_len]; exact HOI.out)
          have HLN := Lib.hid (show xs.length * s = (chgT (repT s) xss q).length from by rw [HCT.out]; unfold repT; rw [rowF_len])
          have HOO := Lib.hid (HO.out.below HBI.out)
          have HTP := Lib.hid (show wr.ownsRow w.heap.size 43 1 _ q us from by have h := HOO.out.top; rw [tabF_len] at h; exact h)
          have hsz1 := HBS.out
          have hsz2 := HBSI.out
          generalize xs.length * s = l1 at *
          have hdl : ¬ (l1 : Int) < (P : Int) := by omega
          go_wp2_with (at_builtin; refine wpList_append_own _ rfl _ _ 24 rfl w.heap.size 43 i1 (.slice none 0 0) 1 24 Try.underlying24 ji jz0 jz1 jz2 rfl (by decide) _ _ _ rfl (HTP.out.alloc _) ⟨wr.heap.size, 0, none⟩ 1 1 [.slice za l1 zc] rfl rfl (cell_one_new _ _ _) ?c2 ?c3 ?c4 ?c5 ?_)
          case c2 => first | rfl | (intro u hu; simp at hu; subst hu; rfl)
          case c3 => unfold maxLen; omega
          case c4 => omega
          case c5 => first | omega | (simp; omega)
          intro v' w9 hown' hgrow _
          have HN9 := Lib.hid (tb_next (t := 43) (m := xss.length) (i := .int .i64 ((q + 1 : Nat) : Int)) HBW.out HOO.out (Nat.le_refl _) HBS.out HBSI.out HOR.out HLQ.out rfl hown' hgrow)
          clear hgrow hown'
          go_wp2_with fail
          go_roundw
          case rel => exact HN9.out
          case measure => have := HLQ.out; simp [intOf]; omega
    · have hke : q = xss.length := by omega
      subst hke
      go_wp2_with fail
      go_ret
      exact ⟨_, us, rfl, HO.out, HB.out⟩
end Go.Proofs.Ytefjignlhlpndaa
