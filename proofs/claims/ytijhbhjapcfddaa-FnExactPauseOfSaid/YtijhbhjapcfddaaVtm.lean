/-
  What is proved: the contracts of the program's VisitTimes, IdleTimes and PauseOf. Conditions: tables that read as lists of lists of numbers, of at most 1048576 numbers.
-/
import Derived.Test.YtijhbhjapcfddaaVtl
import Derived.Test.YtijhbhjapcfddaaVtb
import Derived.Test.YtijhbhjapcfddaaVte
import Derived.Test.YtijhbhjapcfddaaVtc
import Derived.Test.YtijhbhjapcfddaaPte
import Derived.Test.YtijhbhjapcfddaaFn7
import Derived.Test.YtijhbhjapcfddaaFn19
import Derived.Test.YtijhbhjapcfddaaFn9
namespace Go.Proofs.Ytijhbhjapcfddaa
open Go.RowKit
set_option linter.unusedVariables false
set_option linter.unusedSimpArgs false

theorem gput_mem {k : List Int} {x : Int} : ∀ {G : Grp} {y : List Int × List Int}, y ∈ gputV G k x → (y.1 = k ∨ ∃ z ∈ G, y.1 = z.1) ∧ (1 ≤ y.2.length ∨ ∃ z ∈ G, z.2 = y.2)
  | [], y, h => by
    simp [gputV] at h
    subst h
    exact ⟨.inl rfl, .inl (by simp)⟩
  | a :: r, y, h => by
    unfold gputV at h
    split at h
    · rename_i ha
      rcases List.mem_cons.1 h with rfl | h
      · exact ⟨.inl ha, .inl (by simp)⟩
      · exact ⟨.inr ⟨y, List.mem_cons_of_mem _ h, rfl⟩, .inr ⟨y, List.mem_cons_of_mem _ h, rfl⟩⟩
    · rcases List.mem_cons.1 h with rfl | h
      · exact ⟨.inr ⟨y, List.mem_cons_self .., rfl⟩, .inr ⟨y, List.mem_cons_self .., rfl⟩⟩
      · obtain ⟨h1, h2⟩ := gput_mem h
        refine ⟨?_, ?_⟩
        · rcases h1 with h1 | ⟨z, hz, he⟩
          · exact .inl h1
          · exact .inr ⟨z, List.mem_cons_of_mem _ hz, he⟩
        · rcases h2 with h2 | ⟨z, hz, he⟩
          · exact .inl h2
          · exact .inr ⟨z, List.mem_cons_of_mem _ hz, he⟩
theorem gput_size {k : List Int} {x : Int} : ∀ {G : Grp}, (gputV G k x).length ≤ G.length + 1
  | [] => by simp [gputV]
  | a :: r => by
    unfold gputV
    split
    · simp
    · have := gput_size (k := k) (x := x) (G := r)
      simp
      omega
theorem grpV_size (K : Nat → List Int) : ∀ L, (grpV K L).length ≤ L
  | 0 => Nat.le_refl _
  | L + 1 => Nat.le_trans gput_size (Nat.succ_le_succ (grpV_size K L))
theorem grpV_rows {K : Nat → List Int} (hK : ∀ t, (K t).length = 6) : ∀ L, ∀ y ∈ grpV K L, y.1.length = 6 ∧ 1 ≤ y.2.length
  | 0, y, h => by cases h
  | L + 1, y, h => by
    obtain ⟨h1, h2⟩ := gput_mem h
    refine ⟨?_, ?_⟩
    · rcases h1 with h1 | ⟨z, hz, he⟩
      · rw [h1]; exact hK L
      · rw [he]; exact (grpV_rows hK L z hz).1
    · rcases h2 with h2 | ⟨z, hz, he⟩
      · exact h2
      · rw [← he]; exact (grpV_rows hK L z hz).2
theorem grpV_len (K : Nat → List Int) (L : Nat) : ∀ y ∈ grpV K L, y.2.length ≤ L := by
  intro y hy
  rw [← grpL_range] at hy
  exact grpL_len K L (List.range L) (by simp) y hy
theorem wf_small {x : Int} (h : -1 ≤ x ∧ x ≤ 24) : (Lit.int .i64 x).wf = true := by
  simp [Lit.wf, IntKind.min, IntKind.max, IntKind.signed, IntKind.bits]
  omega
theorem pat_wf {n : Int} {g : Bool} {xss : List (List Int)} (h : PatP n g xss) (t i : Nat) : (Lit.int .i64 (pstF xss t i)).wf = true := by
  obtain ⟨L, _, _, _, hr⟩ := pat_rows h
  have hn := ((roadB_iff n g).1 h.2.2.2).2.1
  refine wf_small ?_
  unfold pstF
  split
  · rename_i hi
    obtain ⟨xs, hxs⟩ := get_some hi
    have hw := (hr i xs hxs).2.1
    by_cases ht : t < xs.length
    · obtain ⟨x, hx⟩ := get_some ht
      have := hw.2.2.2.1 t x hx
      have e : (xss.getD i []).getD t 0 = x := by simp [List.getD, hxs, hx]
      rw [e]
      omega
    · have e : (xss.getD i []).getD t 0 = 0 := by simp [List.getD, hxs, List.getElem?_eq_none (Nat.le_of_not_lt ht)]
      rw [e]
      omega
  · omega
/-- what visitsOf finds in the map that postTimes made -/
theorem visitsOf_pat {xss : List (List Int)} {L B rb : Nat} {es : Array MapEntry} {clock : Nat} (p : Int) (w : World) (hM : MapV rb B (grpV (postL xss) L) es clock w) (hrows : ∀ (j : Nat) xs, xss[j]? = some xs → xs.length = L) (hL : L ≤ 60) (hk : xss.length ≤ 6) (hp : 0 ≤ p) :
    Calls Try.prog 104 #[.map (some B), .int .i64 p] w (OwnsI w.heap.size (timV xss p L) w) := by
  refine (visitsOf_any rb B _ es clock p w hM (fun y hy => ⟨(grpV_rows (fun t => by simp [postL]) L y hy).1, (grpV_rows (fun t => by simp [postL]) L y hy).2, Nat.le_trans (grpV_len _ L y hy) hL⟩) (Nat.le_trans (grpV_size _ L) hL)).mono ?_
  rintro e w' ⟨v, D, hD, rfl, ho, hb⟩
  have hE : sortI (visL p D) = timV xss p L := vis_sorted hk hrows hp hD
  rw [hE] at ho
  exact ⟨v, rfl, ho, hb⟩
theorem ints_one_k2 {w : World} {a : Int} {t : TypeId} (k : Nat) (hk : w.heap.size = k) : ReadsI (w.alloc (.cells #[.int .i64 a] t)) (.slice (some ⟨k, 0, none⟩) 1 1) [a] := by
  subst hk
  refine ⟨_, 1, rfl, Nat.le_refl _, by simp [maxLen], fun j x hj => ?_⟩
  match j, hj with
  | 0, hj =>
    cases hj
    exact ⟨_, 0, rfl, by simp, by rw [cell_new]; rfl⟩
set_option maxHeartbeats 1600000 in
set_option maxRecDepth 20000 in
theorem impl_VisitTimes (n : Int) (g : Bool) (v : Value) (xss : List (List Int)) (p : Int) (w : World) (hv : ReadsL w v xss) (hl : sizeT xss ≤ 1048576) :
    Calls Try.prog 56 #[rd n g, v, .int .i64 p] w (OwnsB w.heap.size (visR n g xss p).1 (visR n g xss p).2 w) := by
  have HAP := Lib.hid (fun v w hv => arePatrols_one n g v xss w hv hl)
  have HPL := Lib.hid (fun v w hv => arePlaces_one n g p v w hv)
  have HX := Lib.hid (Boxed.first w n g 27)
  have HV := Lib.hid hv
  obtain ⟨va, vc, hvv, _⟩ := hv
  subst hvv
  unfold rd at *
  go_enter Try.func56, Try.ntmps56
  go_wp2_with fail
  refine (HAP.out _ _ (one_table (t := 47) (HV.out.below HX.out.below) (w.heap.size + 1) (by simp))).mono ?_
  rintro e w1 ⟨rfl, hb⟩
  have HX := Lib.hid ((HX.out.next (below_new _ _)).next hb)
  have h0 := HX.out.c0
  have h1 := HX.out.c1
  clear hb
  cases hp : patD n g xss
  · have HR := Lib.hid (visR_no (n := n) (g := g) (xss := xss) (p := p) (fun h => by rw [hp] at h; cases h.1))
    have HO := Lib.hid (made_at w1 w.heap.size w1.heap.size rfl (Nat.le_of_lt HX.out.size))
    have HX2 := Lib.hid (HX.out.next (below_new w1 (.cells #[] 3)))
    clear hp
    go_wp2_with fail
    go_ret2
    exact owns_VB HR.out HO.out HX2.out.below
  · have HP := Lib.hid hp
    clear hp
    go_wp2_with fail
    refine (HPL.out _ _ (ints_one_k2 _ rfl)).mono ?_
    rintro e w2 ⟨rfl, hb⟩
    have HX := Lib.hid ((HX.out.next (below_new _ _)).next hb)
    clear hb h0 h1
    cases hq : placeB n g p
    · have HR := Lib.hid (visR_no (n := n) (g := g) (xss := xss) (p := p) (fun h => by rw [hq] at h; cases h.2))
      have HO := Lib.hid (made_at w2 w.heap.size w2.heap.size rfl (Nat.le_of_lt HX.out.size))
      have HX2 := Lib.hid (HX.out.next (below_new w2 (.cells #[] 3)))
      clear hq
      go_wp2_with fail
      go_ret2
      exact owns_VB HR.out HO.out HX2.out.below
    · have hpx := (patD_iff n g xss).1 HP.out
      obtain ⟨L, hL1, hL60, hL0, hrx⟩ := pat_rows hpx
      have hpp := ((placeB_iff n g p).1 hq).2
      have HR := Lib.hid (visR_yes HP.out hq hL0)
      have HPT := Lib.hid (fun v w hv => postTimes_any v xss L w hv (fun j xs h => (hrx j xs h).1) ⟨hL1, hL60⟩ ⟨hpx.1, hpx.2.1⟩ (pat_wf hpx))
      have HVO := Lib.hid (fun (B rb : Nat) es clock w hM => visitsOf_pat (xss := xss) (L := L) (B := B) (rb := rb) (es := es) (clock := clock) p w hM (fun j xs h => (hrx j xs h).1) hL60 hpx.2.1 hpp.1)
      clear hq hpx hrx hL0
      go_wp2_with fail
      refine (HPT.out _ _ (HV.out.below HX.out.below)).mono ?_
      rintro e w3 ⟨rfl, ⟨es, clock, hM⟩, hb⟩
      have HM := Lib.hid hM
      have HX := Lib.hid (HX.out.next hb)
      clear hb hM
      go_wp2_with fail
      refine (HVO.out _ _ _ _ _ HM.out).mono ?_
      rintro e w4 ⟨z, rfl, ho, hb⟩
      have HO := Lib.hid (row_lower ho (Nat.le_of_lt HX.out.size))
      have HX := Lib.hid (HX.out.next hb)
      clear hb ho
      go_wp2_with fail
      go_ret2
      exact owns_VB HR.out HO.out HX.out.below
/-- append at a step of a region that draws its order, with where the new list lies -/
theorem step_append_loc {P : Program} {ops : Array Oper} {o : Oper} {a : Act} {w : World} {K : Act → World → Prop} {Q : Exit → Act → World → Prop} {E : Prop} (hgd : o.guard = none) (s x : Operand) (t : TypeId)
    (ho : o.op = .call { callee := .builtin .append, args := #[s, x], argTypes := #[t, t] })
    (base : Nat) (e : TypeId) (i : TypeInfo) (z : Value) (size bytes : Nat) (ht : P.underlying t = some (.slice e)) (hi : P.info? e = some i) (hz : i.zero = some z)
    (hsize : i.size = size) (hby : i.bytes = bytes) (hzs : z.cells.size = size) (hsz : 0 < size)
    (v : Value) (n : Nat) (xs : List Value) (hs : a.eval s = v) (hown : w.ownsRow base e size v n xs)
    (ad : Addr) (m c : Nat) (news : List Value) (hx : a.eval x = .slice (some ad) m c) (hl : news.length = m * size) (hnews : ∀ j u, news[j]? = some u → w.cell? (ad.add j) = some u) (h1 : ∀ u ∈ news, u.oneCell' = true)
    (h63 : n + m ≤ maxLen) (hbytes : (n + m) * bytes ≤ 140737488355328) (hbase : base ≤ w.heap.size)
    (h : ∀ v' w', w'.ownsRow base e size v' (n + m) (xs ++ news) → w.grownBy w' v.ownBlock → (v'.ownBlock = v.ownBlock ∨ v'.ownBlock = some w.heap.size) → K (a.put o.dst v') w') :
    if Region.wanted o (yielded ops a.tmps) = true then Oper.wp P o a w K Q else E := by
  have hw : Region.wanted o (yielded ops a.tmps) = true := by simp [Region.wanted, hgd]
  rw [if_pos hw]
  obtain ⟨v', w', hr, h2, h3, _, h5⟩ := run_append_own_at (P := P) w base t o.type e i z size bytes ht hi hz hsize hby hzs hsz v n xs hown ad m c news hl hnews h1 h63 hbytes hbase
  unfold Oper.wp execOp
  simp only [ho, resolve, invoke, builtin, Sem.run_bind, Sem.run_pure, Result.andThen_ok, List.map_toArray, List.map_cons, List.map_nil, hs, hx, hr]
  exact h v' w' h2 h3 h5
theorem MapV.grow {base B : Nat} {G : Grp} {es : Array MapEntry} {clock : Nat} {X Y : World} {row : Option Nat} (h : MapV base B G es clock X) (hg : X.grownBy Y row) (hr : ∀ r, row = some r → r ≠ B ∧ ∀ (j : Nat) e, es[j]? = some e → e.val.ownBlock ≠ some r) : MapV base B G es clock Y :=
  ⟨(hg.block B (Array.getElem?_eq_some_iff.1 h.at_).1 (fun e => (hr B e.symm).1 rfl)).trans h.at_, h.low, h.stamp, h.len, h.key, fun j e x he hx => row_keep (h.row j e x he hx) (fun b cs hb hc => hg.block b (Array.getElem?_eq_some_iff.1 hc).1 (fun e2 => (hr b e2.symm).2 j e he hb)), h.apart, h.six⟩
theorem MapV.rows {base B : Nat} {G : Grp} {es : Array MapEntry} {clock : Nat} {X : World} (h : MapV base B G es clock X) : ∀ (j : Nat) e, es[j]? = some e → ∀ b, e.val.ownBlock = some b → base ≤ b ∧ b < X.heap.size := by
  intro j e he b hb
  obtain ⟨x, hx⟩ : ∃ x, G[j]? = some x := get_some (by rw [← h.len]; exact (Array.getElem?_eq_some_iff.1 he).1)
  have h1 := row_block (h.row j e x he hx) b hb
  exact ⟨h1.1, h1.2.1⟩
theorem idle_upTo (N : Nat) (f : Nat → Int) : rowF f N = (upTo (N : Int)).map (fun x => f x.toNat) := by
  unfold rowF upTo
  rw [List.map_map]
  rfl
set_option maxHeartbeats 3200000 in
set_option maxRecDepth 20000 in
theorem impl_IdleTimes (n : Int) (g : Bool) (v : Value) (xss : List (List Int)) (w : World) (hv : ReadsL w v xss) (hl : sizeT xss ≤ 1048576) :
    Calls Try.prog 58 #[rd n g, v] w (OwnsB w.heap.size (idleR n g xss).1 (idleR n g xss).2 w) := by
  obtain ⟨i0, hi, hz0, hz1, hz2⟩ := info_parts infoInt
  have HAP := Lib.hid (fun v w hv => arePatrols_one n g v xss w hv hl)
  have HX := Lib.hid ((Boxed.first w n g 27).next (below_new _ (.cells #[] 3)))
  have HO := Lib.hid (made_at (w.alloc (.cells #[.int .i64 n, .bool g] 27)) (w.heap.size + 1) (w.heap.size + 1) (by simp) (Nat.le_refl _))
  have HV := Lib.hid hv
  obtain ⟨va, vc, hvv, _, hvm, _⟩ := hv
  subst hvv
  unfold maxLen at hvm
  unfold rd at *
  go_enter Try.func58, Try.ntmps58
  go_wp2_with fail
  refine (HAP.out _ _ (one_table (t := 47) (HV.out.below HX.out.below) (w.heap.size + 1 + 1) (by simp))).mono ?_
  rintro e w1 ⟨rfl, hb⟩
  have HXb := Lib.hid ((HX.out.next (below_new _ _)).next hb)
  have HOb := Lib.hid (owns_below (owns_below HO.out (below_new _ _)) hb)
  clear hb HX HO
  cases hp : patD n g xss
  · have HR := Lib.hid (idleR_no hp)
    clear hp
    go_wp2_with fail
    go_ret2
    exact owns_R HR.out (owns_out (zs := []) HXb.out HOb.out)
  · have hpx := (patD_iff n g xss).1 hp
    obtain ⟨L, hL1, hL60, hL0, hrx⟩ := pat_rows hpx
    have hrr := (roadB_iff n g).1 hpx.2.2.2
    have hn1 := hrr.1
    have hn2 := hrr.2.1
    obtain ⟨N, rfl⟩ : ∃ N : Nat, n = N := ⟨n.toNat, by omega⟩
    have HR := Lib.hid (show idleR N g xss = ((upTo (N : Int)).map (fun x => idlF xss L x.toNat), true) by rw [idleR_yes hp hL0, idle_upTo])
    have HPT := Lib.hid (fun v w hv => postTimes_any v xss L w hv (fun j xs h => (hrx j xs h).1) ⟨hL1, hL60⟩ ⟨hpx.1, hpx.2.1⟩ (pat_wf hpx))
    have HVO := Lib.hid (fun (B rb : Nat) es clock p w hM hp => visitsOf_pat (xss := xss) (L := L) (B := B) (rb := rb) (es := es) (clock := clock) p w hM (fun j xs h => (hrx j xs h).1) hL60 hpx.2.1 hp)
    have HID := Lib.hid (fun v (k : Nat) w hv => idleTime_any v (timV xss k L) L w hv (fun j x h => timV_in j x h) hL60 (Nat.le_trans (timV_len xss k L) hL60))
    have HLN := Lib.hid (fun (k : Nat) => show (timV xss k L).length ≤ maxLen from Nat.le_trans (timV_len xss k L) (by unfold maxLen; omega))
    obtain ⟨y0, hy0⟩ := get_some (xs := xss) (k := 0) (by have := hpx.1; omega)
    obtain ⟨b, o, a2, c2, he, hbl, hcy0, hry⟩ := lists_in HV.out hy0
    subst he
    have HCY := Lib.hid (show w.cell? ⟨b, o, none⟩ = some (.slice a2 L c2) by rw [← (hrx 0 y0 hy0).1]; exact hcy0)
    have HBL := Lib.hid hbl
    have h0n : 0 < xss.length := by have := hpx.1; omega
    have h0i : (0 : Int) < (xss.length : Int) := by omega
    have hul := upTo_len (N : Int)
    have HX := Lib.hid HXb.out
    have HO1 := Lib.hid HOb.out
    clear hp hpx hrx hL0 hrr hy0 hcy0 hry hbl
    go_wp2_with fail
    refine (HPT.out _ _ (HV.out.below HX.out.below)).mono ?_
    rintro e w3 ⟨rfl, ⟨es, clock, hM⟩, hb⟩
    have HM := Lib.hid hM
    have HX := Lib.hid (HX.out.next hb)
    have HO := Lib.hid (owns_below HO1.out hb)
    have h0 := HX.out.c0
    have hrows := hM.rows
    have hBl := (Array.getElem?_eq_some_iff.1 hM.at_).1
    have hvl : ∀ b, (Value.slice (some ⟨w.heap.size + 1, 0, none⟩) 0 0).ownBlock = some b → b < w1.heap.size ∨ w3.heap.size ≤ b := fun b hb => by
      have := (owns_block HO1.out b hb).2
      exact .inl this
    generalize w1.heap.size = B at *
    generalize hh3 : w3.heap.size = H3 at *
    have HH3 := Lib.hid hh3
    clear hh3
    have HRW := Lib.hid hrows
    have HVL := Lib.hid hvl
    clear hb hM hrows hvl
    go_wp2_with fail
    go_loopw [6, 20] (fun v i wr => LRel N g (upTo (N : Int)) (fun x => idlF xss L x.toNat) w.heap.size w v i wr ∧ MapV B B (grpV (postL xss) L) es clock wr ∧ (∀ b, v.ownBlock = some b → b < B ∨ H3 ≤ b) ∧ H3 ≤ wr.heap.size) (fun _ i _ => N - (intOf i).toNat)
    case atStart => exact ⟨⟨HX.out, 0, Nat.zero_le _, rfl, HO.out⟩, HM.out, HVL.out, Nat.le_of_eq HH3.out.symm⟩
    case round =>
      obtain ⟨⟨hx9, k, hk, rfl, hown⟩, hm9, hvl9, hs9⟩ := hrel
      clear HX HO h0 HM
      have HX := Lib.hid hx9
      have HM := Lib.hid hm9
      have HVL9 := Lib.hid hvl9
      have HS9 := Lib.hid hs9
      clear hx9 hm9 hvl9 hs9
      generalize hys : (((upTo (N : Int)).take k).map (fun x => idlF xss L x.toNat)).map iv = ys at hown
      have HYS := Lib.hid hys
      have HOW := Lib.hid hown
      clear hown hys
      have h0 := HX.out.c0
      by_cases hlt : (k : Int) < N
      · have hxk := upTo_at (N : Int) k (by omega)
        have HXK := Lib.hid hxk
        have HIE := Lib.hid (show idleV (timV xss k L) L = (fun x : Int => idlF xss L x.toNat) (k : Int) from rfl)
        have hkN : k ≤ 24 := by omega
        have hnn : (0 : Int) ≤ (k : Int) := by omega
        clear hxk h0
        go_wp2_with fail
        refine wp_region_noPanic ?_
        have HX := Lib.hid (HX.out.next (below_drewN _ 1))
        have HM := Lib.hid (HM.out.below (below_drewN _ 1))
        have HS9 := Lib.hid (show H3 ≤ (wr.drewN 1).heap.size from HS9.out)
        have HOW := Lib.hid (row_below HOW.out (below_drewN _ 1))
        refine wp_region_held_drew (S := fun w' => Boxed w.heap.size N g w w' ∧ w'.cell? ⟨w.heap.size, 0, none⟩ = some (.int .i64 N) ∧ w'.cell? ⟨w.heap.size, 1, none⟩ = some (.bool g) ∧ w'.cell? ⟨b, o, none⟩ = some (.slice a2 L c2)) (by kernel_rfl) (⟨HX.out, HX.out.c0, HX.out.c1, (HX.out.below.cell (p := ⟨b, o, none⟩) HBL.out).trans HCY.out⟩) (fun hHeld => ?_)
        refine wpAnyH_take (i := 0) (oi := _) (v := ?_) rfl (by kernel_rfl) (by kernel_rfl) (by kernel_rfl) (fun _ _ _ h => h) (Or.inl ⟨by rfl, ?_⟩) (by assumption) ?_
        rotate_left
        · (intro w hSw; (try dsimp only at hSw); (first | (go_simp; done) | (go_simp; with_reducible rfl)))
        simp only [Act.put, List.getElem_toArray, List.getElem_cons_succ, List.getElem_cons_zero, List.setIfInBounds_toArray, List.set_cons_zero, List.set_cons_succ]
        refine wpAnyH_take (i := 1) (oi := _) (v := ?_) rfl (by kernel_rfl) (by kernel_rfl) (by kernel_rfl) (fun _ _ _ h => h) (Or.inl ⟨by rfl, ?_⟩) (by assumption) ?_
        rotate_left
        · (intro w hSw; (try dsimp only at hSw); (first | (go_simp; done) | (go_simp; with_reducible rfl)))
        simp only [Act.put, List.getElem_toArray, List.getElem_cons_succ, List.getElem_cons_zero, List.setIfInBounds_toArray, List.set_cons_zero, List.set_cons_succ]
        refine wpAnyH_take (i := 2) (oi := _) (v := ?_) rfl (by kernel_rfl) (by kernel_rfl) (by kernel_rfl) (fun _ _ _ h => h) (Or.inl ⟨by rfl, ?_⟩) (by assumption) ?_
        rotate_left
        · (intro w hSw; (try dsimp only at hSw); (first | (go_simp; done) | (go_simp; with_reducible rfl)))
        simp only [Act.put, List.getElem_toArray, List.getElem_cons_succ, List.getElem_cons_zero, List.setIfInBounds_toArray, List.set_cons_zero, List.set_cons_succ]
        refine wpAnyH_take (i := 4) (oi := _) (v := ?_) rfl (by kernel_rfl) (by kernel_rfl) (by kernel_rfl) (fun _ _ _ h => h) (Or.inl ⟨by rfl, ?_⟩) (by assumption) ?_
        rotate_left
        · (intro w hSw; (try dsimp only at hSw); (first | (go_simp; done) | (go_simp; with_reducible rfl)))
        simp only [Act.put, List.getElem_toArray, List.getElem_cons_succ, List.getElem_cons_zero, List.setIfInBounds_toArray, List.set_cons_zero, List.set_cons_succ]
        refine wpAnyH_take (i := 5) (oi := _) (v := ?_) rfl (by kernel_rfl) (by kernel_rfl) (by kernel_rfl) (fun _ _ _ h => h) (Or.inl ⟨by rfl, ?_⟩) (by assumption) ?_
        rotate_left
        · (intro w hSw; (try dsimp only at hSw); (first | (go_simp; done) | (go_simp; with_reducible rfl)))
        simp only [Act.put, List.getElem_toArray, List.getElem_cons_succ, List.getElem_cons_zero, List.setIfInBounds_toArray, List.set_cons_zero, List.set_cons_succ]
        refine wpAnyH_take (i := 6) (oi := _) (v := ?_) rfl (by kernel_rfl) (by kernel_rfl) (by kernel_rfl) (fun _ _ _ h => h) (Or.inl ⟨by rfl, ?_⟩) (by assumption) ?_
        rotate_left
        · (intro w hSw; (try dsimp only at hSw); (first | (go_simp; done) | (go_simp; with_reducible rfl)))
        simp only [Act.put, List.getElem_toArray, List.getElem_cons_succ, List.getElem_cons_zero, List.setIfInBounds_toArray, List.set_cons_zero, List.set_cons_succ]
        refine wpAnyH_take (i := 7) (oi := _) (v := ?_) rfl (by kernel_rfl) (by kernel_rfl) (by kernel_rfl) (fun _ _ _ h => h) (Or.inl ⟨by rfl, ?_⟩) (by assumption) ?_
        rotate_left
        · (intro w hSw; (try dsimp only at hSw); (first | (go_simp; done) | (go_simp; with_reducible rfl)))
        simp only [Act.put, List.getElem_toArray, List.getElem_cons_succ, List.getElem_cons_zero, List.setIfInBounds_toArray, List.set_cons_zero, List.set_cons_succ]
        refine wpAnyH_ready (rs := [3]) (by kernel_rfl) (by simp) ?_
        refine AllReadyH.cons rfl (fun K hK => ?_) AllReadyH.nil
        go_simp
        refine (HVO.out _ _ _ _ k _ HM.out hnn).mono ?_
        rintro e w21 ⟨v9, rfl, ho, hb⟩
        have HX := Lib.hid (HX.out.next hb)
        have HM := Lib.hid (HM.out.below hb)
        have HS9 := Lib.hid (Nat.le_trans HS9.out hb.size)
        have HOW := Lib.hid (row_below HOW.out hb)
        have HO9 := Lib.hid ho
        clear hb ho
        clear hHeld
        try go_wp2_with fail
        refine hK.out _ _ (⟨HX.out, HX.out.c0, HX.out.c1, (HX.out.below.cell (p := ⟨b, o, none⟩) HBL.out).trans HCY.out⟩) (fun hHeld => ?_)
        clear hK K
        refine wpAnyH_ready (rs := [8]) (by kernel_rfl) (by simp) ?_
        refine AllReadyH.cons rfl (fun K hK => ?_) AllReadyH.nil
        go_simp
        refine (HID.out _ k _ (owns_reads HO9.out (HLN.out k))).mono ?_
        rw [HIE.out]
        rintro e w22 ⟨rfl, hb⟩
        have HX := Lib.hid (HX.out.next hb)
        have HM := Lib.hid (HM.out.below hb)
        have HS9 := Lib.hid (Nat.le_trans HS9.out hb.size)
        have HOW := Lib.hid (row_below HOW.out hb)
        clear hb
        clear hHeld
        try go_wp2_with fail
        refine hK.out _ _ (⟨HX.out, HX.out.c0, HX.out.c1, (HX.out.below.cell (p := ⟨b, o, none⟩) HBL.out).trans HCY.out⟩) (fun hHeld => ?_)
        clear hK K
        refine wpAnyH_ready (rs := [9]) (by kernel_rfl) (by simp) ?_
        refine AllReadyH.cons rfl (fun K hK => ?_) AllReadyH.nil
        go_simp
        have HNW := Lib.hid (one_news (x := .int .i64 ((fun x : Int => idlF xss L x.toNat) (k : Int))) (t := 3) hHeld.1 w22.heap.size rfl)
        have HOA := Lib.hid (row_below HOW.out (below_new _ (.cells #[.int .i64 ((fun x : Int => idlF xss L x.toNat) (k : Int))] 3)))
        have HXO := Lib.hid HX.out
        have HM := Lib.hid (HM.out.below (below_new _ (.cells #[.int .i64 ((fun x : Int => idlF xss L x.toNat) (k : Int))] 3)))
        have hsa : H3 ≤ (w22.alloc (.cells #[.int .i64 ((fun x : Int => idlF xss L x.toNat) (k : Int))] 3)).heap.size := by have := HS9.out; simp; omega
        have HSA := Lib.hid hsa
        clear hsa
        refine hK.out _ _ (⟨(hHeld.1.next (below_new _ _)), (hHeld.1.next (below_new _ _)).c0, (hHeld.1.next (below_new _ _)).c1, ((hHeld.1.next (below_new _ _)).below.cell (p := ⟨b, o, none⟩) HBL.out).trans HCY.out⟩) (fun hHeld => ?_)
        clear hK K
        have HX := Lib.hid hHeld.1
        refine wpAnyH_ready (rs := [10]) (by kernel_rfl) (by simp) ?_
        refine AllReadyH.cons rfl (fun K hK => ?_) AllReadyH.nil
        refine step_append_loc (by rfl) _ _ _ (by rfl) (w.heap.size + 1) 3 i0 (.int .i64 0) 1 8 Try.underlying24 hi hz0 hz1 hz2 rfl (by decide) _ _ _ (by rfl) HOA.out ⟨w22.heap.size, 0, none⟩ 1 1 [.int .i64 ((fun x : Int => idlF xss L x.toNat) (k : Int))] (by rfl) (by rfl) HNW.out ?c2 ?c3 ?c4 ?c5 ?_
        case c2 => intro u hu; simp at hu; subst hu; rfl
        case c3 => unfold maxLen; omega
        case c4 => omega
        case c5 => have := HXO.out.size; simp; omega
        intro v9 w24 hown9 hgrow9 hloc9
        have HX := Lib.hid (boxed_append HXO.out hgrow9 (fun b hb => (owns_block HOA.out b hb).1))
        have HM := Lib.hid (HM.out.grow hgrow9 (fun q hq => ⟨fun e => by have := HVL9.out q hq; omega, fun j e he h0 => by have h1 := HVL9.out q hq; have h2 := HRW.out j e he q h0; omega⟩))
        have HVL9 := Lib.hid (show ∀ b, v9.ownBlock = some b → b < B ∨ H3 ≤ b from fun b hb => by rcases hloc9 with h9 | h9; exact HVL9.out b (by rw [← h9]; exact hb); exact .inr (by rw [h9] at hb; cases hb; exact HSA.out))
        have HS9 := Lib.hid (Nat.le_trans HSA.out hgrow9.size)
        have HO9 := Lib.hid hown9
        clear hgrow9 hown9 hloc9
        clear hHeld
        refine hK.out _ _ (⟨HX.out, HX.out.c0, HX.out.c1, (HX.out.below.cell (p := ⟨b, o, none⟩) HBL.out).trans HCY.out⟩) (fun hHeld => ?_)
        clear hK K
        refine wpAnyH_take (i := 11) (oi := _) (v := ?_) rfl (by kernel_rfl) (by kernel_rfl) (by kernel_rfl) (fun _ _ _ h => h) (Or.inl ⟨by rfl, ?_⟩) (by assumption) ?_
        rotate_left
        · (intro w hSw; (try dsimp only at hSw); (first | (go_simp; done) | (go_simp; with_reducible rfl)))
        simp only [Act.put, List.getElem_toArray, List.getElem_cons_succ, List.getElem_cons_zero, List.setIfInBounds_toArray, List.set_cons_zero, List.set_cons_succ]
        refine wpAnyH_done (by kernel_rfl) ?_ _
        refine NoPanic.normal ?_
        clear hHeld
        go_wp2_with fail
        go_roundw
        case rel => exact ⟨lrel_next2 (f := fun x => idlF xss L x.toNat) HYS.out HXK.out (by go_num) HX.out HO9.out, HM.out, HVL9.out, HS9.out⟩
        case measure => simp [intOf] <;> omega
      · have HE := Lib.hid (show k = (upTo (N : Int)).length by omega)
        go_wp2_with fail
        go_ret2
        exact owns_R HR.out (lrel_end (xs := upTo (N : Int)) (f := fun x => idlF xss L x.toNat) HE.out HX.out (by rw [HYS.out]; exact HOW.out))
end Go.Proofs.Ytijhbhjapcfddaa
