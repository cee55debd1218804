/-
  What is proved: the contract of impl.visitsOf: the times of all posts with a guard at a place, in ascending order. Conditions: a map that keeps times by posts of six numbers.
-/
import Derived.Test.YtijhbhjapcfddaaVtk
import Derived.Test.YtijhbhjapcfddaaSrt
import Derived.Test.YtijhbhjapcfddaaFn5
import Derived.Test.YtijhbhjapcfddaaFn6
import Derived.Maps.RangeRun
namespace Go.Proofs.Ytijhbhjapcfddaa
open Go.RowKit Go.ChangeMaps Go.MapKept
set_option linter.unusedVariables false
set_option linter.unusedSimpArgs false

theorem sort_nn (v : Value) (xs : List Int) (base : Nat) (w : World) (h : w.ownsRow base 3 1 v xs.length (xs.map iv)) (hnn : v ≠ .slice none 0 0) (hm : xs.length ≤ 1048576) :
    Calls Try.prog 137 #[v] w fun e w' => e = .returned (.tuple #[]) ∧ w'.ownsRow base 3 1 v xs.length ((sortI xs).map iv) ∧ w.grownBy w' v.ownBlock := by
  obtain ⟨g, cap, rfl, hb, hlt, hn, hmx, hl2, hH⟩ := Lib.holds_of_ownsRow h hnn
  refine (Try.slices_Sort_int g 0 cap xs w hH hlt (by omega)).mono ?_
  rintro e w' ⟨rfl, n, os, rfl⟩
  have h1 := Lib.ownsRow_putRow (q := n) (k := xs.length) (ys := sortI xs) h (sortI_len xs) (Nat.le_refl _)
  rw [List.take_of_length_le (by rw [sortI_len]; exact Nat.le_refl _)] at h1
  refine ⟨rfl, ?_, rfl, rfl, rfl, by simp [Sort.putRow, Sort.mapBlock, Sort.ahead], fun k hk hne => ?_⟩
  · refine owns_below h1 ⟨rfl, rfl, rfl, by simp, fun k hk => ?_⟩
    exact Go.Sort.heap_grow_old _ _ hk
  · have hgk : g ≠ k := fun e => hne (by rw [← e]; rfl)
    rw [Go.Sort.heap_grow_old _ _ (by simpa [Sort.putRow, Sort.mapBlock, Sort.ahead] using hk)]
    simp [Sort.putRow, Sort.mapBlock, Sort.ahead, Array.getElem?_modify, hgk]
abbrev Grp := List (List Int × List Int)
def gatV (G : Grp) (j : Nat) : List Int × List Int := G.getD j ([], [])
theorem gatV_at {G : Grp} {j : Nat} {x : List Int × List Int} (h : G[j]? = some x) : gatV G j = x := by unfold gatV; simp [List.getD, h]
theorem gatV_range (G : Grp) : (List.range G.length).map (gatV G) = G := by
  apply List.ext_getElem?
  intro j
  by_cases hj : j < G.length
  · rw [List.getElem?_map, List.getElem?_range hj]
    show some (gatV G j) = _
    rw [gatV_at (List.getElem?_eq_getElem hj), List.getElem?_eq_getElem hj]
  · rw [List.getElem?_eq_none (by simp; omega), List.getElem?_eq_none (by omega)]
theorem visL_snoc (p : Int) (l : Grp) (x : List Int × List Int) : visL p (l ++ [x]) = visL p l ++ (if x.1.contains p then x.2 else []) := by
  unfold visL
  rw [List.filter_append, List.flatMap_append]
  congr 1
  by_cases h : x.1.contains p = true
  · rw [if_pos h]
    simp only [List.filter_cons, List.filter_nil, h, if_true, List.flatMap_cons, List.flatMap_nil, List.append_nil]
  · rw [if_neg h]
    simp only [List.filter_cons, List.filter_nil, h, if_false, List.flatMap_nil, Bool.false_eq_true]
theorem visL_len {p : Int} {m : Nat} : ∀ {l : Grp}, (∀ x ∈ l, x.2.length ≤ m) → (visL p l).length ≤ l.length * m
  | [], _ => by simp [visL]
  | x :: r, h => by
    have h1 := h x (List.mem_cons_self ..)
    have h2 := visL_len (p := p) (l := r) (fun y hy => h y (List.mem_cons_of_mem _ hy))
    rw [visL_cons, List.length_append, List.length_cons, Nat.succ_mul]
    split
    · omega
    · simp; omega
theorem nodup_len : ∀ {n : Nat} {ds : List Nat}, ds.Nodup → (∀ j ∈ ds, j < n) → ds.length ≤ n := by
  intro n ds h1 h2
  have h3 := List.Nodup.length_le_of_subset h1 (l₂ := List.range n) (fun j hj => List.mem_range.2 (h2 j hj))
  rwa [List.length_range] at h3
def bornAt (es : Array MapEntry) (j : Nat) : Nat := ((es[j]?).map (·.born)).getD 0
theorem bornAt_at {es : Array MapEntry} {j : Nat} {e : MapEntry} (h : es[j]? = some e) : bornAt es j = e.born := by unfold bornAt; rw [h]; rfl
/-- between two rounds: the entries that came, in the order in which they came -/
structure VoRel (G : Grp) (es : Array MapEntry) (clock B : Nat) (p : Int) (base : Nat) (w : World) (ds : List Nat) (seen : Array Nat) (c0 : Nat) (v : Value) (wr : World) : Prop where
  low : Below base w wr
  nn : v ≠ .slice none 0 0
  it : wr.heap[base + 1]? = some (.mapIter (some B) clock seen c0)
  late : clock ≤ c0
  nod : ds.Nodup
  ins : ∀ j ∈ ds, j < G.length
  sn : seen.toList = ds.map (bornAt es)
  own : wr.ownsRow base 3 1 v (visL p (ds.map (gatV G))).length ((visL p (ds.map (gatV G))).map iv)
theorem born_nodup {es : Array MapEntry} {i j : Nat} {e e' : MapEntry} (h : (es.toList.map (·.born)).Nodup) (hi : es[i]? = some e) (hj : es[j]? = some e') (he : e.born = e'.born) : i = j := by
  have hi2 : (es.toList.map (·.born))[i]? = some e.born := by rw [List.getElem?_map, Array.getElem?_toList, hi]; rfl
  have hj2 : (es.toList.map (·.born))[j]? = some e.born := by rw [List.getElem?_map, Array.getElem?_toList, hj, he]; rfl
  have hil := (List.getElem?_eq_some_iff.1 hi2).1
  exact (List.getElem?_inj hil h).1 (hi2.trans hj2.symm)
/-- the step: nothing is left, or one entry that is left comes out -/
theorem vo_next {G : Grp} {es : Array MapEntry} {clock B : Nat} {p : Int} {base rb : Nat} {w wr : World} {ds : List Nat} {seen : Array Nat} {c0 : Nat} {v : Value} (hM : MapV rb B G es clock wr) (h : VoRel G es clock B p base w ds seen c0 v wr) :
    ((ds.map (gatV G)).Perm G ∧ (Instr.next (.pointer (some ⟨base + 1, 0, none⟩)) false 0).run Try.prog wr = .ok (.tuple #[.bool false]) wr) ∨
    ∃ j e x W1, es[j]? = some e ∧ G[j]? = some x ∧ j ∉ ds ∧ (Instr.next (.pointer (some ⟨base + 1, 0, none⟩)) false 0).run Try.prog wr = .ok (.tuple #[.bool true, e.key, e.val]) W1 ∧
      (Instr.entry (.pointer (some ⟨base + 1, 0, none⟩))).run Try.prog W1 = .ok (.tuple #[e.key, e.val]) W1 ∧
      W1.heap[base + 1]? = some (.mapIter (some B) clock (seen.push e.born) clock) ∧ (∀ i, i ≠ base + 1 → W1.heap[i]? = wr.heap[i]?) ∧ W1.heap.size = wr.heap.size ∧ W1.os = wr.os ∧ W1.tape = wr.tape ∧ W1.output = wr.output := by
  have hold : ∀ x ∈ es.toList, x.born < clock := hM.stamp.1
  have hnd := hM.stamp.2.1
  have hBne : B ≠ base + 1 := fun e => by
    have h1 := hM.at_
    rw [e, h.it] at h1
    cases h1
  have inS : ∀ b, seen.contains b = true ↔ ∃ j ∈ ds, bornAt es j = b := by
    intro b
    rw [Array.contains_iff_mem, ← Array.mem_toList_iff, h.sn, List.mem_map]
  rcases run_next_at (P := Try.prog) wr 0 (base + 1) B clock c0 seen es clock h.it hM.at_ hold h.late with ⟨h0, hrun⟩ | ⟨e, he, w1, hw1, hrun⟩
  · refine .inl ⟨?_, hrun⟩
    have hall : ∀ j, j < G.length → j ∈ ds := by
      intro j hj
      have hjs : j < es.size := by rw [hM.len]; exact hj
      have hej : es[j]? = some es[j] := Array.getElem?_eq_getElem hjs
      have hc : seen.contains es[j].born = true := by
        cases hc : seen.contains es[j].born
        · have hmem : es[j] ∈ leftOf es seen := by
            unfold leftOf
            rw [Array.mem_filter]
            exact ⟨Array.getElem_mem hjs, by rw [hc]; rfl⟩
          have := Array.size_pos_of_mem hmem
          omega
        · rfl
      obtain ⟨i, hi, hb⟩ := (inS _).1 hc
      have hil := h.ins i hi
      have hei : es[i]? = some (es[i]'(by rw [hM.len]; exact hil)) := Array.getElem?_eq_getElem _
      rw [bornAt_at hei] at hb
      have := born_nodup hnd hei hej hb
      rwa [← this]
    have hp : ds.Perm (List.range G.length) := (List.perm_ext_iff_of_nodup h.nod List.nodup_range).2 (fun j => ⟨fun hj => List.mem_range.2 (h.ins j hj), fun hj => hall j (List.mem_range.1 hj)⟩)
    have := hp.map (gatV G)
    rwa [gatV_range] at this
  · have hel : e ∈ es ∧ (!seen.contains e.born) = true := by
      have : e ∈ leftOf es seen := by simpa using he
      unfold leftOf at this
      rwa [Array.mem_filter] at this
    obtain ⟨j, hj⟩ := Array.getElem?_of_mem hel.1
    obtain ⟨x, hx⟩ : ∃ x, G[j]? = some x := get_some (by rw [← hM.len]; exact (Array.getElem?_eq_some_iff.1 hj).1)
    have hnj : j ∉ ds := fun hd => by
      have : seen.contains e.born = true := (inS _).2 ⟨j, hd, bornAt_at hj⟩
      rw [this] at hel
      cases hel.2
    have hr1 : w1.heap = wr.heap ∧ w1.os = wr.os ∧ w1.tape = wr.tape ∧ w1.output = wr.output := by rcases hw1 with rfl | rfl <;> exact ⟨rfl, rfl, rfl, rfl⟩
    have hlt : base + 1 < wr.heap.size := (Array.getElem?_eq_some_iff.1 h.it).1
    have e1 : (setBlock w1 (base + 1) (.mapIter (some B) clock (seen.push e.born) clock)).heap[base + 1]? = some (.mapIter (some B) clock (seen.push e.born) clock) := by
      simp [setBlock, hr1.1, hlt]
    have e2 : ∀ i, i ≠ base + 1 → (setBlock w1 (base + 1) (.mapIter (some B) clock (seen.push e.born) clock)).heap[i]? = wr.heap[i]? := by
      intro i hi
      simp [setBlock, hr1.1, Array.getElem?_setIfInBounds_ne (Ne.symm hi)]
    refine .inr ⟨j, e, x, _, hj, hx, hnj, hrun, ?_, e1, e2, by rw [size_setBlock, hr1.1], hr1.2.1, hr1.2.2.1, hr1.2.2.2⟩
    exact run_entry_at _ (base + 1) B clock seen es clock e e1 ((e2 B hBne).trans hM.at_) (by simpa using hel.1) hnd
theorem reads6 {w : World} {t : TypeId} (k : Nat) (a0 a1 a2 a3 a4 a5 : Int) (hk : w.heap.size = k) : ReadsI (w.alloc (.cells #[.int .i64 a0, .int .i64 a1, .int .i64 a2, .int .i64 a3, .int .i64 a4, .int .i64 a5] t)) (.slice (some ⟨k, 0, none⟩) 6 6) [a0, a1, a2, a3, a4, a5] := by
  subst hk
  refine ⟨_, 6, rfl, Nat.le_refl _, by simp [maxLen], fun j x hj => ?_⟩
  refine ⟨_, 0, rfl, by simp, ?_⟩
  rw [cell_new]
  match j, hj with
  | 0, hj => cases hj; rfl
  | 1, hj => cases hj; rfl
  | 2, hj => cases hj; rfl
  | 3, hj => cases hj; rfl
  | 4, hj => cases hj; rfl
  | 5, hj => cases hj; rfl
theorem has_first {xs : List Int} {p : Int} : decide (0 ≤ firstI xs p) = xs.contains p := by
  have h1 := firstI_range xs p
  have h2 := firstI_neg xs p
  by_cases h : p ∈ xs
  · have h3 : firstI xs p ≠ -1 := fun e => (h2.1 e) h
    rw [decide_eq_true (by omega)]
    simp [h]
  · have h3 := h2.2 h
    rw [decide_eq_false (by omega)]
    simp [h]
theorem iterSeen_at {w : World} {r : Nat} {a : Option Nat} {b c : Nat} {s : Array Nat} (h : w.heap[r]? = some (.mapIter a b s c)) : w.iterSeen r = s := by unfold World.iterSeen; rw [h]
theorem vo_step {G : Grp} {es : Array MapEntry} {clock B : Nat} {p : Int} {base : Nat} {w wr w9 : World} {ds : List Nat} {seen : Array Nat} {c0 j : Nat} {v v' : Value} {e : MapEntry} {x : List Int × List Int} (h : VoRel G es clock B p base w ds seen c0 v wr)
    (hj : es[j]? = some e) (hx : G[j]? = some x) (hnj : j ∉ ds) (hlow : Below base w w9) (hnn : v' ≠ .slice none 0 0) (hit : w9.heap[base + 1]? = some (.mapIter (some B) clock (seen.push e.born) clock))
    (hown : w9.ownsRow base 3 1 v' (visL p (ds.map (gatV G)) ++ (if x.1.contains p then x.2 else [])).length ((visL p (ds.map (gatV G)) ++ (if x.1.contains p then x.2 else [])).map iv)) :
    VoRel G es clock B p base w (ds ++ [j]) (seen.push e.born) clock v' w9 := by
  have hjl := (List.getElem?_eq_some_iff.1 hx).1
  refine ⟨hlow, hnn, hit, Nat.le_refl _, ?_, fun i hi => ?_, ?_, ?_⟩
  · rw [List.nodup_append]
    exact ⟨h.nod, by simp, fun a ha b hb => by simp at hb; subst hb; exact fun e => hnj (e ▸ ha)⟩
  · rcases List.mem_append.1 hi with hi | hi
    · exact h.ins i hi
    · simp at hi; subst hi; exact hjl
  · rw [Array.toList_push, h.sn, List.map_append]
    simp [bornAt_at hj]
  · rw [List.map_append]
    simp only [List.map_cons, List.map_nil, gatV_at hx]
    rw [visL_snoc]
    exact hown
set_option maxHeartbeats 3200000 in
set_option maxRecDepth 20000 in
theorem visitsOf_any (rb B : Nat) (G : Grp) (es : Array MapEntry) (clock : Nat) (p : Int) (w : World) (hM : MapV rb B G es clock w) (hG : ∀ x ∈ G, x.1.length = 6 ∧ 1 ≤ x.2.length ∧ x.2.length ≤ 60) (hGl : G.length ≤ 60) :
    Calls Try.prog 104 #[.map (some B), .int .i64 p] w fun e w' => ∃ (v : Value) (D : Grp), D.Perm G ∧ e = .returned v ∧ w'.ownsRow w.heap.size 3 1 v (sortI (visL p D)).length ((sortI (visL p D)).map iv) ∧ Below w.heap.size w w' := by
  obtain ⟨i0, hi, hz0, hz1, hz2⟩ := info_parts infoInt
  have HSO := Lib.hid (fun v xs base w h hnn hm => sort_nn v xs base w h hnn hm)
  have HCO := Lib.hid (fun v xs w hv => contains_any v xs p w hv)
  have hbl := (Array.getElem?_eq_some_iff.1 hM.at_).1
  have hrg := run_range_map (P := Try.prog) (w.alloc (.cells #[] 3)) 100 _ _ B es clock mapUnder ((below_new w (.cells #[] 3)).block B hbl |>.trans hM.at_)
  have e1 : (w.alloc (.cells #[] 3)).heap.size = w.heap.size + 1 := by simp
  rw [e1] at hrg
  have HM := Lib.hid hM
  have HG := Lib.hid hG
  have hst : VoRel G es clock B p w.heap.size w [] #[] clock (.slice (some ⟨w.heap.size, 0, none⟩) 0 0) ((w.alloc (.cells #[] 3)).alloc (.mapIter (some B) clock #[] clock)) :=
    ⟨(below_new w _).trans ((below_new _ _).mono (by simp)), (fun e => nomatch e), (by have h := Go.heap_alloc_new (w.alloc (.cells #[] 3)) (.mapIter (some B) clock #[] clock); rw [e1] at h; exact h), Nat.le_refl _, List.nodup_nil, (fun j hj => nomatch hj), rfl, row_below (made_at w w.heap.size w.heap.size rfl (Nat.le_refl _)) (below_new _ _)⟩
  have HST := Lib.hid hst
  clear hM hG hst hbl
  go_enter Try.func104, Try.ntmps104
  go_wp2_with fail
  go_loopw [5] (fun v wr => ∃ ds seen c0, VoRel G es clock B p w.heap.size w ds seen c0 v wr) (fun _ wr => es.size - (wr.iterSeen (w.heap.size + 1)).size)
  case atStart => exact ⟨[], #[], clock, HST.out⟩
  case round =>
    obtain ⟨ds, seen, c0, hR⟩ := hrel
    have hMr := HM.out.below hR.low
    have HR := Lib.hid hR
    have hdl := nodup_len hR.nod hR.ins
    have hvl := visL_len (p := p) (l := ds.map (gatV G)) (m := 60) (fun y hy => by
      obtain ⟨i, hi, rfl⟩ := List.mem_map.1 hy
      have hil := hR.ins i hi
      rw [gatV_at (List.getElem?_eq_getElem hil)]
      exact (HG.out _ (List.getElem_mem hil)).2.2)
    rw [List.length_map] at hvl
    have hvl2 : (visL p (ds.map (gatV G))).length ≤ 3600 := Nat.le_trans hvl (by omega)
    clear hrg e1 hvl
    rcases vo_next hMr hR with ⟨hp, hrun⟩ | ⟨j, e, x, W1, hj, hx, hnj, hrun, hent, hit1, hot1, hs1, hos1, htp1, hou1⟩
    · have HP := Lib.hid hp
      clear hp hR hMr
      go_wp2_with fail
      refine (HSO.out _ _ w.heap.size _ HR.out.own HR.out.nn (by omega)).mono ?_
      rintro e w2 ⟨rfl, ho, hg⟩
      have HO := Lib.hid ho
      have HL := Lib.hid (HR.out.low.grown hg (HR.out.low.size) (fun b hb => (owns_block HR.out.own b hb).1))
      clear ho hg hrun
      go_wp2_with fail
      go_ret
      exact ⟨_, _, HP.out, rfl, by rw [sortI_len]; exact HO.out, HL.out⟩
    · obtain ⟨hx6, hx1, hx60⟩ := HG.out x (List.mem_of_getElem? hx)
      have hkx := hMr.key j e x hj hx
      have hjl : j < es.size := (Array.getElem?_eq_some_iff.1 hj).1
      have hel := HM.out.len
      have hsz : seen.size = ds.length := by have := congrArg List.length hR.sn; simpa using this
      have hdl2 := nodup_len (n := G.length) (ds := ds ++ [j]) (by rw [List.nodup_append]; exact ⟨hR.nod, by simp, fun a ha b hb => by simp at hb; subst hb; exact fun e => hnj (e ▸ ha)⟩) (fun i hi => by
        rcases List.mem_append.1 hi with hi | hi
        · exact hR.ins i hi
        · simp at hi; subst hi; rw [← hel]; exact hjl)
      rw [List.length_append, List.length_singleton] at hdl2
      have hlow1 : Below w.heap.size w W1 := hR.low.trans ⟨hos1, htp1, hou1, by omega, fun i hi => hot1 i (by omega)⟩
      have hown1 : W1.ownsRow w.heap.size 3 1 _ (visL p (ds.map (gatV G))).length ((visL p (ds.map (gatV G))).map iv) := row_keep hR.own (fun b cs _ hc => hot1 b (fun e => by rw [e, hR.it] at hc; cases hc))
      have hseen := iterSeen_at hR.it
      obtain ⟨kx, rowx⟩ := x
      obtain ⟨a0, a1, a2, a3, a4, a5, rfl⟩ : ∃ a0 a1 a2 a3 a4 a5, kx = [a0, a1, a2, a3, a4, a5] := by
        match kx, hx6 with
        | [a0, a1, a2, a3, a4, a5], _ => exact ⟨a0, a1, a2, a3, a4, a5, rfl⟩
      have hkey : e.key = .agg #[.int .i64 a0, .int .i64 a1, .int .i64 a2, .int .i64 a3, .int .i64 a4, .int .i64 a5] := hkx
      have hB2 := below_new W1 (.cells #[.int .i64 a0, .int .i64 a1, .int .i64 a2, .int .i64 a3, .int .i64 a4, .int .i64 a5] 119)
      have hrd := reads6 (t := 119) wr.heap.size a0 a1 a2 a3 a4 a5 hs1
      have hrow2 := (HM.out.below (hlow1.trans (hB2.mono hlow1.size))).row j e _ hj hx
      obtain ⟨ra, rc, hev, hrc, hrm, hrg2⟩ := row_shape hrow2
      obtain ⟨g, hga, _, _⟩ := hrg2 (by show 0 < rowx.length; exact hx1)
      subst hga
      have hown2 := row_below hown1 hB2
      have hit2 := (hB2.block _ (Array.getElem?_eq_some_iff.1 hit1).1).trans hit1
      have hlow2 := hlow1.trans (hB2.mono hlow1.size)
      have hcells := hrow2.cells (g := g) (by rw [hev]; rfl)
      rw [hkey, hev] at hrun hent
      have HFIN := Lib.hid (fun w9 v' hlow hnn hit hown => vo_step (w9 := w9) (v' := v') HR.out hj hx hnj hlow hnn hit hown)
      have HRD := Lib.hid hrd
      have HB2 := Lib.hid hB2
      have HOW := Lib.hid hown2
      have HIT := Lib.hid hit2
      have HLW := Lib.hid hlow2
      have HCE := Lib.hid hcells
      have HNN := Lib.hid hR.nn
      have hsb := (HB2.out).size
      have hlsz := hlow1.size
      clear hrd hB2 hown2 hit2 hlow2 hcells hrow2 hown1 hlow1 hkx hR hMr hot1 hit1 HM HG hx hj
      have hsz2 : (W1.alloc (.cells #[.int .i64 a0, .int .i64 a1, .int .i64 a2, .int .i64 a3, .int .i64 a4, .int .i64 a5] 119)).heap.size = wr.heap.size + 1 := by simp [hs1]
      go_wp2_with fail
      generalize W1.alloc (.cells #[.int .i64 a0, .int .i64 a1, .int .i64 a2, .int .i64 a3, .int .i64 a4, .int .i64 a5] 119) = W2 at *
      refine (HCO.out _ [a0, a1, a2, a3, a4, a5] _ HRD.out).mono ?_
      rintro e2 w3 ⟨rfl, rfl⟩
      have hfc := has_first (xs := [a0, a1, a2, a3, a4, a5]) (p := p)
      rw [hfc]
      cases hc : [a0, a1, a2, a3, a4, a5].contains p
      · have HF := Lib.hid (show (visL p (ds.map (gatV G)) ++ (if [a0, a1, a2, a3, a4, a5].contains p then rowx else [])) = visL p (ds.map (gatV G)) by rw [hc]; simp)
        clear hc hfc
        go_wp2_with fail
        go_roundw
        case rel => exact ⟨_, _, _, HFIN.out _ _ HLW.out HNN.out HIT.out (by rw [HF.out]; exact HOW.out)⟩
        case measure =>
          rw [iterSeen_at HIT.out, hseen]
          simp
          omega
      · have HF := Lib.hid (show (visL p (ds.map (gatV G)) ++ (if [a0, a1, a2, a3, a4, a5].contains p then rowx else [])) = visL p (ds.map (gatV G)) ++ rowx by rw [hc]; simp)
        clear hc hfc
        have hx60' : rowx.length ≤ 60 := hx60
        generalize hzs : visL p (ds.map (gatV G)) = zs at *
        go_wp2_with (at_builtin; refine wpList_append_own _ rfl _ _ 24 rfl w.heap.size 3 i0 (.int .i64 0) 1 8 Try.underlying24 hi hz0 hz1 hz2 rfl (by decide) _ _ _ rfl HOW.out ⟨g, 0, none⟩ rowx.length rc (rowx.map iv) rfl (by simp) HCE.out ?c2 ?c3 ?c4 ?c5 ?_)
        case c2 =>
          intro u hu
          obtain ⟨y, _, rfl⟩ := List.mem_map.1 hu
          rfl
        case c3 => unfold maxLen; omega
        case c4 => omega
        case c5 => omega
        intro v' w9 hown' hgrow hnil
        have HLW9 := Lib.hid (HLW.out.grown hgrow (HLW.out.size) (fun b hb => (owns_block HOW.out b hb).1))
        have HIT9 := Lib.hid ((hgrow.block _ (Array.getElem?_eq_some_iff.1 HIT.out).1 (fun e3 => by
          obtain ⟨_, _, cs, hcs⟩ := row_block HOW.out _ e3.symm
          rw [HIT.out] at hcs
          cases hcs)).trans HIT.out)
        have HNN9 := Lib.hid (show v' ≠ .slice none 0 0 from fun e3 => HNN.out (hnil.1 e3).1)
        have HOW9 := Lib.hid hown'
        clear hgrow hown' hnil
        go_wp2_with fail
        go_roundw
        case rel => exact ⟨_, _, _, HFIN.out _ _ HLW9.out HNN9.out HIT9.out (by rw [HF.out, List.length_append, List.map_append]; exact HOW9.out)⟩
        case measure =>
          rw [iterSeen_at HIT9.out, hseen]
          simp
          omega
end Go.Proofs.Ytijhbhjapcfddaa
