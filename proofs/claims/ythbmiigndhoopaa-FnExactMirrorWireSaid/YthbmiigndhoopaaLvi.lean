/-
  What is proved: MirrorWire of the program. Conditions: those of each contract.
-/
import Derived.Test.YthbmiigndhoopaaLvh
import Derived.Test.YthbmiigndhoopaaLno
namespace Go.Proofs.Ythbmiigndhoopaa
open Go.RowKit
set_option linter.unusedVariables false
set_option linter.unusedSimpArgs false
attribute [local go_sem] Oper.semAt_some

/-! ### a region that draws its order, in a round of a range over a function -/
theorem rowsIn_wideR {n l : Nat} {P : Program} {row : String} {args : Array Value} {w : World} {R : Value → World → Prop} (h : Rows P row args w R) : RowsIn (Fence.wide.inRound l) n P row args w R :=
  fun c cs _ => let ⟨v, w', r, s⟩ := h c cs; ⟨v, w', r, (stepsIn_wide.2 s : StepsIn (Machine.fenced P Fence.wide) P _ _)⟩
theorem wpOpIn_round {n l : Nat} {P : Program} {ops : Array Oper} {Q : Exit → Act → World → Prop} {i : Nat} {K : Act → World → Prop} {a : Act} {w : World}
    (hQ : ¬ LetsOut Q) (hd : ∀ o, ops[i]? = some o → ∀ c, o.op ≠ .defer c) (h : wpOp P ops Q i K a w) : wpOpIn (Fence.wide.inRound l) n P ops Q i K a w := by
  unfold wpOp at h
  unfold wpOpIn
  cases ho : ops[i]? with
  | none => simpa only [ho] using h
  | some o =>
    simp only [ho] at h ⊢
    split
    · rename_i hw
      simp only [hw, if_true] at h
      rcases h with h | h
      · refine ⟨fun _ _ => trivial, ?_⟩
        rw [Oper.semAt_plain _ _ _ (hd o ho)]
        unfold Oper.wp at h
        generalize (execOp a.eval o).run P w = r at *
        cases r with
        | ok x w' =>
          cases x <;> simp only [Oper.upon, Oper.uponIn] at h ⊢ <;> first
            | exact h
            | exact ⟨fun e => (by cases e), (callsIn_wide (n := n - 1)).2 h⟩
            | exact ⟨fun e => (by cases e), rowsIn_wideR h⟩
        | halt x w' => cases x <;> simp only [Oper.upon, Oper.uponIn] at h ⊢ <;> exact h
      · exact (hQ h.2).elim
    · rename_i hw
      simp only [hw] at h
      exact ⟨fun _ _ => trivial, h⟩
theorem wpOpsIn_round {n l : Nat} {P : Program} {ops : Array Oper} {Q : Exit → Act → World → Prop} (hQ : ¬ LetsOut Q) (hd : ∀ (i : Nat) o, ops[i]? = some o → ∀ c, o.op ≠ .defer c) :
    ∀ (is : List Nat) (a : Act) (w : World), wpOps P ops Q is a w → wpOpsIn (Fence.wide.inRound l) n P ops Q is a w
  | [], _, _, h => h
  | i :: is, a, w, h => by
    rw [wpOps_cons] at h
    rw [wpOpsIn_cons]
    exact wpOpIn_mono (fun a w h => wpOpsIn_round hQ hd is a w h) (wpOpIn_round hQ (hd i) h)
def noDefers (ops : Array Oper) : Bool := ops.all fun o => match o.op with | .defer _ => false | _ => true
theorem noDefers_spec {ops : Array Oper} (h : noDefers ops = true) (i : Nat) (o : Oper) (ho : ops[i]? = some o) (c) : o.op ≠ .defer c := by
  intro e
  unfold noDefers at h
  rw [Array.all_eq_true] at h
  obtain ⟨hi, hv⟩ := Array.getElem?_eq_some_iff.1 ho
  have h2 := h i hi
  rw [hv, e] at h2
  cases h2
theorem wpIn_region_round {n l id : Nat} {P : Program} {ops : Array Oper} {Q : Exit → Act → World → Prop} {S : World → Prop} {a : Act} {w : World} (hQ : ¬ LetsOut Q) (hd : noDefers ops = true) (hm : P.follows .mixedOrders = true) (hS : S w.drew)
    (h : S w.drew → wpAnyH P .any ops Q S ops.size (Array.replicate ops.size false) a w.drew) : (Code.region id ops true).wpIn (Fence.wide.inRound l) n P Q a w :=
  wpIn_region_draw fun t => by
    simp only [Region.schedule, hm, Bool.true_or, if_true]
    exact wpOpsIn_round hQ (noDefers_spec hd) _ _ _ (wpAny_sound ops.size t _ a _ (wpAny_of_held _ _ _ _ (h hS)))
/-! ### what holds between two steps of a round -/
structure MwF (L : Int) (v u vp v5 v6 : Value) (base g4 k5 k6 : Nat) (l5 l6 : List Value) (w W : World) : Prop where
  cell : Blk W g4 (wrC L v5 v6) 39
  own5 : W.ownsRow base 3 1 v5 k5 l5
  own6 : W.ownsRow base 3 1 v6 k6 l6
  ap : ApW v5 v6
  bx : Blk W base (wrC L v u) 39
  br : Blk W (base + 1) (wrC 0 (.slice none 0 0) (.slice none 0 0)) 39
  bk : Blk W (g4 + 1) #[vp] 22
  bel : Below base w W
  sz : g4 + 2 ≤ W.heap.size
  eqb : base = w.heap.size
/-- what a step leaves -/
def MwK (g4 base : Nat) (W W' : World) : Prop := KeepsFrom (g4 + 2) W W' ∧ ∀ b, (b < base ∨ b = g4 + 1) → W'.heap[b]? = W.heap[b]?
theorem MwK.trans {g4 base : Nat} {A B C : World} (h : MwK g4 base A B) (k : MwK g4 base B C) : MwK g4 base A C := ⟨h.1.trans k.1, fun b hb => (k.2 b hb).trans (h.2 b hb)⟩
theorem mwK_drew (g4 base n : Nat) (W : World) : MwK g4 base W (W.drewN n) := ⟨⟨Nat.le_refl _, fun _ _ _ h _ => h⟩, fun _ _ => rfl⟩
theorem MwF.drew {L : Int} {v u vp v5 v6 : Value} {base g4 k5 k6 : Nat} {l5 l6 : List Value} {w W : World} (h : MwF L v u vp v5 v6 base g4 k5 k6 l5 l6 w W) (n : Nat) : MwF L v u vp v5 v6 base g4 k5 k6 l5 l6 w (W.drewN n) :=
  have hb : Below W.heap.size W (W.drewN n) := below_drewN W n
  ⟨h.cell.below hb, owns_below h.own5 hb, owns_below h.own6 hb, h.ap, h.bx.below hb, h.br.below hb, h.bk.below hb, h.bel.trans (hb.mono (by have := h.eqb; have := h.bel.size; omega)), h.sz, h.eqb⟩
/-- what an append to one of the lists leaves -/
theorem mw_keep {base g4 n : Nat} {w W w9 : World} {vo V : Value} {l : List Value} {o : Obj} {j : Nat} {xs : List Value} {vp x : Value} (hg : base + 1 < g4) (hlow : base ≤ W.heap.size) (hS : g4 + 2 ≤ W.heap.size)
    (hO : W.ownsRow base 3 1 vo n l) (hbk : Blk W (g4 + 1) #[vp] 22) (hgrow : (W.alloc o).grownBy w9 vo.ownBlock) : MwK g4 base W (w9.setCell ⟨g4, j, none⟩ V) := by
  have hbn := below_new W o
  have hO' := owns_below hO hbn
  have hoth : ∀ b, b ≠ g4 → (w9.setCell ⟨g4, j, none⟩ V).heap[b]? = w9.heap[b]? := fun b hb => heap_setCell_other w9 ⟨g4, j, none⟩ b _ (fun e => hb e)
  have hX9 := bkept (hbk.below hbn) hgrow (fun e => row_type hO' (hbk.below hbn) (by decide) _ e rfl)
  refine ⟨⟨?_, fun k o' hk ho hn => ?_⟩, fun b hb => ?_⟩
  · have h1 := hbn.size
    have h2 := hgrow.size
    simp at h1 h2 ⊢
    omega
  · rw [hoth k (by omega)]
    have hkl := (Array.getElem?_eq_some_iff.1 ho).1
    obtain ⟨g1, g2, g3, g4, g5⟩ := hgrow
    refine (g5 k (by have := hbn.size; omega) (fun e => ?_)).trans ((hbn.block k hkl).trans ho)
    rcases hO.2 with ⟨hv, _⟩ | ⟨g, cap, cur, hv, _, hblk, _⟩
    · rw [hv] at e; cases e
    · rw [hv] at e
      cases e
      rw [hblk] at ho
      cases ho
      cases hn
  · rcases hb with hb | rfl
    · rw [hoth b (by omega)]
      obtain ⟨g1, g2, g3, g4, g5⟩ := hgrow
      exact (g5 b (by have := hbn.size; omega) (fun e => by have := (owns_block hO' b e.symm).1; omega)).trans (hbn.block b (by omega))
    · rw [hoth _ (by omega)]
      exact (show w9.heap[g4 + 1]? = _ from hX9).trans (show W.heap[g4 + 1]? = _ from hbk).symm
theorem mw_left {L : Int} {v u vp v5 v6 X : Value} {base g4 k5 k6 : Nat} {l5 l6 : List Value} {w W w9 : World} {g c : Nat} {o : Obj} (hg : base + 1 < g4) (h : MwF L v u vp v5 v6 base g4 k5 k6 l5 l6 w W)
    (hown : w9.ownsRow base 3 1 (.slice (some ⟨g, 0, none⟩) (k5 + 1) c) (k5 + 1) (l5 ++ [X])) (hgrow : (W.alloc o).grownBy w9 v5.ownBlock) (hat : v5.ownBlock = some g ∨ g = (W.alloc o).heap.size) :
    MwF L v u vp (.slice (some ⟨g, 0, none⟩) (k5 + 1) c) v6 base g4 (k5 + 1) k6 (l5 ++ [X]) l6 w (w9.setCell ⟨g4, 1, none⟩ (.slice (some ⟨g, 0, none⟩) (k5 + 1) c)) ∧ MwK g4 base W (w9.setCell ⟨g4, 1, none⟩ (.slice (some ⟨g, 0, none⟩) (k5 + 1) c)) := by
  have hbn := below_new W o
  have hO' := owns_below h.own5 hbn
  have hkp := fun {b : Nat} {cs : Array Value} {ty : TypeId} (hty : ty ≠ 3) (hb : Blk W b cs ty) => bkept (hb.below hbn) hgrow (fun e => row_type hO' (hb.below hbn) hty _ e rfl)
  have hlow := h.bel.size
  have hap := ap_left (n := k5 + 1) (c := c) h.ap hat (fun b e => by have := (owns_block h.own6 b e).2; have := hbn.size; omega)
  have h6 := rkept (owns_below h.own6 hbn) hgrow (fun b e e2 => h.ap b e2 e)
  have hC := hkp (by decide) h.cell
  have hB9 : Below base w w9 := (h.bel.trans (hbn.mono (by have := h.eqb; have := h.bel.size; omega))).trans (below_grown hgrow (fun b hb => (owns_block hO' b hb).1) (by have := h.eqb; have := hbn.size; have := h.bel.size; omega))
  refine ⟨⟨bset _ hC, roth hown _ (row_type hown hC (by decide)), roth h6 _ (row_type h6 hC (by decide)), hap, both _ (hkp (by decide) h.bx) (by omega), both _ (hkp (by decide) h.br) (by omega), both _ (hkp (by decide) h.bk) (by omega), below_set _ hB9 (by omega), ?_, h.eqb⟩, ?_⟩
  · have h1 := hbn.size
    have h2 := hgrow.size
    have := h.sz
    simp at h1 h2 ⊢
    omega
  · exact mw_keep (w := w) (xs := []) (x := X) hg (by have := h.eqb; have := h.bel.size; omega) h.sz h.own5 h.bk hgrow
theorem mw_right {L : Int} {v u vp v5 v6 X : Value} {base g4 k5 k6 : Nat} {l5 l6 : List Value} {w W w9 : World} {g c : Nat} {o : Obj} (hg : base + 1 < g4) (h : MwF L v u vp v5 v6 base g4 k5 k6 l5 l6 w W)
    (hown : w9.ownsRow base 3 1 (.slice (some ⟨g, 0, none⟩) (k6 + 1) c) (k6 + 1) (l6 ++ [X])) (hgrow : (W.alloc o).grownBy w9 v6.ownBlock) (hat : v6.ownBlock = some g ∨ g = (W.alloc o).heap.size) :
    MwF L v u vp v5 (.slice (some ⟨g, 0, none⟩) (k6 + 1) c) base g4 k5 (k6 + 1) l5 (l6 ++ [X]) w (w9.setCell ⟨g4, 2, none⟩ (.slice (some ⟨g, 0, none⟩) (k6 + 1) c)) ∧ MwK g4 base W (w9.setCell ⟨g4, 2, none⟩ (.slice (some ⟨g, 0, none⟩) (k6 + 1) c)) := by
  have hbn := below_new W o
  have hO' := owns_below h.own6 hbn
  have hkp := fun {b : Nat} {cs : Array Value} {ty : TypeId} (hty : ty ≠ 3) (hb : Blk W b cs ty) => bkept (hb.below hbn) hgrow (fun e => row_type hO' (hb.below hbn) hty _ e rfl)
  have hlow := h.bel.size
  have hap := ap_right (n := k6 + 1) (c := c) h.ap hat (fun b e => by have := (owns_block h.own5 b e).2; have := hbn.size; omega)
  have h5 := rkept (owns_below h.own5 hbn) hgrow (fun b e e2 => h.ap b e e2)
  have hC := hkp (by decide) h.cell
  have hB9 : Below base w w9 := (h.bel.trans (hbn.mono (by have := h.eqb; have := h.bel.size; omega))).trans (below_grown hgrow (fun b hb => (owns_block hO' b hb).1) (by have := h.eqb; have := hbn.size; have := h.bel.size; omega))
  refine ⟨⟨bset _ hC, roth h5 _ (row_type h5 hC (by decide)), roth hown _ (row_type hown hC (by decide)), hap, both _ (hkp (by decide) h.bx) (by omega), both _ (hkp (by decide) h.br) (by omega), both _ (hkp (by decide) h.bk) (by omega), below_set _ hB9 (by omega), ?_, h.eqb⟩, ?_⟩
  · have h1 := hbn.size
    have h2 := hgrow.size
    have := h.sz
    simp at h1 h2 ⊢
    omega
  · exact mw_keep (w := w) (xs := []) (x := X) hg (by have := h.eqb; have := h.bel.size; omega) h.sz h.own6 h.bk hgrow
theorem owns_some {w : World} {base n : Nat} {v x : Value} {xs : List Value} (h : w.ownsRow base 3 1 v n (xs ++ [x])) : ∃ g c, v = .slice (some ⟨g, 0, none⟩) n c := by
  rcases h.2 with ⟨hv, hx⟩ | ⟨g, cap, cur, hv, _⟩
  · have h1 := h.1
    subst hx
    simp at h1
  · exact ⟨g, cap, hv⟩
def MwI (L : Int) (v u : Value) (ps ds : List Int) (base g4 : Nat) (w : World) (pre : List Nat) (W : World) : Prop :=
  ∃ v5 v6, MwF L v u v v5 v6 base g4 pre.length pre.length ((pre.map (mrG L ps)).map iv) ((pre.map (mrH ds ps.length)).map iv) w W
theorem mwI_own {L : Int} {v u : Value} {ps ds : List Int} {base g4 m : Nat} {w : World} (hm : m = g4 + 2) (hg : base + 1 < g4) : OwnFrom m (MwI L v u ps ds base g4 w) := by
  intro s X Y row hs hgr hr
  obtain ⟨v5, v6, h⟩ := hs
  have hr2 := fun r e => (hr r e).2
  refine ⟨v5, v6, blk_ownB h.cell hgr hr2, row_ownB h.own5 hgr hr2, row_ownB h.own6 hgr hr2, h.ap, blk_ownB h.bx hgr hr2, blk_ownB h.br hgr hr2, blk_ownB h.bk hgr hr2, ?_, Nat.le_trans h.sz hgr.size, h.eqb⟩
  have h3 := h.bel
  have h4 := h.sz
  have h5 := h.eqb
  exact ⟨hgr.os.trans h3.os, hgr.tape.trans h3.tape, hgr.output.trans h3.output, Nat.le_trans h3.size hgr.size, fun k hk => (hgr.block k (low_ltB (h3.block k hk) (by omega)) (fun e => by have := (hr k e.symm).1; omega)).trans (h3.block k hk)⟩
def MwA (L : Int) (vx ux : Value) (ps : List Int) (base g4 : Nat) (t : Nat) (a : Act) (W : World) : Prop :=
  a = { tmps := #[.agg #[.int .i64 L, vx, ux], .pointer (some ⟨base, 0, none⟩), .pointer (some ⟨base + 1, 0, none⟩), .bool false, .pointer (some ⟨g4, 0, none⟩), .int .i64 ((ps.length - 1 - t : Nat) : Int), .int .i64 (ps[ps.length - 1 - t]?.getD 0), .agg #[.int .i64 L, vx, ux], .bool true, .bool false, undef, .pointer (some ⟨base, 0, none⟩), .int .i64 L, .agg #[.int .i64 L, .slice none 0 0, .slice none 0 0], .pointer (some ⟨base, 1, none⟩), vx, .func (.func 85) #[] #[.pointer (some ⟨g4 + 1, 0, none⟩)], .int .i64 ((ps.length - 1 - t : Nat) : Int), .int .i64 (ps[ps.length - 1 - t]?.getD 0), undef, undef, undef, undef, undef, undef, undef, undef, undef, undef, undef, undef, undef, undef, undef, undef, undef, undef, undef, undef, undef], defers := [] }
set_option maxHeartbeats 3200000 in
set_option maxRecDepth 20000 in
theorem mirrorWire_in (L : Int) (v u : Value) (ps ds : List Int) (w : World) (hv : ReadsI w v ps) (hu : ReadsI w u ds) :
    CallsIn Fence.wide 4 Try.prog 58 #[wrV L v u] w (OwnsWrB w.heap.size (mirrorWR L ps ds).1 (mirrorWR L ps ds).2.1 (mirrorWR L ps ds).2.2.1 (mirrorWR L ps ds).2.2.2 w) := by
  obtain ⟨i0, hi, hz0, hz1, hz2⟩ := info_parts infoInt
  have HW := Lib.hid (fun w hv hu => impl_IsWire L v u ps ds w hv hu)
  have hb0 : Below w.heap.size w ((w.alloc (.cells (wrC L v u) 39)).alloc (.cells (wrC 0 (.slice none 0 0) (.slice none 0 0)) 39)) := ((Below.refl _ w).alloc (Nat.le_refl _) _).alloc (by simp) _
  have HB := Lib.hid hb0
  have HBX := Lib.hid ((blk_new w (wrC L v u) 39).below (below_new _ (.cells (wrC 0 (.slice none 0 0) (.slice none 0 0)) 39)))
  have HBR := Lib.hid (blk_at (w.alloc (.cells (wrC L v u) 39)) (wrC 0 (.slice none 0 0) (.slice none 0 0)) 39 (w.heap.size + 1) (by simp))
  have HV := Lib.hid (hv.below HB.out)
  have HU := Lib.hid (hu.below HB.out)
  have HV0 := Lib.hid hv
  obtain ⟨y, c, rfl, hc, hm, hx⟩ := hv
  obtain ⟨z, e, rfl, he, hem, hy⟩ := hu
  have HD := Lib.hid hy
  unfold maxLen at hm hem
  clear hx hy hb0
  unfold wrV wrC at *
  have c0 := HBX.out.cell 0
  have c1 := HBX.out.cell 1
  have c2 := HBX.out.cell 2
  refine callsIn_of_wp_marks Try.func58 rfl trivial ?_ rfl
  simp only [Try.ntmps58, List.size_toArray, List.length_cons, List.length_nil, Nat.reduceAdd, Nat.reduceSub, Array.replicate_succ, Array.replicate_zero, List.push_toArray, List.append_toArray, List.nil_append, List.cons_append]
  gi_wp2_with fail
  refine ⟨trivial, ?_⟩
  gi_at_call 44
  refine (callsIn_wide.2 (HW.out _ HV.out HU.out)).mono ?_
  rintro e2 w1 ⟨rfl, hb⟩
  replace HBX := Lib.hid (HBX.out.below hb)
  replace HBR := Lib.hid (HBR.out.below hb)
  replace HB := Lib.hid (HB.out.trans (hb.mono HB.out.size))
  clear hb c0 c1 c2
  cases hl : wireB L ps ds
  · have HR := Lib.hid (show mirrorWR L ps ds = (0, [], [], false) from if_neg (by rw [hl]; simp))
    have d0 := HBR.out.cell 0
    have d1 := HBR.out.cell 1
    have d2 := HBR.out.cell 2
    have f0 := HBR.out.free 0
    have f1 := HBR.out.free 1
    have f2 := HBR.out.free 2
    clear hl
    gi_wp2_with fail
    have HRS := bset3 (.int .i64 0) (.slice none 0 0) (.slice none 0 0) HBR.out
    have s0 := HRS.cell 0
    have s1 := HRS.cell 1
    have s2 := HRS.cell 2
    refine ⟨.tuple #[wrV 0 (.slice none 0 0) (.slice none 0 0), .bool false], (by simp [results, Try.results58, go_sem, s0, s1, s2]), wr_R HR.out ⟨_, _, rfl, own_nilWr _ _ _, lset3 _ _ _ HB.out (by omega)⟩⟩
  · have HR := Lib.hid (show mirrorWR L ps ds = (L, mrP L ps ps.length, mrD ds ps.length ps.length, true) from if_pos hl)
    have HWO := Lib.hid (wire_ok hl)
    have hL1 := (wire_ok hl).l1
    have hL30 := (wire_ok hl).l30
    have h8 := (wire_ok hl).n8
    clear hl
    have hsz1 := HB.out.size
    have hlt1 := HBR.out.lt
    obtain ⟨g4, hg4⟩ : ∃ g4, w1.heap.size = g4 := ⟨_, rfl⟩
    have hb3 : Below w1.heap.size w1 ((w1.alloc (.cells #[.int .i64 L, .slice none 0 0, .slice none 0 0] 39)).alloc (.cells #[.slice y ps.length c] 22)) := ((Below.refl _ w1).alloc (Nat.le_refl _) _).alloc (by simp) _
    have c0 := HBX.out.cell 0
    have c1 := (HBX.out.below (below_new w1 (.cells #[.int .i64 L, .slice none 0 0, .slice none 0 0] 39))).cell 1
    have HF := Lib.hid (show MwF L (.slice y ps.length c) (.slice z ds.length e) (.slice y ps.length c) (.slice none 0 0) (.slice none 0 0) w.heap.size g4 0 0 [] [] w _ from
      ⟨by subst hg4; exact (blk_at w1 (wrC L (.slice none 0 0) (.slice none 0 0)) 39 w1.heap.size rfl).below (below_new _ (.cells #[.slice y ps.length c] 22)), own_nil _ _, own_nil _ _, (fun b e _ => by simp [Value.ownBlock] at e), HBX.out.below hb3, HBR.out.below hb3, by subst hg4; exact blk_at _ _ _ _ (by simp), HB.out.trans (hb3.mono HB.out.size), by subst hg4; simp, rfl⟩)
    have z3 : ((w1.alloc (.cells #[.int .i64 L, .slice none 0 0, .slice none 0 0] 39)).alloc (.cells #[.slice y ps.length c] 22)).heap.size = g4 + 2 := by subst hg4; simp
    have hg : w.heap.size + 1 < g4 := by omega
    gi_wp2_with fail
    refine ⟨trivial, ?_⟩
    gi_at_call 71
    refine (callsIn_wide.2 (backward_any _ y _ c _ rfl)).mono ?_
    rintro e2 w2 ⟨rfl, rfl⟩
    gi_wp2_with fail
    generalize hw3 : (w1.alloc (.cells #[.int .i64 L, .slice none 0 0, .slice none 0 0] 39)).alloc (.cells #[.slice y ps.length c] 22) = w3 at *
    clear hw3 hb3 c0 c1 HBX HBR hg4
    refine wpIn_rangeFunc_ownH rfl (by omega) (gf := 85) (lb := #[.pointer (some ⟨g4 + 1, 0, none⟩)]) rfl trivial (enters_of Try.func85 (by kernel_rfl) rfl)
      (iterB_stopsN w.heap.size (g4 + 1) (.slice y ps.length c) ps w w3 rfl (fun b hb => HF.out.bel.block b hb) (by have := HF.out.sz; omega) (by have := HF.out.sz; omega) HV0.out (by omega) (HF.out.bk.cell 0))
      (fun h k b hb => (k b hb).trans (h b hb))
      (fun W l o o' hl _ _ _ b hb => World.putObj_heap_other (by omega))
      (Below.refl _ _) (fun _ => rfl)
      (MwI L (.slice y ps.length c) (.slice z ds.length e) ps ds w.heap.size g4 w) (fun _ _ _ => False) (mwI_own z3 hg) (fun _ _ _ _ _ hs _ _ => hs) ⟨_, _, HF.out⟩
      (MwA L (.slice y ps.length c) (.slice z ds.length e) ps w.heap.size g4) (fun _ _ _ _ _ _ hs _ _ => hs) ?assign ?body ?done ?stop
    case assign =>
      intro l pre x W K hI hK
      unfold encN
      gi_wp2
      exact hK _ _ (KeepsFrom.refl _ _) (fun b _ => rfl) hI rfl
    case body =>
      rintro l pre t a' W hl _ hI rfl hlt
      obtain ⟨v5, v6, hF⟩ := hI
      obtain ⟨j, hj⟩ : ∃ j : Nat, ps.length - 1 - t = j := ⟨_, rfl⟩
      have hjl : j < ps.length := by omega
      obtain ⟨p, hpk⟩ := get_some (xs := ps) (k := j) hjl
      obtain ⟨d, hdk⟩ := get_some (xs := ds) (k := j) (by have := HWO.out.same; omega)
      obtain ⟨bd, od, e8, hbd, hcd⟩ := HD.out _ d hdk
      have hdw := HWO.out.way _ d hdk
      have hpw := HWO.out.place _ p hpk
      have HGP := Lib.hid (show mrG L ps t = L - p by unfold mrG; rw [hj, show ps.getD j 0 = p by simp [List.getD, hpk]])
      have HGD := Lib.hid (show mrH ds ps.length t = -d by unfold mrH; rw [hj, show ds.getD j 0 = d by simp [List.getD, hdk]])
      have hpe : ps[j]?.getD 0 = p := by rw [hpk]; rfl
      have HCD := Lib.hid hcd
      have hj0 : 0 ≤ (j : Int) := by omega
      have hj2 : (j : Int) < ds.length := by have := HWO.out.same; omega
      have hlp : IntKind.i64.wrap (L - p) = L - p := IntWalk.i64_in _ (by omega)
      have hnd : IntKind.i64.wrap (-d) = -d := IntWalk.i64_in _ (by omega)
      subst e8
      rw [hj, hpe]
      obtain ⟨a5, c5, f5, _⟩ := owns_shape hF.own5
      obtain ⟨a6, c6, f6, _⟩ := owns_shape hF.own6
      subst f5 f6
      have HF := Lib.hid hF
      have hq0 := hF.cell.cell 1
      have hq1 := hF.bx.cell 0
      have hown0 := hF.own5.alloc (.cells #[.int .i64 (L - p)] 3)
      have hsz : w.heap.size ≤ (W.alloc (.cells #[.int .i64 (L - p)] 3)).heap.size := by have := hF.bel.size; simp; omega
      have HBC := Lib.hid (hF.cell.below (below_new W (.cells #[.int .i64 (L - p)] 3)))
      have HLT := Lib.hid hlt
      clear hF hpk hdk hcd hj hpe
      gi_wp2_with (gi_at_builtin; refine appendIn_atB _ rfl _ _ 22 rfl w.heap.size 3 i0 (.int .i64 0) 1 8 Try.underlying22 hi hz0 hz1 hz2 rfl (by decide) _ _ _ rfl hown0 ⟨W.heap.size, 0, none⟩ 1 1 [.int .i64 (L - p)] rfl rfl (one_nw W W.heap.size rfl) (by simp [Value.oneCell']) (by unfold maxLen; omega) (by omega) hsz ?_; intro v' w9 hown hgrow hat; obtain ⟨g, c', rfl⟩ := owns_some hown; have hb9 := bkept HBC.out hgrow (fun e => row_type hown0 HBC.out (by decide) _ e rfl); have hcc := hb9.cell 1; have hff := hb9.free 1; have HOWN := Lib.hid hown; have HGROW := Lib.hid hgrow; have HAT := Lib.hid hat; clear hown hgrow hat hb9)
      clear hcc hff hq0 hq1 hown0 hsz
      have HR5 := Lib.hid (mw_left hg HF.out HOWN.out HGROW.out (HAT.out.imp (fun h => h.symm.trans rfl) (fun h => by cases h; rfl)))
      generalize hws : w9.setCell ⟨g4, 1, none⟩ (.slice (some ⟨g, 0, none⟩) (pre.length + 1) c') = ws at *
      have HFd := Lib.hid (HR5.out.1.drew 1)
      have HK5 := Lib.hid (HR5.out.2.trans (mwK_drew _ _ 1 _))
      have HBX := Lib.hid HFd.out.bx
      have HB4 := Lib.hid HFd.out.cell
      have HB := Lib.hid HFd.out.bel
      have HO6 := Lib.hid HFd.out.own6
      clear hws HR5 HF HOWN HGROW HAT HBC
      refine wpIn_region_round (S := fun w' => w'.cell? ⟨w.heap.size, 2, none⟩ = some (.slice (some ⟨bd, od, none⟩) ds.length e) ∧ w'.cell? ⟨bd, od + j, none⟩ = some (.int .i64 d)) (fun ⟨_, _, h⟩ => h) (by kernel_rfl) (by kernel_rfl) (⟨HBX.out.cell 2, (HB.out.cell (p := ⟨bd, od + j, none⟩) hbd).trans HCD.out⟩) (fun hHeld => ?_)
      refine wpAnyH_take (i := 0) (oi := _) (v := ?_) rfl (by kernel_rfl) (by kernel_rfl) (by kernel_rfl) (fun _ _ _ h => h) (Or.inl ⟨by rfl, ?_⟩) (by assumption) ?_
      rotate_left
      · (intro w hSw; (try dsimp only at hSw); (first | (go_simp; done) | (go_simp; with_reducible rfl)))
      simp only [Act.put, List.getElem_toArray, List.getElem_cons_succ, List.getElem_cons_zero, List.setIfInBounds_toArray, List.set_cons_zero, List.set_cons_succ]
      refine wpAnyH_take (i := 2) (oi := _) (v := ?_) rfl (by kernel_rfl) (by kernel_rfl) (by kernel_rfl) (fun _ _ _ h => h) (Or.inl ⟨by rfl, ?_⟩) (by assumption) ?_
      rotate_left
      · (intro w hSw; (try dsimp only at hSw); (first | (go_simp; done) | (go_simp; with_reducible rfl)))
      simp only [Act.put, List.getElem_toArray, List.getElem_cons_succ, List.getElem_cons_zero, List.setIfInBounds_toArray, List.set_cons_zero, List.set_cons_succ]
      refine wpAnyH_take (i := 3) (oi := _) (v := ?_) rfl (by kernel_rfl) (by kernel_rfl) (by kernel_rfl) (fun _ _ _ h => h) (Or.inl ⟨by rfl, ?_⟩) (by assumption) ?_
      rotate_left
      · (intro w hSw; (try dsimp only at hSw); (first | (go_simp; done) | (go_simp; with_reducible rfl)))
      simp only [Act.put, List.getElem_toArray, List.getElem_cons_succ, List.getElem_cons_zero, List.setIfInBounds_toArray, List.set_cons_zero, List.set_cons_succ]
      refine wpAnyH_take (i := 4) (oi := _) (v := ?_) rfl (by kernel_rfl) (by kernel_rfl) (by kernel_rfl) (fun _ _ _ h => h) (Or.inl ⟨by rfl, ?_⟩) (by assumption) ?_
      rotate_left
      · (intro w hSw; (try dsimp only at hSw); (first | (go_simp; done) | (go_simp; with_reducible rfl)))
      simp only [Act.put, List.getElem_toArray, List.getElem_cons_succ, List.getElem_cons_zero, List.setIfInBounds_toArray, List.set_cons_zero, List.set_cons_succ]
      refine wpAnyH_take (i := 5) (oi := _) (v := .pointer (some ⟨bd, od + j, none⟩)) rfl (by kernel_rfl) (by kernel_rfl) (by kernel_rfl) (fun _ _ _ h => h) (Or.inl ⟨by rfl, ?_⟩) (by assumption) ?_
      · (intro w hSw; (try dsimp only at hSw); go_simp; first | done | (simp [hj0, hj2]; done) | omega | (simp <;> omega) | trace_state)
      simp only [Act.put, List.getElem_toArray, List.getElem_cons_succ, List.getElem_cons_zero, List.setIfInBounds_toArray, List.set_cons_zero, List.set_cons_succ]
      refine wpAnyH_take (i := 6) (oi := _) (v := ?_) rfl (by kernel_rfl) (by kernel_rfl) (by kernel_rfl) (fun _ _ _ h => h) (Or.inl ⟨by rfl, ?_⟩) (by assumption) ?_
      rotate_left
      · (intro w hSw; (try dsimp only at hSw); (first | (go_simp; done) | (go_simp; with_reducible rfl)))
      simp only [Act.put, List.getElem_toArray, List.getElem_cons_succ, List.getElem_cons_zero, List.setIfInBounds_toArray, List.set_cons_zero, List.set_cons_succ]
      refine wpAnyH_take (i := 7) (oi := _) (v := .int .i64 (-d)) rfl (by kernel_rfl) (by kernel_rfl) (by kernel_rfl) (fun _ _ _ h => h) (Or.inl ⟨by rfl, ?_⟩) (by assumption) ?_
      · (intro w hSw; (try dsimp only at hSw); go_simp; first | done | (simp [hnd]; done) | omega | (simp <;> omega) | trace_state)
      simp only [Act.put, List.getElem_toArray, List.getElem_cons_succ, List.getElem_cons_zero, List.setIfInBounds_toArray, List.set_cons_zero, List.set_cons_succ]
      refine wpAnyH_ready (rs := [1, 8]) (by kernel_rfl) (by simp) ?_
      refine AllReadyH.cons rfl (fun K hK => ?_) (AllReadyH.cons rfl (fun K hK => ?_) AllReadyH.nil)
      · skip
        have q9 : World.cell? _ ⟨g4, 2, none⟩ = some (.slice a6 pre.length c6) := HB4.out.cell 2
        go_simp
        first | (have q8 : (ws.alloc (.cells #[.int .i64 (-d)] 3)).cell? ⟨g4, 2, none⟩ = some (.slice a6 pre.length c6) := q9; rw [q8]) | (have q8 : ws.cell? ⟨g4, 2, none⟩ = some (.slice a6 pre.length c6) := q9; rw [q8])
        go_simp
        clear q9
        clear hHeld
        refine hK.out _ _ (⟨HBX.out.cell 2, (HB.out.cell (p := ⟨bd, od + j, none⟩) hbd).trans HCD.out⟩) (fun hHeld => ?_)
        clear hK K
        refine wpAnyH_ready (rs := [8]) (by kernel_rfl) (by simp) ?_
        refine AllReadyH.cons rfl (fun K hK => ?_) AllReadyH.nil
        go_simp
        have HNW := Lib.hid (one_nw (x := .int .i64 (-d)) (t := 3) (ws.drewN 1) ws.heap.size rfl)
        have HBX := Lib.hid (HBX.out.below (below_new _ (.cells #[.int .i64 (-d)] 3)))
        have HB4 := Lib.hid (HB4.out.below (below_new _ (.cells #[.int .i64 (-d)] 3)))
        have HO6 := Lib.hid (owns_below HO6.out (below_new _ (.cells #[.int .i64 (-d)] 3)))
        have HB := Lib.hid (HB.out.trans ((below_new _ (.cells #[.int .i64 (-d)] 3)).mono HB.out.size))
        refine hK.out _ _ (⟨HBX.out.cell 2, (HB.out.cell (p := ⟨bd, od + j, none⟩) hbd).trans HCD.out⟩) (fun hHeld => ?_)
        clear hK K
        have HX := Lib.hid hHeld.1
        refine wpAnyH_ready (rs := [9]) (by kernel_rfl) (by simp) ?_
        refine AllReadyH.cons rfl (fun K hK => ?_) AllReadyH.nil
        refine step_append_lies _ (by rfl) _ _ _ (by rfl) (w.heap.size) 3 i0 (.int .i64 0) 1 8 Try.underlying22 hi hz0 hz1 hz2 rfl (by decide) _ _ _ (by rfl) HO6.out ⟨ws.heap.size, 0, none⟩ 1 1 [.int .i64 (-d)] (by rfl) (by rfl) HNW.out ?c2 (by decide) ?c3 ?c4 ?c5 (ws.heap.size + 1) (by simp) ?_
        case c2 => first | (intro u hu; simp at hu; subst hu; rfl) | rfl
        case c3 => unfold maxLen; omega
        case c4 => omega
        case c5 => exact HB.out.size
        intro g96 c96 w96 hown' hgrow hlies hlt9
        have HBX := Lib.hid (bkept HBX.out hgrow (fun e => row_type HO6.out HBX.out (by decide) _ e rfl))
        have HB4 := Lib.hid (bkept HB4.out hgrow (fun e => row_type HO6.out HB4.out (by decide) _ e rfl))
        have HB := Lib.hid (HB.out.trans (below_grown hgrow (fun b hb => (owns_block HO6.out b hb).1) HB.out.size))
        have HFIN := Lib.hid (mw_right hg HFd.out hown' hgrow (hlies.imp id (fun h => h.trans (by rw [World.size_alloc]; rfl))))
        clear hown' hgrow hlies hlt9 HNW
        clear hHeld
        refine hK.out _ _ (⟨HBX.out.cell 2, (HB.out.cell (p := ⟨bd, od + j, none⟩) hbd).trans HCD.out⟩) (fun hHeld => ?_)
        clear hK K
        refine wpAnyH_take (i := 10) (oi := _) (v := ?_) rfl (by kernel_rfl) (by kernel_rfl) (by kernel_rfl) (fun _ _ _ h => h) (Or.inl ⟨by rfl, ?_⟩) (by assumption) ?_
        rotate_left
        · (intro w hSw; (try dsimp only at hSw); (first | (go_simp; done) | (go_simp; with_reducible rfl)))
        simp only [Act.put, List.getElem_toArray, List.getElem_cons_succ, List.getElem_cons_zero, List.setIfInBounds_toArray, List.set_cons_zero, List.set_cons_succ]
        refine wpAnyH_ready (rs := [11]) (by kernel_rfl) (by simp) ?_
        refine AllReadyH.cons rfl (fun K hK => ?_) AllReadyH.nil
        have q0 := HB4.out.cell 2
        have q1 := HB4.out.free 2
        go_simp
        have HBX := Lib.hid (both (j := 2) (.slice (some ⟨g96, 0, none⟩) (pre.length + 1) c96) HBX.out (show w.heap.size ≠ g4 by omega))
        have HB := Lib.hid (below_set (b := g4) (j := 2) (.slice (some ⟨g96, 0, none⟩) (pre.length + 1) c96) HB.out (by omega))
        clear q0 q1
        clear hHeld
        refine hK.out _ _ (⟨HBX.out.cell 2, (HB.out.cell (p := ⟨bd, od + j, none⟩) hbd).trans HCD.out⟩) (fun hHeld => ?_)
        clear hK K
        refine wpAnyH_done (by kernel_rfl) ?_ _
        clear hHeld
        have hk := HK5.out.trans HFIN.out.2
        have hf := HFIN.out.1
        have e5 : ((pre ++ [t]).map (mrG L ps)).map iv = (pre.map (mrG L ps)).map iv ++ [.int .i64 (L - p)] := by rw [List.map_append, List.map_append, ← HGP.out]; rfl
        have e6 : ((pre ++ [t]).map (mrH ds ps.length)).map iv = (pre.map (mrH ds ps.length)).map iv ++ [.int .i64 (-d)] := by rw [List.map_append, List.map_append, ← HGD.out]; rfl
        refine ⟨by rw [z3]; exact hk.1, hk.2, ?_⟩
        unfold MwI
        rw [e5, e6, List.length_append]
        exact ⟨_, _, hf⟩
      · skip
        go_simp
        have HNW := Lib.hid (one_nw (x := .int .i64 (-d)) (t := 3) (ws.drewN 1) ws.heap.size rfl)
        have HBX := Lib.hid (HBX.out.below (below_new _ (.cells #[.int .i64 (-d)] 3)))
        have HB4 := Lib.hid (HB4.out.below (below_new _ (.cells #[.int .i64 (-d)] 3)))
        have HO6 := Lib.hid (owns_below HO6.out (below_new _ (.cells #[.int .i64 (-d)] 3)))
        have HB := Lib.hid (HB.out.trans ((below_new _ (.cells #[.int .i64 (-d)] 3)).mono HB.out.size))
        refine hK.out _ _ (⟨HBX.out.cell 2, (HB.out.cell (p := ⟨bd, od + j, none⟩) hbd).trans HCD.out⟩) (fun hHeld => ?_)
        clear hK K
        have HX := Lib.hid hHeld.1
        refine wpAnyH_ready (rs := [1]) (by kernel_rfl) (by simp) ?_
        refine AllReadyH.cons rfl (fun K hK => ?_) AllReadyH.nil
        have q9 : World.cell? _ ⟨g4, 2, none⟩ = some (.slice a6 pre.length c6) := HB4.out.cell 2
        go_simp
        first | (have q8 : (ws.alloc (.cells #[.int .i64 (-d)] 3)).cell? ⟨g4, 2, none⟩ = some (.slice a6 pre.length c6) := q9; rw [q8]) | (have q8 : ws.cell? ⟨g4, 2, none⟩ = some (.slice a6 pre.length c6) := q9; rw [q8])
        go_simp
        clear q9
        clear hHeld
        refine hK.out _ _ (⟨HBX.out.cell 2, (HB.out.cell (p := ⟨bd, od + j, none⟩) hbd).trans HCD.out⟩) (fun hHeld => ?_)
        clear hK K
        refine wpAnyH_ready (rs := [9]) (by kernel_rfl) (by simp) ?_
        refine AllReadyH.cons rfl (fun K hK => ?_) AllReadyH.nil
        refine step_append_lies _ (by rfl) _ _ _ (by rfl) (w.heap.size) 3 i0 (.int .i64 0) 1 8 Try.underlying22 hi hz0 hz1 hz2 rfl (by decide) _ _ _ (by rfl) HO6.out ⟨ws.heap.size, 0, none⟩ 1 1 [.int .i64 (-d)] (by rfl) (by rfl) HNW.out ?c2 (by decide) ?c3 ?c4 ?c5 (ws.heap.size + 1) (by simp) ?_
        case c2 => first | (intro u hu; simp at hu; subst hu; rfl) | rfl
        case c3 => unfold maxLen; omega
        case c4 => omega
        case c5 => exact HB.out.size
        intro g96 c96 w96 hown' hgrow hlies hlt9
        have HBX := Lib.hid (bkept HBX.out hgrow (fun e => row_type HO6.out HBX.out (by decide) _ e rfl))
        have HB4 := Lib.hid (bkept HB4.out hgrow (fun e => row_type HO6.out HB4.out (by decide) _ e rfl))
        have HB := Lib.hid (HB.out.trans (below_grown hgrow (fun b hb => (owns_block HO6.out b hb).1) HB.out.size))
        have HFIN := Lib.hid (mw_right hg HFd.out hown' hgrow (hlies.imp id (fun h => h.trans (by rw [World.size_alloc]; rfl))))
        clear hown' hgrow hlies hlt9 HNW
        clear hHeld
        refine hK.out _ _ (⟨HBX.out.cell 2, (HB.out.cell (p := ⟨bd, od + j, none⟩) hbd).trans HCD.out⟩) (fun hHeld => ?_)
        clear hK K
        refine wpAnyH_take (i := 10) (oi := _) (v := ?_) rfl (by kernel_rfl) (by kernel_rfl) (by kernel_rfl) (fun _ _ _ h => h) (Or.inl ⟨by rfl, ?_⟩) (by assumption) ?_
        rotate_left
        · (intro w hSw; (try dsimp only at hSw); (first | (go_simp; done) | (go_simp; with_reducible rfl)))
        simp only [Act.put, List.getElem_toArray, List.getElem_cons_succ, List.getElem_cons_zero, List.setIfInBounds_toArray, List.set_cons_zero, List.set_cons_succ]
        refine wpAnyH_ready (rs := [11]) (by kernel_rfl) (by simp) ?_
        refine AllReadyH.cons rfl (fun K hK => ?_) AllReadyH.nil
        have q0 := HB4.out.cell 2
        have q1 := HB4.out.free 2
        go_simp
        have HBX := Lib.hid (both (j := 2) (.slice (some ⟨g96, 0, none⟩) (pre.length + 1) c96) HBX.out (show w.heap.size ≠ g4 by omega))
        have HB := Lib.hid (below_set (b := g4) (j := 2) (.slice (some ⟨g96, 0, none⟩) (pre.length + 1) c96) HB.out (by omega))
        clear q0 q1
        clear hHeld
        refine hK.out _ _ (⟨HBX.out.cell 2, (HB.out.cell (p := ⟨bd, od + j, none⟩) hbd).trans HCD.out⟩) (fun hHeld => ?_)
        clear hK K
        refine wpAnyH_done (by kernel_rfl) ?_ _
        clear hHeld
        have hk := HK5.out.trans HFIN.out.2
        have hf := HFIN.out.1
        have e5 : ((pre ++ [t]).map (mrG L ps)).map iv = (pre.map (mrG L ps)).map iv ++ [.int .i64 (L - p)] := by rw [List.map_append, List.map_append, ← HGP.out]; rfl
        have e6 : ((pre ++ [t]).map (mrH ds ps.length)).map iv = (pre.map (mrH ds ps.length)).map iv ++ [.int .i64 (-d)] := by rw [List.map_append, List.map_append, ← HGD.out]; rfl
        refine ⟨by rw [z3]; exact hk.1, hk.2, ?_⟩
        unfold MwI
        rw [e5, e6, List.length_append]
        exact ⟨_, _, hf⟩
    case done =>
      rintro D ys W hD rfl hI hK
      obtain ⟨v5, v6, hF⟩ := hI
      rw [List.length_range] at hF
      obtain ⟨a5, c5, f5, _⟩ := owns_shape hF.own5
      obtain ⟨a6, c6, f6, _⟩ := owns_shape hF.own6
      subst f5 f6
      have d0 := hF.br.cell 0
      have d1 := hF.br.cell 1
      have d2 := hF.br.cell 2
      have f0 := hF.br.free 0
      have f1 := hF.br.free 1
      have f2 := hF.br.free 2
      have q0 := hF.cell.cell 0
      have q1 := hF.cell.cell 1
      have q2 := hF.cell.cell 2
      have HF := Lib.hid hF
      clear hF
      gi_wp2_with fail
      have HRS := bset3 (.int .i64 L) (.slice a5 ps.length c5) (.slice a6 ps.length c6) HF.out.br
      obtain ⟨Ws, hWs⟩ : ∃ Ws, Ws = (((W.setCell ⟨w.heap.size + 1, 0, none⟩ (.int .i64 L)).setCell ⟨w.heap.size + 1, 1, none⟩ (.slice a5 ps.length c5)).setCell ⟨w.heap.size + 1, 2, none⟩ (.slice a6 ps.length c6)) := ⟨_, rfl⟩
      have hK9 : Ws.heap[D]? = some (.deferred (some [])) := by
        rw [hWs, heap_setCell_other _ _ D _ (fun e => by simp at e; omega), heap_setCell_other _ _ D _ (fun e => by simp at e; omega), heap_setCell_other _ _ D _ (fun e => by simp at e; omega)]
        exact hK
      have h5 : Ws.ownsRow w.heap.size 3 1 (.slice a5 ps.length c5) ps.length ((mrP L ps ps.length).map iv) := by
        rw [hWs]
        exact roth3 HF.out.own5 _ _ _ (row_type HF.out.own5 HF.out.br (by decide))
      have h6 : Ws.ownsRow w.heap.size 3 1 (.slice a6 ps.length c6) ps.length ((mrD ds ps.length ps.length).map iv) := by
        rw [hWs]
        exact roth3 HF.out.own6 _ _ _ (row_type HF.out.own6 HF.out.br (by decide))
      have hbs : Below w.heap.size w Ws := by
        rw [hWs]
        exact lset3 _ _ _ HF.out.bel (by omega)
      rw [← hWs] at HRS ⊢
      clear hWs
      have hr : ∀ r, (some D : Option Nat) = some r → ∃ o : Obj, Ws.heap[r]? = some o ∧ o.isCells = false := by
        rintro r e
        cases e
        exact ⟨_, hK9, rfl⟩
      have HRD := blk_ownB HRS (grownBy_putObj' Ws D (.deferred none)) hr
      have s0 := HRD.cell 0
      have s1 := HRD.cell 1
      have s2 := HRD.cell 2
      have o5 := row_ownB h5 (grownBy_putObj' Ws D (.deferred none)) hr
      have o6 := row_ownB h6 (grownBy_putObj' Ws D (.deferred none)) hr
      refine ⟨by simp, .inl ⟨_, _, rfl, run_takeDeferred hK9, ?_⟩⟩
      refine ⟨.tuple #[wrV L (.slice a5 ps.length c5) (.slice a6 ps.length c6), .bool true], (by simp [results, Try.results58, go_sem, s0, s1, s2]), wr_R HR.out ⟨_, _, rfl, ⟨?_, ?_, HF.out.ap, fun b e => (owns_block o5 b e).2, fun b e => (owns_block o6 b e).2⟩, ?_⟩⟩
      · rw [mrP_len]
        exact o5
      · rw [mrD_len]
        exact o6
      · exact hbs.trans ⟨rfl, rfl, rfl, by simp, fun k hk => World.putObj_heap_other (by have := HF.out.sz; omega)⟩
    case stop =>
      rintro D c pre W _ _ h _
      exact h.elim
theorem impl_MirrorWire (L : Int) (v u : Value) (ps ds : List Int) (w : World) (hv : ReadsI w v ps) (hu : ReadsI w u ds) :
    Calls Try.prog 58 #[wrV L v u] w (OwnsWrB w.heap.size (mirrorWR L ps ds).1 (mirrorWR L ps ds).2.1 (mirrorWR L ps ds).2.2.1 (mirrorWR L ps ds).2.2.2 w) :=
  callsIn_wide.1 (mirrorWire_in L v u ps ds w hv hu)

end Go.Proofs.Ythbmiigndhoopaa
