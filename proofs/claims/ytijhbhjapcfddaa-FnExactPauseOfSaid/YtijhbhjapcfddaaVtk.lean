/-
  What is proved: the contract of impl.postTimes: the times of the period, kept by posts. Conditions: tables of 1 to 6 rows of one length of 1 to 60 numbers that are -1 or places.
-/
import Derived.Test.YtijhbhjapcfddaaVtj
import Derived.Shelf.Abstract
import Derived.Maps.AppendAt
namespace Go.Proofs.Ytijhbhjapcfddaa
open Go.RowKit Go.ChangeMaps Go.MapKept
set_option linter.unusedVariables false
set_option linter.unusedSimpArgs false
attribute [local go_sem] Oper.semAt_some

/-- the times that have come, kept by posts -/
def grpL (K : Nat → List Int) (pre : List Nat) : List (List Int × List Int) := pre.foldl (fun G t => gputV G (K t) (t : Int)) []
theorem grpL_snoc (K : Nat → List Int) (pre : List Nat) (t : Nat) : grpL K (pre ++ [t]) = gputV (grpL K pre) (K t) (t : Int) := by
  unfold grpL
  rw [List.foldl_append]
  rfl
theorem grpL_range (K : Nat → List Int) : ∀ L, grpL K (List.range L) = grpV K L
  | 0 => rfl
  | L + 1 => by
    rw [List.range_succ, grpL_snoc, grpL_range K L]
    rfl
/-- no row is longer than the times that have come -/
theorem gput_len {k : List Int} {x : Int} {m : Nat} : ∀ {G : List (List Int × List Int)}, (∀ e ∈ G, e.2.length ≤ m) → ∀ e ∈ gputV G k x, e.2.length ≤ m + 1
  | [], _, e, he => by
    simp [gputV] at he
    subst he
    simp
  | a :: r, h, e, he => by
    unfold gputV at he
    split at he
    · rcases List.mem_cons.1 he with rfl | he
      · have := h a (List.mem_cons_self ..)
        simp
        omega
      · have := h e (List.mem_cons_of_mem _ he)
        omega
    · rcases List.mem_cons.1 he with rfl | he
      · have := h e (List.mem_cons_self ..)
        omega
      · exact gput_len (fun q hq => h q (List.mem_cons_of_mem _ hq)) e he
theorem grpL_len (K : Nat → List Int) : ∀ (n : Nat) (pre : List Nat), pre.length = n → ∀ e ∈ grpL K pre, e.2.length ≤ n
  | 0, pre, hn, e, he => by
    have : pre = [] := List.eq_nil_of_length_eq_zero hn
    subst this
    simp [grpL] at he
  | n + 1, pre, hn, e, he => by
    obtain ⟨q, t, rfl⟩ : ∃ q t, pre = q ++ [t] := by
      rcases List.eq_nil_or_concat pre with h | ⟨q, t, h⟩
      · rw [h] at hn; simp at hn
      · exact ⟨q, t, by rw [h, List.concat_eq_append]⟩
    rw [grpL_snoc] at he
    exact gput_len (grpL_len K n q (by simpa using hn)) e he
/-- what holds between two rounds: the map holds what has come, the variable holds the map, all old blocks are as they were -/
def TmI (v : Value) (base : Nat) (K : Nat → List Int) (w : World) (pre : List Nat) (W : World) : Prop :=
  (∃ es clock, MapV base base (grpL K pre) es clock W) ∧ Blk W (base + 1) #[.map (some base)] 100 ∧ Blk W (base + 2) #[v] 47 ∧ Below base w W ∧ base + 3 ≤ W.heap.size
theorem TmI.below {v : Value} {base : Nat} {K : Nat → List Int} {w W W' : World} {pre : List Nat} (h : TmI v base K w pre W) (hb : Below W.heap.size W W') (hs : base ≤ W.heap.size) : TmI v base K w pre W' := by
  obtain ⟨⟨es, clock, hm⟩, hc, hx, hw, h3⟩ := h
  exact ⟨⟨es, clock, hm.below hb⟩, hc.below hb, hx.below hb, hw.trans (hb.mono hs), Nat.le_trans h3 hb.size⟩
/-- the boxed post of a round -/
def TmA (v : Value) (base : Nat) (xss : List (List Int)) (t : Nat) (a : Act) (W : World) : Prop :=
  ∃ A, base + 3 ≤ A ∧ a = { tmps := #[v, undef, .map none, .pointer (some ⟨base + 1, 0, none⟩), .int .i64 (t : Nat), .pointer (some ⟨A, 0, none⟩), .map (some base), v, .func (.func 149) #[] #[.pointer (some ⟨base + 2, 0, none⟩)], .int .i64 (t : Nat), post6 xss t, undef, undef, undef, undef, undef, undef, undef, undef, undef], defers := [] } ∧
    Blk W A #[iv (pstF xss t 0), iv (pstF xss t 1), iv (pstF xss t 2), iv (pstF xss t 3), iv (pstF xss t 4), iv (pstF xss t 5)] 119
theorem MapV.own {base B : Nat} {G : List (List Int × List Int)} {es : Array MapEntry} {clock : Nat} {X Y : World} {row : Option Nat} (h : MapV base B G es clock X) (hg : X.grownBy Y row) (hr : ∀ r, row = some r → r ≠ B ∧ ∃ o : Obj, X.heap[r]? = some o ∧ o.isCells = false) : MapV base B G es clock Y :=
  ⟨(hg.block B (Array.getElem?_eq_some_iff.1 h.at_).1 (fun e => (hr B e.symm).1 rfl)).trans h.at_, h.low, h.stamp, h.len, h.key, fun j e x he hx => row_keep (h.row j e x he hx) (fun b cs hb hc => hg.block b (Array.getElem?_eq_some_iff.1 hc).1 (fun e => by
    obtain ⟨o, ho, hn⟩ := (hr b e.symm).2
    rw [hc] at ho
    cases ho
    cases hn)), h.apart, h.six⟩
theorem blk_own {X Y : World} {b : Nat} {cs : Array Value} {t : TypeId} {row : Option Nat} (h : Blk X b cs t) (hg : X.grownBy Y row) (hr : ∀ r, row = some r → ∃ o : Obj, X.heap[r]? = some o ∧ o.isCells = false) : Blk Y b cs t := by
  have h0 : X.heap[b]? = some (.cells cs t (0, 0)) := h
  refine (hg.block b (Array.getElem?_eq_some_iff.1 h0).1 (fun e => ?_)).trans h
  obtain ⟨o, ho, hn⟩ := hr b e.symm
  rw [h0] at ho
  cases ho
  cases hn
theorem tmI_own {v : Value} {base m : Nat} {K : Nat → List Int} {w : World} (hm : m = base + 3) (hw : base = w.heap.size) : OwnFrom m (TmI v base K w) := by
  intro s X Y row hs hg hr
  obtain ⟨⟨es, clock, h1⟩, h2, hx, h3, h4⟩ := hs
  refine ⟨⟨es, clock, h1.own hg (fun r e => ⟨by have := (hr r e).1; omega, (hr r e).2⟩)⟩, blk_own h2 hg (fun r e => (hr r e).2), blk_own hx hg (fun r e => (hr r e).2), ?_, Nat.le_trans h4 hg.size⟩
  exact ⟨hg.os.trans h3.os, hg.tape.trans h3.tape, hg.output.trans h3.output, Nat.le_trans h3.size hg.size, fun k hk => (hg.block k (low_lt (h3.block k hk) (by omega)) (fun e => by have := (hr k e.symm).1; omega)).trans (h3.block k hk)⟩
theorem tmA_own {v : Value} {base m : Nat} {xss : List (List Int)} {t : Nat} {a : Act} : OwnFrom m (fun (_ : Unit) W => TmA v base xss t a W) := by
  intro s X Y row hs hg hr
  obtain ⟨A, hA, ha, hb⟩ := hs
  exact ⟨A, hA, ha, blk_own hb hg (fun r e => (hr r e).2)⟩
theorem appendIn_at {F : Fence} {n : Nat} {P : Program} (w : World) {ops : Array Oper} {rest : List Oper} {o : Oper} {a : Act} {Q : Exit → Act → World → Prop}
    (hg : o.guard = none) (s x : Operand) (t : TypeId) (hop : o.op = Op.call { callee := Callee.builtin Builtin.append, args := #[s, x], argTypes := #[t, t] })
    (base : Nat) (e : TypeId) (i : TypeInfo) (z : Value) (size bytes : Nat) (h1 : P.underlying t = some (.slice e)) (h2 : P.info? e = some i) (h3 : i.zero = some z) (h4 : i.size = size) (h5 : i.bytes = bytes) (h6 : z.cells.size = size) (h7 : 0 < size)
    (v : Value) (k : Nat) (xs : List Value) (hs : a.eval s = v) (hown : w.ownsRow base e size v k xs) (ad : Addr) (m c : Nat) (news : List Value) (hx : a.eval x = .slice (some ad) m c) (hn : news.length = m * size)
    (hc : ∀ j u, news[j]? = some u → w.cell? (ad.add j) = some u) (h1c : ∀ u ∈ news, u.oneCell' = true) (b1 : k + m ≤ maxLen) (b2 : (k + m) * bytes ≤ 140737488355328) (b3 : base ≤ w.heap.size)
    (hK : ∀ v' w', w'.ownsRow base e size v' (k + m) (xs ++ news) → w.grownBy w' v.ownBlock → (v'.ownBlock = v.ownBlock ∨ v'.ownBlock = some w.heap.size) → wpListIn F n P ops Q rest (a.put o.dst v') w') :
    wpListIn F n P ops Q (o :: rest) a w := by
  refine wpListIn_plain hg fun K hK' => ?_
  obtain ⟨v', w', hrun, r1, r2, _, r4⟩ := run_append_own_at (P := P) w base t o.type e i z size bytes h1 h2 h3 h4 h5 h6 h7 v k xs hown ad m c news hn hc h1c b1 b2 b3
  unfold Oper.wpIn
  refine ⟨by simp [Oper.about, hop, resolve, Target.leads, Sem.run_pure], ?_⟩
  rw [Oper.semAt_plain F _ _ (by rw [hop]; intro c hc'; cases hc')]
  simp [execOp, hop, resolve, invoke, builtin, hs, hx, hrun, Result.andThen]
  exact hK' _ _ (hK v' w' r1 r2 r4)
theorem cell_one_at {w : World} {b : Nat} {x : Value} (h : w.cell? ⟨b, 0, none⟩ = some x) : ∀ j u, [x][j]? = some u → w.cell? ((⟨b, 0, none⟩ : Addr).add j) = some u := by
  intro j u hj
  match j, hj with
  | 0, hj =>
    simp at hj
    subst hj
    exact h
theorem size_setBlock (w : World) (b : Nat) (o : Obj) : (setBlock w b o).heap.size = w.heap.size := by simp [setBlock]
/-- what a round leaves -/
theorem tm_fin {v v0 : Value} {base t : Nat} {K : Nat → List Int} {w W W4 : World} {pre : List Nat} (h : TmI v base K w pre W) (hw : base = w.heap.size) (hv0 : ∀ b, v0.ownBlock = some b → base ≤ b ∧ ∃ cs, W.heap[b]? = some (.cells cs 3 (0, 0)))
    (hkeep : ∀ b, b < W.heap.size → b ≠ base → v0.ownBlock ≠ some b → W4.heap[b]? = W.heap[b]?) (hos : W4.os = W.os) (htape : W4.tape = W.tape) (hout : W4.output = W.output) (hsz : W.heap.size ≤ W4.heap.size)
    (hM : ∃ es clock, MapV base base (grpL K (pre ++ [t])) es clock W4) :
    KeepsFrom (base + 3) W W4 ∧ (∀ b, (b < base ∨ b = base + 2) → W4.heap[b]? = W.heap[b]?) ∧ TmI v base K w (pre ++ [t]) W4 := by
  obtain ⟨_, h2, h3, h4, h5⟩ := h
  have hne : ∀ b cs ty, W.heap[b]? = some (.cells cs ty (0, 0)) → ty ≠ 3 → v0.ownBlock ≠ some b := by
    intro b cs ty hb hty h0
    obtain ⟨_, cs2, hc⟩ := hv0 b h0
    rw [hb] at hc
    cases hc
    exact hty rfl
  have hlow : ∀ b, b < base → v0.ownBlock ≠ some b := fun b hb h0 => by have := (hv0 b h0).1; omega
  have k1 : W4.heap[base + 1]? = W.heap[base + 1]? := hkeep _ (by omega) (by omega) (hne _ _ _ h2 (by decide))
  have k2 : W4.heap[base + 2]? = W.heap[base + 2]? := hkeep _ (by omega) (by omega) (hne _ _ _ h3 (by decide))
  refine ⟨⟨hsz, fun k o hk ho hn => ?_⟩, fun b hb => ?_, hM, k1.trans h2, k2.trans h3, ?_, Nat.le_trans h5 hsz⟩
  · refine (hkeep k (Array.getElem?_eq_some_iff.1 ho).1 (by omega) (fun h0 => ?_)).trans ho
    obtain ⟨_, cs, hc⟩ := hv0 k h0
    rw [ho] at hc
    cases hc
    cases hn
  · rcases hb with hb | rfl
    · exact hkeep b (by omega) (by omega) (hlow b hb)
    · exact k2
  · exact ⟨hos.trans h4.os, htape.trans h4.tape, hout.trans h4.output, Nat.le_trans h4.size hsz, fun k hk => (hkeep k (by have := h4.size; omega) (by omega) (hlow k hk)).trans (h4.block k hk)⟩
theorem push_modify {es : Array MapEntry} {a : MapEntry} {v : Value} : (es.push a).modify es.size (fun e => { e with val := v }) = es.push { a with val := v } := by
  apply Array.ext'
  rw [Array.toList_modify, Array.toList_push, Array.toList_push]
  have h := WideElems.modify_last (fun e : MapEntry => { e with val := v }) a es.toList
  rw [Array.length_toList] at h
  exact h
/-- one more time at its post: what the entry's two operations and the append between them leave -/
theorem step_post {v : Value} {base t : Nat} {K : Nat → List Int} {w W : World} {pre : List Nat} (h : TmI v base K w pre W) (hw : base = w.heap.size) (hk6 : ∃ l, keyOf Try.prog 119 (keyV (K t)) = some l) :
    ∃ (v0 : Value) (st : Nat) (w2 : World) (zs : List Int), (Instr.mapEntry 100 (.map (some base)) (keyV (K t))).run Try.prog (W.alloc (.cells #[.int .i64 (t : Nat)] 3)) = .ok (.tuple #[v0, .int .i64 (st : Nat)]) w2 ∧
      w2.ownsRow base 3 1 v0 zs.length (zs.map iv) ∧ zs.length ≤ pre.length ∧ w2.cell? ⟨W.heap.size, 0, none⟩ = some (.int .i64 (t : Nat)) ∧ w2.heap.size = W.heap.size + 1 ∧
      ∀ v' w9, w9.ownsRow base 3 1 v' (zs.length + 1) (zs.map iv ++ [.int .i64 (t : Nat)]) → w2.grownBy w9 v0.ownBlock → (v'.ownBlock = v0.ownBlock ∨ v'.ownBlock = some w2.heap.size) →
        ∃ W4, (Instr.entryStore 100 (.map (some base)) (.int .i64 (st : Nat)) v').run Try.prog w9 = .ok () W4 ∧ KeepsFrom (base + 3) W W4 ∧ (∀ b, (b < base ∨ b = base + 2) → W4.heap[b]? = W.heap[b]?) ∧ TmI v base K w (pre ++ [t]) W4 := by
  obtain ⟨es, clock, hM⟩ := h.1
  have hbl := (Array.getElem?_eq_some_iff.1 hM.at_).1
  have hB1 := below_new W (.cells #[.int .i64 (t : Nat)] 3)
  have hM1 := hM.below hB1
  have hc1 : (W.alloc (.cells #[.int .i64 (t : Nat)] 3)).cell? ⟨W.heap.size, 0, none⟩ = some (.int .i64 (t : Nat)) := by rw [cell_new]; rfl
  have hs1 : (W.alloc (.cells #[.int .i64 (t : Nat)] 3)).heap.size = W.heap.size + 1 := by simp
  have ho1 : (W.alloc (.cells #[.int .i64 (t : Nat)] 3)).os = W.os ∧ (W.alloc (.cells #[.int .i64 (t : Nat)] 3)).tape = W.tape ∧ (W.alloc (.cells #[.int .i64 (t : Nat)] 3)).output = W.output := ⟨rfl, rfl, rfl⟩
  generalize W.alloc (.cells #[.int .i64 (t : Nat)] 3) = w1 at *
  have hne1 : W.heap.size ≠ base := by omega
  rcases post_entry (key := keyV (K t)) hM1.at_ hM1.keys hk6 with ⟨hnew, hrun⟩ | ⟨j, e0, hj, hk0, hrun⟩
  · have hat2 : (setBlock w1 base (.map (es.push ⟨keyV (K t), .slice none 0 0, clock⟩) (clock + 1))).heap[base]? = some (.map (es.push ⟨keyV (K t), .slice none 0 0, clock⟩) (clock + 1)) := heap_setBlock_same hM1.at_ _
    have hot2 : ∀ i, i ≠ base → (setBlock w1 base (.map (es.push ⟨keyV (K t), .slice none 0 0, clock⟩) (clock + 1))).heap[i]? = w1.heap[i]? := fun i hi => heap_setBlock_other hM1.at_ _ hi
    have hs2 := size_setBlock w1 base (.map (es.push ⟨keyV (K t), .slice none 0 0, clock⟩) (clock + 1))
    have ho2 : (setBlock w1 base (.map (es.push ⟨keyV (K t), .slice none 0 0, clock⟩) (clock + 1))).os = w1.os ∧ (setBlock w1 base (.map (es.push ⟨keyV (K t), .slice none 0 0, clock⟩) (clock + 1))).tape = w1.tape ∧ (setBlock w1 base (.map (es.push ⟨keyV (K t), .slice none 0 0, clock⟩) (clock + 1))).output = w1.output := ⟨rfl, rfl, rfl⟩
    refine ⟨.slice none 0 0, clock, _, [], hrun, World.ownsRow_nil _ _ _ _, Nat.zero_le _, (World.cell?_of_block (a := ⟨W.heap.size, 0, none⟩) (hot2 _ hne1)).trans hc1, by omega, fun v' w9 hown hg hat => ?_⟩
    generalize setBlock w1 base (.map (es.push ⟨keyV (K t), .slice none 0 0, clock⟩) (clock + 1)) = w2 at *
    have h9 : w9.heap[base]? = some (.map (es.push ⟨keyV (K t), .slice none 0 0, clock⟩) (clock + 1)) := (hg.block base (by omega) (fun e => by cases e)).trans hat2
    have hst := entry_store (t := 100) (val := v') (j := es.size) (e0 := ⟨keyV (K t), .slice none 0 0, clock⟩) h9 (stamped_push hM.stamp hnew).2.1 (by simp)
    rw [push_modify] at hst
    replace hst : (Instr.entryStore 100 (.map (some base)) (goInt clock) v').run Try.prog w9 = .ok () (setBlock w9 base (.map (es.push ⟨keyV (K t), v', clock⟩) (clock + 1))) := hst
    have hat4 := heap_setBlock_same h9 (.map (es.push ⟨keyV (K t), v', clock⟩) (clock + 1))
    have hot4 : ∀ i, i ≠ base → (setBlock w9 base (.map (es.push ⟨keyV (K t), v', clock⟩) (clock + 1))).heap[i]? = w9.heap[i]? := fun i hi => heap_setBlock_other h9 _ hi
    have hs4 := size_setBlock w9 base (.map (es.push ⟨keyV (K t), v', clock⟩) (clock + 1))
    have ho4 : (setBlock w9 base (.map (es.push ⟨keyV (K t), v', clock⟩) (clock + 1))).os = w9.os ∧ (setBlock w9 base (.map (es.push ⟨keyV (K t), v', clock⟩) (clock + 1))).tape = w9.tape ∧ (setBlock w9 base (.map (es.push ⟨keyV (K t), v', clock⟩) (clock + 1))).output = w9.output := ⟨rfl, rfl, rfl⟩
    refine ⟨_, hst, ?_⟩
    have hkeep : ∀ b, b < W.heap.size → b ≠ base → (setBlock w9 base (.map (es.push ⟨keyV (K t), v', clock⟩) (clock + 1))).heap[b]? = W.heap[b]? := fun b hb hne => (hot4 b hne).trans ((hg.block b (by omega) (fun e => by cases e)).trans ((hot2 b hne).trans (hB1.block b hb)))
    refine tm_fin (v0 := .slice none 0 0) h hw (fun b hb => by cases hb) (fun b hb hne _ => hkeep b hb hne) (ho4.1.trans (hg.os.trans (ho2.1.trans ho1.1))) (ho4.2.1.trans (hg.tape.trans (ho2.2.1.trans ho1.2.1))) (ho4.2.2.trans (hg.output.trans (ho2.2.2.trans ho1.2.2))) (by have := hg.size; omega) ⟨es.push ⟨keyV (K t), v', clock⟩, clock + 1, ?_⟩
    rw [grpL_snoc]
    refine mapV_new hM hnew hk6 hat4 (fun b cs hb => hkeep b (Array.getElem?_eq_some_iff.1 hb).1 (fun e => by rw [e, hM.at_] at hb; cases hb)) (row_keep hown (fun b cs _ hc => hot4 b (fun e => by rw [e, h9] at hc; cases hc))) (fun b hb => ?_)
    rcases hat with hat | hat
    · rw [hat] at hb; cases hb
    · rw [hat] at hb; cases hb; omega
  · obtain ⟨x, hx⟩ : ∃ x, (grpL K pre)[j]? = some x := get_some (by rw [← hM.len]; exact (Array.getElem?_eq_some_iff.1 hj).1)
    have hkx := hM.key j e0 x hj hx
    have hx1 : x.1 = K t := keyV_inj (hkx.symm.trans hk0)
    have hxe : (grpL K pre)[j]? = some (K t, x.2) := by rw [hx, ← hx1]
    have hrow := hM1.row j e0 x hj hx
    have hlen := grpL_len K pre.length pre rfl x (List.mem_of_getElem? hx)
    have hv0 : ∀ b, e0.val.ownBlock = some b → base ≤ b ∧ ∃ cs, W.heap[b]? = some (.cells cs 3 (0, 0)) := fun b hb => by
      obtain ⟨q1, _, q2⟩ := row_block (hM.row j e0 x hj hx) b hb
      exact ⟨q1, q2⟩
    have hat2 : (setBlock w1 base (.map es clock)).heap[base]? = some (.map es clock) := heap_setBlock_same hM1.at_ _
    have hot2 : ∀ i, i ≠ base → (setBlock w1 base (.map es clock)).heap[i]? = w1.heap[i]? := fun i hi => heap_setBlock_other hM1.at_ _ hi
    have hs2 := size_setBlock w1 base (.map es clock)
    have ho2 : (setBlock w1 base (.map es clock)).os = w1.os ∧ (setBlock w1 base (.map es clock)).tape = w1.tape ∧ (setBlock w1 base (.map es clock)).output = w1.output := ⟨rfl, rfl, rfl⟩
    refine ⟨e0.val, e0.born, _, x.2, hrun, row_keep hrow (fun b cs _ hc => hot2 b (fun e => by rw [e, hM1.at_] at hc; cases hc)), hlen, (World.cell?_of_block (a := ⟨W.heap.size, 0, none⟩) (hot2 _ hne1)).trans hc1, by omega, fun v' w9 hown hg hat => ?_⟩
    generalize setBlock w1 base (.map es clock) = w2 at *
    have hnb : e0.val.ownBlock ≠ some base := fun h0 => by
      obtain ⟨_, cs, hc⟩ := hv0 base h0
      rw [hM.at_] at hc
      cases hc
    have h9 : w9.heap[base]? = some (.map es clock) := (hg.block base (by omega) (fun e => hnb e.symm)).trans hat2
    have hst := entry_store (t := 100) (val := v') h9 hM.stamp.2.1 hj
    have hat4 := heap_setBlock_same h9 (.map (es.modify j (fun e => { e with val := v' })) clock)
    have hot4 : ∀ i, i ≠ base → (setBlock w9 base (.map (es.modify j (fun e => { e with val := v' })) clock)).heap[i]? = w9.heap[i]? := fun i hi => heap_setBlock_other h9 _ hi
    have hs4 := size_setBlock w9 base (.map (es.modify j (fun e => { e with val := v' })) clock)
    have ho4 : (setBlock w9 base (.map (es.modify j (fun e => { e with val := v' })) clock)).os = w9.os ∧ (setBlock w9 base (.map (es.modify j (fun e => { e with val := v' })) clock)).tape = w9.tape ∧ (setBlock w9 base (.map (es.modify j (fun e => { e with val := v' })) clock)).output = w9.output := ⟨rfl, rfl, rfl⟩
    refine ⟨_, hst, ?_⟩
    have hkeep : ∀ b, b < W.heap.size → b ≠ base → e0.val.ownBlock ≠ some b → (setBlock w9 base (.map (es.modify j (fun e => { e with val := v' })) clock)).heap[b]? = W.heap[b]? := fun b hb hne h0 => (hot4 b hne).trans ((hg.block b (by omega) (fun e => h0 e.symm)).trans ((hot2 b hne).trans (hB1.block b hb)))
    refine tm_fin (v0 := e0.val) h hw hv0 hkeep (ho4.1.trans (hg.os.trans (ho2.1.trans ho1.1))) (ho4.2.1.trans (hg.tape.trans (ho2.2.1.trans ho1.2.1))) (ho4.2.2.trans (hg.output.trans (ho2.2.2.trans ho1.2.2))) (by have := hg.size; omega) ⟨es.modify j (fun e => { e with val := v' }), clock, ?_⟩
    rw [grpL_snoc]
    refine mapV_old hM hj hxe hat4 (fun b cs h0 hb => hkeep b (Array.getElem?_eq_some_iff.1 hb).1 (fun e => by rw [e, hM.at_] at hb; cases hb) h0) (row_keep hown (fun b cs _ hc => hot4 b (fun e => by rw [e, h9] at hc; cases hc))) (fun b hb => ?_)
    rcases hat with hat | hat
    · exact .inl (by rw [← hat]; exact hb)
    · rw [hat] at hb; cases hb; exact .inr (by omega)
set_option maxHeartbeats 1600000 in
set_option maxRecDepth 20000 in
theorem postTimes_in (v : Value) (xss : List (List Int)) (L : Nat) (w : World) (hv : ReadsL w v xss) (hrows : ∀ (j : Nat) xs, xss[j]? = some xs → xs.length = L) (hL : 1 ≤ L ∧ L ≤ 60) (hk : 1 ≤ xss.length ∧ xss.length ≤ 6) (hwf : ∀ t i, (Lit.int .i64 (pstF xss t i)).wf = true) :
    CallsIn Fence.wide 4 Try.prog 105 #[v] w fun e W' => e = .returned (.map (some w.heap.size)) ∧ (∃ es clock, MapV w.heap.size w.heap.size (grpV (postL xss) L) es clock W') ∧ Below w.heap.size w W' := by
  obtain ⟨i0, hi, hz0, hz1, hz2⟩ := info_parts infoInt
  have HV := Lib.hid hv
  obtain ⟨va, vc, rfl, _⟩ := hv
  have hmm : (Instr.makeMap 100 none).run Try.prog w = .ok (.map (some w.heap.size)) (w.alloc (.map #[] 0)) := rfl
  refine callsIn_of_wp_marks Try.func105 rfl trivial ?_ rfl
  simp only [Try.ntmps105, List.size_toArray, List.length_cons, List.length_nil, Nat.reduceAdd, Nat.reduceSub, Array.replicate_succ, Array.replicate_zero, List.push_toArray, List.append_toArray, List.nil_append, List.cons_append]
  gi_wp2_with (refine ⟨trivial, ?_⟩; gi_at_call 138; refine (callsIn_wide.2 (posts_any _ va _ vc _ rfl)).mono ?_; rintro e w' ⟨rfl, rfl⟩)
  obtain ⟨w3, hw3⟩ : ∃ w3, w3 = (((w.alloc (Obj.map #[] 0)).alloc (Obj.cells #[Value.map (some w.heap.size)] 100)).alloc (Obj.cells #[Value.slice va xss.length vc] 47)) := ⟨_, rfl⟩
  have z3 : w3.heap.size = w.heap.size + 3 := by rw [hw3]; simp
  have b3 : Below w.heap.size w w3 := by rw [hw3]; exact (((Below.refl _ w).alloc (Nat.le_refl _) _).alloc (by simp) _).alloc (by simp; omega) _
  have x3 : Blk w3 (w.heap.size + 2) #[.slice va xss.length vc] 47 := by rw [hw3]; exact blk_at _ _ _ _ (by simp)
  have i3 : TmI (.slice va xss.length vc) w.heap.size (postL xss) w [] w3 := by
    refine ⟨⟨#[], 0, ?_⟩, ?_, x3, b3, by omega⟩
    · rw [hw3]
      exact ((mapV_made w w.heap.size 0 rfl w.heap.size (Nat.le_refl _)).below (below_new _ _)).below (below_new _ _)
    · rw [hw3]
      exact (blk_at _ _ _ _ (by simp)).below (below_new _ _)
  rw [← hw3]
  clear hw3
  refine wpIn_rangeFunc_ownH rfl (by omega) (gf := 149) (lb := #[.pointer (some ⟨w.heap.size + 2, 0, none⟩)]) rfl trivial (enters_of Try.func149 (by kernel_rfl) rfl)
    (iterV_stops w.heap.size (w.heap.size + 2) (.slice va xss.length vc) xss L w w3 rfl (fun b hb => b3.block b hb) (by omega) (by omega) HV.out hrows hL hk (x3.cell 0))
    (fun h k b hb => (k b hb).trans (h b hb))
    (fun W l o o' hl _ _ _ b hb => World.putObj_heap_other (by omega))
    (Below.refl _ _) (fun _ => rfl)
    (TmI (.slice va xss.length vc) w.heap.size (postL xss) w) (fun _ _ _ => False) (tmI_own z3 rfl) (fun _ _ _ _ _ hs _ _ => hs) i3
    (TmA (.slice va xss.length vc) w.heap.size xss) (fun _ _ => tmA_own) ?assign ?body ?done ?stop
  case assign =>
    intro l pre x W K hI hK
    obtain ⟨_, _, _, hwW, hwS⟩ := id hI
    have hPE : ∃ p0 p1 p2 p3 p4 p5, (p0 = pstF xss x 0 ∧ p1 = pstF xss x 1 ∧ p2 = pstF xss x 2 ∧ p3 = pstF xss x 3 ∧ p4 = pstF xss x 4 ∧ p5 = pstF xss x 5) ∧ post6 xss x = .agg #[.int .i64 p0, .int .i64 p1, .int .i64 p2, .int .i64 p3, .int .i64 p4, .int .i64 p5] := ⟨_, _, _, _, _, _, ⟨rfl, rfl, rfl, rfl, rfl, rfl⟩, rfl⟩
    obtain ⟨p0, p1, p2, p3, p4, p5, hps, hPE⟩ := hPE
    have HPS := Lib.hid hps
    have HPE := Lib.hid hPE
    rw [hPE]
    clear hPE hps
    gi_wp2
    have hBN := below_new W (.cells #[.int .i64 p0, .int .i64 p1, .int .i64 p2, .int .i64 p3, .int .i64 p4, .int .i64 p5] 119)
    refine hK _ _ ⟨by simp, fun k o _ hk _ => (hBN.block k (Array.getElem?_eq_some_iff.1 hk).1).trans hk⟩ (fun b hb => hBN.block b (by omega)) (hI.below hBN (by omega)) ⟨W.heap.size, hwS, ?_, ?_⟩
    · rw [HPE.out]
    · obtain ⟨h0, h1, h2, h3, h4, h5⟩ := HPS.out
      rw [← h0, ← h1, ← h2, ← h3, ← h4, ← h5]
      exact blk_new W _ _
  case body =>
    rintro l pre t a' W hl _ hI ⟨A, hA3, rfl, hA⟩ hlt
    have hkey : ∃ l, keyOf Try.prog 119 (keyV (postL xss t)) = some l := post_key _ _ _ _ _ _ (hwf t 0) (hwf t 1) (hwf t 2) (hwf t 3) (hwf t 4) (hwf t 5)
    obtain ⟨v0, st, w2, zs, hrun, hrow, hzl, hcn, hs2, H⟩ := step_post hI rfl hkey
    obtain ⟨_, hC, _, hB, hS⟩ := hI
    have hc := hC.cell 0
    have ha0 := hA.cell 0
    have ha1 := hA.cell 1
    have ha2 := hA.cell 2
    have ha3 := hA.cell 3
    have ha4 := hA.cell 4
    have ha5 := hA.cell 5
    have hrun2 : (Instr.mapEntry 100 (.map (some w.heap.size)) (.agg #[iv (pstF xss t 0), iv (pstF xss t 1), iv (pstF xss t 2), iv (pstF xss t 3), iv (pstF xss t 4), iv (pstF xss t 5)])).run Try.prog (W.alloc (.cells #[.int .i64 (t : Nat)] 3)) = .ok (.tuple #[v0, .int .i64 (st : Nat)]) w2 := hrun
    gi_wp2_with (gi_at_builtin; refine appendIn_at _ rfl _ _ 24 rfl w.heap.size 3 i0 (.int .i64 0) 1 8 Try.underlying24 hi hz0 hz1 hz2 rfl (by decide) _ _ _ rfl hrow ⟨W.heap.size, 0, none⟩ 1 1 [.int .i64 (t : Nat)] rfl rfl (cell_one_at hcn) (by simp [Value.oneCell']) (by unfold maxLen; omega) (by omega) (by omega) ?_; intro v' w9 hown hgrow hat; obtain ⟨W4, hrun4, hkf, hkp, hI4⟩ := H v' w9 hown hgrow hat)
    exact ⟨by rw [z3]; exact hkf, hkp, hI4⟩
  case done =>
    rintro D ys W hD rfl hI hK
    obtain ⟨⟨es, clock, hM⟩, hC, hX, hB, hS⟩ := hI
    have hc := hC.cell 0
    gi_wp2
    refine ⟨by simp, .inl ⟨_, _, rfl, run_takeDeferred hK, ?_⟩⟩
    refine ⟨_, results_tmp rfl _ _ _, rfl, ⟨es, clock, ?_⟩, hB.trans (belowK_b (w := w) (Nat.le_refl _) W D _ _ (by omega) hK rfl rfl)⟩
    rw [grpL_range] at hM
    exact hM.own (grownBy_putObj' W D _) (fun r e => by cases e; exact ⟨by omega, _, hK, rfl⟩)
  case stop =>
    rintro D c pre W _ _ h _
    exact h.elim
theorem postTimes_any (v : Value) (xss : List (List Int)) (L : Nat) (w : World) (hv : ReadsL w v xss) (hrows : ∀ (j : Nat) xs, xss[j]? = some xs → xs.length = L) (hL : 1 ≤ L ∧ L ≤ 60) (hk : 1 ≤ xss.length ∧ xss.length ≤ 6) (hwf : ∀ t i, (Lit.int .i64 (pstF xss t i)).wf = true) :
    Calls Try.prog 105 #[v] w fun e W' => e = .returned (.map (some w.heap.size)) ∧ (∃ es clock, MapV w.heap.size w.heap.size (grpV (postL xss) L) es clock W') ∧ Below w.heap.size w W' :=
  callsIn_wide.1 (postTimes_in v xss L w hv hrows hL hk hwf)
end Go.Proofs.Ytijhbhjapcfddaa
