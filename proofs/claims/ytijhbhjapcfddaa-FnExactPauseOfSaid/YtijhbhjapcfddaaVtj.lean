/-
  What is proved: the map of times by posts, as memory (MapV), and what one more time makes of it. Conditions: those of each fact.
-/
import Derived.Test.YtijhbhjapcfddaaVti
namespace Go.Proofs.Ytijhbhjapcfddaa
open Go.RowKit Go.ChangeMaps Go.MapKept
set_option linter.unusedVariables false
set_option linter.unusedSimpArgs false

theorem gput_new {k : List Int} {x : Int} : ∀ {G : List (List Int × List Int)}, (∀ e ∈ G, e.1 ≠ k) → gputV G k x = G ++ [(k, [x])]
  | [], _ => rfl
  | e :: r, h => by
    unfold gputV
    rw [if_neg (h e (List.mem_cons_self ..)), gput_new (fun q hq => h q (List.mem_cons_of_mem _ hq))]
    rfl
theorem gput_old {k xs : List Int} {x : Int} : ∀ {G : List (List Int × List Int)} {j : Nat}, G[j]? = some (k, xs) → (G.map (·.1)).Nodup → gputV G k x = G.set j (k, xs ++ [x])
  | [], _, h, _ => by simp at h
  | e :: r, 0, h, _ => by
    simp at h
    subst h
    unfold gputV
    rw [if_pos rfl]
    rfl
  | e :: r, j + 1, h, hn => by
    simp at h
    rw [List.map_cons, List.nodup_cons] at hn
    unfold gputV
    rw [if_neg (fun he => hn.1 (by rw [he]; exact List.mem_map.2 ⟨_, List.mem_of_getElem? h, rfl⟩)), gput_old h hn.2]
    rfl
/-- a key's value -/
def keyV (k : List Int) : Value := .agg (k.map iv).toArray
theorem keyV_inj {a b : List Int} (h : keyV a = keyV b) : a = b := by
  unfold keyV at h
  injection h with h
  have h2 : a.map iv = b.map iv := by simpa using h
  exact List.map_inj_right (fun x y e => by injection e) |>.1 h2
theorem post6_key (xss : List (List Int)) (t : Nat) : post6 xss t = keyV (postL xss t) := rfl
/-- block B is a map that keeps the times by posts; its rows lie from base on, apart -/
structure MapV (base B : Nat) (G : List (List Int × List Int)) (es : Array MapEntry) (clock : Nat) (W : World) : Prop where
  at_ : W.heap[B]? = some (.map es clock)
  low : base ≤ B
  stamp : Stamped es clock
  len : es.size = G.length
  key : ∀ (j : Nat) e x, es[j]? = some e → G[j]? = some x → e.key = keyV x.1
  row : ∀ (j : Nat) e x, es[j]? = some e → G[j]? = some x → W.ownsRow base 3 1 e.val x.2.length (x.2.map iv)
  apart : ∀ (i j b : Nat) e e', es[i]? = some e → es[j]? = some e' → e.val.ownBlock = some b → e'.val.ownBlock = some b → i = j
  six : ∀ x ∈ G, ∃ l, keyOf Try.prog 119 (keyV x.1) = some l
theorem MapV.below {base B : Nat} {G : List (List Int × List Int)} {es : Array MapEntry} {clock : Nat} {W W' : World} (h : MapV base B G es clock W) (hb : Below W.heap.size W W') : MapV base B G es clock W' :=
  ⟨(hb.block B (Array.getElem?_eq_some_iff.1 h.at_).1).trans h.at_, h.low, h.stamp, h.len, h.key, fun j e x he hx => row_below (h.row j e x he hx) hb, h.apart, h.six⟩
theorem mapV_made (w : World) (B clock : Nat) (hB : w.heap.size = B) (base : Nat) (hb : base ≤ B) : MapV base B [] #[] clock (w.alloc (.map #[] clock)) := by
  subst hB
  exact ⟨heap_alloc_new w _, hb, stamped_empty clock, rfl, fun j e x he => by simp at he, fun j e x he => by simp at he, fun i j b e e' he => by simp at he, fun x hx => by simp at hx⟩
theorem MapV.keys {base B : Nat} {G : List (List Int × List Int)} {es : Array MapEntry} {clock : Nat} {W : World} (h : MapV base B G es clock W) : ∀ e ∈ es.toList, ∃ l, keyOf Try.prog 119 e.key = some l := by
  intro e he
  obtain ⟨j, hj⟩ := List.getElem?_of_mem he
  have hj2 : es[j]? = some e := by simpa using hj
  have hlt : j < es.size := (Array.getElem?_eq_some_iff.1 hj2).1
  obtain ⟨x, hx⟩ : ∃ x, G[j]? = some x := ⟨G[j]'(by rw [← h.len]; exact hlt), List.getElem?_eq_getElem _⟩
  rw [h.key j e x hj2 hx]
  exact h.six x (List.mem_of_getElem? hx)
theorem MapV.nodup {base B : Nat} {G : List (List Int × List Int)} {es : Array MapEntry} {clock : Nat} {W : World} (h : MapV base B G es clock W) : (G.map (·.1)).Nodup := by
  have hk := h.stamp.2.2
  have hmap : es.toList.map (·.key) = (G.map (·.1)).map keyV := by
    apply List.ext_getElem?
    intro j
    by_cases hj : j < es.size
    · obtain ⟨e, he⟩ : ∃ e, es[j]? = some e := ⟨es[j], Array.getElem?_eq_getElem hj⟩
      obtain ⟨x, hx⟩ : ∃ x, G[j]? = some x := ⟨G[j]'(by rw [← h.len]; exact hj), List.getElem?_eq_getElem _⟩
      have he2 : es.toList[j]? = some e := by simpa using he
      rw [List.getElem?_map, List.getElem?_map, List.getElem?_map, he2, hx]
      exact congrArg some (h.key j e x he hx)
    · rw [List.getElem?_eq_none (by simp; omega), List.getElem?_eq_none (by simp; rw [← h.len]; omega)]
  rw [hmap, List.Nodup, List.pairwise_map] at hk
  exact hk.imp (fun hne e => hne (by rw [e]))
theorem row_keep {w w' : World} {base n : Nat} {v : Value} {zs : List Value} (h : w.ownsRow base 3 1 v n zs) (hkeep : ∀ (b : Nat) (cs : Array Value), v.ownBlock = some b → w.heap[b]? = some (.cells cs 3 (0, 0)) → w'.heap[b]? = w.heap[b]?) : w'.ownsRow base 3 1 v n zs := by
  obtain ⟨hl, h2⟩ := h
  refine ⟨hl, ?_⟩
  rcases h2 with h2 | ⟨g, cap, cur, rfl, hgb, hblk, h3⟩
  · exact .inl h2
  · exact .inr ⟨g, cap, cur, rfl, hgb, (hkeep g cur rfl hblk).trans hblk, h3⟩
/-- one more time at a post that is there -/
theorem mapV_old {base B : Nat} {G : List (List Int × List Int)} {es : Array MapEntry} {clock j : Nat} {W W4 : World} {e0 : MapEntry} {k xs : List Int} {v' : Value} {x : Int} (h : MapV base B G es clock W) (hj : es[j]? = some e0) (hG : G[j]? = some (k, xs))
    (hat : W4.heap[B]? = some (.map (es.modify j (fun e => { e with val := v' })) clock))
    (hkeep : ∀ (b : Nat) (cs : Array Value), e0.val.ownBlock ≠ some b → W.heap[b]? = some (.cells cs 3 (0, 0)) → W4.heap[b]? = W.heap[b]?)
    (hv : W4.ownsRow base 3 1 v' (xs.length + 1) (xs.map iv ++ [.int .i64 x])) (hloc : ∀ b, v'.ownBlock = some b → e0.val.ownBlock = some b ∨ W.heap.size ≤ b) :
    MapV base B (gputV G k x) (es.modify j (fun e => { e with val := v' })) clock W4 := by
  have hGs := gput_old (x := x) hG h.nodup
  have at' : ∀ (i : Nat) (e : MapEntry), (es.modify j (fun e => { e with val := v' }))[i]? = some e → (i = j ∧ e = { e0 with val := v' }) ∨ (i ≠ j ∧ es[i]? = some e) := by
    intro i e he
    rw [Array.getElem?_modify] at he
    by_cases hij : j = i
    · subst hij
      rw [if_pos rfl, hj] at he
      exact .inl ⟨rfl, by cases he; rfl⟩
    · rw [if_neg hij] at he
      exact .inr ⟨fun e => hij e.symm, he⟩
  have hjl : j < G.length := (List.getElem?_eq_some_iff.1 hG).1
  have gat : ∀ i y, (gputV G k x)[i]? = some y → (i = j ∧ y = (k, xs ++ [x])) ∨ (i ≠ j ∧ G[i]? = some y) := by
    intro i y hy
    rw [hGs, List.getElem?_set] at hy
    by_cases hij : j = i
    · subst hij
      rw [if_pos rfl, if_pos hjl] at hy
      exact .inl ⟨rfl, by cases hy; rfl⟩
    · rw [if_neg hij] at hy
      exact .inr ⟨fun e => hij e.symm, hy⟩
  have below : ∀ (i : Nat) (e : MapEntry) (b : Nat), es[i]? = some e → e.val.ownBlock = some b → b < W.heap.size := by
    intro i e b he hb
    have hil : i < es.size := (Array.getElem?_eq_some_iff.1 he).1
    obtain ⟨y, hy⟩ : ∃ y, G[i]? = some y := ⟨G[i]'(by rw [← h.len]; exact hil), List.getElem?_eq_getElem _⟩
    exact (row_block (h.row i e y he hy) b hb).2.1
  refine ⟨hat, h.low, ?_, by rw [Array.size_modify, h.len, hGs, List.length_set], fun i e y he hy => ?_, fun i e y he hy => ?_, fun i i2 b e e2 he he2 hb hb2 => ?_, fun y hy => ?_⟩
  · have hl : (es.modify j (fun e => { e with val := v' })).toList.map (·.born) = es.toList.map (·.born) ∧ (es.modify j (fun e => { e with val := v' })).toList.map (·.key) = es.toList.map (·.key) := by
      constructor <;>
      · apply List.ext_getElem?
        intro i
        rw [List.getElem?_map, List.getElem?_map, Array.getElem?_toList, Array.getElem?_toList, Array.getElem?_modify]
        by_cases hij : j = i
        · subst hij; rw [if_pos rfl, hj]; rfl
        · rw [if_neg hij]
    obtain ⟨s1, s2, s3⟩ := h.stamp
    refine ⟨fun e he => ?_, by rw [hl.1]; exact s2, by rw [hl.2]; exact s3⟩
    have hm : e.born ∈ es.toList.map (·.born) := by rw [← hl.1]; exact List.mem_map.2 ⟨e, he, rfl⟩
    obtain ⟨e9, he9, hb9⟩ := List.mem_map.1 hm
    rw [← hb9]
    exact s1 e9 he9
  · rcases at' i e he with ⟨rfl, rfl⟩ | ⟨hi, he⟩ <;> rcases gat i y hy with ⟨h1, rfl⟩ | ⟨h1, hy⟩
    · exact h.key i e0 (k, xs) hj hG
    · exact absurd rfl h1
    · exact absurd h1 hi
    · exact h.key i e y he hy
  · rcases at' i e he with ⟨rfl, rfl⟩ | ⟨hi, he⟩ <;> rcases gat i y hy with ⟨h1, rfl⟩ | ⟨h1, hy⟩
    · simpa using hv
    · exact absurd rfl h1
    · exact absurd h1 hi
    · exact row_keep (h.row i e y he hy) (fun b cs hb hc => hkeep b cs (fun h0 => hi (h.apart i j b e e0 he hj hb h0)) hc)
  · rcases at' i e he with ⟨h1, h1'⟩ | ⟨hi, hq⟩ <;> rcases at' i2 e2 he2 with ⟨h2, h2'⟩ | ⟨hi2, hq2⟩
    · rw [h1, h2]
    · rw [h1'] at hb
      rcases hloc b hb with h0 | h0
      · rw [h1]; exact h.apart j i2 b e0 e2 hj hq2 h0 hb2
      · have := below i2 e2 b hq2 hb2; omega
    · rw [h2'] at hb2
      rcases hloc b hb2 with h0 | h0
      · rw [h2]; exact h.apart i j b e e0 hq hj hb h0
      · have := below i e b hq hb; omega
    · exact h.apart i i2 b e e2 hq hq2 hb hb2
  · obtain ⟨i, hi⟩ := List.getElem?_of_mem hy
    rcases gat i y hi with ⟨_, rfl⟩ | ⟨_, hi⟩
    · exact h.six (k, xs) (List.mem_of_getElem? hG)
    · exact h.six y (List.mem_of_getElem? hi)
/-- one more time at a new post -/
theorem mapV_new {base B : Nat} {G : List (List Int × List Int)} {es : Array MapEntry} {clock : Nat} {W W4 : World} {k : List Int} {v' : Value} {x : Int} (h : MapV base B G es clock W) (hnk : ∀ e ∈ es.toList, e.key ≠ keyV k) (hk6 : ∃ l, keyOf Try.prog 119 (keyV k) = some l)
    (hat : W4.heap[B]? = some (.map (es.push ⟨keyV k, v', clock⟩) (clock + 1)))
    (hkeep : ∀ (b : Nat) (cs : Array Value), W.heap[b]? = some (.cells cs 3 (0, 0)) → W4.heap[b]? = W.heap[b]?)
    (hv : W4.ownsRow base 3 1 v' 1 [.int .i64 x]) (hloc : ∀ b, v'.ownBlock = some b → W.heap.size ≤ b) :
    MapV base B (gputV G k x) (es.push ⟨keyV k, v', clock⟩) (clock + 1) W4 := by
  have hGs := gput_new (k := k) (x := x) (G := G) (fun y hy hk => by
    obtain ⟨i, hi⟩ := List.getElem?_of_mem hy
    have hil : i < es.size := by rw [h.len]; exact (List.getElem?_eq_some_iff.1 hi).1
    have he : es[i]? = some es[i] := Array.getElem?_eq_getElem hil
    exact hnk es[i] (by simp) (by rw [h.key i _ y he hi, hk]))
  have at' : ∀ (i : Nat) (e : MapEntry), (es.push ⟨keyV k, v', clock⟩)[i]? = some e → (i = G.length ∧ e = ⟨keyV k, v', clock⟩) ∨ (i < G.length ∧ es[i]? = some e) := by
    intro i e he
    rw [Array.getElem?_push] at he
    by_cases hij : i = es.size
    · rw [if_pos hij] at he
      exact .inl ⟨hij.trans h.len, by cases he; rfl⟩
    · rw [if_neg hij] at he
      exact .inr ⟨by rw [← h.len]; exact (Array.getElem?_eq_some_iff.1 he).1, he⟩
  have gat : ∀ i y, (gputV G k x)[i]? = some y → (i = G.length ∧ y = (k, [x])) ∨ (i < G.length ∧ G[i]? = some y) := by
    intro i y hy
    rw [hGs] at hy
    by_cases hij : i < G.length
    · rw [List.getElem?_append_left hij] at hy
      exact .inr ⟨hij, hy⟩
    · rw [List.getElem?_append_right (by omega)] at hy
      have h0 : i - G.length = 0 := by
        have := (List.getElem?_eq_some_iff.1 hy).1
        simp at this
        omega
      rw [h0] at hy
      exact .inl ⟨by omega, by cases hy; rfl⟩
  have below : ∀ (i : Nat) (e : MapEntry) (b : Nat), es[i]? = some e → e.val.ownBlock = some b → b < W.heap.size := by
    intro i e b he hb
    have hil : i < es.size := (Array.getElem?_eq_some_iff.1 he).1
    obtain ⟨y, hy⟩ : ∃ y, G[i]? = some y := ⟨G[i]'(by rw [← h.len]; exact hil), List.getElem?_eq_getElem _⟩
    exact (row_block (h.row i e y he hy) b hb).2.1
  refine ⟨hat, h.low, stamped_push h.stamp hnk, by rw [Array.size_push, h.len, hGs, List.length_append]; rfl, fun i e y he hy => ?_, fun i e y he hy => ?_, fun i i2 b e e2 he he2 hb hb2 => ?_, fun y hy => ?_⟩
  · rcases at' i e he with ⟨hi, rfl⟩ | ⟨hi, he⟩ <;> rcases gat i y hy with ⟨h1, rfl⟩ | ⟨h1, hy⟩
    · rfl
    · omega
    · omega
    · exact h.key i e y he hy
  · rcases at' i e he with ⟨hi, rfl⟩ | ⟨hi, he⟩ <;> rcases gat i y hy with ⟨h1, rfl⟩ | ⟨h1, hy⟩
    · exact hv
    · omega
    · omega
    · exact row_keep (h.row i e y he hy) (fun b cs _ hc => hkeep b cs hc)
  · rcases at' i e he with ⟨hi, rfl⟩ | ⟨hi, he⟩ <;> rcases at' i2 e2 he2 with ⟨hi2, rfl⟩ | ⟨hi2, he2⟩
    · omega
    · have := below i2 e2 b he2 hb2; have := hloc b hb; omega
    · have := below i e b he hb; have := hloc b hb2; omega
    · exact h.apart i i2 b e e2 he he2 hb hb2
  · obtain ⟨i, hi⟩ := List.getElem?_of_mem hy
    rcases gat i y hi with ⟨_, rfl⟩ | ⟨_, hi⟩
    · exact hk6
    · exact h.six y (List.mem_of_getElem? hi)
end Go.Proofs.Ytijhbhjapcfddaa
