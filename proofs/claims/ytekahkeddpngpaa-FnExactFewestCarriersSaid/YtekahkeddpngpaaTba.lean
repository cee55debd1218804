/-
  What is proved: plain facts on tables: lists of lists of numbers, each in a block of its own; what leaves them alone, how they are read, their marks. Conditions: those of each fact.
-/
import Derived.Test.YtekahkeddpngpaaAre
namespace Go.Proofs.Ytekahkeddpngpaa
open Go.RowKit
set_option linter.unusedVariables false
set_option linter.unusedSimpArgs false

theorem infoTab : (Try.prog.info? 24).map (fun i => (i.zero, i.size, i.bytes)) = some (some (.slice none 0 0), 1, 24) := by kernel_rfl
/-- the world w' is as w was but for the blocks from lo on and before hi -/
structure ChgIn (lo hi : Nat) (w w' : World) : Prop where
  os : w'.os = w.os
  tape : w'.tape = w.tape
  output : w'.output = w.output
  size : w.heap.size ≤ w'.heap.size
  block : ∀ k, k < w.heap.size → (k < lo ∨ hi ≤ k) → w'.heap[k]? = w.heap[k]?
theorem ChgIn.refl (lo hi : Nat) (w : World) : ChgIn lo hi w w := ⟨rfl, rfl, rfl, Nat.le_refl _, fun _ _ _ => rfl⟩
theorem ChgIn.trans {lo hi : Nat} {a b c : World} (h : ChgIn lo hi a b) (k : ChgIn lo hi b c) : ChgIn lo hi a c :=
  ⟨k.os.trans h.os, k.tape.trans h.tape, k.output.trans h.output, Nat.le_trans h.size k.size, fun i hi hr => (k.block i (Nat.lt_of_lt_of_le hi h.size) hr).trans (h.block i hi hr)⟩
theorem ChgIn.below {lo hi m : Nat} {w w' : World} (h : ChgIn lo hi w w') (hm : m ≤ lo) (hs : m ≤ w.heap.size) : Below m w w' :=
  ⟨h.os, h.tape, h.output, h.size, fun k hk => h.block k (Nat.lt_of_lt_of_le hk hs) (.inl (Nat.lt_of_lt_of_le hk hm))⟩
theorem ChgIn.of_grown {lo hi : Nat} {w w' : World} {v : Value} (hg : w.grownBy w' v.ownBlock) (hr : ∀ b, v.ownBlock = some b → lo ≤ b ∧ b < hi) : ChgIn lo hi w w' :=
  ⟨hg.os, hg.tape, hg.output, hg.size, fun k hk ho => hg.block k hk (fun e => by have := hr k e.symm; omega)⟩
theorem ChgIn.of_below {lo hi : Nat} {w w' : World} (hb : Below w.heap.size w w') : ChgIn lo hi w w' :=
  ⟨hb.os, hb.tape, hb.output, hb.size, fun k hk _ => hb.block k hk⟩
/-- a row of any type whose block lies apart from what changed is as it was -/
theorem row_chg {w w' : World} {base n lo hi : Nat} {t : TypeId} {v : Value} {xs : List Value} (h : w.ownsRow base t 1 v n xs) (hg : ChgIn lo hi w w') (hr : ∀ b, v.ownBlock = some b → b < lo ∨ hi ≤ b) : w'.ownsRow base t 1 v n xs := by
  obtain ⟨hl, h2⟩ := h
  refine ⟨hl, ?_⟩
  rcases h2 with h2 | ⟨g, cap, cur, rfl, hgb, hblk, h3⟩
  · exact .inl h2
  · exact .inr ⟨g, cap, cur, rfl, hgb, (hg.block g (Array.getElem?_eq_some_iff.1 hblk).1 (hr g rfl)).trans hblk, h3⟩
theorem row_below {w w' : World} {base n : Nat} {t : TypeId} {v : Value} {xs : List Value} (h : w.ownsRow base t 1 v n xs) (hb : Below w.heap.size w w') : w'.ownsRow base t 1 v n xs := by
  obtain ⟨hl, h2⟩ := h
  refine ⟨hl, ?_⟩
  rcases h2 with h2 | ⟨g, cap, cur, hv, hg, hblk, h3⟩
  · exact .inl h2
  · exact .inr ⟨g, cap, cur, hv, hg, (hb.block g (Array.getElem?_eq_some_iff.1 hblk).1).trans hblk, h3⟩
theorem row_lower {w : World} {base base' n : Nat} {t : TypeId} {v : Value} {xs : List Value} (h : w.ownsRow base t 1 v n xs) (hb : base' ≤ base) : w.ownsRow base' t 1 v n xs := by
  obtain ⟨hl, h2⟩ := h
  refine ⟨hl, ?_⟩
  rcases h2 with h2 | ⟨g, cap, cur, hv, hg, h3⟩
  · exact .inl h2
  · exact .inr ⟨g, cap, cur, hv, Nat.le_trans hb hg, h3⟩
theorem row_block {w : World} {base n : Nat} {t : TypeId} {v : Value} {xs : List Value} (h : w.ownsRow base t 1 v n xs) : ∀ b, v.ownBlock = some b → base ≤ b ∧ b < w.heap.size ∧ ∃ cs, w.heap[b]? = some (.cells cs t (0, 0)) := by
  intro b hb
  rcases h.2 with ⟨rfl, _⟩ | ⟨g, cap, cur, rfl, hg, hblk, _⟩
  · cases hb
  · cases hb
    exact ⟨hg, (Array.getElem?_eq_some_iff.1 hblk).1, _, hblk⟩
theorem row_shape {w : World} {base n : Nat} {t : TypeId} {v : Value} {xs : List Value} (h : w.ownsRow base t 1 v n xs) : ∃ a c, v = .slice a n c ∧ n ≤ c ∧ c ≤ maxLen ∧ (0 < n → ∃ g, a = some ⟨g, 0, none⟩ ∧ base ≤ g ∧ g < w.heap.size) := by
  rcases h.2 with ⟨rfl, rfl⟩ | ⟨g, cap, cur, rfl, hg, hb, hnc, hcm, _⟩
  · exact ⟨none, 0, rfl, Nat.le_refl _, Nat.zero_le _, fun h => by omega⟩
  · exact ⟨_, cap, rfl, hnc, hcm, fun _ => ⟨g, rfl, hg, (Array.getElem?_eq_some_iff.1 hb).1⟩⟩

/-- v is a table of its own: the rows us in the block of v, each row in a block of its own; all blocks from lo on and before hi -/
structure OwnT (lo hi : Nat) (v : Value) (us : List Value) (xss : List (List Int)) (w : World) : Prop where
  len : us.length = xss.length
  top : w.ownsRow lo 24 1 v xss.length us
  row : ∀ (j : Nat) u xs, us[j]? = some u → xss[j]? = some xs → w.ownsRow lo 3 1 u xs.length (xs.map iv)
  apart : ∀ (i j b : Nat) u u', us[i]? = some u → us[j]? = some u' → u.ownBlock = some b → u'.ownBlock = some b → i = j
  htop : ∀ b, v.ownBlock = some b → b < hi
  hrow : ∀ (j b : Nat) u, us[j]? = some u → u.ownBlock = some b → b < hi
theorem OwnT.below {lo hi : Nat} {v : Value} {us : List Value} {xss : List (List Int)} {w w' : World} (h : OwnT lo hi v us xss w) (hb : Below w.heap.size w w') : OwnT lo hi v us xss w' :=
  ⟨h.len, row_below h.top hb, fun j u xs hu hx => row_below (h.row j u xs hu hx) hb, h.apart, h.htop, h.hrow⟩
theorem OwnT.widen {lo hi lo' hi' : Nat} {v : Value} {us : List Value} {xss : List (List Int)} {w : World} (h : OwnT lo hi v us xss w) (hl : lo' ≤ lo) (hh : hi ≤ hi') : OwnT lo' hi' v us xss w :=
  ⟨h.len, row_lower h.top hl, fun j u xs hu hx => row_lower (h.row j u xs hu hx) hl, h.apart, fun b hb => Nat.lt_of_lt_of_le (h.htop b hb) hh, fun j b u hu hb => Nat.lt_of_lt_of_le (h.hrow j b u hu hb) hh⟩
theorem row_at {xss : List (List Int)} {us : List Value} (h : us.length = xss.length) {j : Nat} {u : Value} (hu : us[j]? = some u) : ∃ xs, xss[j]? = some xs :=
  get_some (by have := (List.getElem?_eq_some_iff.1 hu).1; omega)
theorem OwnT.chg {lo hi lo' hi' : Nat} {v : Value} {us : List Value} {xss : List (List Int)} {w w' : World} (h : OwnT lo hi v us xss w) (hg : ChgIn lo' hi' w w') (hr : hi ≤ lo' ∨ hi' ≤ lo) : OwnT lo hi v us xss w' :=
  ⟨h.len, row_chg h.top hg (fun b hb => by have := h.htop b hb; have := (row_block h.top b hb).1; omega),
   fun j u xs hu hx => row_chg (h.row j u xs hu hx) hg (fun b hb => by have := h.hrow j b u hu hb; have := (row_block (h.row j u xs hu hx) b hb).1; omega), h.apart, h.htop, h.hrow⟩
theorem OwnT.lt {lo hi : Nat} {v : Value} {us : List Value} {xss : List (List Int)} {w : World} (h : OwnT lo hi v us xss w) : OwnT lo w.heap.size v us xss w :=
  ⟨h.len, h.top, h.row, h.apart, fun b hb => (row_block h.top b hb).2.1, fun j b u hu hb => by obtain ⟨xs, hx⟩ := row_at h.len hu; exact (row_block (h.row j u xs hu hx) b hb).2.1⟩
theorem OwnT.reads {lo hi : Nat} {v : Value} {us : List Value} {xss : List (List Int)} {w : World} (h : OwnT lo hi v us xss w) (hm : xss.length ≤ maxLen) : ReadsL w v xss := by
  have ht := h.top
  rcases h.top.2 with ⟨rfl, h0⟩ | ⟨g, cap, cur, rfl, hg, hb, hnc, hcm, hcs, _⟩
  · have e : xss = [] := List.eq_nil_of_length_eq_zero h0
    subst e
    exact ⟨none, 0, rfl, Nat.le_refl _, by decide, fun j x hj => by simp at hj⟩
  · refine ⟨_, cap, rfl, hnc, hm, fun j xs hj => ?_⟩
    have hjl := (List.getElem?_eq_some_iff.1 hj).1
    obtain ⟨u, hu⟩ := get_some (xs := us) (k := j) (by rw [h.len]; exact hjl)
    have hrow := h.row j u xs hu hj
    obtain ⟨_, cu, _, hcu, hcu2, _⟩ := row_shape hrow
    refine ⟨g, 0, u, rfl, (Array.getElem?_eq_some_iff.1 hb).1, ?_, owns_reads hrow (Nat.le_trans hcu hcu2)⟩
    rw [Nat.zero_add, ht.cellAt j (by omega)]
    exact hu
/-- an empty table -/
theorem ownT_nil (lo hi : Nat) (w : World) : OwnT lo hi (.slice none 0 0) [] [] w :=
  ⟨rfl, w.ownsRow_nil lo _ 1, fun j u xs hu => by simp at hu, fun i j b u u' hu => by simp at hu, fun b hb => by simp [Value.ownBlock] at hb, fun j b u hu => by simp at hu⟩
theorem ownT_new (w : World) (lo b : Nat) (hb : w.heap.size = b) (hl : lo ≤ b) : OwnT lo (b + 1) (.slice (some ⟨b, 0, none⟩) 0 0) [] [] (w.alloc (.cells #[] 24)) := by
  subst hb
  exact ⟨rfl, World.ownsRow_made w #[] 0 hl (by decide) (by simp), fun j u xs hu => by simp at hu, fun i j b u u' hu => by simp at hu, fun b hb => by simp [Value.ownBlock] at hb; omega, fun j b u hu => by simp at hu⟩
/-- one more row appended: its block is new, and behind all blocks before -/
theorem ownT_append {lo hi m : Nat} {v v' u : Value} {us : List Value} {xss : List (List Int)} {xs : List Int} {w w' : World} {o : Obj} (h : OwnT lo hi v us xss w)
    (hx : w.ownsRow m 3 1 u xs.length (xs.map iv)) (hm : hi ≤ m) (hlm : lo ≤ m)
    (hown : w'.ownsRow lo 24 1 v' (xss.length + 1) (us ++ [u])) (hg : (w.alloc o).grownBy w' v.ownBlock) : OwnT lo w'.heap.size v' (us ++ [u]) (xss ++ [xs]) w' := by
  have hsz : w.heap.size < w'.heap.size := Nat.lt_of_lt_of_le (by simp) hg.size
  have hvb : ∀ b, v.ownBlock = some b → ∃ cs fr, (w.alloc o).heap[b]? = some (.cells cs 24 fr) := by
    intro b hb
    obtain ⟨_, hlt, cs, hh⟩ := row_block h.top b hb
    exact ⟨cs, _, ((below_new w o).block b hlt).trans hh⟩
  have keep : ∀ (q : Value) n zs base, w.ownsRow base 3 1 q n zs → w'.ownsRow base 3 1 q n zs := by
    intro q n zs base hq
    have hq2 := row_below hq (below_new w o)
    obtain ⟨hl, h2⟩ := hq2
    refine ⟨hl, ?_⟩
    rcases h2 with h2 | ⟨g, cap, cur, rfl, hgb, hblk, h3⟩
    · exact .inl h2
    · refine .inr ⟨g, cap, cur, rfl, hgb, (hg.block g (Array.getElem?_eq_some_iff.1 hblk).1 (fun e => ?_)).trans hblk, h3⟩
      obtain ⟨cs, fr, hcs⟩ := hvb g e.symm
      rw [hblk] at hcs
      cases hcs
  have hul := h.len
  refine ⟨by simp [hul], by rw [List.length_append]; exact hown, fun j y ys hy hys => ?_, fun i j b y y' hy hy' hb hb' => ?_, fun b hb => (row_block hown b hb).2.1, fun j b y hy hb => ?_⟩
  · by_cases hj : j < xss.length
    · rw [List.getElem?_append_left (by omega)] at hy
      rw [List.getElem?_append_left hj] at hys
      exact keep _ _ _ _ (h.row j y ys hy hys)
    · have hj2 : j = xss.length := by
        have := (List.getElem?_eq_some_iff.1 hys).1
        simp at this
        omega
      subst hj2
      rw [List.getElem?_append_right (by omega), hul, Nat.sub_self] at hy
      rw [List.getElem?_append_right (by omega), Nat.sub_self] at hys
      cases hy
      cases hys
      exact row_lower (keep _ _ _ _ hx) hlm
  · have old : ∀ (k : Nat) z, (us ++ [u])[k]? = some z → k < us.length → ∀ b, z.ownBlock = some b → b < m := by
      intro k z hz hk b hb
      rw [List.getElem?_append_left hk] at hz
      exact Nat.lt_of_lt_of_le (h.hrow k b z hz hb) hm
    have new : ∀ (k : Nat) z, (us ++ [u])[k]? = some z → ¬ k < us.length → k = us.length ∧ ∀ b, z.ownBlock = some b → m ≤ b := by
      intro k z hz hk
      have hk2 : k = us.length := by
        have := (List.getElem?_eq_some_iff.1 hz).1
        simp at this
        omega
      subst hk2
      rw [List.getElem?_append_right (Nat.le_refl _), Nat.sub_self] at hz
      cases hz
      exact ⟨rfl, fun b hb => (row_block hx b hb).1⟩
    by_cases h1 : i < us.length
    · by_cases h2 : j < us.length
      · rw [List.getElem?_append_left h1] at hy
        rw [List.getElem?_append_left h2] at hy'
        exact h.apart i j b y y' hy hy' hb hb'
      · have := old i y hy h1 b hb
        have := (new j y' hy' h2).2 b hb'
        omega
    · by_cases h2 : j < us.length
      · have := old j y' hy' h2 b hb'
        have := (new i y hy h1).2 b hb
        omega
      · have := (new i y hy h1).1
        have := (new j y' hy' h2).1
        omega
  · by_cases hj : j < us.length
    · rw [List.getElem?_append_left hj] at hy
      obtain ⟨ys, hys⟩ := row_at hul hy
      exact Nat.lt_trans (row_block (h.row j y ys hy hys) b hb).2.1 hsz
    · have hj2 : j = us.length := by
        have := (List.getElem?_eq_some_iff.1 hy).1
        simp at this
        omega
      subst hj2
      rw [List.getElem?_append_right (Nat.le_refl _), Nat.sub_self] at hy
      cases hy
      exact Nat.lt_trans (row_block hx b hb).2.1 hsz

/-- how many numbers the first k rows have -/
def lenTo (xss : List (List Int)) : Nat → Nat
  | 0 => 0
  | k + 1 => lenTo xss k + (xss.getD k []).length
theorem lenTo_next {xss : List (List Int)} {k : Nat} {xs : List Int} (h : xss[k]? = some xs) : lenTo xss (k + 1) = lenTo xss k + xs.length := by
  simp [lenTo, List.getD, h]
theorem lenTo_mono (xss : List (List Int)) {i j : Nat} (h : i ≤ j) : lenTo xss i ≤ lenTo xss j := by
  induction j with
  | zero => have : i = 0 := by omega
            subst this; exact Nat.le_refl _
  | succ j ih =>
    by_cases e : i = j + 1
    · subst e; exact Nat.le_refl _
    · exact Nat.le_trans (ih (by omega)) (Nat.le_add_right _ _)
def sizeT (xss : List (List Int)) : Nat := xss.length + lenTo xss xss.length
theorem row_fits {xss : List (List Int)} {k : Nat} {xs : List Int} (h : xss[k]? = some xs) : lenTo xss k + xs.length ≤ lenTo xss xss.length := by
  rw [← lenTo_next h]
  exact lenTo_mono xss (by have := (List.getElem?_eq_some_iff.1 h).1; omega)
/-- the table when k rows are marked from K on -/
def mkT (K : Nat) (xss : List (List Int)) (k : Nat) : List (List Int) :=
  (List.range xss.length).map fun j => if j < k then mts (K + lenTo xss j) (xss.getD j []).length else xss.getD j []
theorem mkT_len (K : Nat) (xss : List (List Int)) (k : Nat) : (mkT K xss k).length = xss.length := by simp [mkT]
theorem mkT_zero (K : Nat) (xss : List (List Int)) : mkT K xss 0 = xss := by
  apply List.ext_getElem?
  intro j
  by_cases hj : j < xss.length
  · simp [mkT, hj]
  · rw [List.getElem?_eq_none (by rw [mkT_len]; omega), List.getElem?_eq_none (by omega)]
theorem mkT_done {K : Nat} {xss : List (List Int)} {k j : Nat} {xs : List Int} (h : xss[j]? = some xs) (hj : j < k) : (mkT K xss k)[j]? = some (mts (K + lenTo xss j) xs.length) := by
  obtain ⟨hl, rfl⟩ := List.getElem?_eq_some_iff.1 h
  simp [mkT, hl, hj]
theorem mkT_left {K : Nat} {xss : List (List Int)} {k j : Nat} {xs : List Int} (h : xss[j]? = some xs) (hj : ¬ j < k) : (mkT K xss k)[j]? = some xs := by
  obtain ⟨hl, rfl⟩ := List.getElem?_eq_some_iff.1 h
  simp [mkT, hl, hj]
/-- row k marked: the table with one row marked more -/
theorem ownT_mark {lo hi K k : Nat} {v u : Value} {us : List Value} {xss : List (List Int)} {xs : List Int} {w w' : World} (h : OwnT lo hi v us (mkT K xss k) w) (hu : us[k]? = some u) (hx : xss[k]? = some xs)
    (hg : w.grownBy w' u.ownBlock) (hn : w'.ownsRow lo 3 1 u xs.length ((mts (K + lenTo xss k) xs.length).map iv)) : OwnT lo hi v us (mkT K xss (k + 1)) w' := by
  have hlk : (mkT K xss k).length = xss.length := mkT_len _ _ _
  have hl := h.len
  have hkx := mkT_left (K := K) hx (Nat.lt_irrefl k)
  refine ⟨by rw [mkT_len, ← hlk]; exact hl, ?_, fun j y ys hy hys => ?_, h.apart, h.htop, h.hrow⟩
  · rw [mkT_len, ← hlk]
    have ht := h.top
    obtain ⟨hl2, h2⟩ := ht
    refine ⟨hl2, ?_⟩
    rcases h2 with h2 | ⟨g, cap, cur, hv, hgb, hblk, h3⟩
    · exact .inl h2
    · refine .inr ⟨g, cap, cur, hv, hgb, (hg.block g (Array.getElem?_eq_some_iff.1 hblk).1 (fun e => ?_)).trans hblk, h3⟩
      obtain ⟨_, _, cs, hcs⟩ := row_block (h.row k u xs hu hkx) g e.symm
      rw [hblk] at hcs
      cases hcs
  · have hjl : j < xss.length := by have := (List.getElem?_eq_some_iff.1 hys).1; rw [mkT_len] at this; exact this
    obtain ⟨zs, hzs⟩ := get_some hjl
    by_cases hj : j = k
    · subst hj
      rw [hu] at hy
      cases hy
      rw [mkT_done hx (Nat.lt_succ_self _)] at hys
      cases hys
      rw [mts_len]
      exact hn
    · have hys2 : (mkT K xss k)[j]? = some ys := by
        by_cases hjk : j < k
        · rw [mkT_done hzs (by omega)] at hys
          rw [mkT_done hzs hjk]
          exact hys
        · rw [mkT_left hzs (by omega)] at hys
          rw [mkT_left hzs hjk]
          exact hys
      have hr := h.row j y ys hy hys2
      obtain ⟨hl2, h2⟩ := hr
      refine ⟨hl2, ?_⟩
      rcases h2 with h2 | ⟨g, cap, cur, rfl, hgb, hblk, h3⟩
      · exact .inl h2
      · refine .inr ⟨g, cap, cur, rfl, hgb, (hg.block g (Array.getElem?_eq_some_iff.1 hblk).1 (fun e => ?_)).trans hblk, h3⟩
        exact hj (h.apart j k g _ u hy hu rfl e.symm)
/-- the answer is a table of its own -/
def OwnsT (base : Nat) (xss : List (List Int)) (w : World) (e : Ending) (w' : World) : Prop :=
  ∃ v us, e = .returned v ∧ OwnT base w'.heap.size v us xss w' ∧ Below base w w'
/-- the answer is a table of its own, and a truth -/
def OwnsTB (base : Nat) (xss : List (List Int)) (b : Bool) (w : World) (e : Ending) (w' : World) : Prop :=
  ∃ v us, e = .returned (.tuple #[v, .bool b]) ∧ OwnT base w'.heap.size v us xss w' ∧ Below base w w'
theorem ownsTB_R {base : Nat} {R : List (List Int) × Bool} {xss : List (List Int)} {b : Bool} {w w' : World} {v : Value} {us : List Value} {hi : Nat} (hR : R = (xss, b)) (ho : OwnT base hi v us xss w') (hb : Below base w w') : OwnsTB base R.1 R.2 w (.returned (.tuple #[v, .bool b])) w' := by
  subst hR
  exact ⟨v, us, rfl, ho.lt, hb⟩
theorem lists_in {w : World} {a : Option Addr} {l c : Nat} {wss : List (List Int)} (h : ReadsL w (.slice a l c) wss) {i : Nat} {xs : List Int} (hi : wss[i]? = some xs) :
    ∃ b o a2 c2, a = some ⟨b, o, none⟩ ∧ b < w.heap.size ∧ w.cell? ⟨b, o + i, none⟩ = some (.slice a2 xs.length c2) ∧ ReadsI w (.slice a2 xs.length c2) xs := by
  obtain ⟨a', c', e, hc, hm, hx⟩ := h
  cases e
  obtain ⟨b, o, u, ha, hb, hu, hr⟩ := hx i xs hi
  have hr2 := hr
  obtain ⟨a2, c2, rfl, _⟩ := hr2
  exact ⟨b, o, a2, c2, ha, hb, hu, hr⟩
end Go.Proofs.Ytekahkeddpngpaa
