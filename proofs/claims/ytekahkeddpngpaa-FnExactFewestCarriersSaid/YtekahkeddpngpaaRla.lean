/-
  What is proved: plain facts on carriers of a parcel on a line: when a list of them is valid, how far each brings the parcel, and lists of carriers as memory. Conditions: those of each fact.
-/
import Derived.Test.YtekahkeddpngpaaMec
import Derived.Test.YtekahkeddpngpaaSea
namespace Go.Proofs.Ytekahkeddpngpaa
open Go.RowKit
set_option linter.unusedVariables false
set_option linter.unusedSimpArgs false

/-- a carrier -/
structure Cr where
  s : Int
  r : Int
  f : Int
/-- a carrier as a value -/
abbrev crv (c : Cr) : Value := .agg #[.int .i64 c.s, .int .i64 c.r, .int .i64 c.f]
abbrev crc (c : Cr) : Array Value := #[.int .i64 c.s, .int .i64 c.r, .int .i64 c.f]
/-- a carrier on a valid road, as the program asks -/
def onB (n : Int) (g : Bool) (c : Cr) : Bool := placeB n g c.s && (inB 0 48 c.r && inB 0 20 c.f)
/-- a valid road that is a line -/
def straightB (n : Int) (g : Bool) : Bool := roadB n g && !g
/-- valid carriers on a line -/
def csB (n : Int) (g : Bool) (cs : List Cr) : Bool := straightB n g && (decide (cs.length ≤ 6) && cs.all (onB n g))
theorem straightB_iff (n : Int) (g : Bool) : straightB n g = true ↔ 2 ≤ n ∧ n ≤ 24 ∧ g = false := by
  unfold straightB
  rw [Bool.and_eq_true, roadB_iff]
  cases g <;> simp
theorem onB_iff (n : Int) (g : Bool) (c : Cr) : onB n g c = true ↔ placeB n g c.s = true ∧ (0 ≤ c.r ∧ c.r ≤ 48) ∧ 0 ≤ c.f ∧ c.f ≤ 20 := by
  unfold onB
  rw [Bool.and_eq_true, Bool.and_eq_true, inB_iff, inB_iff]
theorem csB_iff (n : Int) (g : Bool) (cs : List Cr) : csB n g cs = true ↔ straightB n g = true ∧ cs.length ≤ 6 ∧ ∀ (j : Nat) c, cs[j]? = some c → onB n g c = true := by
  unfold csB
  rw [Bool.and_eq_true, Bool.and_eq_true, decide_eq_true_iff, List.all_eq_true]
  constructor
  · rintro ⟨h, h2, h3⟩
    exact ⟨h, h2, fun j c hj => h3 c (List.mem_of_getElem? hj)⟩
  · rintro ⟨h, h2, h3⟩
    refine ⟨h, h2, fun c hc => ?_⟩
    obtain ⟨j, hj⟩ := List.getElem?_of_mem hc
    exact h3 j c hj
theorem csB_no {n : Int} {g : Bool} {cs : List Cr} (h : ¬ (straightB n g = true ∧ cs.length ≤ 6 ∧ ∀ (j : Nat) c, cs[j]? = some c → onB n g c = true)) : csB n g cs = false := by
  cases hb : csB n g cs
  · rfl
  · exact absurd ((csB_iff n g cs).1 hb) h
theorem csB_bad {n : Int} {g : Bool} {cs : List Cr} {j : Nat} {c : Cr} (hj : cs[j]? = some c) (h : onB n g c = false) : csB n g cs = false :=
  csB_no (fun h2 => by rw [h2.2.2 j c hj] at h; cases h)
/-- what a valid carrier on a line is -/
structure CrOK (n : Int) (c : Cr) : Prop where
  n2 : 2 ≤ n
  n24 : n ≤ 24
  s0 : 0 ≤ c.s
  sn : c.s < n
  r0 : 0 ≤ c.r
  r48 : c.r ≤ 48
  f0 : 0 ≤ c.f
  f20 : c.f ≤ 20
theorem csB_ok {n : Int} {g : Bool} {cs : List Cr} (h : csB n g cs = true) {j : Nat} {c : Cr} (hj : cs[j]? = some c) : CrOK n c := by
  obtain ⟨h1, h2, h3⟩ := (csB_iff n g cs).1 h
  obtain ⟨a1, a2, a3⟩ := (straightB_iff n g).1 h1
  obtain ⟨b1, b2, b3⟩ := (onB_iff n g c).1 (h3 j c hj)
  obtain ⟨c1, c2⟩ := (placeB_iff n g c.s).1 b1
  exact ⟨a1, a2, c2.1, c2.2, b2.1, b2.2, b3.1, b3.2⟩
/-- what matters of a carrier, however great its range has become -/
structure CrWk (n : Int) (c : Cr) : Prop where
  n2 : 2 ≤ n
  n24 : n ≤ 24
  s0 : 0 ≤ c.s
  sn : c.s < n
  r0 : 0 ≤ c.r
  r96 : c.r ≤ 96
theorem CrOK.wk {n : Int} {c : Cr} (h : CrOK n c) : CrWk n c := ⟨h.n2, h.n24, h.s0, h.sn, h.r0, by have := h.r48; omega⟩
/-- at most six carriers, with places on the line -/
def WkL (n : Int) (cs : List Cr) : Prop := (2 ≤ n ∧ n ≤ 24) ∧ cs.length ≤ 6 ∧ ∀ (j : Nat) c, cs[j]? = some c → CrWk n c
theorem csB_wk {n : Int} {g : Bool} {cs : List Cr} (h : csB n g cs = true) : WkL n cs :=
  ⟨by have h1 := (straightB_iff n g).1 ((csB_iff n g cs).1 h).1; exact ⟨h1.1, h1.2.1⟩, ((csB_iff n g cs).1 h).2.1, fun j c hj => (csB_ok h hj).wk⟩
theorem lineB_place (n : Int) (a : Int) : lineB n false a = placeB n false a := by simp [lineB]
/-- the steps of a carrier to a place -/
def appI (c : Cr) (x : Int) : Int := max (c.s - x) (x - c.s)
/-- the place to which a carrier brings the parcel from x; less than x if it cannot come there -/
def endI (n : Int) (c : Cr) (x : Int) : Int := min (x + c.r - appI c x) (n - 1)
/-- where the parcel is behind a carrier -/
def onw (n : Int) (c : Cr) (x : Int) : Int := max x (endI n c x)
/-- the same, as the model says it -/
def endM (n : Int) (c : Cr) (x : Int) : Int := if c.r - appI c x < 0 then -1 else min (n - 1) (x + (c.r - appI c x))
theorem appI_range {n : Int} {c : Cr} {x : Int} (h : 0 ≤ c.s ∧ c.s < n) (hx : 0 ≤ x ∧ x < n) : 0 ≤ appI c x ∧ appI c x < n := by
  unfold appI
  omega
theorem endM_neg {n : Int} {c : Cr} {x : Int} (h : CrWk n c) (hx : 0 ≤ x ∧ x < n) : endM n c x < 0 ↔ endI n c x < x := by
  unfold endM endI
  have := appI_range ⟨h.s0, h.sn⟩ hx
  split <;> omega
theorem endM_end {n : Int} {c : Cr} {x : Int} (h : CrWk n c) (hx : 0 ≤ x ∧ x < n) (hn : ¬ endM n c x < 0) : endM n c x = endI n c x := by
  unfold endM endI at *
  have := appI_range ⟨h.s0, h.sn⟩ hx
  split <;> split at hn <;> omega
theorem onw_model {n : Int} {c : Cr} {x : Int} (h : CrWk n c) (hx : 0 ≤ x ∧ x < n) : max x (endM n c x) = onw n c x := by
  unfold onw endM endI
  have := appI_range ⟨h.s0, h.sn⟩ hx
  split <;> omega
theorem onw_range {n : Int} {c : Cr} {x : Int} (h : CrWk n c) (hx : 0 ≤ x ∧ x < n) : 0 ≤ onw n c x ∧ onw n c x < n ∧ x ≤ onw n c x := by
  unfold onw endI
  have := appI_range ⟨h.s0, h.sn⟩ hx
  omega
/-- carrier i of a list -/
def crAt (cs : List Cr) (i : Int) : Cr := cs.getD i.toNat ⟨0, 0, 0⟩
theorem crAt_some {cs : List Cr} {i : Nat} {c : Cr} (h : cs[i]? = some c) : crAt cs (i : Int) = c := by
  simp [crAt, List.getD, h]
theorem cr_some {cs : List Cr} {i : Nat} (h : i < cs.length) : ∃ c, cs[i]? = some c ∧ crAt cs (i : Int) = c := by
  have h1 : cs[i]? = some cs[i] := List.getElem?_eq_getElem h
  exact ⟨_, h1, crAt_some h1⟩
/-- where the parcel is behind the carriers of an order -/
def rchF (n : Int) (cs : List Cr) (x : Int) (os : List Int) : Int := os.foldl (fun y i => onw n (crAt cs i) y) x
/-- and behind the first k of them -/
theorem rchF_next (n : Int) (cs : List Cr) (x : Int) (os : List Int) (k : Nat) (i : Int) (h : os[k]? = some i) : rchF n cs x (os.take (k + 1)) = onw n (crAt cs i) (rchF n cs x (os.take k)) := by
  have : os.take (k + 1) = os.take k ++ [i] := by
    rw [List.take_add_one, h]
    rfl
  unfold rchF
  rw [this, List.foldl_append]
  rfl
/-- different numbers of carriers -/
def ordC (m : Nat) (os : List Int) : Bool := os.all (fun i => decide (0 ≤ i) && decide (i < m)) && decide os.Nodup
theorem ordC_iff (m : Nat) (os : List Int) : ordC m os = true ↔ (∀ (j : Nat) i, os[j]? = some i → 0 ≤ i ∧ i < m) ∧ os.Nodup := by
  unfold ordC
  rw [Bool.and_eq_true, List.all_eq_true, decide_eq_true_iff]
  constructor
  · rintro ⟨h, h2⟩
    exact ⟨fun j i hj => by have := h i (List.mem_of_getElem? hj); simpa using this, h2⟩
  · rintro ⟨h, h2⟩
    refine ⟨fun i hi => ?_, h2⟩
    obtain ⟨j, hj⟩ := List.getElem?_of_mem hi
    simpa using h j i hj
theorem ordC_no {m : Nat} {os : List Int} (h : ¬ ((∀ (j : Nat) i, os[j]? = some i → 0 ≤ i ∧ i < m) ∧ os.Nodup)) : ordC m os = false := by
  cases hb : ordC m os
  · rfl
  · exact absurd ((ordC_iff m os).1 hb) h
/-- the first k numbers are different ones of carriers -/
def ordK (m : Nat) (os : List Int) (k : Nat) : Prop := (∀ (j : Nat) i, j < k → os[j]? = some i → 0 ≤ i ∧ i < m) ∧ (os.take k).Nodup
theorem ordK_zero (m : Nat) (os : List Int) : ordK m os 0 := ⟨fun j i h => by omega, by simp⟩
theorem ordK_next {m : Nat} {os : List Int} {k : Nat} {i : Int} (h : ordK m os k) (hk : os[k]? = some i) (h0 : 0 ≤ i) (h1 : i < m) (h2 : (os.take k).contains i = false) : ordK m os (k + 1) := by
  constructor
  · intro j x hj hx
    by_cases e : j = k
    · subst e
      rw [hk] at hx
      cases hx
      exact ⟨h0, h1⟩
    · exact h.1 j x (by omega) hx
  · have : os.take (k + 1) = os.take k ++ [i] := by
      rw [List.take_add_one, hk]
      rfl
    rw [this, List.nodup_append]
    refine ⟨h.2, by simp, fun a ha b hb e => ?_⟩
    simp at hb
    subst hb e
    simp at h2
    exact h2 ha
theorem ordK_all {m : Nat} {os : List Int} (h : ordK m os os.length) : ordC m os = true :=
  (ordC_iff m os).2 ⟨fun j i hj => h.1 j i (List.getElem?_eq_some_iff.1 hj).1 hj, by have := h.2; rwa [List.take_length] at this⟩
theorem ordC_range {m : Nat} {os : List Int} {k : Nat} {i : Int} (hk : os[k]? = some i) (h : ¬ (0 ≤ i ∧ i < m)) : ordC m os = false :=
  ordC_no (fun h2 => h (h2.1 k i hk))
theorem ordC_twice {m : Nat} {os : List Int} {k : Nat} {i : Int} (hk : os[k]? = some i) (h : (os.take k).contains i = true) : ordC m os = false := by
  refine ordC_no (fun h2 => ?_)
  have hn := h2.2
  have hlt := (List.getElem?_eq_some_iff.1 hk).1
  have e : os = os.take k ++ i :: os.drop (k + 1) := by
    have h3 : os[k] = i := (List.getElem?_eq_some_iff.1 hk).2
    conv => lhs; rw [← List.take_append_drop k os, List.drop_eq_getElem_cons hlt, h3]
  rw [e, List.nodup_append] at hn
  have hm : i ∈ os.take k := by simpa using h
  exact hn.2.2 i hm i (by simp) rfl
theorem rchF_range {n : Int} {cs : List Cr} (hc : WkL n cs) {x : Int} (hx : 0 ≤ x ∧ x < n) : ∀ (os : List Int), (∀ i, i ∈ os → 0 ≤ i ∧ i < cs.length) → 0 ≤ rchF n cs x os ∧ rchF n cs x os < n ∧ x ≤ rchF n cs x os := by
  intro os
  induction os generalizing x with
  | nil => intro _; exact ⟨hx.1, hx.2, Int.le_refl _⟩
  | cons i os ih =>
    intro h
    have hi := h i (by simp)
    obtain ⟨c, hc1, hc2⟩ := cr_some (cs := cs) (i := i.toNat) (by omega)
    have e : ((i.toNat : Nat) : Int) = i := by omega
    rw [e] at hc2
    have h1 := onw_range (hc.2.2 _ _ hc1) hx
    have h2 := ih (x := onw n (crAt cs i) x) (by rw [hc2]; exact ⟨h1.1, h1.2.1⟩) (fun j hj => h j (by simp [hj]))
    show 0 ≤ rchF n cs (onw n (crAt cs i) x) os ∧ rchF n cs (onw n (crAt cs i) x) os < n ∧ x ≤ rchF n cs (onw n (crAt cs i) x) os
    rw [hc2] at h2 ⊢
    exact ⟨h2.1, h2.2.1, Int.le_trans h1.2.2 h2.2.2⟩
/-- v reads as the list cs of carriers -/
def ReadsC (w : World) (v : Value) (cs : List Cr) : Prop :=
  ∃ a c, v = .slice a cs.length c ∧ cs.length ≤ c ∧ cs.length ≤ maxLen ∧ ∀ (j : Nat) k, cs[j]? = some k → ∃ b o, a = some ⟨b, o, none⟩ ∧ b < w.heap.size ∧
    w.cell? ⟨b, o + j * 3, none⟩ = some (.int .i64 k.s) ∧ w.cell? ⟨b, o + j * 3 + 1, none⟩ = some (.int .i64 k.r) ∧ w.cell? ⟨b, o + j * 3 + 2, none⟩ = some (.int .i64 k.f)
theorem ReadsC.below {w w' : World} {v : Value} {cs : List Cr} (h : ReadsC w v cs) (hb : Below w.heap.size w w') : ReadsC w' v cs := by
  obtain ⟨a, c, hv, hc, hm, hx⟩ := h
  refine ⟨a, c, hv, hc, hm, fun j k hj => ?_⟩
  obtain ⟨b, o, ha, hlt, h0, h1, h2⟩ := hx j k hj
  exact ⟨b, o, ha, Nat.lt_of_lt_of_le hlt hb.size, (hb.cell (p := ⟨b, _, none⟩) hlt).trans h0, (hb.cell (p := ⟨b, _, none⟩) hlt).trans h1, (hb.cell (p := ⟨b, _, none⟩) hlt).trans h2⟩
theorem carriers_one {w : World} {k : Cr} {t : TypeId} (b : Nat) (hk : w.heap.size = b) : ReadsC (w.alloc (.cells #[.int .i64 k.s, .int .i64 k.r, .int .i64 k.f] t)) (.slice (some ⟨b, 0, none⟩) 1 1) [k] := by
  subst hk
  refine ⟨_, 1, rfl, Nat.le_refl _, by simp [maxLen], fun j x hj => ?_⟩
  match j, hj with
  | 0, hj =>
    cases hj
    exact ⟨_, 0, rfl, by simp, by rw [cell_new]; rfl, by rw [cell_new]; rfl, by rw [cell_new]; rfl⟩
theorem csB_one (n : Int) (g : Bool) (c : Cr) : csB n g [c] = (straightB n g && onB n g c) := by
  simp [csB]
end Go.Proofs.Ytekahkeddpngpaa
