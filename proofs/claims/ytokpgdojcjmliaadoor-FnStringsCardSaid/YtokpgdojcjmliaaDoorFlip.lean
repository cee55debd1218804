/-
  What is proved: a sealed text of which one byte is changed is no sealed text. Conditions: none.
-/
import Derived.Test.YtokpgdojcjmliaaDoorPar
namespace Go.Proofs.YtokpgdojcjmliaaDoor
open Go.RowKit

theorem step_bd (h : Int) (c : UInt8) : 0 ≤ ckStep h c ∧ ckStep h c < 999979 := by unfold ckStep; omega
theorem step_inj (h h' : Int) (c : UInt8) (h0 : 0 ≤ h) (h1 : h < 999979) (g0 : 0 ≤ h') (g1 : h' < 999979) (e : ckStep h c = ckStep h' c) : h = h' := by
  unfold ckStep at e; omega
theorem step_byte (h : Int) (c c' : UInt8) (e : ckStep h c = ckStep h c') : c = c' := by
  unfold ckStep at e
  have h1 := c.toNat_lt
  have h2 := c'.toNat_lt
  exact UInt8.toNat_inj.1 (by omega)
theorem fold_inj (l : List UInt8) : ∀ (h h' : Int), 0 ≤ h → h < 999979 → 0 ≤ h' → h' < 999979 → l.foldl ckStep h = l.foldl ckStep h' → h = h' := by
  induction l with
  | nil => intro h h' _ _ _ _ e; exact e
  | cons c l ih =>
    intro h h' h0 h1 g0 g1 e
    have := ih _ _ (step_bd h c).1 (step_bd h c).2 (step_bd h' c).1 (step_bd h' c).2 e
    exact step_inj h h' c h0 h1 g0 g1 this
theorem fold_set (l : List UInt8) : ∀ (k : Nat) (hk : k < l.length) (c : UInt8) (h : Int), (l.set k c).foldl ckStep h = l.foldl ckStep h → c = l[k] := by
  induction l with
  | nil => intro k hk; exact absurd hk (Nat.not_lt_zero _)
  | cons b l ih =>
    intro k hk c h e
    cases k with
    | zero =>
      have := fold_inj l _ _ (step_bd h c).1 (step_bd h c).2 (step_bd h b).1 (step_bd h b).2 e
      exact step_byte h c b this
    | succ k => exact ih k (by simpa using hk) c _ e
theorem itoa_ck_inj (l l' : List UInt8) (e : Lib.itoa (ck l) = Lib.itoa (ck l')) : ck l = ck l' := by
  have h := ck_bd l
  have h' := ck_bd l'
  unfold Lib.itoa at e
  rw [if_neg (by omega), if_neg (by omega)] at e
  have e2 := congrArg rd e
  rw [(dec_digits _).2, (dec_digits _).2] at e2
  omega
theorem itoa_ck_mark (l : List UInt8) (j : Nat) : (Lib.itoa (ck l))[j]? ≠ some 35 := by
  have h := ck_bd l
  unfold Lib.itoa
  rw [if_neg (by omega)]
  intro e
  have hd := (dec_digits (ck l).toNat).1
  rw [List.all_eq_true] at hd
  have := hd 35 (List.mem_of_getElem? e)
  simp [isDig] at this
def sealL (l : List UInt8) : List UInt8 := l ++ 35 :: Lib.itoa (ck l)
theorem sealL_at (l : List UInt8) (h : l.contains 35 = false) (j : Nat) : (sealL l)[j]? = some 35 ↔ j = l.length := by
  unfold sealL
  by_cases hj : j < l.length
  · rw [List.getElem?_append_left hj]
    constructor
    · intro e
      have : l.contains 35 = true := by simpa using List.mem_of_getElem? e
      rw [h] at this; cases this
    · intro e; omega
  · rw [List.getElem?_append_right (by omega)]
    by_cases hj2 : j = l.length
    · subst hj2; simp
    · obtain ⟨i, hi⟩ : ∃ i, j - l.length = i + 1 := ⟨j - l.length - 1, by omega⟩
      rw [hi, List.getElem?_cons_succ]
      exact ⟨fun e => absurd e (itoa_ck_mark l i), fun e => absurd e hj2⟩
theorem seal_changed (x x' : List UInt8) (k : Nat) (c : UInt8) (hx : x.contains 35 = false) (hx' : x'.contains 35 = false) (hk : k < (sealL x).length)
    (hc : c ≠ (sealL x)[k]) : sealL x' ≠ (sealL x).set k c := by
  intro e
  have hat := sealL_at x hx
  have hat' := sealL_at x' hx'
  have hset : ∀ j, j ≠ k → (sealL x')[j]? = (sealL x)[j]? := fun j hj => by rw [e, List.getElem?_set_ne (fun h => hj h.symm)]
  have hkc : (sealL x')[k]? = some c := by rw [e, List.getElem?_set_self hk]
  have hkk : (sealL x)[k]? = some (sealL x)[k] := List.getElem?_eq_getElem hk
  by_cases h1 : k = x.length
  · have h2 := (hat k).2 h1
    rw [hkk] at h2
    have h3 := (hat' x'.length).2 rfl
    by_cases h4 : x'.length = k
    · rw [h4, hkc] at h3
      exact hc ((Option.some.inj h3).trans (Option.some.inj h2).symm)
    · rw [hset _ h4] at h3
      have := (hat _).1 h3
      omega
  · have h2 := (hat x.length).2 rfl
    rw [← hset _ (fun h => h1 h.symm)] at h2
    have hlen := (hat' _).1 h2
    by_cases h3 : k < x.length
    · have e1 : sealL x' = x.set k c ++ 35 :: Lib.itoa (ck x) := by rw [e]; unfold sealL; rw [List.set_append_left _ _ h3]
      unfold sealL at e1
      obtain ⟨e2, e3⟩ := List.append_inj e1 (by simp [hlen])
      have e4 := itoa_ck_inj _ _ (List.cons.inj e3).2
      rw [e2] at e4
      have e5 := fold_set x k h3 c 7 e4
      apply hc
      have e6 : (sealL x)[k]? = some x[k] := by unfold sealL; rw [List.getElem?_append_left h3, List.getElem?_eq_getElem h3]
      rw [hkk] at e6
      rw [e5]
      exact (Option.some.inj e6).symm
    · have e1 : (sealL x').take x.length = (sealL x).take x.length := by rw [e, List.take_set_of_le (by omega)]
      unfold sealL at e1
      rw [List.take_left' hlen.symm, List.take_left' rfl] at e1
      rw [e1, hkk] at hkc
      exact hc (Option.some.inj hkc).symm
theorem sealOf_list (s : ByteArray) : (sealOf s).data.toList = sealL s.data.toList := by
  unfold sealOf sealL
  simp
/-- the text y with its byte k changed to c -/
def flipAt (y : ByteArray) (k : Nat) (c : UInt8) : ByteArray := ⟨(y.data.toList.set k c).toArray⟩
theorem flip_bad (x : ByteArray) (k : Nat) (c : UInt8) (hx : hasB x 35 = false) (hk : k < (sealOf x).size) (hc : c ≠ (sealOf x)[k]) (t : ByteArray) (ht : hasB t 35 = false) : sealOf t ≠ flipAt (sealOf x) k c := by
  intro e
  have e1 := congrArg (fun b => b.data.toList) e
  have hl := sealOf_list x
  simp only [flipAt] at e1
  rw [sealOf_list t, hl] at e1
  have hk2 : k < (sealL x.data.toList).length := by rw [← hl]; simpa using hk
  refine seal_changed x.data.toList t.data.toList k c hx ht hk2 ?_ (by simpa using e1)
  intro e2
  apply hc
  rw [e2]
  show _ = (sealOf x).data[k]
  rw [← Array.getElem_toList]
  congr 1
  exact hl.symm
theorem flip_size (y : ByteArray) (k : Nat) (c : UInt8) : (flipAt y k c).size = y.size := by
  show (y.data.toList.set k c).toArray.size = y.data.size
  simp
end Go.Proofs.YtokpgdojcjmliaaDoor
