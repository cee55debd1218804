/-
  What is proved: posts as keys of a map: the key's law, and what the two operations of `m[k] = append(m[k], v)` do. Conditions: numbers of 64 bits.
-/
import Derived.Test.YtijhbhjapcfddaaVtg
import Derived.DeepKeys4
import Derived.MapKept
import Derived.WideKeyEntry
namespace Go.Proofs.Ytijhbhjapcfddaa
open Go.RowKit Go.ChangeMaps Go.MapKept
set_option linter.unusedVariables false
set_option linter.unusedSimpArgs false

theorem postWide : (match Try.prog.underlying 119 with | some (.array _ _) | some (.struct _) => true | _ => false) = true := by kernel_rfl
set_option maxRecDepth 100000 in
theorem post_law : WideMaps.KeyLaw Try.prog 119 := deep_law_laid (show laidOutB Try.prog = true by kernel_rfl) (m := 2) (by omega) (of_decide_eq_true (by kernel_rfl)) (by kernel_rfl) postWide
theorem postUnder : Try.prog.underlying 119 = some (.array 6 3) := by kernel_rfl
theorem postKeyType : Try.prog.keyType 119 = true := by kernel_rfl
theorem post_key (a0 a1 a2 a3 a4 a5 : Int) (h0 : (Lit.int .i64 a0).wf = true) (h1 : (Lit.int .i64 a1).wf = true) (h2 : (Lit.int .i64 a2).wf = true) (h3 : (Lit.int .i64 a3).wf = true) (h4 : (Lit.int .i64 a4).wf = true) (h5 : (Lit.int .i64 a5).wf = true) : ∃ l, keyOf Try.prog 119 (.agg #[.int .i64 a0, .int .i64 a1, .int .i64 a2, .int .i64 a3, .int .i64 a4, .int .i64 a5]) = some l := by
  have hu : Try.prog.underlying 3 = some (.int .i64) := Try.underlying3
  have hc : Try.prog.cellsOf 119 = 6 := by kernel_rfl
  have hc1 : Try.prog.cellsOf 3 = 1 := by kernel_rfl
  obtain ⟨d, hd⟩ : ∃ d, Try.prog.types.size + 1 = d + 2 := ⟨Try.prog.types.size - 1, by have : 1 ≤ Try.prog.types.size := of_decide_eq_true (by kernel_rfl); omega⟩
  have hf : (Value.agg #[.int .i64 a0, .int .i64 a1, .int .i64 a2, .int .i64 a3, .int .i64 a4, .int .i64 a5]).formed Try.prog 119 = true := by
    unfold Value.formed
    rw [postUnder]
    simp [hc]
  unfold keyOf
  rw [postUnder]
  simp only [postKeyType, hf, Bool.and_true, if_true]
  have hk : Try.prog.keyLits (Try.prog.types.size + 1) 119 (Value.agg #[.int .i64 a0, .int .i64 a1, .int .i64 a2, .int .i64 a3, .int .i64 a4, .int .i64 a5]).cells.toList = some [.int .i64 a0, .int .i64 a1, .int .i64 a2, .int .i64 a3, .int .i64 a4, .int .i64 a5] := by
    rw [hd]
    simp only [Program.keyLits, postUnder, hc, hc1, hu, Value.cells]
    simp [List.range_succ, h0, h1, h2, h3, h4, h5, hu]
  rw [hk]
  exact ⟨_, rfl⟩
theorem mapUnder : Try.prog.underlying 100 = some (.map 119 24) := by kernel_rfl
theorem rowZero (w : World) : (zeroValue 24).run Try.prog w = .ok (.slice none 0 0) w := by kernel_rfl
/-- the post's entry in a map of rows: new, or there -/
theorem post_entry {w : World} {b : Nat} {es : Array MapEntry} {clock : Nat} {key : Value} (hb : w.heap[b]? = some (.map es clock)) (hks : ∀ e ∈ es.toList, ∃ l, keyOf Try.prog 119 e.key = some l) (hkey : ∃ l, keyOf Try.prog 119 key = some l) :
    ((∀ e ∈ es.toList, e.key ≠ key) ∧ (Instr.mapEntry 100 (.map (some b)) key).run Try.prog w = .ok (.tuple #[.slice none 0 0, goInt clock]) (setBlock w b (.map (es.push ⟨key, .slice none 0 0, clock⟩) (clock + 1)))) ∨
    ∃ (j : Nat) (e0 : MapEntry), es[j]? = some e0 ∧ e0.key = key ∧ (Instr.mapEntry 100 (.map (some b)) key).run Try.prog w = .ok (.tuple #[e0.val, goInt e0.born]) (setBlock w b (.map es clock)) := by
  obtain ⟨l, hkey⟩ := hkey
  rcases post_law.find w hkey es.toList hks with ⟨h1, h2⟩ | ⟨j, e0, h1, h2, h3⟩
  · refine .inl ⟨h2, ?_⟩
    simp [Instr.mapEntry, run_underlying mapUnder, MapKept.run_getObj_map hb, post_law.check w false hkey, h1, rowZero, MapKept.run_setObj_map _ hb, Result.andThen, setBlock]
  · have hj : es[j]? = some e0 := by simpa using h2
    have hsame : es.modify j (fun e => { e with key := key }) = es := by
      apply Array.ext'
      rw [Array.toList_modify, modify_eq_set _ _ _ _ h2]
      have : ({ e0 with key := key } : MapEntry) = e0 := by rw [← h3]
      rw [this]
      exact WideElems.set_self _ _ _ h2
    refine .inr ⟨j, e0, hj, h3, ?_⟩
    simp [Instr.mapEntry, run_underlying mapUnder, MapKept.run_getObj_map hb, post_law.check w false hkey, h1, hj, h3, post_law.stays w hkey, hsame, MapKept.run_setObj_map _ hb, Result.andThen, setBlock]
/-- the store at an entry, found by its stamp -/
theorem entry_store {w : World} {b : Nat} {es : Array MapEntry} {clock : Nat} {j : Nat} {e0 : MapEntry} {val : Value} {t : TypeId} (hb : w.heap[b]? = some (.map es clock)) (hn : (es.toList.map (·.born)).Nodup) (hj : es[j]? = some e0) :
    (Instr.entryStore t (.map (some b)) (goInt e0.born) val).run Try.prog w = .ok () (setBlock w b (.map (es.modify j (fun e => { e with val := val })) clock)) := by
  have hidx : es.findIdx? (fun e => ((e.born : Nat) : Int) == ((e0.born : Nat) : Int)) = some j := by
    rw [WideElems.findIdx_arr]
    exact WideElems.findIdx_born hn (by simpa using hj)
  simp [Instr.entryStore, MapKept.run_getObj_map hb, asInt, asIntOf, goInt, hidx, MapKept.run_setObj_map _ hb, Result.andThen, setBlock]
end Go.Proofs.Ytijhbhjapcfddaa
