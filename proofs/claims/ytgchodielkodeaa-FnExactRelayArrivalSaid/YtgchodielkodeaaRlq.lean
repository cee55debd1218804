/-
  What is proved: IsRelay of the model and of the program. Conditions: lists that read as carriers and as legs.
-/
import Derived.Test.YtgchodielkodeaaRln
import Derived.Test.YtgchodielkodeaaRlo
namespace Go.Proofs.Ytgchodielkodeaa
open Go.RowKit
set_option linter.unusedVariables false
set_option linter.unusedSimpArgs false

theorem ask_ok {n : Int} {g : Bool} {cs : List Cr} {a b : Int} (h : askB n g cs a b = true) : g = false ∧ WkL n cs ∧ 0 ≤ a ∧ a ≤ b ∧ b < n := by
  have h1 := (askB_iff n g cs a b).1 h
  exact ⟨(csB_line h1.1).1, csB_wk h1.1, h1.2⟩
set_option maxHeartbeats 800000 in
theorem spec_IsRelay (n : Int) (g : Bool) (v1 : Value) (cs : List Cr) (a b : Int) (v2 : Value) (ls : List Lg) (w : World) (h1 : ReadsC w v1 cs) (h2 : ReadsG w v2 ls) (hll : ls.length ≤ 1048576) :
    Calls Try.prog 40 #[rd n g, v1, .int .i64 a, .int .i64 b, v2] w fun e w' => e = .returned (.tuple #[.bool (relR n g cs a b ls).1, .bool (relR n g cs a b ls).2]) ∧ Below w.heap.size w w' := by
  have HA := Lib.hid (fun w hv => l7Asks_any n g v1 cs a b w hv)
  have HL := Lib.hid (fun w h1 h2 hc h3 h4 h5 => l7Relay_any n v1 v2 cs ls a b w h1 h2 hc h3 h4 h5 hll)
  have H1 := Lib.hid h1
  have H2 := Lib.hid h2
  have HX := Lib.hid (Boxed.first w n g 28)
  have HR := Lib.hid (show relR n g cs a b ls = (askB n g cs a b && relF cs b a [] ls, askB n g cs a b) from rfl)
  clear h1 h2
  unfold rd at *
  go_enter Try.func40, Try.ntmps40
  go_wp2_with fail
  refine (HA.out _ (H1.out.below HX.out.below)).mono ?_
  rintro e w1 ⟨rfl, hb⟩
  replace HX := Lib.hid (HX.out.next hb)
  clear hb
  have h0 := HX.out.c0
  have h1 := HX.out.c1
  cases hk : askB n g cs a b
  · have HE := Lib.hid hk
    clear hk
    go_wp2_with fail
    go_ret2
    exact ⟨ret_bool2 (by rw [HR.out, HE.out]; rfl) (by rw [HR.out, HE.out]), HX.out.below⟩
  · have HE := Lib.hid hk
    have HOK := Lib.hid (ask_ok hk)
    have hg := (ask_ok hk).1
    subst hg
    clear hk
    go_wp2_with fail
    refine (HL.out _ (H1.out.below HX.out.below) (H2.out.below HX.out.below) HOK.out.2.1 HOK.out.2.2.1 HOK.out.2.2.2.1 HOK.out.2.2.2.2).mono ?_
    rintro e w2 ⟨rfl, hb⟩
    replace HX := Lib.hid (HX.out.next hb)
    clear hb h0 h1
    go_wp2_with fail
    go_ret2
    exact ⟨ret_bool2 (by rw [HR.out, HE.out, Bool.true_and]) (by rw [HR.out, HE.out]), HX.out.below⟩
set_option maxHeartbeats 800000 in
theorem impl_IsRelay (n : Int) (g : Bool) (v1 : Value) (cs : List Cr) (a b : Int) (v2 : Value) (ls : List Lg) (w : World) (h1 : ReadsC w v1 cs) (h2 : ReadsG w v2 ls) (hll : ls.length ≤ 1048576) :
    Calls Try.prog 42 #[rd n g, v1, .int .i64 a, .int .i64 b, v2] w fun e w' => e = .returned (.tuple #[.bool (relR n g cs a b ls).1, .bool (relR n g cs a b ls).2]) ∧ Below w.heap.size w w' := by
  have HA := Lib.hid (fun w hv => isValidE_any n g v1 cs a b w hv)
  have HL := Lib.hid (fun w h1 h2 hc h3 h4 h5 => isRelayE_any n g v1 v2 cs ls a b w h1 h2 hc h3 h4 h5 hll)
  have H1 := Lib.hid h1
  have H2 := Lib.hid h2
  have HR := Lib.hid (show relR n g cs a b ls = (askB n g cs a b && relF cs b a [] ls, askB n g cs a b) from rfl)
  obtain ⟨y1, c1, hv1, _⟩ := h1
  subst hv1
  generalize cs.length = m at *
  have HW := Lib.hid ((below_new w (.cells #[.int .i64 n, .bool g] 28)).trans ((below_new _ (.cells (erC n g (.slice y1 m c1) a b) 80)).mono (by simp)))
  have HB := Lib.hid (blk_at (w.alloc (.cells #[.int .i64 n, .bool g] 28)) (erC n g (.slice y1 m c1) a b) 80 (w.heap.size + 1) (by simp))
  clear h2
  unfold rd erV erC at *
  go_enter Try.func42, Try.ntmps42
  go_wp2_with fail
  refine (HA.out _ (H1.out.below HW.out)).mono ?_
  rintro e w1 ⟨rfl, hb⟩
  replace HW := Lib.hid (HW.out.trans (hb.mono HW.out.size))
  replace HB := Lib.hid (HB.out.below hb)
  clear hb
  have e0 := HB.out.cell 0
  have e1 := HB.out.cell 1
  have e2 := HB.out.cell 2
  have e3 := HB.out.cell 3
  have e4 := HB.out.cell 4
  cases hk : askB n g cs a b
  · have HE := Lib.hid hk
    clear hk
    go_wp2_with fail
    go_ret2
    exact ⟨ret_bool2 (by rw [HR.out, HE.out]; rfl) (by rw [HR.out, HE.out]), HW.out⟩
  · have HE := Lib.hid hk
    have HOK := Lib.hid (ask_ok hk)
    clear hk
    go_wp2_with fail
    refine (HL.out _ (H1.out.below HW.out) (H2.out.below HW.out) HOK.out.2.1 HOK.out.2.2.1 HOK.out.2.2.2.1 HOK.out.2.2.2.2).mono ?_
    rintro e w2 ⟨rfl, hb⟩
    replace HW := Lib.hid (HW.out.trans (hb.mono HW.out.size))
    clear hb e0 e1 e2 e3 e4
    go_wp2_with fail
    go_ret2
    exact ⟨ret_bool2 (by rw [HR.out, HE.out, Bool.true_and]) (by rw [HR.out, HE.out]), HW.out⟩
end Go.Proofs.Ytgchodielkodeaa
