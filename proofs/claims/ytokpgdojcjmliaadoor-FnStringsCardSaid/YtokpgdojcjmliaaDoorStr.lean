/-
  What is proved: at every code, the texts of whole numbers and the sealed texts keep the law FnStrings. Conditions: the variables that the functions read; a code that reads as bytes.
-/
import Derived.Test.YtokpgdojcjmliaaDoorTwo
import Derived.Test.YtokpgdojcjmliaaDoorDrw
import Derived.StillTailTactics
import Derived.Lib.ConvBytes
import Derived.Lib.AtoiErrMem
import Derived.Laws.BitsAllLaws
namespace Go.Proofs.YtokpgdojcjmliaaDoor
open Go.RowKit

theorem same_s (z : ByteArray) : (z.toList == z.toList) = true := by simp
theorem below_step {w w1 w2 : World} (h : Below w.heap.size w w1) (h2 : Below w1.heap.size w1 w2) : Below w.heap.size w w2 := h.trans (h2.mono h.size)
/-- the cells of block g are the bytes l, and can be written -/
def BytesIn (w : World) (g : Nat) (l : List UInt8) : Prop := ∀ (j : Nat) (hj : j < l.length), w.cell? ⟨g, j, none⟩ = some (.int .u8 (l[j].toNat : Int)) ∧ w.frozen? ⟨g, j, none⟩ = false
theorem conv_new (y : ByteArray) (w : World) : ∃ (wb : World) (cap g : Nat), (convert 9 22 (.string y)).run Tryd.prog w = .ok (.slice (some ⟨g, 0, none⟩) y.size cap) wb ∧ Below w.heap.size w wb ∧ w.heap.size ≤ g ∧ BytesIn wb g y.data.toList := by
  refine ⟨_, _, _, Lib.run_convert_string_bytes w 9 22 5 y Tryd.underlying9 Tryd.underlying22 Tryd.underlying5, Lib.bytesWorld_below w 5 y, Nat.le_refl _, fun j hj => ?_⟩
  have hjs : j < y.size := by simpa using hj
  refine ⟨?_, ?_⟩
  · rw [Lib.bytesWorld_cell w 5 y j hjs]
    simp [List.getD, List.getElem?_eq_getElem hj]
  · have hsz : y.size ≤ (Lib.bytesCells w 5 y).size := by
      unfold Lib.bytesCells
      rw [Array.size_append, Array.size_map]
      show y.data.size ≤ _
      omega
    unfold World.frozen?
    rw [Lib.bytesWorld_at_new]
    simp
    omega
theorem bytes_set {w : World} {g : Nat} {l : List UInt8} (h : BytesIn w g l) (k : Nat) (c : UInt8) (hk : k < l.length) : BytesIn (w.setCell ⟨g, k, none⟩ (.int .u8 (c.toNat : Int))) g (l.set k c) := by
  intro j hj
  have hj' : j < l.length := by simpa using hj
  refine ⟨?_, ?_⟩
  · by_cases e : j = k
    · subst e
      rw [World.cell?_setCell_same _ _ _ (h j hj').1]
      simp
    · rw [World.cell?_setCell_other _ _ _ _ (fun e2 => by cases e2; omega), (h j hj').1]
      simp [List.getElem_set_ne (fun x => e x.symm)]
  · rw [World.frozen?_setCell]
    exact (h j hj').2
theorem conv_back {w : World} {g cap : Nat} {l : List UInt8} (h : BytesIn w g l) (n : Nat) (hn : l.length = n) : (convert 22 9 (.slice (some ⟨g, 0, none⟩) n cap)).run Tryd.prog w = .ok (.string ⟨l.toArray⟩) w := by
  subst hn
  refine run_convert_bytes_back (P := Tryd.prog) w 22 9 5 ⟨g, 0, none⟩ cap l Tryd.underlying22 Tryd.underlying5 Tryd.underlying9 (fun j hj => ?_)
  have ha : (⟨g, 0, none⟩ : Addr).add j = ⟨g, j, none⟩ := by
    unfold Addr.add
    by_cases h : j = 0 <;> simp [h]
  rw [ha, (h j hj).1]
theorem sealOf_two (x : ByteArray) : 2 ≤ (sealOf x).size := by
  have hb := ck_bd x.data.toList
  rw [sealOf_size, itoa_pos _ hb.1]
  have h := (dec_len6 (ck x.data.toList).toNat (by omega)).1
  have e : (⟨(Lib.decDigits (ck x.data.toList).toNat).toArray⟩ : ByteArray).size = (Lib.decDigits (ck x.data.toList).toNat).length := by
    show (Lib.decDigits (ck x.data.toList).toNat).toArray.size = _
    simp
  omega
theorem rem_nat (r : Int) (n : Nat) (hn : 0 < n) : ∃ k : Nat, r % (n : Int) = k ∧ k < n := by
  have h1 := Int.emod_nonneg r (b := (n : Int)) (by omega)
  have h2 := Int.emod_lt_of_pos r (b := (n : Int)) (by omega)
  exact ⟨(r % (n : Int)).toNat, by omega, by omega⟩
theorem flip_byte (bz q : Nat) (hb : bz < 2 ^ 8) (hq : q ≤ 254) : ∃ c : UInt8, bits .xor .u8 (bz : Int) (1 + (q : Int)) = (c.toNat : Int) ∧ c.toNat ≠ bz := by
  have h := u8_xor_nat bz (1 + q) (by omega) (by omega)
  have hx : bz ^^^ (1 + q) < 2 ^ 8 := Nat.xor_lt_two_pow hb (by omega)
  refine ⟨UInt8.ofNat (bz ^^^ (1 + q)), ?_, ?_⟩
  · rw [show (1 : Int) + (q : Int) = ((1 + q : Nat) : Int) by omega, h, UInt8.toNat_ofNat', Nat.mod_eq_of_lt hx]
  · rw [UInt8.toNat_ofNat', Nat.mod_eq_of_lt hx]
    intro e
    have e2 : bz ^^^ (bz ^^^ (1 + q)) = bz ^^^ bz := congrArg (fun v => bz ^^^ v) e
    rw [← Nat.xor_assoc, Nat.xor_self, Nat.zero_xor] at e2
    omega
set_option maxHeartbeats 3200000 in
set_option maxRecDepth 20000 in
theorem strings_small (v : Value) (w : World) (hv : CodeOK w v) (hg : Gd w) (hn : ∀ a k c, v = .slice a k c → k ≤ 65536) :
    Calls Tryd.prog 3 #[v] w fun e w' => e = .returned (.bool true) ∧ Below w.heap.size w w' := by
  have HV := Lib.hid hv
  have HG := Lib.hid hg
  obtain ⟨a, k, c, rfl, _, _⟩ := hv
  have hk := hn a k c rfl
  clear hn hg
  go_enter Tryd.func3, Tryd.ntmps3
  go_wp2_with fail
  refine (vBig_no a k c w hk).mono ?_
  rintro e w0 ⟨rfl, rfl⟩
  clear hk
  go_wp2_with fail
  refine (drawFmt_any _ w HV.out).mono ?_
  rintro e w1 ⟨n, rfl, hb⟩
  have HV1 := Lib.hid (HV.out.below hb)
  have HG1 := Lib.hid (HG.out.below hb)
  have HB1 := Lib.hid hb
  obtain ⟨s, b1, pm, pb, f1, f2, f3, f4⟩ := fmt_both n
  have F1 := Lib.hid f1
  have F2 := Lib.hid f2
  have F3 := Lib.hid f3
  have F4 := Lib.hid f4
  clear hb f1 f2 f3 f4
  go_wp2_with fail
  refine Calls.mono (F1.out _ HG1.out) ?_
  rintro e w2 ⟨rfl, hb⟩
  have HV2 := Lib.hid (HV1.out.below hb)
  have HG2 := Lib.hid (HG1.out.below hb)
  have HB2 := Lib.hid (below_step HB1.out hb)
  clear hb
  go_wp2_with fail
  refine Calls.mono (F2.out _) ?_
  rintro e w3 ⟨rfl, hb⟩
  have HV3 := Lib.hid (HV2.out.below hb)
  have HG3 := Lib.hid (HG2.out.below hb)
  have HB3 := Lib.hid (below_step HB2.out hb)
  clear hb
  go_wp2_with fail
  refine (drawPrs_any _ _ HV3.out).mono ?_
  rintro e w4 ⟨t, rfl, ht, hb⟩
  have HV4 := Lib.hid (HV3.out.below hb)
  have HG4 := Lib.hid (HG3.out.below hb)
  have HB4 := Lib.hid (below_step HB3.out hb)
  obtain ⟨m2, b2, p1, p2⟩ := prs_both t ht
  have P1 := Lib.hid p1
  have P2 := Lib.hid p2
  clear hb p1 p2 ht
  go_wp2_with fail
  refine Calls.mono (P1.out _ HG4.out) ?_
  rintro e w5 ⟨rfl, hb⟩
  have HV5 := Lib.hid (HV4.out.below hb)
  have HG5 := Lib.hid (HG4.out.below hb)
  have HB5 := Lib.hid (below_step HB4.out hb)
  clear hb
  go_wp2_with fail
  refine Calls.mono (P2.out _) ?_
  rintro e w6 ⟨rfl, hb⟩
  have HV6 := Lib.hid (HV5.out.below hb)
  have HG6 := Lib.hid (HG5.out.below hb)
  have HB6 := Lib.hid (below_step HB5.out hb)
  clear hb
  go_wp2_with fail
  refine (drawApp_any _ _ HV6.out).mono ?_
  rintro e w7 ⟨x, rfl, hx, hb⟩
  have HV7 := Lib.hid (HV6.out.below hb)
  have HG7 := Lib.hid (HG6.out.below hb)
  have HB7 := Lib.hid (below_step HB6.out hb)
  obtain ⟨y, b3, s1, s2, s3⟩ := seal_both x hx
  have S1 := Lib.hid s1
  have S2 := Lib.hid s2
  have S3 := Lib.hid s3
  have HX := Lib.hid hx
  clear hb s1 s2 s3 hx
  go_wp2_with fail
  refine Calls.mono (S1.out _ HG7.out) ?_
  rintro e w8 ⟨rfl, hb⟩
  have HV8 := Lib.hid (HV7.out.below hb)
  have HG8 := Lib.hid (HG7.out.below hb)
  have HB8 := Lib.hid (below_step HB7.out hb)
  clear hb
  go_wp2_with fail
  refine Calls.mono (S2.out _) ?_
  rintro e w9 ⟨rfl, hb⟩
  have HV9 := Lib.hid (HV8.out.below hb)
  have HG9 := Lib.hid (HG8.out.below hb)
  have HB9 := Lib.hid (below_step HB8.out hb)
  clear hb
  have hs1 := same_s s
  have hs2 := same_s y
  clear HV HV1 HV2 HV3 HV4 HV5 HV6 HV7 HV8 HG HG1 HG2 HG3 HG4 HG5 HG6 HG7 HG8 HB1 HB2 HB3 HB4 HB5 HB6 HB7 HB8 F1 F2 P1 P2 S1 S2
  go_wp2_with fail
  refine Calls.mono (F3.out _ HG9.out) ?_
  rintro e w10 ⟨rfl, hb⟩
  have HV := Lib.hid (HV9.out.below hb)
  have HG := Lib.hid (HG9.out.below hb)
  have HB := Lib.hid (below_step HB9.out hb)
  clear hb HV9 HG9 HB9 F3
  obtain ⟨r9, h90, h91, B9⟩ := vAt_any _ 9 w10 HV.out (by omega)
  rcases F4.out with ⟨rfl, rfl, rfl⟩ | rfl
  all_goals
    rcases S3.out with ⟨rfl, rfl⟩ | ⟨rfl, hy, hh, hz⟩
    · go_wp2_with fail
      go_ret
      exact ⟨rfl, HB.out⟩
    · have H18 := Lib.hid (ver_ok x y hy hh HX.out hz)
      have HZ := Lib.hid hz
      have HH := Lib.hid hh
      have HY := Lib.hid hy
      clear hy hh hz
      go_wp2_with fail
      refine Calls.mono (H18.out _ HG.out) ?_
      rintro e w11 ⟨rfl, hb⟩
      have HV2 := Lib.hid (HV.out.below hb)
      have HG2 := Lib.hid (HG.out.below hb)
      have HB2 := Lib.hid (below_step HB.out hb)
      obtain ⟨wb, cap, g, hcv, hbb, hgl, hrow⟩ := conv_new y w11
      have HV3 := Lib.hid (HV2.out.below hbb)
      have HG3 := Lib.hid (HG2.out.below hbb)
      have HBN := Lib.hid hbb
      have HR := Lib.hid hrow
      clear hb hbb hrow B9 HV HG HB HV2 HG3
      obtain ⟨r9, h90, h91, B9⟩ := vAt_any _ 9 wb HV3.out (by omega)
      have hsz : 2 ≤ y.size := by rw [HY.out]; exact sealOf_two x
      obtain ⟨kk, hkk, hlt⟩ := rem_nat r9 y.size (by omega)
      have hkt : r9.tmod y.size = (kk : Int) := by rw [Int.tmod_eq_emod_of_nonneg h90, hkk]
      have hye : ¬ y = ByteArray.empty := fun e => by rw [e] at hsz; exact absurd hsz (by decide)
      have hl1 : (kk : Int) < y.size := by omega
      have hl0 : (0 : Int) ≤ kk := by omega
      obtain ⟨bb, hbb0, hcell, hfr⟩ : ∃ bb : UInt8, y.data.toList[kk]? = some bb ∧ wb.cell? ⟨g, kk, none⟩ = some (.int .u8 (bb.toNat : Int)) ∧ wb.frozen? ⟨g, kk, none⟩ = false :=
        ⟨_, List.getElem?_eq_getElem (by simpa using hlt), HR.out kk (by simpa using hlt)⟩
      have HBB := Lib.hid hbb0
      have hbb1 := bb.toNat_lt
      generalize hbz : bb.toNat = bz at *
      have HBZ := Lib.hid hbz
      clear hbb0 hbz
      obtain ⟨r10, h100, h101, B10⟩ := vAt_any (.slice a k c) 10 { wb with drawn := wb.drawn + 1 } HV3.out (by omega)
      obtain ⟨q, hq, hq2⟩ := rem_nat r10 255 (by omega)
      have hq' : r10 % 255 = (q : Int) := hq
      have hqt : r10.tmod 255 = (q : Int) := by rw [Int.tmod_eq_emod_of_nonneg h100]; exact hq
      obtain ⟨cz, hxor, hcz⟩ := flip_byte bz q hbb1 (by omega)
      have HCZ := Lib.hid hcz
      unfold ByteAt at B10
      clear hq hcz
      go_wp2_with fail
      refine Calls.mono B9 ?_
      rintro e w12 ⟨rfl, rfl⟩
      go_wp2_with fail
      go_still_tail 13, (by kernel_rfl)
      still_call B10
      repeat still_step
      refine wpStill_nil ?_
      clear B10 B9
      change wpList _ _ _ _ _ w12.drew
      have hcell2 : w12.drew.cell? ⟨g, kk, none⟩ = some (.int .u8 (bz : Int)) := hcell
      have hfr2 : w12.drew.frozen? ⟨g, kk, none⟩ = false := hfr
      have hrow2 : BytesIn w12.drew g y.data.toList := HR.out
      have hbel2 : Below w11.heap.size w11 w12.drew := ⟨HBN.out.os, HBN.out.tape, HBN.out.output, HBN.out.size, HBN.out.block⟩
      clear hcell hfr HR HBN hcv HV3 F4 S3
      generalize w12.drew = wd at *
      have hlen : y.data.toList.length = y.size := by simp
      have hcv2 := conv_back (cap := cap) (bytes_set hrow2 kk cz (by omega)) y.size (by simp)
      have hbel3 := hbel2.setCell (p := ⟨g, kk, none⟩) hgl (.int .u8 (cz.toNat : Int))
      have HG3 := Lib.hid (HG2.out.below hbel3)
      have HB3 := Lib.hid (below_step HB2.out hbel3)
      have HF : Hid (∀ w, Gd w → Gives 18 (.string (flipAt y kk cz)) (pairS ⟨#[]⟩ false) w) := Lib.hid fun w hg => by
        refine ver_bad _ (by rw [flip_size]; exact HZ.out) (fun t ht => ?_) w hg
        have hyx := HY.out
        subst hyx
        refine flip_bad x kk cz HH.out hlt (fun e => HCZ.out ?_) t ht
        have h1 := HBB.out
        have h2 : bb = (sealOf x)[kk] := by
          rw [List.getElem?_eq_getElem (by simpa using hlt)] at h1
          have h3 := Option.some.inj h1
          rw [← h3]
          show (sealOf x).data.toList[kk] = (sealOf x).data[kk]
          rw [Array.getElem_toList]
        rw [e, ← h2, HBZ.out]
      have hcv3 : (convert 22 9 (.slice (some ⟨g, 0, none⟩) y.size cap)).run Tryd.prog (wd.setCell ⟨g, kk, none⟩ (.int .u8 (cz.toNat : Int))) = .ok (.string (flipAt y kk cz)) (wd.setCell ⟨g, kk, none⟩ (.int .u8 (cz.toNat : Int))) := hcv2
      have hs3 := same_s x
      clear hcv2 hbel2 hbel3 hrow2 HBB HBZ HCZ HY HH HG2 HB2 H18
      generalize flipAt y kk cz = z at *
      go_wp2_with fail
      refine Calls.mono (HF.out _ HG3.out) ?_
      rintro e w14 ⟨rfl, hb⟩
      have HB4 := Lib.hid (below_step HB3.out hb)
      clear hb HB3 HG3
      go_wp2_with fail
      go_ret
      exact ⟨rfl, HB4.out⟩
end Go.Proofs.YtokpgdojcjmliaaDoor
