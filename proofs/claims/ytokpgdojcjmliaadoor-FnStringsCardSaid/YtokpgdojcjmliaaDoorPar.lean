/-
  What is proved: the contracts of spec.l1Read, and plain facts on decimal numerals. Conditions: those of each contract.
-/
import Derived.Test.YtokpgdojcjmliaaDoorVer
import Derived.Deep.DeepCutAuto
import Derived.Lib.AtoiAll
namespace Go.Proofs.YtokpgdojcjmliaaDoor
open Go.RowKit

def isDig (c : UInt8) : Bool := decide (48 ≤ c.toNat) && decide (c.toNat ≤ 57)
def rdStep (n : Int) (c : UInt8) : Int := 10 * n + ((c.toNat : Int) - 48)
/-- the number that digits tell -/
def rd (l : List UInt8) : Int := l.foldl rdStep 0
theorem rd_snoc (l : List UInt8) (c : UInt8) : rd (l ++ [c]) = 10 * rd l + ((c.toNat : Int) - 48) := by simp [rd, rdStep]
theorem snoc_cases {P : List UInt8 → Prop} (h0 : P []) (h1 : ∀ l c, P l → P (l ++ [c])) (l : List UInt8) : P l := by
  suffices h : ∀ k l, l.length = k → P l from h _ l rfl
  intro k
  induction k with
  | zero => intro l hl; rw [List.length_eq_zero_iff.1 hl]; exact h0
  | succ k ih =>
    intro l hl
    rcases List.eq_nil_or_concat l with rfl | ⟨l', c, rfl⟩
    · exact h0
    · rw [List.concat_eq_append] at hl ⊢
      exact h1 l' c (ih l' (by simpa using hl))
theorem rd_bd (l : List UInt8) : (l.all isDig = true) → 0 ≤ rd l ∧ rd l < 10 ^ l.length := by
  refine snoc_cases (P := fun l => l.all isDig = true → 0 ≤ rd l ∧ rd l < 10 ^ l.length) (by simp [rd]) ?_ l
  intro l c ih h
  simp only [List.all_append, List.all_cons, List.all_nil, Bool.and_true, Bool.and_eq_true] at h
  obtain ⟨h1, h2⟩ := ih h.1
  have h3 := h.2
  simp only [isDig, Bool.and_eq_true, decide_eq_true_eq] at h3
  rw [rd_snoc, List.length_append, List.length_singleton, Int.pow_succ]
  omega
theorem dec_digits (u : Nat) : (Lib.decDigits u).all isDig = true ∧ rd (Lib.decDigits u) = u := by
  induction u using Nat.strongRecOn with
  | _ u ih =>
    by_cases h : u < 10
    · rw [Lib.decDigits, dif_pos h]
      have e : (UInt8.ofNat (48 + u)).toNat = 48 + u := by simp; omega
      simp only [List.all_cons, List.all_nil, Bool.and_true, isDig, e, rd, List.foldl_cons, List.foldl_nil, rdStep]
      refine ⟨by simp; omega, by omega⟩
    · rw [Lib.decDigits, dif_neg h]
      obtain ⟨h1, h2⟩ := ih (u / 10) (by omega)
      have e : (UInt8.ofNat (48 + u % 10)).toNat = 48 + u % 10 := by simp; omega
      refine ⟨?_, ?_⟩
      · rw [List.all_append, h1]
        simp only [List.all_cons, List.all_nil, Bool.and_true, isDig, e, Bool.true_and]
        simp; omega
      · rw [rd_snoc, h2, e]; omega
theorem dec_len6 (u : Nat) (h : u ≤ 999999) : 1 ≤ (Lib.decDigits u).length ∧ (Lib.decDigits u).length ≤ 6 := by
  rw [Lib.decDigits_length]
  refine ⟨Lib.nDigits_pos u, ?_⟩
  by_cases h7 : Lib.nDigits u ≤ 6
  · exact h7
  · exfalso
    have hlow : ∀ k u, Lib.nDigits u = k + 1 → 10 ^ k ≤ u ∨ k = 0 := by
      intro k
      induction k with
      | zero => intro u _; exact .inr rfl
      | succ k ih =>
        intro u hu
        by_cases h : u < 10
        · rw [Lib.nDigits_small h] at hu; omega
        · rw [Lib.nDigits_big h] at hu
          rcases ih (u / 10) (by omega) with h2 | h2
          · left; rw [Nat.pow_succ]; omega
          · subst h2; left; omega
    rcases hlow (Lib.nDigits u - 1) u (by omega) with h2 | h2
    · have h3 : 10 ^ 6 ≤ 10 ^ (Lib.nDigits u - 1) := Nat.pow_le_pow_right (by omega) (by omega)
      omega
    · omega
theorem pu_snoc (c : UInt8) (hc : isDig c = true) : ∀ (l : List UInt8) (acc v : Nat), Lib.parseUint10 acc l = .ok v → v < 1844674407370955162 → v * 10 + (c.toNat - 48) < 18446744073709551616 → Lib.parseUint10 acc (l ++ [c]) = .ok (v * 10 + (c.toNat - 48)) := by
  simp only [isDig, Bool.and_eq_true, decide_eq_true_eq] at hc
  intro l
  induction l with
  | nil =>
    intro acc v h h1 h2
    simp only [Lib.parseUint10] at h
    injection h with h
    subst h
    simp only [List.nil_append, Lib.parseUint10]
    rw [if_pos hc, if_neg (by omega), if_neg (by omega)]
  | cons b l ih =>
    intro acc v h h1 h2
    simp only [List.cons_append, Lib.parseUint10] at h ⊢
    by_cases c1 : 48 ≤ b.toNat ∧ b.toNat ≤ 57
    · rw [if_pos c1] at h ⊢
      by_cases c2 : 1844674407370955162 ≤ acc
      · rw [if_pos c2] at h; cases h
      · rw [if_neg c2] at h ⊢
        by_cases c3 : 18446744073709551616 ≤ acc * 10 + (b.toNat - 48)
        · rw [if_pos c3] at h; cases h
        · rw [if_neg c3] at h ⊢
          exact ih _ _ h h1 h2
    · rw [if_neg c1] at h; cases h
theorem pu_dec (u : Nat) : u < 1000000000000000000 → Lib.parseUint10 0 (Lib.decDigits u) = .ok u := by
  induction u using Nat.strongRecOn with
  | _ u ih =>
    intro hu
    by_cases h : u < 10
    · rw [Lib.decDigits, dif_pos h]
      have e : (UInt8.ofNat (48 + u)).toNat = 48 + u := by simp; omega
      have := pu_snoc (UInt8.ofNat (48 + u)) (by simp only [isDig, e]; simp; omega) [] 0 0 rfl (by omega) (by rw [e]; omega)
      rw [List.nil_append] at this
      rw [this, e]; congr 1; omega
    · rw [Lib.decDigits, dif_neg h]
      have e : (UInt8.ofNat (48 + u % 10)).toNat = 48 + u % 10 := by simp; omega
      rw [pu_snoc _ (by simp only [isDig, e]; simp; omega) _ _ _ (ih (u / 10) (by omega) (by omega)) (by omega) (by rw [e]; omega), e]
      congr 1; omega
theorem dec_cons (u : Nat) : ∃ c r, Lib.decDigits u = c :: r ∧ isDig c = true := by
  have h := (dec_digits u).1
  have hp := Lib.nDigits_pos u
  rw [← Lib.decDigits_length] at hp
  cases hd : Lib.decDigits u with
  | nil => rw [hd] at hp; simp at hp
  | cons c r => rw [hd] at h; exact ⟨c, r, rfl, by simp only [List.all_cons, Bool.and_eq_true] at h; exact h.1⟩
theorem mag_dec (u : Nat) (h : u < 1000000000000000000) : Lib.parseMag (Lib.decDigits u) = .ok u := by
  obtain ⟨c, r, hd, _⟩ := dec_cons u
  unfold Lib.parseMag
  rw [if_neg (by rw [hd]; simp), pu_dec u h]
theorem atoi_itoa (n : Int) (h0 : -999999 ≤ n) (h1 : n ≤ 999999) : Lib.atoiAll (Lib.itoa n) = .ok n := by
  unfold Lib.itoa
  by_cases h : n < 0
  · rw [if_pos h]
    unfold Lib.atoiAll
    simp only [show ((45 : UInt8).toNat = 43 ∨ (45 : UInt8).toNat = 45) from .inr rfl, if_true]
    rw [mag_dec n.natAbs (by omega)]
    simp only [show (45 : UInt8).toNat = 45 from rfl, not_true_eq_false, false_and, if_false, true_and, if_true]
    rw [if_neg (by omega)]
    congr 1; omega
  · rw [if_neg h]
    obtain ⟨c, r, hd, hc⟩ := dec_cons n.toNat
    have hm := mag_dec n.toNat (by omega)
    simp only [isDig, Bool.and_eq_true, decide_eq_true_eq] at hc
    rw [hd] at hm ⊢
    unfold Lib.atoiAll
    have e1 : ¬ (c.toNat = 43 ∨ c.toNat = 45) := by omega
    have e2 : ¬ c.toNat = 45 := by omega
    simp only [e1, if_false]
    rw [hm]
    simp only [e2, not_false_eq_true, true_and, if_false, false_and]
    rw [if_neg (by omega)]
    congr 1; omega

/-- t is s without its sign -/
def Pre (s t : ByteArray) (b : Bool) : Prop :=
  (∃ h : 1 < s.size, b = true ∧ ((s[0].toNat : Int) == 45) = true ∧ s.extract 1 s.size = t) ∨ (b = false ∧ t = s ∧ s.size ≤ 1) ∨ (b = false ∧ t = s ∧ ∃ h : 1 < s.size, ((s[0].toNat : Int) == 45) = false)
theorem Pre.neg {s t : ByteArray} (h : Pre s t true) : 1 < s.size ∧ s.extract 1 s.size = t := by
  rcases h with ⟨h1, _, _, h3⟩ | ⟨h1, _⟩ | ⟨h1, _⟩
  · exact ⟨h1, h3⟩
  · cases h1
  · cases h1
theorem Pre.pos {s t : ByteArray} (h : Pre s t false) : t = s := by
  rcases h with ⟨_, h1, _⟩ | ⟨_, h1, _⟩ | ⟨_, h1, _⟩
  · cases h1
  · exact h1
  · exact h1
set_option maxHeartbeats 400000 in
theorem read_size (s t : ByteArray) (b : Bool) (w : World) (hs : s.size ≤ 1048576) (ht : t.size ≤ 1048576) (hpre : Pre s t b) (hz : t.size < 1 ∨ 6 < t.size) :
    Calls Tryd.prog 29 #[.string s] w fun e w' => e = .returned (.tuple #[.int .i64 0, .bool false]) ∧ ∃ m, w' = w.drewN m := by
  have HP := Lib.hid hpre
  have HZ := Lib.hid hz
  clear hpre hz
  go_enter Tryd.func29, Tryd.ntmps29
  go_upto_region 2 with (fail)
  go_cut [15] (fun v wx => v = .bool b ∧ w = wx)
  case first =>
    rcases HP.out with ⟨h1, rfl, h2, h3⟩ | ⟨rfl, h1, h2⟩ | ⟨rfl, h1, h2, h3⟩
    · clear h3
      go_wp2
      go_meet
      exact ⟨rfl, rfl⟩
    · clear h1
      go_wp2
      go_meet
      exact ⟨rfl, rfl⟩
    · clear h1
      go_wp2
      go_meet
      exact ⟨rfl, rfl⟩
  case rest =>
    obtain ⟨rfl, rfl⟩ := hcut
    go_upto_if 15 with (fail)
    go_cut [4] (fun v wx => v = .string t ∧ w = wx)
    case first =>
      cases b
      · obtain rfl := HP.out.pos
        go_wp2
        go_meet
        exact ⟨rfl, rfl⟩
      · obtain ⟨h1, h2⟩ := HP.out.neg
        go_wp2
        go_meet
        exact ⟨rfl, rfl⟩
    case rest =>
      obtain ⟨rfl, rfl⟩ := hcut
      rcases HZ.out with h | h
      · go_wp2
        go_ret2
        exact ⟨rfl, 0, rfl⟩
      · have h1 : 1 ≤ t.size := by omega
        have hd : decide ((t.size : Int) ≤ 6) = false := decide_eq_false (by omega)
        go_wp2
        go_ret2
        exact ⟨rfl, 0, rfl⟩

theorem in_yes (x a b : Int) (w : World) (h1 : a ≤ x) (h2 : x ≤ b) :
    Calls Tryd.prog 24 #[.int .i64 x, .int .i64 a, .int .i64 b] w fun e w' => e = .returned (.bool true) ∧ w = w' := by
  go_enter Tryd.func24, Tryd.ntmps24
  go_wp2
  go_ret
  exact ⟨by simp, rfl⟩
theorem same_str {a b : ByteArray} (h : a = b) : (a.toList == b.toList) = true := by rw [h]; simp
def RdRel (t : ByteArray) (n i : Value) : Prop := ∃ k : Nat, k ≤ t.size ∧ i = .int .i64 k ∧ n = .int .i64 (rd (t.data.toList.take k)) ∧ (t.data.toList.take k).all isDig = true
theorem rd_small (l : List UInt8) (h : l.all isDig = true) (h6 : l.length ≤ 6) : 0 ≤ rd l ∧ rd l ≤ 999999 := by
  have hb := rd_bd l h
  have hc : l.length = 0 ∨ l.length = 1 ∨ l.length = 2 ∨ l.length = 3 ∨ l.length = 4 ∨ l.length = 5 ∨ l.length = 6 := by omega
  rcases hc with e | e | e | e | e | e | e <;> (rw [e] at hb; omega)
theorem rd_take (t : ByteArray) (k : Nat) (h : k < t.size) : rd (t.data.toList.take (k + 1)) = 10 * rd (t.data.toList.take k) + ((t[k].toNat : Int) - 48) := by
  rw [take_snoc t k h, rd_snoc]
theorem dig_take (t : ByteArray) (k : Nat) (h : k < t.size) (ha : (t.data.toList.take k).all isDig = true) (hc : isDig t[k] = true) : (t.data.toList.take (k + 1)).all isDig = true := by
  rw [take_snoc t k h, List.all_append, ha]
  simp [hc]
theorem dig_at (t : ByteArray) (k : Nat) (h : k < t.size) (ha : t.data.toList.all isDig = true) : 48 ≤ t[k].toNat ∧ t[k].toNat ≤ 57 := by
  have hm : t[k] ∈ t.data.toList := by
    rw [List.mem_iff_getElem]
    exact ⟨k, by simpa using h, rfl⟩
  have := List.all_eq_true.1 ha _ hm
  simpa only [isDig, Bool.and_eq_true, decide_eq_true_eq] using this
set_option maxHeartbeats 800000 in
theorem read_bad (s t : ByteArray) (b : Bool) (w : World) (hs : s.size ≤ 1048576) (hpre : Pre s t b) (hz1 : 1 ≤ t.size) (hz6 : t.size ≤ 6) (hbad : t.data.toList.all isDig = false) :
    Calls Tryd.prog 29 #[.string s] w fun e w' => e = .returned (.tuple #[.int .i64 0, .bool false]) ∧ ∃ m, w' = w.drewN m := by
  have HP := Lib.hid hpre
  clear hpre
  go_enter Tryd.func29, Tryd.ntmps29
  go_upto_region 2 with (fail)
  go_cut [15] (fun v wx => v = .bool b ∧ w = wx)
  case first =>
    rcases HP.out with ⟨h1, rfl, h2, h3⟩ | ⟨rfl, h1, h2⟩ | ⟨rfl, h1, h2, h3⟩
    · clear h3
      go_wp2
      go_meet
      exact ⟨rfl, rfl⟩
    · clear h1
      go_wp2
      go_meet
      exact ⟨rfl, rfl⟩
    · clear h1
      go_wp2
      go_meet
      exact ⟨rfl, rfl⟩
  case rest =>
    obtain ⟨rfl, rfl⟩ := hcut
    go_upto_if 15 with (fail)
    go_cut [4] (fun v wx => v = .string t ∧ w = wx)
    case first =>
      cases b
      · obtain rfl := HP.out.pos
        go_wp2
        go_meet
        exact ⟨rfl, rfl⟩
      · obtain ⟨h1, h2⟩ := HP.out.neg
        go_wp2
        go_meet
        exact ⟨rfl, rfl⟩
    case rest =>
      obtain ⟨rfl, rfl⟩ := hcut
      have hin := Lib.hid (fun w => in_yes t.size 1 6 w (by omega) (by omega))
      go_wp2_with (go_at_call 24; refine (hin.out _).mono ?_; rintro e w' ⟨rfl, rfl⟩)
      go_loop [2, 3, 5, 6] (fun x y n i => x = .int .i64 0 ∧ y = .bool false ∧ RdRel t n i) (fun _ _ _ i => t.size - (intOf i).toNat)
      case atStart => exact ⟨rfl, rfl, 0, Nat.zero_le _, rfl, rfl, rfl⟩
      case round =>
        obtain ⟨rfl, rfl, k, hk, rfl, rfl, hall⟩ := hrel
        obtain ⟨hr0, hr1⟩ := rd_small _ hall (by simp; omega)
        by_cases hlt : k < t.size
        · have hb := t[k].toNat_lt
          have HS := Lib.hid (rd_take t k hlt)
          have HA := Lib.hid (dig_take t k hlt hall)
          have Hall := Lib.hid hall
          clear hall
          by_cases c1 : t[k].toNat < 48
          · go_wp2
            go_ret2
            exact ⟨rfl, 0, rfl⟩
          · by_cases c2 : 57 < t[k].toNat
            · go_wp2
              go_ret2
              exact ⟨rfl, 0, rfl⟩
            · have c1' : 48 ≤ t[k].toNat := by omega
              have c2' : t[k].toNat ≤ 57 := by omega
              go_wp2
              go_round
              case rel => exact ⟨rfl, rfl, k + 1, by omega, by go_num, by rw [HS.out], HA.out (by simp only [isDig, Bool.and_eq_true, decide_eq_true_eq]; omega)⟩
              case measure => simp [intOf]; omega
        · have e : t.data.toList.take k = t.data.toList := List.take_of_length_le (by simp; omega)
          rw [e] at hall hr0 hr1 ⊢
          exact absurd hall (by rw [hbad]; simp)
set_option maxHeartbeats 800000 in
theorem read_other (s t : ByteArray) (b : Bool) (w : World) (hs : s.size ≤ 1048576) (hpre : Pre s t b) (hz1 : 1 ≤ t.size) (hz6 : t.size ≤ 6) (hgood : t.data.toList.all isDig = true) (hv : (⟨(Lib.itoa (if b then -(rd t.data.toList) else rd t.data.toList)).toArray⟩ : ByteArray) ≠ s) :
    Calls Tryd.prog 29 #[.string s] w fun e w' => e = .returned (.tuple #[.int .i64 0, .bool false]) ∧ ∃ m, w' = w.drewN m := by
  have HV := Lib.hid hv
  clear hv
  have HP := Lib.hid hpre
  clear hpre
  go_enter Tryd.func29, Tryd.ntmps29
  go_upto_region 2 with (fail)
  go_cut [15] (fun v wx => v = .bool b ∧ w = wx)
  case first =>
    rcases HP.out with ⟨h1, rfl, h2, h3⟩ | ⟨rfl, h1, h2⟩ | ⟨rfl, h1, h2, h3⟩
    · clear h3
      go_wp2
      go_meet
      exact ⟨rfl, rfl⟩
    · clear h1
      go_wp2
      go_meet
      exact ⟨rfl, rfl⟩
    · clear h1
      go_wp2
      go_meet
      exact ⟨rfl, rfl⟩
  case rest =>
    obtain ⟨rfl, rfl⟩ := hcut
    go_upto_if 15 with (fail)
    go_cut [4] (fun v wx => v = .string t ∧ w = wx)
    case first =>
      cases b
      · obtain rfl := HP.out.pos
        go_wp2
        go_meet
        exact ⟨rfl, rfl⟩
      · obtain ⟨h1, h2⟩ := HP.out.neg
        go_wp2
        go_meet
        exact ⟨rfl, rfl⟩
    case rest =>
      obtain ⟨rfl, rfl⟩ := hcut
      have hin := Lib.hid (fun w => in_yes t.size 1 6 w (by omega) (by omega))
      go_wp2_with (go_at_call 24; refine (hin.out _).mono ?_; rintro e w' ⟨rfl, rfl⟩)
      go_loop [2, 3, 5, 6] (fun x y n i => x = .int .i64 0 ∧ y = .bool false ∧ RdRel t n i) (fun _ _ _ i => t.size - (intOf i).toNat)
      case atStart => exact ⟨rfl, rfl, 0, Nat.zero_le _, rfl, rfl, rfl⟩
      case round =>
        obtain ⟨rfl, rfl, k, hk, rfl, rfl, hall⟩ := hrel
        obtain ⟨hr0, hr1⟩ := rd_small _ hall (by simp; omega)
        by_cases hlt : k < t.size
        · have hb := t[k].toNat_lt
          have HS := Lib.hid (rd_take t k hlt)
          have HA := Lib.hid (dig_take t k hlt hall)
          have Hall := Lib.hid hall
          clear hall
          by_cases c1 : t[k].toNat < 48
          · exact absurd (dig_at t k hlt hgood) (by omega)
          · by_cases c2 : 57 < t[k].toNat
            · exact absurd (dig_at t k hlt hgood) (by omega)
            · have c1' : 48 ≤ t[k].toNat := by omega
              have c2' : t[k].toNat ≤ 57 := by omega
              go_wp2
              go_round
              case rel => exact ⟨rfl, rfl, k + 1, by omega, by go_num, by rw [HS.out], HA.out (by simp only [isDig, Bool.and_eq_true, decide_eq_true_eq]; omega)⟩
              case measure => simp [intOf]; omega
        · have e : t.data.toList.take k = t.data.toList := List.take_of_length_le (by simp; omega)
          rw [e] at hall hr0 hr1 ⊢
          clear hall e
          have HN0 := fun w => num_any (rd t.data.toList) w (by omega) (by omega)
          have HM0 := fun w => num_any (-(rd t.data.toList)) w (by omega) (by omega)
          cases b
          · obtain rfl := HP.out.pos
            have hcmp := ne_str (by simpa using HV.out)
            generalize (⟨(Lib.itoa (rd t.data.toList)).toArray⟩ : ByteArray) = d at HN0 hcmp
            have HN := Lib.hid HN0
            clear HN0 HM0
            go_wp2_with (go_at_call 25; refine (HN.out _).mono ?_; rintro e w' ⟨rfl, m, rfl⟩)
            go_ret2
            exact ⟨rfl, m, rfl⟩
          · obtain ⟨h1, h2⟩ := HP.out.neg
            have h3 : t.size < s.size := by rw [← h2, ByteArray.size_extract]; omega
            have hcmp := ne_str (by simpa using HV.out)
            generalize (⟨(Lib.itoa (-(rd t.data.toList))).toArray⟩ : ByteArray) = d at HM0 hcmp
            have HM := Lib.hid HM0
            clear HN0 HM0
            go_wp2_with (go_at_call 25; refine (HM.out _).mono ?_; rintro e w' ⟨rfl, m, rfl⟩)
            go_ret2
            exact ⟨rfl, m, rfl⟩
set_option maxHeartbeats 800000 in
theorem read_yes (s t : ByteArray) (b : Bool) (w : World) (hs : s.size ≤ 1048576) (hpre : Pre s t b) (hz1 : 1 ≤ t.size) (hz6 : t.size ≤ 6) (hgood : t.data.toList.all isDig = true) (hv : (⟨(Lib.itoa (if b then -(rd t.data.toList) else rd t.data.toList)).toArray⟩ : ByteArray) = s) :
    Calls Tryd.prog 29 #[.string s] w fun e w' => e = .returned (.tuple #[.int .i64 (if b then -(rd t.data.toList) else rd t.data.toList), .bool true]) ∧ ∃ m, w' = w.drewN m := by
  have HV := Lib.hid hv
  clear hv
  have HP := Lib.hid hpre
  clear hpre
  go_enter Tryd.func29, Tryd.ntmps29
  go_upto_region 2 with (fail)
  go_cut [15] (fun v wx => v = .bool b ∧ w = wx)
  case first =>
    rcases HP.out with ⟨h1, rfl, h2, h3⟩ | ⟨rfl, h1, h2⟩ | ⟨rfl, h1, h2, h3⟩
    · clear h3
      go_wp2
      go_meet
      exact ⟨rfl, rfl⟩
    · clear h1
      go_wp2
      go_meet
      exact ⟨rfl, rfl⟩
    · clear h1
      go_wp2
      go_meet
      exact ⟨rfl, rfl⟩
  case rest =>
    obtain ⟨rfl, rfl⟩ := hcut
    go_upto_if 15 with (fail)
    go_cut [4] (fun v wx => v = .string t ∧ w = wx)
    case first =>
      cases b
      · obtain rfl := HP.out.pos
        go_wp2
        go_meet
        exact ⟨rfl, rfl⟩
      · obtain ⟨h1, h2⟩ := HP.out.neg
        go_wp2
        go_meet
        exact ⟨rfl, rfl⟩
    case rest =>
      obtain ⟨rfl, rfl⟩ := hcut
      have hin := Lib.hid (fun w => in_yes t.size 1 6 w (by omega) (by omega))
      go_wp2_with (go_at_call 24; refine (hin.out _).mono ?_; rintro e w' ⟨rfl, rfl⟩)
      go_loop [2, 3, 5, 6] (fun x y n i => x = .int .i64 0 ∧ y = .bool false ∧ RdRel t n i) (fun _ _ _ i => t.size - (intOf i).toNat)
      case atStart => exact ⟨rfl, rfl, 0, Nat.zero_le _, rfl, rfl, rfl⟩
      case round =>
        obtain ⟨rfl, rfl, k, hk, rfl, rfl, hall⟩ := hrel
        obtain ⟨hr0, hr1⟩ := rd_small _ hall (by simp; omega)
        by_cases hlt : k < t.size
        · have hb := t[k].toNat_lt
          have HS := Lib.hid (rd_take t k hlt)
          have HA := Lib.hid (dig_take t k hlt hall)
          have Hall := Lib.hid hall
          clear hall
          by_cases c1 : t[k].toNat < 48
          · exact absurd (dig_at t k hlt hgood) (by omega)
          · by_cases c2 : 57 < t[k].toNat
            · exact absurd (dig_at t k hlt hgood) (by omega)
            · have c1' : 48 ≤ t[k].toNat := by omega
              have c2' : t[k].toNat ≤ 57 := by omega
              go_wp2
              go_round
              case rel => exact ⟨rfl, rfl, k + 1, by omega, by go_num, by rw [HS.out], HA.out (by simp only [isDig, Bool.and_eq_true, decide_eq_true_eq]; omega)⟩
              case measure => simp [intOf]; omega
        · have e : t.data.toList.take k = t.data.toList := List.take_of_length_le (by simp; omega)
          rw [e] at hall hr0 hr1 ⊢
          clear hall e
          have HN0 := fun w => num_any (rd t.data.toList) w (by omega) (by omega)
          have HM0 := fun w => num_any (-(rd t.data.toList)) w (by omega) (by omega)
          cases b
          · obtain rfl := HP.out.pos
            have hcmp := same_str (by simpa using HV.out)
            generalize (⟨(Lib.itoa (rd t.data.toList)).toArray⟩ : ByteArray) = d at HN0 hcmp
            have HN := Lib.hid HN0
            clear HN0 HM0
            go_wp2_with (go_at_call 25; refine (HN.out _).mono ?_; rintro e w' ⟨rfl, m, rfl⟩)
            go_ret2
            exact ⟨ret_int2 (by simp), m, rfl⟩
          · obtain ⟨h1, h2⟩ := HP.out.neg
            have h3 : t.size < s.size := by rw [← h2, ByteArray.size_extract]; omega
            have hcmp := same_str (by simpa using HV.out)
            generalize (⟨(Lib.itoa (-(rd t.data.toList))).toArray⟩ : ByteArray) = d at HM0 hcmp
            have HM := Lib.hid HM0
            clear HN0 HM0
            go_wp2_with (go_at_call 25; refine (HM.out _).mono ?_; rintro e w' ⟨rfl, m, rfl⟩)
            go_ret2
            exact ⟨ret_int2 (by simp), m, rfl⟩
end Go.Proofs.YtokpgdojcjmliaaDoor
