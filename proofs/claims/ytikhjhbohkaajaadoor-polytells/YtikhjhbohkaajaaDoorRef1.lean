/- What the document's own sum, product, inverse and power of elements answer: those of the field. -/
import Derived.Test.YtikhjhbohkaajaaDoorXor
import Derived.Test.YtikhjhbohkaajaaDoorRefMul
namespace Go.Proofs.YtikhjhbohkaajaaDoor
open Go.ChangeShapes Go.WideShapes Go.ChangeAt Go.RowKit
theorem plus_any (a b : Nat) (ha : a < 256) (hb : b < 256) (w : World) :
    Calls Tryd.prog 6 #[.int .u8 a, .int .u8 b] w fun e w' => e = .returned (.int .u8 ((a ^^^ b : Nat) : Int)) ∧ Qt w w' := by
  have hx := GF.xor_lt ha hb
  go_enter Tryd.func6, Tryd.ntmps6
  go_wp2_with fail
  refine (xor_any a b (by omega) (by omega) _).mono ?_
  rintro e w' ⟨rfl, hk⟩
  go_wp2_with fail
  go_ret
  exact ⟨ret_int (by omega), hk⟩
theorem cl_odd {i n x y : Nat} (hi : i < 8) (h : y % 2 = 1) : GF.cl (8 - (i + 1)) (n ^^^ x) (2 * x) (y / 2) = GF.cl (8 - i) n x y := by
  rw [show 8 - i = 8 - (i + 1) + 1 by omega, GF.cl, h]; rfl
theorem cl_even {i n x y : Nat} (hi : i < 8) (h : ¬ y % 2 = 1) : GF.cl (8 - (i + 1)) n (2 * x) (y / 2) = GF.cl (8 - i) n x y := by
  rw [show 8 - i = 8 - (i + 1) + 1 by omega, GF.cl, show y % 2 = 0 by omega]; rfl
theorem rd_odd {i n k r : Nat} (hi : i < 8) (h : n / k % 2 = 1) : GF.rd (8 - (i + 1)) (n ^^^ r) (k / 2) (r / 2) = GF.rd (8 - i) n k r := by
  rw [show 8 - i = 8 - (i + 1) + 1 by omega, GF.rd, h]; rfl
theorem rd_even {i n k r : Nat} (hi : i < 8) (h : ¬ n / k % 2 = 1) : GF.rd (8 - (i + 1)) n (k / 2) (r / 2) = GF.rd (8 - i) n k r := by
  rw [show 8 - i = 8 - (i + 1) + 1 by omega, GF.rd, show n / k % 2 = 0 by omega]; rfl
theorem dbl_lt {a i x : Nat} (ha : a < 256) (hi : i < 8) (hx : x = a * 2 ^ i) : x ≤ 32640 := by
  subst hx
  have : 2 ^ i ≤ 2 ^ 7 := Nat.pow_le_pow_right (by omega) (by omega)
  exact Nat.le_trans (Nat.mul_le_mul (show a ≤ 255 by omega) this) (by omega)
theorem dbl_next {a i x : Nat} (hx : x = a * 2 ^ i) : 2 * x = a * 2 ^ (i + 1) := by
  subst hx; rw [Nat.pow_succ, Nat.mul_comm 2, Nat.mul_assoc]
theorem half_next {c i k : Nat} (h : k = c / 2 ^ i) : k / 2 = c / 2 ^ (i + 1) := by
  subst h; rw [Nat.div_div_eq_div_mul, Nat.pow_succ]
theorem half_pos {i k : Nat} (hi : i < 8) (h : k = 32768 / 2 ^ i) : 0 < k := by
  subst h
  have : 2 ^ i ≤ 2 ^ 7 := Nat.pow_le_pow_right (by omega) (by omega)
  exact Nat.div_pos (by omega) (Nat.two_pow_pos i)
theorem half_le {c i k : Nat} (h : k = c / 2 ^ i) : k ≤ c := by
  subst h; exact Nat.div_le_self _ _
set_option maxHeartbeats 800000 in
theorem rmul_any (a b : Nat) (ha : a < 256) (hb : b < 256) (w : World) :
    Calls Tryd.prog 8 #[.int .u8 a, .int .u8 b] w fun e w' => e = .returned (.int .u8 ((GF.mul a b : Nat) : Int)) ∧ Qt w w' := by
  go_enter Tryd.func8, Tryd.ntmps8
  go_wp2
  go_loopw [5, 6, 7, 8] (fun u v s t wr => ∃ i n x y : Nat, i ≤ 8 ∧ n < 65536 ∧ x ≤ 65280 ∧ y < 256 ∧ u = .int .i64 n ∧ v = .int .i64 x ∧ s = .int .i64 y ∧ t = .int .i64 i ∧ Hid (x = a * 2 ^ i) ∧ Hid (GF.cl (8 - i) n x y = GF.cl 8 0 a b) ∧ Qt w wr) (fun _ _ _ t _ => (8 - intOf t).toNat)
  case atStart => exact ⟨0, 0, a, b, by omega, by omega, by omega, hb, rfl, by go_num, by go_num, rfl, (Nat.mul_one a).symm, rfl, Qt.refl w⟩
  case round =>
    obtain ⟨i, n, x, y, hi, hn, hx, hy, rfl, rfl, rfl, rfl, HX, HC, hk⟩ := hrel
    by_cases hlt : i < 8
    · have hx1 := dbl_lt ha hlt HX.out
      by_cases ho : y % 2 = 1
      · have ht : (((y : Int) % 2) == 1) = true := by rw [beq_iff_eq]; omega
        have HO : Hid (y % 2 = 1) := ho
        clear ho
        go_wp2_with fail
        refine (xor_any n x hn (by omega) _).mono ?_
        rintro e w' ⟨rfl, hk2⟩
        go_wp2_with fail
        exact ⟨⟨i + 1, n ^^^ x, 2 * x, y / 2, by omega, Nat.xor_lt_two_pow (n := 16) hn (by omega), by omega, by omega, rfl, by go_num, by go_num, by go_num, dbl_next HX.out, (cl_odd hlt HO.out).trans HC.out, hk.trans hk2⟩, by simp [intOf]; omega⟩
      · have ht : (((y : Int) % 2) == 1) = false := by rw [beq_eq_false_iff_ne]; omega
        have HO : Hid (¬ y % 2 = 1) := ho
        clear ho
        go_wp2_with fail
        exact ⟨⟨i + 1, n, 2 * x, y / 2, by omega, hn, by omega, by omega, rfl, by go_num, by go_num, by go_num, dbl_next HX.out, (cl_even hlt HO.out).trans HC.out, hk⟩, by simp [intOf]; omega⟩
    · have HN : Hid (n = GF.cl 8 0 a b) := by
        have h := HC.out
        rw [show 8 - i = 0 by omega] at h
        exact h
      clear HC HX hi
      go_wp2_with fail
      go_loopw [5, 9, 10, 11] (fun u v s t wr => ∃ i n k r : Nat, i ≤ 8 ∧ n < 65536 ∧ k ≤ 32768 ∧ r ≤ 36480 ∧ u = .int .i64 n ∧ v = .int .i64 k ∧ s = .int .i64 r ∧ t = .int .i64 i ∧ Hid (k = 32768 / 2 ^ i) ∧ Hid (GF.rd (8 - i) n k r = GF.mul a b) ∧ Qt w wr) (fun _ _ _ t _ => (8 - intOf t).toNat)
      case atStart => exact ⟨0, n, 32768, 36480, by omega, hn, by omega, by omega, rfl, rfl, rfl, rfl, rfl, (by rw [HN.out]; exact GF.rmul ha hb), hk⟩
      case round =>
        clear HN hk hx hy hn hlt
        obtain ⟨i, n, k, r, hi, hn, hk1, hr, rfl, rfl, rfl, rfl, HK, HR, hk⟩ := hrel
        by_cases hlt : i < 8
        · have hk0 := half_pos hlt HK.out
          have hkz : ((k : Int) == 0) = false := by rw [beq_eq_false_iff_ne]; omega
          have qa : 0 ≤ (n : Int) / (k : Int) := Int.ediv_nonneg (by omega) (by omega)
          have ra : (n : Int) / (k : Int) ≤ 65535 := Int.le_trans (Int.ediv_le_self _ (by omega)) (by omega)
          by_cases ho : n / k % 2 = 1
          · have ht : (((n : Int) / (k : Int) % 2) == 1) = true := by rw [beq_iff_eq]; omega
            have HO : Hid (n / k % 2 = 1) := ho
            clear ho
            go_wp2_with fail
            refine (xor_any n r hn (by omega) _).mono ?_
            rintro e w' ⟨rfl, hk2⟩
            go_wp2_with fail
            go_roundw
            case rel => exact ⟨i + 1, n ^^^ r, k / 2, r / 2, by omega, Nat.xor_lt_two_pow (n := 16) hn (by omega), by omega, by omega, rfl, by go_num, by go_num, by go_num, half_next HK.out, (rd_odd hlt HO.out).trans HR.out, hk.trans hk2⟩
            case measure => simp [intOf]; omega
          · have ht : (((n : Int) / (k : Int) % 2) == 1) = false := by rw [beq_eq_false_iff_ne]; omega
            have HO : Hid (¬ n / k % 2 = 1) := ho
            clear ho
            go_wp2_with fail
            exact ⟨⟨i + 1, n, k / 2, r / 2, by omega, hn, by omega, by omega, rfl, by go_num, by go_num, by go_num, half_next HK.out, (rd_even hlt HO.out).trans HR.out, hk⟩, by simp [intOf]; omega⟩
        · have hi8 : i = 8 := by omega
          subst hi8
          have HN : Hid (n = GF.mul a b) := HR.out
          have hm := GF.mul_lt b ha
          have hn2 : n < 256 := by rw [HN.out]; exact hm
          clear HR HK hlt hi
          go_wp2_with fail
          go_ret
          exact ⟨ret_int (by have := HN.out; omega), hk⟩
/-- by which one a is 1: looked for from 1 on -/
theorem inv_first {a i : Nat} (ha : a < 256) (h0 : a ≠ 0) (hi : i < 256) (h : GF.mul a i = 1) : i = GF.inv a := GF.inv_unique ha h0 hi h
theorem inv_pos {a : Nat} (ha : a < 256) (h0 : a ≠ 0) : 0 < GF.inv a := by
  rcases Nat.eq_zero_or_pos (GF.inv a) with h | h
  · have := GF.mul_inv ha h0
    rw [h, GF.mul_zero] at this
    omega
  · exact h
set_option maxRecDepth 100000 in
set_option maxHeartbeats 400000 in
theorem rinv_any (a : Nat) (ha : a < 256) (h0 : a ≠ 0) (w : World) :
    Calls Tryd.prog 9 #[.int .u8 a] w fun e w' => e = .returned (.int .u8 ((GF.inv a : Nat) : Int)) ∧ Qt w w' := by
  have hil := GF.inv_lt ha
  have hip := inv_pos ha h0
  have HI : Hid (GF.mul a (GF.inv a) = 1) := GF.mul_inv ha h0
  go_enter Tryd.func9, Tryd.ntmps9
  go_wp2
  go_loopw [3] (fun t wr => ∃ i : Nat, 1 ≤ i ∧ i ≤ GF.inv a ∧ t = .int .i64 i ∧ Qt w wr) (fun t _ => (256 - intOf t).toNat)
  case atStart => exact ⟨1, by omega, by omega, rfl, Qt.refl w⟩
  case round =>
    obtain ⟨i, hi1, hi2, rfl, hk⟩ := hrel
    have hi3 : i < 256 := by omega
    have hmod : (i : Int) % 256 = (i : Int) := by omega
    by_cases hlt : i < GF.inv a
    · have hne : (((GF.mul a i : Nat) : Int) == 1) = false := by
        rw [beq_eq_false_iff_ne]; intro h
        have := inv_first ha h0 hi3 (by omega)
        omega
      go_wp2_with fail
      refine (rmul_any a i ha hi3 _).mono ?_
      rintro e w' ⟨rfl, hk2⟩
      go_wp2_with fail
      exact ⟨⟨i + 1, by omega, by omega, by go_num, hk.trans hk2⟩, by simp [intOf]; omega⟩
    · have hie : i = GF.inv a := by omega
      have HE : Hid (i = GF.inv a) := hie
      have he : (((GF.mul a i : Nat) : Int) == 1) = true := by rw [beq_iff_eq, hie, HI.out]; rfl
      clear hie
      go_wp2_with fail
      refine (rmul_any a i ha hi3 _).mono ?_
      rintro e w' ⟨rfl, hk2⟩
      go_wp2_with fail
      go_ret
      exact ⟨ret_int (by have := HE.out; omega), hk.trans hk2⟩
end Go.Proofs.YtikhjhbohkaajaaDoor
