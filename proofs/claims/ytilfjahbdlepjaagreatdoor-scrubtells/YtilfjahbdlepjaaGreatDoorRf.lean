/- Texts of plain mathematics, of memory and of walks, in one. -/
import Derived.Test.YtilfjahbdlepjaaGreatDoorMe
import Derived.Test.YtilfjahbdlepjaaGreatDoorEr
import Derived.Deep.QuietTactic
import Derived.BigQuiet
import Derived.Test.YtilfjahbdlepjaaGreatDoorMa
/- What the document's own sum of two numbers, bit by bit, answers: their exclusive or. -/
namespace Go.Proofs.YtilfjahbdlepjaaGreatDoor
open Go.ChangeShapes Go.WideShapes Go.ChangeAt Go.RowKit
/-- nothing but draws -/
def Qt (w w' : World) : Prop := ∃ q, w' = w.drewN q
theorem Qt.refl (w : World) : Qt w w := ⟨0, rfl⟩
theorem Qt.drewN {a b : World} (h : Qt a b) (n : Nat) : Qt a (b.drewN n) := by
  obtain ⟨q, rfl⟩ := h; exact ⟨q + n, World.drewN_drewN _ _ _⟩
theorem Qt.trans {a b c : World} (h : Qt a b) (k : Qt b c) : Qt a c := by
  obtain ⟨q, rfl⟩ := k; exact h.drewN q
theorem Kept.drewN {a b : World} (h : Kept a b) (n : Nat) : Kept a (b.drewN n) := by
  induction n with
  | zero => exact h
  | succ n ih => exact ih.drew
theorem Qt.kept {a b : World} (h : Qt a b) : Kept a b := by
  obtain ⟨q, rfl⟩ := h; exact (Kept.refl a).drewN q
theorem bit_xor (a b i : Nat) : (a ^^^ b) / 2 ^ i % 2 = if a / 2 ^ i % 2 ≠ b / 2 ^ i % 2 then 1 else 0 := by
  have h := Nat.testBit_xor a b i
  simp only [Nat.testBit_eq_decide_div_mod_eq] at h
  have h1 := Nat.mod_two_eq_zero_or_one (a / 2 ^ i)
  have h2 := Nat.mod_two_eq_zero_or_one (b / 2 ^ i)
  have h3 := Nat.mod_two_eq_zero_or_one ((a ^^^ b) / 2 ^ i)
  rcases h1 with h1 | h1 <;> rcases h2 with h2 | h2 <;> rcases h3 with h3 | h3 <;> simp_all
theorem xor_more (a b i K : Nat) (hK : K = 2 ^ i) (h : a / K % 2 ≠ b / K % 2) : (a ^^^ b) % K + K = (a ^^^ b) % (2 * K) := by
  subst hK
  have e := bit_xor a b i
  rw [if_pos h] at e
  rw [show 2 * 2 ^ i = 2 ^ (i + 1) from by rw [Nat.pow_succ]; omega, Nat.mod_pow_succ, e]; omega
theorem xor_same (a b i K : Nat) (hK : K = 2 ^ i) (h : ¬ a / K % 2 ≠ b / K % 2) : (a ^^^ b) % K = (a ^^^ b) % (2 * K) := by
  subst hK
  have e := bit_xor a b i
  rw [if_neg h] at e
  rw [show 2 * 2 ^ i = 2 ^ (i + 1) from by rw [Nat.pow_succ]; omega, Nat.mod_pow_succ, e]; omega
theorem xor_end (a b i K : Nat) (hK : K = 2 ^ i) (hi : i = 16) (ha : a < 65536) (hb : b < 65536) : (a ^^^ b) % K = a ^^^ b := by
  subst hi; subst hK
  exact Nat.mod_eq_of_lt (Nat.xor_lt_two_pow ha hb)
theorem pow_le16 (i K : Nat) (hK : K = 2 ^ i) (hi : i < 16) : K ≤ 32768 := by
  subst hK
  exact Nat.pow_le_pow_right (n := 2) (by omega) (show i ≤ 15 by omega)
theorem pow_next (i K : Nat) (hK : K = 2 ^ i) : 2 * K = 2 ^ (i + 1) := by
  subst hK; rw [Nat.pow_succ]; omega
theorem more_le (a b i K m : Nat) (ha : a < 65536) (hb : b < 65536) (hK : K = 2 ^ i) (hm : m = (a ^^^ b) % K) (h : a / K % 2 ≠ b / K % 2) : m + K ≤ 65535 := by
  have e := xor_more a b i K hK h
  have l : (a ^^^ b) % (2 * K) ≤ a ^^^ b := Nat.mod_le _ _
  have u : a ^^^ b < 2 ^ 16 := Nat.xor_lt_two_pow ha hb
  omega
set_option maxHeartbeats 400000 in
theorem xor_any (a b : Nat) (ha : a < 65536) (hb : b < 65536) (w : World) :
    Calls Tryz.prog 85 #[.int .i64 a, .int .i64 b] w fun e w' => e = .returned (.int .i64 ((a ^^^ b : Nat) : Int)) ∧ Qt w w' := by
  go_enter Tryz.func85, Tryz.ntmps85
  go_wp2
  go_loopw [5, 6, 7] (fun n k t wr => ∃ i K m : Nat, i ≤ 16 ∧ 0 < K ∧ K ≤ 65536 ∧ m ≤ 65535 ∧ n = .int .i64 m ∧ k = .int .i64 K ∧ t = .int .i64 i ∧ Hid (K = 2 ^ i) ∧ Hid (m = (a ^^^ b) % K) ∧ Qt w wr) (fun _ _ t _ => (16 - intOf t).toNat)
  case atStart => exact ⟨0, 1, 0, by omega, by omega, by omega, by omega, rfl, rfl, rfl, rfl, (Nat.mod_one _).symm, Qt.refl w⟩
  case round =>
    obtain ⟨i, K, m, hi, hK0, hK, hm, rfl, rfl, rfl, HK, HM, hk⟩ := hrel
    by_cases hlt : i < 16
    · have hK1 := pow_le16 i K HK.out hlt
      have hKz : ((K : Int) == 0) = false := by rw [beq_eq_false_iff_ne]; omega
      have qa : 0 ≤ (a : Int) / (K : Int) := Int.ediv_nonneg (by omega) (by omega)
      have qb : 0 ≤ (b : Int) / (K : Int) := Int.ediv_nonneg (by omega) (by omega)
      have ra : (a : Int) / (K : Int) ≤ 65535 := Int.le_trans (Int.ediv_le_self _ (by omega)) (by omega)
      have rb : (b : Int) / (K : Int) ≤ 65535 := Int.le_trans (Int.ediv_le_self _ (by omega)) (by omega)
      by_cases hbit : a / K % 2 ≠ b / K % 2
      · have ht : (((a : Int) / (K : Int) % 2) != ((b : Int) / (K : Int) % 2)) = true := by rw [bne_iff_ne]; omega
        have HB : Hid (a / K % 2 ≠ b / K % 2) := hbit
        clear hbit
        go_wp2
        go_quiet (fail)
        go_wp2
        go_roundw
        case rel => exact ⟨i + 1, 2 * K, m + K, by omega, by omega, by omega, more_le a b i K m ha hb HK.out HM.out HB.out, by go_num, by go_num, by go_num, pow_next i K HK.out, (congrArg (· + K) HM.out).trans (xor_more a b i K HK.out HB.out), hk.drewN _⟩
        case measure => simp [intOf]; omega
      · have ht : (((a : Int) / (K : Int) % 2) != ((b : Int) / (K : Int) % 2)) = false := by rw [bne_eq_false_iff_eq]; omega
        have HB : Hid (¬ a / K % 2 ≠ b / K % 2) := hbit
        clear hbit
        go_wp2
        go_quiet (fail)
        go_wp2
        exact ⟨⟨i + 1, 2 * K, m, by omega, by omega, by omega, by omega, rfl, by go_num, by go_num, pow_next i K HK.out, HM.out.trans (xor_same a b i K HK.out HB.out), hk.drewN _⟩, by simp [intOf]; omega⟩
    · go_wp2
      go_ret
      exact ⟨ret_int (by rw [HM.out, xor_end a b i K HK.out (by omega) ha hb]), hk⟩
end Go.Proofs.YtilfjahbdlepjaaGreatDoor

/- The document's own product of two bytes, as plain numbers: it is the product of the field (both add up; looked at at 1, 2, 4 .. 128). -/
namespace Go.Proofs.YtilfjahbdlepjaaGreatDoor.GF
/-- the product without taking away, r rounds -/
def cl : Nat → Nat → Nat → Nat → Nat
  | 0, n, _, _ => n
  | r + 1, n, x, y => cl r (bif Nat.beq (y % 2) 1 then Nat.xor n x else n) (2 * x) (y / 2)
/-- what is beyond is taken away, r rounds -/
def rd : Nat → Nat → Nat → Nat → Nat
  | 0, n, _, _ => n
  | r + 1, n, k, rule => rd r (bif Nat.beq (n / k % 2) 1 then Nat.xor n rule else n) (k / 2) (rule / 2)
theorem cl_add (r : Nat) : ∀ n n' x y y', cl r (n ^^^ n') x (y ^^^ y') = cl r n x y ^^^ cl r n' x y' := by
  induction r with
  | zero => intros; rfl
  | succ r ih =>
    intro n n' x y y'
    simp only [cl]
    rw [xor_div2, ← ih]
    congr 1
    rw [xor_mod2]
    rcases Nat.mod_two_eq_zero_or_one y with h | h <;> rcases Nat.mod_two_eq_zero_or_one y' with h' | h' <;> rw [h, h']
    · rfl
    · show (n ^^^ n') ^^^ x = n ^^^ (n' ^^^ x); rw [Nat.xor_assoc]
    · show (n ^^^ n') ^^^ x = (n ^^^ x) ^^^ n'; rw [Nat.xor_assoc, Nat.xor_assoc, Nat.xor_comm n' x]
    · show n ^^^ n' = (n ^^^ x) ^^^ (n' ^^^ x); rw [xor_swap, Nat.xor_self, Nat.xor_zero]
theorem bit_sum (a b i : Nat) : (a ^^^ b) / 2 ^ i % 2 = (a / 2 ^ i % 2 + b / 2 ^ i % 2) % 2 := by
  have h := Nat.testBit_xor a b i
  simp only [Nat.testBit_eq_decide_div_mod_eq] at h
  have h1 := Nat.mod_two_eq_zero_or_one (a / 2 ^ i)
  have h2 := Nat.mod_two_eq_zero_or_one (b / 2 ^ i)
  have h3 := Nat.mod_two_eq_zero_or_one ((a ^^^ b) / 2 ^ i)
  rcases h1 with h1 | h1 <;> rcases h2 with h2 | h2 <;> rcases h3 with h3 | h3 <;> simp_all
theorem rd_add (r : Nat) : ∀ j n n' rule, r ≤ j → rd r (n ^^^ n') (2 ^ j) rule = rd r n (2 ^ j) rule ^^^ rd r n' (2 ^ j) rule := by
  induction r with
  | zero => intros; rfl
  | succ r ih =>
    intro j n n' rule hj
    obtain ⟨j, rfl⟩ : ∃ k, j = k + 1 := ⟨j - 1, by omega⟩
    simp only [rd]
    have e : 2 ^ (j + 1) / 2 = 2 ^ j := by rw [Nat.pow_succ]; omega
    rw [e, ← ih _ _ _ _ (by omega)]
    congr 1
    rw [bit_sum]
    rcases Nat.mod_two_eq_zero_or_one (n / 2 ^ (j + 1)) with h | h <;> rcases Nat.mod_two_eq_zero_or_one (n' / 2 ^ (j + 1)) with h' | h' <;> rw [h, h']
    · rfl
    · show (n ^^^ n') ^^^ rule = n ^^^ (n' ^^^ rule); rw [Nat.xor_assoc]
    · show (n ^^^ n') ^^^ rule = (n ^^^ rule) ^^^ n'; rw [Nat.xor_assoc, Nat.xor_assoc, Nat.xor_comm n' rule]
    · show n ^^^ n' = (n ^^^ rule) ^^^ (n' ^^^ rule); rw [xor_swap, Nat.xor_self, Nat.xor_zero]
theorem rmul_all : all (fun a => all (fun i => Nat.beq (rd 8 (cl 8 0 a (2 ^ i)) (2 ^ 15) 36480) (mul a (2 ^ i))) 8) 256 = true := by decide +kernel
theorem rmul_add (a x y : Nat) : rd 8 (cl 8 0 a (x ^^^ y)) (2 ^ 15) 36480 = rd 8 (cl 8 0 a x) (2 ^ 15) 36480 ^^^ rd 8 (cl 8 0 a y) (2 ^ 15) 36480 := by
  have e : cl 8 0 a (x ^^^ y) = cl 8 0 a x ^^^ cl 8 0 a y := by have := cl_add 8 0 0 a x y; rwa [Nat.xor_self] at this
  rw [e, rd_add 8 15 _ _ _ (by omega)]
theorem rmul15 {a b : Nat} (ha : a < 256) (hb : b < 256) : rd 8 (cl 8 0 a b) (2 ^ 15) 36480 = mul a b :=
  by_bits (f := fun b => rd 8 (cl 8 0 a b) (2 ^ 15) 36480) (g := fun b => mul a b)
    (fun x y _ _ => rmul_add a x y) (fun x y _ _ => mul_add a x y)
    (fun i hi => Nat.eq_of_beq_eq_true (all_spec (all_spec rmul_all a ha) i hi)) b hb
theorem rmul {a b : Nat} (ha : a < 256) (hb : b < 256) : rd 8 (cl 8 0 a b) 32768 36480 = mul a b := by
  have h := rmul15 ha hb
  rwa [show (2 : Nat) ^ 15 = 32768 from by decide] at h
end Go.Proofs.YtilfjahbdlepjaaGreatDoor.GF

/- What the document's own sum, product, inverse and power of elements answer: those of the field. -/
namespace Go.Proofs.YtilfjahbdlepjaaGreatDoor
open Go.ChangeShapes Go.WideShapes Go.ChangeAt Go.RowKit
theorem plus_any (a b : Nat) (ha : a < 256) (hb : b < 256) (w : World) :
    Calls Tryz.prog 65 #[.int .u8 a, .int .u8 b] w fun e w' => e = .returned (.int .u8 ((a ^^^ b : Nat) : Int)) ∧ Qt w w' := by
  have hx := GF.xor_lt ha hb
  go_enter Tryz.func65, Tryz.ntmps65
  go_wp2_with fail
  refine (xor_any a b (by omega) (by omega) _).mono ?_
  rintro e w' ⟨rfl, hk⟩
  go_wp2_with fail
  go_ret
  exact ⟨ret_int (by omega), hk⟩
theorem cl_odd {i n x y : Nat} (hi : i < 8) (h : y % 2 = 1) : GF.cl (8 - (i + 1)) (n ^^^ x) (2 * x) (y / 2) = GF.cl (8 - i) n x y := by
  rw [show 8 - i = 8 - (i + 1) + 1 by omega, GF.cl, h]; rfl
theorem cl_even {i n x y : Nat} (hi : i < 8) (h : ¬ y % 2 = 1) : GF.cl (8 - (i + 1)) n (2 * x) (y / 2) = GF.cl (8 - i) n x y := by
  rw [show 8 - i = 8 - (i + 1) + 1 by omega, GF.cl, show y % 2 = 0 by omega]; rfl
theorem rd_odd {i n k r : Nat} (hi : i < 8) (h : n / k % 2 = 1) : GF.rd (8 - (i + 1)) (n ^^^ r) (k / 2) (r / 2) = GF.rd (8 - i) n k r := by
  rw [show 8 - i = 8 - (i + 1) + 1 by omega, GF.rd, h]; rfl
theorem rd_even {i n k r : Nat} (hi : i < 8) (h : ¬ n / k % 2 = 1) : GF.rd (8 - (i + 1)) n (k / 2) (r / 2) = GF.rd (8 - i) n k r := by
  rw [show 8 - i = 8 - (i + 1) + 1 by omega, GF.rd, show n / k % 2 = 0 by omega]; rfl
theorem dbl_lt {a i x : Nat} (ha : a < 256) (hi : i < 8) (hx : x = a * 2 ^ i) : x ≤ 32640 := by
  subst hx
  have : 2 ^ i ≤ 2 ^ 7 := Nat.pow_le_pow_right (by omega) (by omega)
  exact Nat.le_trans (Nat.mul_le_mul (show a ≤ 255 by omega) this) (by omega)
theorem dbl_next {a i x : Nat} (hx : x = a * 2 ^ i) : 2 * x = a * 2 ^ (i + 1) := by
  subst hx; rw [Nat.pow_succ, Nat.mul_comm 2, Nat.mul_assoc]
theorem half_next {c i k : Nat} (h : k = c / 2 ^ i) : k / 2 = c / 2 ^ (i + 1) := by
  subst h; rw [Nat.div_div_eq_div_mul, Nat.pow_succ]
theorem half_pos {i k : Nat} (hi : i < 8) (h : k = 32768 / 2 ^ i) : 0 < k := by
  subst h
  have : 2 ^ i ≤ 2 ^ 7 := Nat.pow_le_pow_right (by omega) (by omega)
  exact Nat.div_pos (by omega) (Nat.two_pow_pos i)
theorem half_le {c i k : Nat} (h : k = c / 2 ^ i) : k ≤ c := by
  subst h; exact Nat.div_le_self _ _
set_option maxHeartbeats 800000 in
theorem rmul_any (a b : Nat) (ha : a < 256) (hb : b < 256) (w : World) :
    Calls Tryz.prog 66 #[.int .u8 a, .int .u8 b] w fun e w' => e = .returned (.int .u8 ((GF.mul a b : Nat) : Int)) ∧ Qt w w' := by
  go_enter Tryz.func66, Tryz.ntmps66
  go_wp2
  go_loopw [5, 6, 7, 8] (fun u v s t wr => ∃ i n x y : Nat, i ≤ 8 ∧ n < 65536 ∧ x ≤ 65280 ∧ y < 256 ∧ u = .int .i64 n ∧ v = .int .i64 x ∧ s = .int .i64 y ∧ t = .int .i64 i ∧ Hid (x = a * 2 ^ i) ∧ Hid (GF.cl (8 - i) n x y = GF.cl 8 0 a b) ∧ Qt w wr) (fun _ _ _ t _ => (8 - intOf t).toNat)
  case atStart => exact ⟨0, 0, a, b, by omega, by omega, by omega, hb, rfl, by go_num, by go_num, rfl, (Nat.mul_one a).symm, rfl, Qt.refl w⟩
  case round =>
    obtain ⟨i, n, x, y, hi, hn, hx, hy, rfl, rfl, rfl, rfl, HX, HC, hk⟩ := hrel
    by_cases hlt : i < 8
    · have hx1 := dbl_lt ha hlt HX.out
      by_cases ho : y % 2 = 1
      · have ht : (((y : Int) % 2) == 1) = true := by rw [beq_iff_eq]; omega
        have HO : Hid (y % 2 = 1) := ho
        clear ho
        go_wp2_with fail
        refine (xor_any n x hn (by omega) _).mono ?_
        rintro e w' ⟨rfl, hk2⟩
        go_wp2_with fail
        exact ⟨⟨i + 1, n ^^^ x, 2 * x, y / 2, by omega, Nat.xor_lt_two_pow (n := 16) hn (by omega), by omega, by omega, rfl, by go_num, by go_num, by go_num, dbl_next HX.out, (cl_odd hlt HO.out).trans HC.out, hk.trans hk2⟩, by simp [intOf]; omega⟩
      · have ht : (((y : Int) % 2) == 1) = false := by rw [beq_eq_false_iff_ne]; omega
        have HO : Hid (¬ y % 2 = 1) := ho
        clear ho
        go_wp2_with fail
        exact ⟨⟨i + 1, n, 2 * x, y / 2, by omega, hn, by omega, by omega, rfl, by go_num, by go_num, by go_num, dbl_next HX.out, (cl_even hlt HO.out).trans HC.out, hk⟩, by simp [intOf]; omega⟩
    · have HN : Hid (n = GF.cl 8 0 a b) := by
        have h := HC.out
        rw [show 8 - i = 0 by omega] at h
        exact h
      clear HC HX hi
      go_wp2_with fail
      go_loopw [5, 9, 10, 11] (fun u v s t wr => ∃ i n k r : Nat, i ≤ 8 ∧ n < 65536 ∧ k ≤ 32768 ∧ r ≤ 36480 ∧ u = .int .i64 n ∧ v = .int .i64 k ∧ s = .int .i64 r ∧ t = .int .i64 i ∧ Hid (k = 32768 / 2 ^ i) ∧ Hid (GF.rd (8 - i) n k r = GF.mul a b) ∧ Qt w wr) (fun _ _ _ t _ => (8 - intOf t).toNat)
      case atStart => exact ⟨0, n, 32768, 36480, by omega, hn, by omega, by omega, rfl, rfl, rfl, rfl, rfl, (by rw [HN.out]; exact GF.rmul ha hb), hk⟩
      case round =>
        clear HN hk hx hy hn hlt
        obtain ⟨i, n, k, r, hi, hn, hk1, hr, rfl, rfl, rfl, rfl, HK, HR, hk⟩ := hrel
        by_cases hlt : i < 8
        · have hk0 := half_pos hlt HK.out
          have hkz : ((k : Int) == 0) = false := by rw [beq_eq_false_iff_ne]; omega
          have qa : 0 ≤ (n : Int) / (k : Int) := Int.ediv_nonneg (by omega) (by omega)
          have ra : (n : Int) / (k : Int) ≤ 65535 := Int.le_trans (Int.ediv_le_self _ (by omega)) (by omega)
          by_cases ho : n / k % 2 = 1
          · have ht : (((n : Int) / (k : Int) % 2) == 1) = true := by rw [beq_iff_eq]; omega
            have HO : Hid (n / k % 2 = 1) := ho
            clear ho
            go_wp2_with fail
            refine (xor_any n r hn (by omega) _).mono ?_
            rintro e w' ⟨rfl, hk2⟩
            go_wp2_with fail
            go_roundw
            case rel => exact ⟨i + 1, n ^^^ r, k / 2, r / 2, by omega, Nat.xor_lt_two_pow (n := 16) hn (by omega), by omega, by omega, rfl, by go_num, by go_num, by go_num, half_next HK.out, (rd_odd hlt HO.out).trans HR.out, hk.trans hk2⟩
            case measure => simp [intOf]; omega
          · have ht : (((n : Int) / (k : Int) % 2) == 1) = false := by rw [beq_eq_false_iff_ne]; omega
            have HO : Hid (¬ n / k % 2 = 1) := ho
            clear ho
            go_wp2_with fail
            exact ⟨⟨i + 1, n, k / 2, r / 2, by omega, hn, by omega, by omega, rfl, by go_num, by go_num, by go_num, half_next HK.out, (rd_even hlt HO.out).trans HR.out, hk⟩, by simp [intOf]; omega⟩
        · have hi8 : i = 8 := by omega
          subst hi8
          have HN : Hid (n = GF.mul a b) := HR.out
          have hm := GF.mul_lt b ha
          have hn2 : n < 256 := by rw [HN.out]; exact hm
          clear HR HK hlt hi
          go_wp2_with fail
          go_ret
          exact ⟨ret_int (by have := HN.out; omega), hk⟩
/-- by which one a is 1: looked for from 1 on -/
theorem inv_first {a i : Nat} (ha : a < 256) (h0 : a ≠ 0) (hi : i < 256) (h : GF.mul a i = 1) : i = GF.inv a := GF.inv_unique ha h0 hi h
theorem inv_pos {a : Nat} (ha : a < 256) (h0 : a ≠ 0) : 0 < GF.inv a := by
  rcases Nat.eq_zero_or_pos (GF.inv a) with h | h
  · have := GF.mul_inv ha h0
    rw [h, GF.mul_zero] at this
    omega
  · exact h
set_option maxRecDepth 100000 in
set_option maxHeartbeats 400000 in
theorem rinv_any (a : Nat) (ha : a < 256) (h0 : a ≠ 0) (w : World) :
    Calls Tryz.prog 63 #[.int .u8 a] w fun e w' => e = .returned (.int .u8 ((GF.inv a : Nat) : Int)) ∧ Qt w w' := by
  have hil := GF.inv_lt ha
  have hip := inv_pos ha h0
  have HI : Hid (GF.mul a (GF.inv a) = 1) := GF.mul_inv ha h0
  go_enter Tryz.func63, Tryz.ntmps63
  go_wp2
  go_loopw [3] (fun t wr => ∃ i : Nat, 1 ≤ i ∧ i ≤ GF.inv a ∧ t = .int .i64 i ∧ Qt w wr) (fun t _ => (256 - intOf t).toNat)
  case atStart => exact ⟨1, by omega, by omega, rfl, Qt.refl w⟩
  case round =>
    obtain ⟨i, hi1, hi2, rfl, hk⟩ := hrel
    have hi3 : i < 256 := by omega
    have hmod : (i : Int) % 256 = (i : Int) := by omega
    by_cases hlt : i < GF.inv a
    · have hne : (((GF.mul a i : Nat) : Int) == 1) = false := by
        rw [beq_eq_false_iff_ne]; intro h
        have := inv_first ha h0 hi3 (by omega)
        omega
      go_wp2_with fail
      refine (rmul_any a i ha hi3 _).mono ?_
      rintro e w' ⟨rfl, hk2⟩
      go_wp2_with fail
      exact ⟨⟨i + 1, by omega, by omega, by go_num, hk.trans hk2⟩, by simp [intOf]; omega⟩
    · have hie : i = GF.inv a := by omega
      have HE : Hid (i = GF.inv a) := hie
      have he : (((GF.mul a i : Nat) : Int) == 1) = true := by rw [beq_iff_eq, hie, HI.out]; rfl
      clear hie
      go_wp2_with fail
      refine (rmul_any a i ha hi3 _).mono ?_
      rintro e w' ⟨rfl, hk2⟩
      go_wp2_with fail
      go_ret
      exact ⟨ret_int (by have := HE.out; omega), hk.trans hk2⟩
end Go.Proofs.YtilfjahbdlepjaaGreatDoor

/- The document's own sum, product and inverse, of elements: memory stays. -/
namespace Go.Proofs.YtilfjahbdlepjaaGreatDoor
open Go.ChangeShapes Go.WideShapes Go.ChangeAt Go.RowKit El Pol
theorem plusE (x y : El) (w : World) : Calls Tryz.prog 65 #[.int .u8 ((x.val : Nat) : Int), .int .u8 ((y.val : Nat) : Int)] w fun e w' => e = .returned (.int .u8 (((pl x y).val : Nat) : Int)) ∧ Below w.heap.size w w' :=
  (plus_any x.val y.val x.isLt y.isLt w).mono fun _ _ ⟨he, hk⟩ => ⟨he, hk.kept.below⟩
theorem plusE_0 (x : El) (w : World) : Calls Tryz.prog 65 #[.int .u8 ((x.val : Nat) : Int), .int .u8 0] w fun e w' => e = .returned (.int .u8 (((pl x 0).val : Nat) : Int)) ∧ Below w.heap.size w w' := plusE x 0 w
theorem plus0E (x : El) (w : World) : Calls Tryz.prog 65 #[.int .u8 0, .int .u8 ((x.val : Nat) : Int)] w fun e w' => e = .returned (.int .u8 (((pl 0 x).val : Nat) : Int)) ∧ Below w.heap.size w w' := plusE 0 x w
theorem timesE (x y : El) (w : World) : Calls Tryz.prog 66 #[.int .u8 ((x.val : Nat) : Int), .int .u8 ((y.val : Nat) : Int)] w fun e w' => e = .returned (.int .u8 (((ti x y).val : Nat) : Int)) ∧ Below w.heap.size w w' :=
  (rmul_any x.val y.val x.isLt y.isLt w).mono fun _ _ ⟨he, hk⟩ => ⟨he, hk.kept.below⟩
theorem invE (x : El) (h : x ≠ 0) (w : World) : Calls Tryz.prog 63 #[.int .u8 ((x.val : Nat) : Int)] w fun e w' => e = .returned (.int .u8 (((iv x).val : Nat) : Int)) ∧ Below w.heap.size w w' :=
  (rinv_any x.val x.isLt (val_ne h) w).mono fun _ _ ⟨he, hk⟩ => ⟨he, hk.kept.below⟩
theorem timesQ2 (x y : El) (w : World) : Calls Tryz.prog 66 #[.int .u8 ((x.val : Nat) : Int), .int .u8 ((y.val : Nat) : Int)] w fun e w' => e = .returned (.int .u8 (((ti x y).val : Nat) : Int)) ∧ ∃ q, w' = w.drewN q :=
  rmul_any x.val y.val x.isLt y.isLt w
theorem plusQ2 (x y : El) (w : World) : Calls Tryz.prog 65 #[.int .u8 ((x.val : Nat) : Int), .int .u8 ((y.val : Nat) : Int)] w fun e w' => e = .returned (.int .u8 (((pl x y).val : Nat) : Int)) ∧ ∃ q, w' = w.drewN q :=
  plus_any x.val y.val x.isLt y.isLt w
end Go.Proofs.YtilfjahbdlepjaaGreatDoor

/- What the document's own power of an element answers. -/
namespace Go.Proofs.YtilfjahbdlepjaaGreatDoor
open Go.ChangeShapes Go.WideShapes Go.ChangeAt Go.RowKit
theorem rpow_zero (a : Int) (w : World) :
    Calls Tryz.prog 64 #[.int .u8 a, .int .i64 0] w fun e w' => e = .returned (.int .u8 1) ∧ Qt w w' := by
  go_enter Tryz.func64, Tryz.ntmps64
  go_wp2
  go_ret
  exact ⟨rfl, Qt.refl _⟩
theorem rpow_none (n : Int) (h : (n == 0) = false) (w : World) :
    Calls Tryz.prog 64 #[.int .u8 0, .int .i64 n] w fun e w' => e = .returned (.int .u8 0) ∧ Qt w w' := by
  go_enter Tryz.func64, Tryz.ntmps64
  go_wp2
  go_ret
  exact ⟨rfl, Qt.refl _⟩
theorem pow_more {a : Nat} (ha : a < 256) (i : Nat) : GF.mul (GF.pow a i) a = GF.pow a (i + 1) := by
  rw [GF.pow, GF.mul_comm (GF.pow_lt ha i) ha]
set_option maxRecDepth 100000 in
set_option maxHeartbeats 400000 in
theorem rpow_some (a n : Nat) (ha : a < 256) (h0 : a ≠ 0) (hn : n ≤ 9223372036854775807) (h : n ≠ 0) (w : World) :
    Calls Tryz.prog 64 #[.int .u8 a, .int .i64 n] w fun e w' => e = .returned (.int .u8 ((GF.pow a n : Nat) : Int)) ∧ Qt w w' := by
  have hz : ((n : Int) == 0) = false := by rw [beq_eq_false_iff_ne]; omega
  have hz2 : ((a : Int) == 0) = false := by rw [beq_eq_false_iff_ne]; omega
  have HP := GF.pow_mod ha h0 n
  have HP : Hid (GF.pow a (n % 255) = GF.pow a n) := HP
  have hm : n % 255 < 255 := Nat.mod_lt _ (by omega)
  go_enter Tryz.func64, Tryz.ntmps64
  go_wp2
  go_loopw [5, 6] (fun u t wr => ∃ i : Nat, i ≤ n % 255 ∧ u = .int .u8 (GF.pow a i) ∧ t = .int .i64 i ∧ Qt w wr) (fun _ t _ => (255 - intOf t).toNat)
  case atStart => exact ⟨0, by omega, rfl, rfl, Qt.refl w⟩
  case round =>
    obtain ⟨i, hi, rfl, rfl, hk⟩ := hrel
    have hp := GF.pow_lt ha i
    by_cases hlt : i < n % 255
    · have hl2 : (i : Int) < (n : Int) % 255 := by omega
      go_wp2_with fail
      refine (rmul_any _ a hp ha _).mono ?_
      rintro e w' ⟨rfl, hk2⟩
      go_wp2_with fail
      exact ⟨⟨i + 1, by omega, by rw [pow_more ha], by go_num, hk.trans hk2⟩, by simp [intOf]; omega⟩
    · have hl2 : ¬ (i : Int) < (n : Int) % 255 := by omega
      have HE : Hid (i = n % 255) := by show i = n % 255; omega
      go_wp2_with fail
      go_ret
      exact ⟨ret_int (by rw [← HP.out, HE.out]), hk⟩
theorem rpow_any (a n : Nat) (ha : a < 256) (hn : n ≤ 9223372036854775807) (w : World) :
    Calls Tryz.prog 64 #[.int .u8 a, .int .i64 n] w fun e w' => e = .returned (.int .u8 ((GF.pow a n : Nat) : Int)) ∧ Qt w w' := by
  by_cases h : n = 0
  · subst h; exact rpow_zero a w
  · by_cases h0 : a = 0
    · subst h0
      rw [GF.zero_pow (by omega)]
      exact rpow_none n (by rw [beq_eq_false_iff_ne]; omega) w
    · exact rpow_some a n ha h0 hn h w
end Go.Proofs.YtilfjahbdlepjaaGreatDoor
