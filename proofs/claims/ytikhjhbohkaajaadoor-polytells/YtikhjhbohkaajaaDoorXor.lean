/- What the document's own sum of two numbers, bit by bit, answers: their exclusive or. -/
import Derived.Test.YtikhjhbohkaajaaDoorWalk0
import Derived.Test.YtikhjhbohkaajaaDoorRefl
import Derived.Deep.QuietTactic
import Derived.BigQuiet
namespace Go.Proofs.YtikhjhbohkaajaaDoor
open Go.ChangeShapes Go.WideShapes Go.ChangeAt Go.RowKit
/-- nothing but draws -/
def Qt (w w' : World) : Prop := ∃ q, w' = w.drewN q
theorem Qt.refl (w : World) : Qt w w := ⟨0, rfl⟩
theorem Qt.drewN {a b : World} (h : Qt a b) (n : Nat) : Qt a (b.drewN n) := by
  obtain ⟨q, rfl⟩ := h; exact ⟨q + n, World.drewN_drewN _ _ _⟩
theorem Qt.trans {a b c : World} (h : Qt a b) (k : Qt b c) : Qt a c := by
  obtain ⟨q, rfl⟩ := k; exact h.drewN q
theorem Kept.drewN {a b : World} (h : Kept a b) (n : Nat) : Kept a (b.drewN n) := by
  induction n with
  | zero => exact h
  | succ n ih => exact ih.drew
theorem Qt.kept {a b : World} (h : Qt a b) : Kept a b := by
  obtain ⟨q, rfl⟩ := h; exact (Kept.refl a).drewN q
theorem bit_xor (a b i : Nat) : (a ^^^ b) / 2 ^ i % 2 = if a / 2 ^ i % 2 ≠ b / 2 ^ i % 2 then 1 else 0 := by
  have h := Nat.testBit_xor a b i
  simp only [Nat.testBit_eq_decide_div_mod_eq] at h
  have h1 := Nat.mod_two_eq_zero_or_one (a / 2 ^ i)
  have h2 := Nat.mod_two_eq_zero_or_one (b / 2 ^ i)
  have h3 := Nat.mod_two_eq_zero_or_one ((a ^^^ b) / 2 ^ i)
  rcases h1 with h1 | h1 <;> rcases h2 with h2 | h2 <;> rcases h3 with h3 | h3 <;> simp_all
theorem xor_more (a b i K : Nat) (hK : K = 2 ^ i) (h : a / K % 2 ≠ b / K % 2) : (a ^^^ b) % K + K = (a ^^^ b) % (2 * K) := by
  subst hK
  have e := bit_xor a b i
  rw [if_pos h] at e
  rw [show 2 * 2 ^ i = 2 ^ (i + 1) from by rw [Nat.pow_succ]; omega, Nat.mod_pow_succ, e]; omega
theorem xor_same (a b i K : Nat) (hK : K = 2 ^ i) (h : ¬ a / K % 2 ≠ b / K % 2) : (a ^^^ b) % K = (a ^^^ b) % (2 * K) := by
  subst hK
  have e := bit_xor a b i
  rw [if_neg h] at e
  rw [show 2 * 2 ^ i = 2 ^ (i + 1) from by rw [Nat.pow_succ]; omega, Nat.mod_pow_succ, e]; omega
theorem xor_end (a b i K : Nat) (hK : K = 2 ^ i) (hi : i = 16) (ha : a < 65536) (hb : b < 65536) : (a ^^^ b) % K = a ^^^ b := by
  subst hi; subst hK
  exact Nat.mod_eq_of_lt (Nat.xor_lt_two_pow ha hb)
theorem pow_le16 (i K : Nat) (hK : K = 2 ^ i) (hi : i < 16) : K ≤ 32768 := by
  subst hK
  exact Nat.pow_le_pow_right (n := 2) (by omega) (show i ≤ 15 by omega)
theorem pow_next (i K : Nat) (hK : K = 2 ^ i) : 2 * K = 2 ^ (i + 1) := by
  subst hK; rw [Nat.pow_succ]; omega
theorem more_le (a b i K m : Nat) (ha : a < 65536) (hb : b < 65536) (hK : K = 2 ^ i) (hm : m = (a ^^^ b) % K) (h : a / K % 2 ≠ b / K % 2) : m + K ≤ 65535 := by
  have e := xor_more a b i K hK h
  have l : (a ^^^ b) % (2 * K) ≤ a ^^^ b := Nat.mod_le _ _
  have u : a ^^^ b < 2 ^ 16 := Nat.xor_lt_two_pow ha hb
  omega
set_option maxHeartbeats 400000 in
theorem xor_any (a b : Nat) (ha : a < 65536) (hb : b < 65536) (w : World) :
    Calls Tryd.prog 29 #[.int .i64 a, .int .i64 b] w fun e w' => e = .returned (.int .i64 ((a ^^^ b : Nat) : Int)) ∧ Qt w w' := by
  go_enter Tryd.func29, Tryd.ntmps29
  go_wp2
  go_loopw [5, 6, 7] (fun n k t wr => ∃ i K m : Nat, i ≤ 16 ∧ 0 < K ∧ K ≤ 65536 ∧ m ≤ 65535 ∧ n = .int .i64 m ∧ k = .int .i64 K ∧ t = .int .i64 i ∧ Hid (K = 2 ^ i) ∧ Hid (m = (a ^^^ b) % K) ∧ Qt w wr) (fun _ _ t _ => (16 - intOf t).toNat)
  case atStart => exact ⟨0, 1, 0, by omega, by omega, by omega, by omega, rfl, rfl, rfl, rfl, (Nat.mod_one _).symm, Qt.refl w⟩
  case round =>
    obtain ⟨i, K, m, hi, hK0, hK, hm, rfl, rfl, rfl, HK, HM, hk⟩ := hrel
    by_cases hlt : i < 16
    · have hK1 := pow_le16 i K HK.out hlt
      have hKz : ((K : Int) == 0) = false := by rw [beq_eq_false_iff_ne]; omega
      have qa : 0 ≤ (a : Int) / (K : Int) := Int.ediv_nonneg (by omega) (by omega)
      have qb : 0 ≤ (b : Int) / (K : Int) := Int.ediv_nonneg (by omega) (by omega)
      have ra : (a : Int) / (K : Int) ≤ 65535 := Int.le_trans (Int.ediv_le_self _ (by omega)) (by omega)
      have rb : (b : Int) / (K : Int) ≤ 65535 := Int.le_trans (Int.ediv_le_self _ (by omega)) (by omega)
      by_cases hbit : a / K % 2 ≠ b / K % 2
      · have ht : (((a : Int) / (K : Int) % 2) != ((b : Int) / (K : Int) % 2)) = true := by rw [bne_iff_ne]; omega
        have HB : Hid (a / K % 2 ≠ b / K % 2) := hbit
        clear hbit
        go_wp2
        go_quiet (fail)
        go_wp2
        go_roundw
        case rel => exact ⟨i + 1, 2 * K, m + K, by omega, by omega, by omega, more_le a b i K m ha hb HK.out HM.out HB.out, by go_num, by go_num, by go_num, pow_next i K HK.out, (congrArg (· + K) HM.out).trans (xor_more a b i K HK.out HB.out), hk.drewN _⟩
        case measure => simp [intOf]; omega
      · have ht : (((a : Int) / (K : Int) % 2) != ((b : Int) / (K : Int) % 2)) = false := by rw [bne_eq_false_iff_eq]; omega
        have HB : Hid (¬ a / K % 2 ≠ b / K % 2) := hbit
        clear hbit
        go_wp2
        go_quiet (fail)
        go_wp2
        exact ⟨⟨i + 1, 2 * K, m, by omega, by omega, by omega, by omega, rfl, by go_num, by go_num, pow_next i K HK.out, HM.out.trans (xor_same a b i K HK.out HB.out), hk.drewN _⟩, by simp [intOf]; omega⟩
    · go_wp2
      go_ret
      exact ⟨ret_int (by rw [HM.out, xor_end a b i K HK.out (by omega) ha hb]), hk⟩
end Go.Proofs.YtikhjhbohkaajaaDoor
