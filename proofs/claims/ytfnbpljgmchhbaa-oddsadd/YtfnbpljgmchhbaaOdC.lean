/- In how many ways, one behind the other; a stripe as a set; which number is the worst: plain. -/
import Derived.Test.YtfnbpljgmchhbaaOdB
namespace Go.Proofs.Ytfnbpljgmchhbaa
/-- one more is taken: so many times as many, of which each came so often -/
theorem chs_turn : ∀ n k, (k + 1) * chs n (k + 1) + k * chs n k = n * chs n k
  | 0, 0 => rfl
  | 0, k + 1 => by rw [chs_none (by omega), chs_none (by omega)]; simp
  | n + 1, 0 => by
    have h := chs_turn n 0
    rw [chs_zero] at h
    rw [chs_succ, chs_zero, chs_zero]
    omega
  | n + 1, k + 1 => by
    have h1 := chs_turn n k
    have h2 := chs_turn n (k + 1)
    rw [chs_succ n (k + 1), chs_succ n k]
    generalize chs n k = a at *
    generalize chs n (k + 1) = b at *
    generalize chs n (k + 1 + 1) = c at *
    simp only [Nat.add_mul, Nat.mul_add, Nat.one_mul] at *
    omega
theorem chs_next (n k : Nat) : chs n k * (n - k) / (k + 1) = chs n (k + 1) := by
  have h := chs_turn n k
  have e : chs n k * (n - k) = (k + 1) * chs n (k + 1) := by
    rw [Nat.mul_sub, Nat.mul_comm (chs n k) n, Nat.mul_comm (chs n k) k]
    omega
  rw [e, Nat.mul_div_cancel_left _ (by omega)]
/-- a number where there is no fault -/
def cntN (e n : Nat) : Nat := if e = 0 then n else 0
/-- the fault of so many of so many, and the answer -/
def chE (n k : Int) : Nat := if n < 0 ∨ 30 < n ∨ k < 0 ∨ n < k then 1 else 0
def chV (n k : Int) : Nat := cntN (chE n k) (chs n.toNat k.toNat)
theorem chE_bad {n k : Int} (h : n < 0 ∨ 30 < n ∨ k < 0 ∨ n < k) : chE n k = 1 := if_pos h
theorem chE_ok {n k : Nat} (hn : n ≤ 30) (hk : k ≤ n) : chE (n : Int) (k : Int) = 0 := if_neg (by omega)
theorem chE_zero {n k : Int} (h : chE n k = 0) : ∃ a b : Nat, n = (a : Int) ∧ k = (b : Int) ∧ a ≤ 30 ∧ b ≤ a := by
  unfold chE at h
  by_cases q : n < 0 ∨ 30 < n ∨ k < 0 ∨ n < k
  · rw [if_pos q] at h; omega
  · exact ⟨n.toNat, k.toNat, by omega, by omega, by omega, by omega⟩
theorem chV_ok {n k : Nat} (hn : n ≤ 30) (hk : k ≤ n) : chV (n : Int) (k : Int) = chs n k := by
  unfold chV cntN
  rw [chE_ok hn hk, if_pos rfl, Int.toNat_natCast, Int.toNat_natCast]
theorem chV_bad {n k : Int} (h : chE n k ≠ 0) : chV n k = 0 := if_neg h
theorem chs_small {n k : Nat} (hn : n ≤ 30) : chs n k ≤ 1073741824 := Nat.le_trans (chs_le n k) (Nat.pow_le_pow_right (by omega) hn)
/-- so many of a list as a set -/
def stb (f : Nat → Int) : Nat → Nat
  | 0 => 0
  | l + 1 => stb f l ||| 1 <<< (f l).toNat
theorem bts_or (a b d : Nat) : bts (a ||| b) d = (bts a d || bts b d) := Nat.testBit_or a b d
theorem bts_and (a b d : Nat) : bts (a &&& b) d = (bts a d && bts b d) := Nat.testBit_and a b d
theorem bts_one (k d : Nat) : bts (1 <<< k) d = decide (k = d) := by
  unfold bts
  rw [Nat.one_shiftLeft, Nat.testBit_two_pow]
theorem bts_stb {f : Nat → Int} (d : Nat) : ∀ {l : Nat}, (∀ j, j < l → 0 ≤ f j) → bts (stb f l) d = isIn l f (d : Int)
  | 0, _ => by
    show Nat.testBit 0 d = _
    rw [Nat.zero_testBit, isIn_false.2 (fun j hj => absurd hj (Nat.not_lt_zero _))]
  | l + 1, h => by
    show bts (stb f l ||| 1 <<< (f l).toNat) d = _
    rw [bts_or, bts_stb d (fun j hj => h j (by omega)), bts_one, isIn_succ]
    have h0 := h l (by omega)
    congr 1
    exact decide_eq_decide.2 (by omega)
theorem stb_lt {f : Nat → Int} : ∀ {l : Nat}, (∀ j, j < l → 0 ≤ f j ∧ f j < 10) → stb f l < 1024
  | 0, _ => by show 0 < _; omega
  | l + 1, h => by
    show stb f l ||| 1 <<< (f l).toNat < 2 ^ 10
    refine Nat.or_lt_two_pow (stb_lt (fun j hj => h j (by omega))) ?_
    rw [Nat.one_shiftLeft]
    have h0 := h l (by omega)
    exact Nat.pow_lt_pow_right (by omega) (by omega)
theorem szs_more {n s : Nat} (hs : s < 2 ^ n) : ∀ k, szs (n + k) s = szs n s
  | 0 => rfl
  | k + 1 => by
    rw [show n + (k + 1) = (n + k) + 1 from rfl, szs_out (Nat.lt_of_lt_of_le hs (Nat.pow_le_pow_right (by omega) (by omega))), szs_more hs k]
theorem szs_ten {n s : Nat} (hn : n ≤ 10) (hs : s < 2 ^ n) : szs 10 s = szs n s := by
  obtain ⟨k, e⟩ : ∃ k, 10 = n + k := ⟨10 - n, by omega⟩
  rw [e, szs_more hs]
theorem and_lt {a b : Nat} (ha : a < 1024) : a &&& b < 1024 := Nat.lt_of_le_of_lt Nat.and_le_left ha
/-- what a stripe loses, of its set -/
theorem lst_stb {n : Nat} {L : Nat → Nat} {F : Nat → Nat → Int} {i s : Nat} (hn : n ≤ 10) (h : RowOk (n : Int) (L i) (F i)) : szs 10 (stb (F i) (L i) &&& s) = lst (hsI L F i) n s := by
  have e0 : szs 10 (stb (F i) (L i) &&& s) = cn (fun d => hsI L F i d && bts s d) 10 := cn_congr (fun d _ => by rw [bts_and, bts_stb d h.lo]; rfl)
  rw [e0]
  obtain ⟨k, e⟩ : ∃ k, 10 = n + k := ⟨10 - n, by omega⟩
  rw [e, cn_add, cn_zero (p := fun d => hsI L F i (n + d) && bts s (n + d)) (fun d _ => by
    rw [Bool.and_eq_false_iff]
    refine .inl (isIn_false.2 (fun j hj => ?_))
    have := h.hi j hj
    omega)]
  rfl
/-- of some as many as are wanted -/
theorem some_of (p : Nat → Bool) : ∀ n k, k ≤ cn p n → ∃ q : Nat → Bool, (∀ d, q d = true → p d = true) ∧ cn q n = k
  | 0, k, h => ⟨fun _ => false, fun _ h => by simp at h, by have : cn p 0 = 0 := rfl; have : cn (fun _ => false) 0 = 0 := rfl; omega⟩
  | n + 1, k, h => by
    by_cases e : k ≤ cn p n
    · obtain ⟨q, h1, h2⟩ := some_of p n k e
      refine ⟨fun d => decide (d < n) && q d, fun d hd => ?_, ?_⟩
      · simp at hd; exact h1 d hd.2
      · rw [cn_succ, if_neg (by simp), Nat.add_zero, ← h2]
        exact cn_congr (fun d hd => by rw [decide_eq_true hd, Bool.true_and])
    · refine ⟨p, fun _ h => h, ?_⟩
      rw [cn_succ] at h ⊢
      by_cases hp : p n = true
      · rw [if_pos hp] at h ⊢; omega
      · rw [if_neg hp] at h ⊢; omega
/-- one more than parity is too many where a stripe is wider -/
theorem ftn_one {has : Nat → Nat → Bool} {m n par i : Nat} (hi : i < m) (hw : par < cn (has i) n) : 0 < ftn has m n (par + 1) par := by
  obtain ⟨q, h1, h2⟩ := some_of (has i) n (par + 1) hw
  obtain ⟨s, hs, h⟩ := set_of q n
  refine cn_pos (i := s) hs ?_
  have hz : szs n s = par + 1 := by rw [← h2]; exact cn_congr h
  have hl : lst (has i) n s = par + 1 := by
    rw [← h2]
    refine cn_congr (fun d hd => ?_)
    rw [h d hd]
    by_cases e : q d = true
    · rw [h1 d e, e]; rfl
    · simp at e; rw [e, Bool.and_false]
  rw [Bool.and_eq_true]
  exact ⟨decide_eq_true hz, anyB_true.2 ⟨i, hi, decide_eq_true (by rw [hl]; omega)⟩⟩
theorem ftn_past {has : Nat → Nat → Bool} {m n f par : Nat} (hf : n < f) : ftn has m n f par = 0 :=
  cn_zero (fun s _ => by
    rw [Bool.and_eq_false_iff]
    have := cn_le (bts s) n
    exact .inl (decide_eq_false (fun e => by unfold szs at e; omega)))
theorem wst_is (has : Nat → Nat → Bool) (m n par : Nat) : wst has m n par = if anyB (fun i => decide (par < cn (has i) n)) m = true then ((par + 1 : Nat) : Int) else -1 := by
  cases hq : anyB (fun i => decide (par < cn (has i) n)) m with
  | true =>
    rw [if_pos rfl]
    obtain ⟨i, hi, hw⟩ := anyB_true.1 hq
    have hp := ftn_one hi (of_decide_eq_true hw)
    rcases wst_ways has m n par with ⟨_, h⟩ | ⟨f, hf, e, h1, h2⟩
    · by_cases q : par + 1 ≤ n
      · rw [h _ q] at hp; omega
      · rw [ftn_past (by omega)] at hp; omega
    · rw [e]
      have a1 : ¬ par + 1 < f := fun q => by rw [h2 _ q] at hp; omega
      have a2 : ¬ f ≤ par := fun q => by rw [ftn_few has q] at h1; omega
      omega
  | false =>
    rw [if_neg (by simp)]
    have hz : ∀ f, ftn has m n f par = 0 := fun f => ftn_thin (fun i hi => by have := of_decide_eq_false (anyB_false.1 hq i hi); omega)
    rcases wst_ways has m n par with ⟨e, _⟩ | ⟨f, _, _, h1, _⟩
    · exact e
    · rw [hz f] at h1; omega
/-- how wide a stripe is -/
theorem row_wide {n : Nat} {L : Nat → Nat} {F : Nat → Nat → Int} {i : Nat} (h : RowOk (n : Int) (L i) (F i)) : cn (hsI L F i) n = L i := by
  have e := row_lst (N := n) rfl (fun _ => true) h
  rw [cn_all (fun j _ => rfl)] at e
  rw [e]
  exact cn_congr (fun d _ => (Bool.and_true _).symm)
/-- what is wrong with stripes and how many fail, how much parity there is -/
def parE (par : Int) : Nat := if par < 0 ∨ 10 < par then 1 else 0
def ftE (n : Int) (m : Nat) (L : Nat → Nat) (F : Nat → Nat → Int) (f par : Int) : Nat := if stE n m L F = 0 then (if f < 0 ∨ n < f ∨ par < 0 ∨ 10 < par then 1 else 0) else stE n m L F
def ftV (n : Int) (m : Nat) (L : Nat → Nat) (F : Nat → Nat → Int) (f par : Int) : Nat := cntN (ftE n m L F f par) (ftn (hsI L F) m n.toNat f.toNat par.toNat)
def wsE (n : Int) (m : Nat) (L : Nat → Nat) (F : Nat → Nat → Int) (par : Int) : Nat := if stE n m L F = 0 then parE par else stE n m L F
def wsV (n : Int) (m : Nat) (L : Nat → Nat) (F : Nat → Nat → Int) (par : Int) : Int := if wsE n m L F par = 0 then wst (hsI L F) m n.toNat par.toNat else 0
section
variable {n : Int} {m : Nat} {L : Nat → Nat} {F : Nat → Nat → Int} {f par : Int}
theorem ftE_st (h : stE n m L F ≠ 0) : ftE n m L F f par = stE n m L F := if_neg h
theorem wsE_st (h : stE n m L F ≠ 0) : wsE n m L F par = stE n m L F := if_neg h
theorem ftE_bad (h : StOk n m L F) (q : f < 0 ∨ n < f ∨ par < 0 ∨ 10 < par) : ftE n m L F f par = 1 := by unfold ftE; rw [stE_zero.2 h, if_pos rfl, if_pos q]
theorem ftE_ok (h : StOk n m L F) (q : ¬ (f < 0 ∨ n < f ∨ par < 0 ∨ 10 < par)) : ftE n m L F f par = 0 := by unfold ftE; rw [stE_zero.2 h, if_pos rfl, if_neg q]
theorem wsE_bad (h : StOk n m L F) (q : par < 0 ∨ 10 < par) : wsE n m L F par = 1 := by unfold wsE parE; rw [stE_zero.2 h, if_pos rfl, if_pos q]
theorem wsE_ok (h : StOk n m L F) (q : ¬ (par < 0 ∨ 10 < par)) : wsE n m L F par = 0 := by unfold wsE parE; rw [stE_zero.2 h, if_pos rfl, if_neg q]
theorem ftV_bad (h : ftE n m L F f par ≠ 0) : ftV n m L F f par = 0 := if_neg h
theorem wsV_bad (h : wsE n m L F par ≠ 0) : wsV n m L F par = 0 := if_neg h
theorem ftV_ok (h : ftE n m L F f par = 0) : ftV n m L F f par = ftn (hsI L F) m n.toNat f.toNat par.toNat := if_pos h
theorem wsV_ok (h : wsE n m L F par = 0) : wsV n m L F par = wst (hsI L F) m n.toNat par.toNat := if_pos h
theorem ftE_zero (h : ftE n m L F f par = 0) : StOk n m L F ∧ 0 ≤ f ∧ f ≤ n ∧ 0 ≤ par ∧ par ≤ 10 := by
  unfold ftE at h
  by_cases a : stE n m L F = 0
  · rw [if_pos a] at h
    by_cases q : f < 0 ∨ n < f ∨ par < 0 ∨ 10 < par
    · rw [if_pos q] at h; omega
    · exact ⟨stE_zero.1 a, by omega, by omega, by omega, by omega⟩
  · rw [if_neg a] at h; exact absurd h a
theorem wsE_zero (h : wsE n m L F par = 0) : StOk n m L F ∧ 0 ≤ par ∧ par ≤ 10 := by
  unfold wsE parE at h
  by_cases a : stE n m L F = 0
  · rw [if_pos a] at h
    by_cases q : par < 0 ∨ 10 < par
    · rw [if_pos q] at h; omega
    · exact ⟨stE_zero.1 a, by omega, by omega⟩
  · rw [if_neg a] at h; exact absurd h a
end
/-- the program's way to the worst number -/
theorem wst_prog {n m par : Nat} {L : Nat → Nat} {F : Nat → Nat → Int} (h : StOk (n : Int) m L F) : wst (hsI L F) m n par = if anyB (fun i => decide (par < L i)) m = true then ((par + 1 : Nat) : Int) else -1 := by
  rw [wst_is]
  have e : anyB (fun i => decide (par < cn (hsI L F i) n)) m = anyB (fun i => decide (par < L i)) m := by
    rw [Bool.eq_iff_iff, anyB_true, anyB_true]
    constructor
    · rintro ⟨i, hi, q⟩; exact ⟨i, hi, by rw [row_wide (h.row i hi)] at q; exact q⟩
    · rintro ⟨i, hi, q⟩; exact ⟨i, hi, by rw [row_wide (h.row i hi)]; exact q⟩
  rw [e]
end Go.Proofs.Ytfnbpljgmchhbaa
