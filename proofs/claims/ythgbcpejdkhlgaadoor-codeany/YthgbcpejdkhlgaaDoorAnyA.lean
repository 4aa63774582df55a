/- Any so many are enough: what is right of parts, of parts with a byte changed, of parts that come back. -/
import Derived.Test.YthgbcpejdkhlgaaDoorCodeN
namespace Go.Proofs.YthgbcpejdkhlgaaDoor
open Go.ChangeShapes Go.WideShapes Go.ChangeAt Go.RowKit El Pol Mx
/-- data and their parity, one behind the other -/
abbrev prt (k L : Nat) (D : M) : Nat → List El := fun i => row (mm k (gen k) D i) L
theorem prt_data {k L : Nat} {D : M} : Eqm k L (mx (prt k L D)) D := fun i j hi hj => by
  show co (row (mm k (gen k) D i) L) j = D i j
  rw [co_row_lt _ hj, gen_data hi]
theorem right_true (k m L : Nat) (D : M) : sameL m m (fun i => row (mm k (par k) (mx (prt k L D)) i) L) (fun i => prt k L D (k + i)) = true := by
  refine sameL_iff.2 ⟨rfl, fun i hi => row_congr (fun j hj => ?_)⟩
  rw [gen_parity]
  exact mm_congr (Eqm.refl m k (par k)) prt_data i j hi hj
theorem right_false (k m L : Nat) (D : M) (i j : Nat) (x : El) (hk : k + m ≤ 12) (hm : 0 < m) (hi : i < k + m) (hj : j < L) (hx : co (prt k L D i) j ≠ x) :
    sameL m m (fun l => row (mm k (par k) (mx (up (prt k L D) i ((prt k L D i).set j x))) l) L) (fun l => up (prt k L D) i ((prt k L D i).set j x) (k + l)) = false := by
  rw [Bool.eq_false_iff]
  intro h
  have h2 := (sameL_iff.1 h).2
  have hset : co ((prt k L D i).set j x) j = x := by
    have : j < (prt k L D i).length := by rw [row_length]; exact hj
    simp [co, List.getD_eq_getElem?_getD, this]
  have hset2 : ∀ l, l ≠ j → co ((prt k L D i).set j x) l = co (prt k L D i) l := fun l hl => by
    simp [co, List.getD_eq_getElem?_getD, Ne.symm hl]
  by_cases hik : i < k
  · have h3 := congrArg (fun l => co l j) (h2 0 hm)
    rw [co_row_lt _ hj, up_ne _ _ (by omega), show co (prt k L D (k + 0)) j = mm k (par k) D 0 j from by rw [show co (prt k L D (k + 0)) j = mm k (gen k) D (k + 0) j from co_row_lt _ hj, gen_parity]] at h3
    refine par_moves (E := mx (up (prt k L D) i ((prt k L D i).set j x))) (D := D) (i := i) (j := j) hik ?_ (fun l hl hli => ?_) 0 (by omega) h3
    · show co (up (prt k L D) i ((prt k L D i).set j x) i) j ≠ D i j
      rw [up_at, hset]
      intro e
      apply hx
      rw [e]
      exact prt_data i j hik hj
    · show co (up (prt k L D) i ((prt k L D i).set j x) l) j = D l j
      rw [up_ne _ _ hli]
      exact prt_data l j hl hj
  · have h3 := congrArg (fun l => co l j) (h2 (i - k) (by omega))
    rw [show k + (i - k) = i by omega, up_at, hset, co_row_lt _ hj] at h3
    apply hx
    rw [← h3, show co (prt k L D i) j = mm k (gen k) D i j from co_row_lt _ hj, show i = k + (i - k) by omega, gen_parity, show k + (i - k) - k = i - k by omega]
    have e : Eqm k L (mx (up (prt k L D) (k + (i - k)) ((prt k L D (k + (i - k))).set j x))) D := fun a b ha hb => by
      show co (up (prt k L D) (k + (i - k)) ((prt k L D (k + (i - k))).set j x) a) b = D a b
      rw [up_ne _ _ (by omega)]
      exact prt_data a b ha hb
    exact (mm_congr (Eqm.refl m k (par k)) e (i - k) j (by omega) hj).symm
/-- what is lost is junk -/
def jnk (P : Nat → List El) (lost : Nat → Bool) (junk : List El) (n : Nat) : Nat → List El := fun i => if i < n ∧ lost i = true then junk else P i
theorem jnk_yes {P : Nat → List El} {lost : Nat → Bool} {junk : List El} {n i : Nat} (h : i < n ∧ lost i = true) : jnk P lost junk n i = junk := if_pos h
theorem jnk_no {P : Nat → List El} {lost : Nat → Bool} {junk : List El} {n i : Nat} (h : ¬ (i < n ∧ lost i = true)) : jnk P lost junk n i = P i := if_neg h
theorem jnk_up (P : Nat → List El) (lost : Nat → Bool) (junk : List El) (n : Nat) (h : lost n = true) : up (fun i => st (jnk P lost junk n i)) n (st junk) = fun i => st (jnk P lost junk (n + 1) i) := by
  funext i
  by_cases e : i = n
  · rw [e, up_at, jnk_yes ⟨by omega, h⟩]
  · rw [up_ne _ _ e]
    by_cases h2 : i < n ∧ lost i = true
    · rw [jnk_yes h2, jnk_yes ⟨by omega, h2.2⟩]
    · rw [jnk_no h2, jnk_no (fun q => h2 ⟨by omega, q.2⟩)]
theorem jnk_same (P : Nat → List El) (lost : Nat → Bool) (junk : List El) (n : Nat) (h : lost n = false) : (fun i => st (jnk P lost junk n i)) = fun i => st (jnk P lost junk (n + 1) i) := by
  funext i
  by_cases e : i = n
  · rw [e, jnk_no (by simp [h]), jnk_no (by simp [h])]
  · by_cases h2 : i < n ∧ lost i = true
    · rw [jnk_yes h2, jnk_yes ⟨by omega, h2.2⟩]
    · rw [jnk_no h2, jnk_no (fun q => h2 ⟨by omega, q.2⟩)]
theorem jnk_left {P : Nat → List El} {lost : Nat → Bool} {junk : List El} {n i : Nat} (h : i < (ix lost n).length) : jnk P lost junk n (at' lost n i) = P (at' lost n i) :=
  jnk_no (by rw [(at_mem h).2]; simp)
/-- five alone -/
theorem five : row (mm 1 (par 1) (mx fun _ => [5]) 0) 1 = [5] := by decide +kernel
theorem five_text : st [5] = .string ⟨#[5]⟩ := rfl
end Go.Proofs.YthgbcpejdkhlgaaDoor
