/- On which disks: what a disk has together with others: plain. -/
import Derived.Test.YtdbanimlnjhhlaaDoorPcA
namespace Go.Proofs.YtdbanimlnjhhlaaDoor
/-- of m stripes: how many have the disk d; how many have d and e, which is another one -/
def lds (has : Nat → Nat → Bool) (m d : Nat) : Nat := cn (fun i => has i d) m
def prs (has : Nat → Nat → Bool) (m d e : Nat) : Nat := if e = d then 0 else cn (fun i => has i d && has i e) m
theorem cn_if (b : Bool) (p : Nat → Bool) (n : Nat) : cn (fun i => b && p i) n = if b = true then cn p n else 0 := by
  cases b with
  | true => rw [if_pos rfl]; exact cn_congr (fun i _ => Bool.true_and _)
  | false => rw [if_neg Bool.false_ne_true]; exact cn_zero (fun i _ => Bool.false_and _)
/-- counted by rows or by columns -/
theorem sm_swap (q : Nat → Nat → Bool) (n : Nat) : ∀ m, sm (fun e => cn (fun i => q i e) m) n = sm (fun i => cn (q i) n) m
  | 0 => sm_zero n
  | m + 1 => by
    have e : (fun e => cn (fun i => q i e) (m + 1)) = fun e => cn (fun i => q i e) m + if q m e = true then 1 else 0 := rfl
    rw [e, sm_add, sm_swap q n m, sm_cn (q m)]
    rfl
theorem sm_times (b : Nat → Bool) (k : Nat) : ∀ m, sm (fun i => if b i = true then k else 0) m = cn b m * k
  | 0 => by rw [show cn b 0 = 0 from rfl, Nat.zero_mul]; rfl
  | m + 1 => by
    show sm (fun i => if b i = true then k else 0) m + (if b m = true then k else 0) = (cn b m + if b m = true then 1 else 0) * k
    rw [sm_times b k m]
    split
    · rw [Nat.succ_mul]
    · rw [Nat.add_zero, Nat.add_zero]
/-- what a disk has together with others is what its stripes have without it -/
theorem prs_sum {has : Nat → Nat → Bool} {m n w d : Nat} (hd : d < n) (hw : ∀ i, i < m → cn (has i) n = w) : sm (prs has m d) n = lds has m d * (w - 1) := by
  have e1 : ∀ e, e < n → prs has m d e = cn (fun i => has i d && (has i e && decide (e ≠ d))) m := fun e _ => by
    unfold prs
    by_cases z : e = d
    · rw [if_pos z]
      exact (cn_zero (fun i _ => by rw [decide_eq_false (fun q => q z), Bool.and_false, Bool.and_false])).symm
    · rw [if_neg z]
      exact cn_congr (fun i _ => by rw [decide_eq_true z, Bool.and_true])
  rw [sm_congr e1, sm_swap (fun i e => has i d && (has i e && decide (e ≠ d))) n m]
  have e2 : ∀ i, i < m → cn (fun e => has i d && (has i e && decide (e ≠ d))) n = if has i d = true then w - 1 else 0 := fun i hi => by
    rw [cn_if]
    by_cases z : has i d = true
    · rw [if_pos z, if_pos z, ← hw i hi]
      have := cn_one (p := fun e => has i e && decide (e ≠ d)) (q := has i) (b := d) (n := n) hd (fun e _ hne => by rw [decide_eq_true hne, Bool.and_true]) (by rw [decide_eq_false (fun q => q rfl), Bool.and_false]) z
      omega
    · rw [if_neg z, if_neg z]
  rw [sm_congr e2, sm_times (fun i => has i d)]
  rfl
/-- of stripes that were placed -/
theorem placed_lds (n w d m : Nat) : lds (fun i => tkn (ld n w i) n w) m d = ld n w m d := (ld_cn n w d m).symm
theorem placed_prs {n w d : Nat} (hw : w ≤ n) (hd : d < n) (m : Nat) : sm (prs (fun i => tkn (ld n w i) n w) m d) n = ld n w m d * (w - 1) := by
  rw [prs_sum hd (fun i _ => tkn_cn hw), placed_lds]
end Go.Proofs.YtdbanimlnjhhlaaDoor
