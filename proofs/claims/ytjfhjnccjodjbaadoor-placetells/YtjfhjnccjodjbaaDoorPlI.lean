/- Peers counted disk by disk, without the disk itself: plain. -/
import Derived.Test.YtjfhjnccjodjbaaDoorPcD
namespace Go.Proofs.YtjfhjnccjodjbaaDoor
/-- one stripe more counted, its first k, but for the disk d -/
def pcd (f : Nat → Nat) (d k : Nat) (g : Nat → Int) (e : Nat) : Nat := if e = d then f e else ctd f k g e
theorem pcd_zero (f : Nat → Nat) (d : Nat) (g : Nat → Int) (e : Nat) : pcd f d 0 g e = f e := by
  unfold pcd
  rw [ctd_zero]
  split <;> rfl
theorem pcd_step {f : Nat → Nat} {d k l x : Nat} {g : Nat → Int} {n : Int} (h : RowOk n l g) (hk : k < l) (hx : g k = (x : Int)) (hne : x ≠ d) (e : Nat) : up (pcd f d k g) x (pcd f d k g x + 1) e = pcd f d (k + 1) g e := by
  have h1 := ctd_succ (f := f) h hk hx e
  unfold up at h1 ⊢
  unfold pcd
  rw [h1]
  by_cases e1 : e = x
  · rw [if_pos e1, if_neg hne, if_neg (by omega), if_pos e1]
  · rw [if_neg e1, if_neg e1]
theorem pcd_skip {f : Nat → Nat} {d k l : Nat} {g : Nat → Int} {n : Int} (h : RowOk n l g) (hk : k < l) (hx : g k = (d : Int)) (e : Nat) : pcd f d (k + 1) g e = pcd f d k g e := by
  have h1 := ctd_succ (f := f) h hk hx e
  unfold up at h1
  unfold pcd
  by_cases e1 : e = d
  · rw [if_pos e1, if_pos e1]
  · rw [if_neg e1, if_neg e1, h1, if_neg e1]
theorem pcd_le (f : Nat → Nat) (d k : Nat) (g : Nat → Int) (e : Nat) : pcd f d k g e ≤ f e + 1 := by
  unfold pcd
  have := ctd_le f k g e
  split <;> omega
theorem pcd_end {L : Nat → Nat} {F : Nat → Nat → Int} {i d : Nat} (h : hsI L F i d = true) (e : Nat) : pcd (prs (hsI L F) i d) d (L i) (F i) e = prs (hsI L F) (i + 1) d e := by
  unfold pcd
  by_cases e1 : e = d
  · rw [if_pos e1]
    unfold prs
    rw [if_pos e1, if_pos e1]
  · rw [if_neg e1]
    have h2 := bth_yes h e
    unfold ctd
    unfold prs
    rw [if_neg e1, if_neg e1]
    unfold ctd bth at h2
    rw [h2]
theorem prs_no {L : Nat → Nat} {F : Nat → Nat → Int} {i d : Nat} (h : hsI L F i d = false) (e : Nat) : prs (hsI L F) i d e = prs (hsI L F) (i + 1) d e := by
  unfold prs
  by_cases e1 : e = d
  · rw [if_pos e1, if_pos e1]
  · rw [if_neg e1, if_neg e1]
    exact (bth_no h e).symm
end Go.Proofs.YtjfhjnccjodjbaaDoor
