/- Elements that were seen, in an array of marks; whether one is there twice. -/
import Derived.Test.YtfnbpljgmchhbaaMe
namespace Go.Proofs.Ytfnbpljgmchhbaa
open Go.ChangeShapes Go.WideShapes Go.ChangeAt Go.RowKit El Pol
/-- x is amid the first k -/
def amid (X : Nat → El) (x : El) : Nat → Bool
  | 0 => false
  | k + 1 => amid X x k || decide (X k = x)
/-- two of the first k are one -/
def twice (X : Nat → El) : Nat → Bool
  | 0 => false
  | k + 1 => twice X k || amid X (X k) k
theorem twice_mono (X : Nat → El) : ∀ (n k : Nat), k ≤ n → twice X k = true → twice X n = true
  | 0, k, h, e => by rw [show k = 0 by omega] at e; exact e
  | n + 1, k, h, e => by
    by_cases hk : k = n + 1
    · rw [← hk]; exact e
    · rw [twice, twice_mono X n k (by omega) e]; rfl
def seen0 : Array Value := Array.replicate 256 (.bool false)
theorem zero_seen (w : World) : (zeroValue 119).run Try.prog w = .ok (.agg seen0) w := by kernel_rfl
/-- the marks at block h: f -/
def Marks (w : World) (h : Nat) (f : El → Bool) : Prop := h < w.heap.size ∧ ∀ x : El, w.cell? ⟨h, x.val, none⟩ = some (.bool (f x)) ∧ w.frozen? ⟨h, x.val, none⟩ = false
theorem marks_new (w : World) : Marks (w.alloc (.cells seen0 119)) w.heap.size (fun _ => false) := by
  have h := heap_alloc_new w (.cells seen0 119)
  refine ⟨by simp, fun x => ⟨?_, ?_⟩⟩
  · rw [cell_of_row _ _ _ _ _ _ h]
    simp [seen0]
  · exact frozen_of_row _ _ _ _ _ h
theorem marks_set {w : World} {h : Nat} {f : El → Bool} (hm : Marks w h f) (x : El) (o : Obj) :
    Marks ((w.setCell ⟨h, x.val, none⟩ (.bool true)).alloc o) h (fun y => f y || decide (x = y)) ∧ Below h w ((w.setCell ⟨h, x.val, none⟩ (.bool true)).alloc o) := by
  have hs : h < (w.setCell ⟨h, x.val, none⟩ (.bool true)).heap.size := by simpa using hm.1
  refine ⟨⟨by simp; exact Nat.lt_succ_of_lt hm.1, fun y => ?_⟩, ((Below.refl h w).setCell (p := ⟨h, x.val, none⟩) (Nat.le_refl _) _).alloc (Nat.le_of_lt hs) _⟩
  rw [World.cell?_alloc_past _ _ _ hs, World.frozen?_alloc_past _ _ _ hs, World.frozen?_setCell]
  obtain ⟨h1, h2⟩ := hm.2 y
  refine ⟨?_, h2⟩
  by_cases e : x = y
  · subst e
    rw [World.cell?_setCell_same _ _ _ h1]
    simp
  · rw [World.cell?_setCell_other _ _ _ _ (by simp; intro q; exact e (Fin.ext q)), h1]
    simp [e]
theorem amid_iff (X : Nat → El) (x : El) : ∀ k, amid X x k = true ↔ ∃ j, j < k ∧ X j = x
  | 0 => by constructor
            · intro h; cases h
            · rintro ⟨j, hj, _⟩; omega
  | k + 1 => by
    rw [amid, Bool.or_eq_true, amid_iff X x k, decide_eq_true_iff]
    constructor
    · rintro (⟨j, hj, h⟩ | h)
      · exact ⟨j, by omega, h⟩
      · exact ⟨k, by omega, h⟩
    · rintro ⟨j, hj, h⟩
      by_cases e : j = k
      · subst e; exact .inr h
      · exact .inl ⟨j, by omega, h⟩
theorem twice_iff (X : Nat → El) : ∀ n, twice X n = true ↔ ∃ i j, i < j ∧ j < n ∧ X i = X j
  | 0 => by constructor
            · intro h; cases h
            · rintro ⟨i, j, _, hj, _⟩; omega
  | n + 1 => by
    rw [twice, Bool.or_eq_true, twice_iff X n, amid_iff]
    constructor
    · rintro (⟨i, j, hi, hj, h⟩ | ⟨j, hj, h⟩)
      · exact ⟨i, j, hi, by omega, h⟩
      · exact ⟨j, n, hj, by omega, h⟩
    · rintro ⟨i, j, hi, hj, h⟩
      by_cases e : j = n
      · subst e; exact .inr ⟨i, hi, h⟩
      · exact .inl ⟨i, j, hi, by omega, h⟩
theorem not_twice {X : Nat → El} {n : Nat} (h : twice X n = false) : ∀ i j, i < j → j < n → X i ≠ X j := by
  intro i j hi hj e
  rw [(twice_iff X n).2 ⟨i, j, hi, hj, e⟩] at h
  cases h
theorem marks_put {w : World} {h : Nat} {f : El → Bool} (hm : Marks w h f) (x : El) :
    Marks (w.setCell ⟨h, x.val, none⟩ (.bool true)) h (fun y => f y || decide (x = y)) ∧ Below h w (w.setCell ⟨h, x.val, none⟩ (.bool true)) := by
  refine ⟨⟨by simpa using hm.1, fun y => ?_⟩, (Below.refl h w).setCell (p := ⟨h, x.val, none⟩) (Nat.le_refl _) _⟩
  rw [World.frozen?_setCell]
  obtain ⟨h1, h2⟩ := hm.2 y
  refine ⟨?_, h2⟩
  by_cases e : x = y
  · subst e
    rw [World.cell?_setCell_same _ _ _ h1]
    simp
  · rw [World.cell?_setCell_other _ _ _ _ (by simp; intro q; exact e (Fin.ext q)), h1]
    simp [e]
end Go.Proofs.Ytfnbpljgmchhbaa
