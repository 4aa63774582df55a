/- Sorting by exchanges of neighbours, plainly: what stands at each place, and that it is in order at last. -/
import Derived.Test.YtdbanimlnjhhlaaDoorGen
namespace Go.Proofs.YtdbanimlnjhhlaaDoor
/-- neighbours exchanged -/
def swp (f : Nat → Nat) (j : Nat) : Nat → Nat := up (up f (j + 1) (f j)) j (f (j + 1))
theorem swp_lo (f : Nat → Nat) (j : Nat) : swp f j j = f (j + 1) := up_at _ _ _
theorem swp_hi (f : Nat → Nat) (j : Nat) : swp f j (j + 1) = f j := by unfold swp; rw [up_ne _ _ (by omega), up_at]
theorem swp_ne (f : Nat → Nat) {j k : Nat} (h1 : k ≠ j) (h2 : k ≠ j + 1) : swp f j k = f k := by unfold swp; rw [up_ne _ _ h1, up_ne _ _ h2]
/-- the same numbers, at other places -/
def SameN (n : Nat) (f g : Nat → Nat) : Prop := ∀ k, (∃ i, i < n ∧ f i = k) ↔ ∃ i, i < n ∧ g i = k
theorem SameN.refl (n : Nat) (f : Nat → Nat) : SameN n f f := fun _ => Iff.rfl
theorem SameN.trans {n : Nat} {f g h : Nat → Nat} (a : SameN n f g) (b : SameN n g h) : SameN n f h := fun k => (a k).trans (b k)
theorem SameN.swp {n j : Nat} (hj : j + 1 < n) (f : Nat → Nat) : SameN n f (swp f j) := fun k => by
  constructor
  · rintro ⟨i, hi, e⟩
    by_cases e1 : i = j
    · exact ⟨j + 1, hj, by rw [swp_hi, ← e1]; exact e⟩
    · by_cases e2 : i = j + 1
      · exact ⟨j, by omega, by rw [swp_lo, ← e2]; exact e⟩
      · exact ⟨i, hi, by rw [swp_ne f e1 e2]; exact e⟩
  · rintro ⟨i, hi, e⟩
    by_cases e1 : i = j
    · rw [e1, swp_lo] at e; exact ⟨j + 1, hj, e⟩
    · by_cases e2 : i = j + 1
      · rw [e2, swp_hi] at e; exact ⟨j, by omega, e⟩
      · rw [swp_ne f e1 e2] at e; exact ⟨i, hi, e⟩
/-- no two of one turn -/
def InjN (F : Nat → Nat) (n : Nat) (f : Nat → Nat) : Prop := ∀ p q, p < n → q < n → p ≠ q → F (f p) ≠ F (f q)
def sg (j i : Nat) : Nat := if i = j then j + 1 else if i = j + 1 then j else i
theorem swp_sg (f : Nat → Nat) (j i : Nat) : swp f j i = f (sg j i) := by
  unfold sg
  by_cases e1 : i = j
  · rw [if_pos e1, e1, swp_lo]
  · by_cases e2 : i = j + 1
    · rw [if_neg e1, if_pos e2, e2, swp_hi]
    · rw [if_neg e1, if_neg e2, swp_ne f e1 e2]
theorem InjN.swp {F : Nat → Nat} {n : Nat} {f : Nat → Nat} (h : InjN F n f) {j : Nat} (hj : j + 1 < n) : InjN F n (swp f j) := fun p q hp hq hne => by
  rw [swp_sg, swp_sg]
  refine h _ _ ?_ ?_ ?_
  · unfold sg; split
    · exact hj
    · split <;> omega
  · unfold sg; split
    · exact hj
    · split <;> omega
  · unfold sg
    repeat' split
    all_goals omega
/-- the first i are in order -/
def SrtN (F : Nat → Nat) (i : Nat) (f : Nat → Nat) : Prop := ∀ p q, p < q → q < i → F (f p) < F (f q)
/-- the first i + 1, but for what stands at j -/
def InsN (F : Nat → Nat) (i j : Nat) (f : Nat → Nat) : Prop := (∀ p q, p < q → q ≤ i → p ≠ j → q ≠ j → F (f p) < F (f q)) ∧ ∀ q, j < q → q ≤ i → F (f j) < F (f q)
theorem InsN.start {F : Nat → Nat} {i : Nat} {f : Nat → Nat} (h : SrtN F i f) : InsN F i i f := ⟨fun p q h1 h2 _ h4 => h p q h1 (by omega), fun q h1 h2 => by omega⟩
theorem InsN.step {F : Nat → Nat} {i j : Nat} {f : Nat → Nat} (h : InsN F i (j + 1) f) (hj : j + 1 ≤ i) (hl : F (f (j + 1)) < F (f j)) : InsN F i j (swp f j) := by
  obtain ⟨h1, h2⟩ := h
  refine ⟨fun p q hpq hq hp hq' => ?_, fun q hq hqi => ?_⟩
  · by_cases e1 : p = j + 1
    · rw [e1, swp_hi, swp_ne f hq' (by omega)]
      exact h1 j q (by omega) hq (by omega) (by omega)
    · by_cases e2 : q = j + 1
      · rw [e2, swp_hi, swp_ne f hp e1]
        exact h1 p j (by omega) (by omega) e1 (by omega)
      · rw [swp_ne f hp e1, swp_ne f hq' e2]
        exact h1 p q hpq hq e1 e2
  · rw [swp_lo]
    by_cases e : q = j + 1
    · rw [e, swp_hi]; exact hl
    · rw [swp_ne f (by omega) e]
      exact h2 q (by omega) hqi
theorem InsN.done {F : Nat → Nat} {i j : Nat} {f : Nat → Nat} (h : InsN F i j f) (hl : ∀ k, j = k + 1 → F (f k) < F (f j)) : SrtN F (i + 1) f := by
  obtain ⟨h1, h2⟩ := h
  intro p q hpq hq
  by_cases e1 : p = j
  · rw [e1]; exact h2 q (by omega) (by omega)
  · by_cases e2 : q = j
    · rw [e2]
      obtain ⟨k, hk⟩ : ∃ k, j = k + 1 := ⟨j - 1, by omega⟩
      have h3 := hl k hk
      by_cases e3 : p = k
      · rw [e3]; exact h3
      · have := h1 p k (by omega) (by omega) e1 (by omega)
        omega
    · exact h1 p q hpq (by omega) e1 e2
/-- cmp.Compare -/
def cmpN (a b : Nat) : Int := if a < b then -1 else if b < a then 1 else 0
theorem cmpN_lt (a b : Nat) : decide (cmpN a b < 0) = decide (a < b) := by
  unfold cmpN
  by_cases h : a < b
  · simp [h]
  · rw [if_neg h]
    split <;> simp [h]
end Go.Proofs.YtdbanimlnjhhlaaDoor
