/- What poly.anyTooLong answers of one list and of two: by walks over the program. -/
import Derived.Test.YtikhjhbohkaajaaDoorPolyC
namespace Go.Proofs.YtikhjhbohkaajaaDoor
open Go.ChangeShapes Go.WideShapes Go.ChangeAt Go.RowKit El Pol
def tl (n : Nat) : Bool := decide (40 < n)
theorem tl_of {n : Nat} (h : 40 < n) : tl n = true := decide_eq_true h
theorem tl_not {n : Nat} (h : ¬ 40 < n) : tl n = false := decide_eq_false h
theorem is_long (a1 : Option Addr) (l1 c1 : Nat) (w : World) :
    Calls Tryd.prog 42 #[.slice a1 l1 c1] w fun e w' => e = .returned (.bool (tl l1)) ∧ w' = w := by
  by_cases h1 : 40 < l1
  all_goals
    go_enter Tryd.func42, Tryd.ntmps42
    go_wp2
    go_ret
    exact ⟨by simp [tl]; omega, rfl⟩
def at1 (p : Bool) : Int := if p then 0 else -1
def at2 (p q : Bool) : Int := if p then 0 else if q then 1 else -1
set_option maxHeartbeats 400000 in
theorem index1 (b : Nat) (a1 : Option Addr) (l1 c1 : Nat) (w : World) (h0 : w.cell? ⟨b, 0, none⟩ = some (.slice a1 l1 c1)) :
    Calls Tryd.prog 49 #[.slice (some ⟨b, 0, none⟩) 1 1, .func (.func 42) #[] #[]] w fun e w' => e = .returned (.int .i64 (at1 (tl l1))) ∧ w' = w := by
  obtain ⟨t, ht⟩ : ∃ t, t = tl l1 := ⟨_, rfl⟩
  have c := is_long a1 l1 c1 w
  rw [← ht] at c ⊢
  clear ht
  cases t
  all_goals
    go_enter Tryd.func49, Tryd.ntmps49
    go_wp2
    refine wp_loop_rounds 2 ?_
    rw [rounds_succ]
    go_wp2_with fail
    refine c.mono ?_
    rintro e w1 ⟨rfl, hw⟩
    obtain rfl := hw.symm
    clear c
    go_wp2
  · rw [rounds_succ]
    go_wp2
    go_ret
    exact ⟨rfl, rfl⟩
  · go_ret
    exact ⟨rfl, rfl⟩
set_option maxHeartbeats 400000 in
theorem index2 (b : Nat) (a1 a2 : Option Addr) (l1 c1 l2 c2 : Nat) (w : World) (h0 : w.cell? ⟨b, 0, none⟩ = some (.slice a1 l1 c1)) (h1 : w.cell? ⟨b, 1, none⟩ = some (.slice a2 l2 c2)) :
    Calls Tryd.prog 49 #[.slice (some ⟨b, 0, none⟩) 2 2, .func (.func 42) #[] #[]] w fun e w' => e = .returned (.int .i64 (at2 (tl l1) (tl l2))) ∧ w' = w := by
  obtain ⟨t, ht⟩ : ∃ t, t = tl l1 := ⟨_, rfl⟩
  obtain ⟨s, hs⟩ : ∃ s, s = tl l2 := ⟨_, rfl⟩
  have c := is_long a1 l1 c1 w
  have d := is_long a2 l2 c2 w
  rw [← ht] at c ⊢
  rw [← hs] at d ⊢
  clear ht hs
  cases t
  all_goals
    go_enter Tryd.func49, Tryd.ntmps49
    go_wp2
    refine wp_loop_rounds 3 ?_
    rw [rounds_succ]
    go_wp2_with fail
    refine c.mono ?_
    rintro e w1 ⟨rfl, hw⟩
    obtain rfl := hw.symm
    clear c
    go_wp2
  · rw [rounds_succ]
    cases s
    all_goals
      go_wp2_with fail
      refine d.mono ?_
      rintro e w1 ⟨rfl, hw⟩
      obtain rfl := hw.symm
      clear d
      go_wp2
    · rw [rounds_succ]
      go_wp2
      go_ret
      exact ⟨rfl, rfl⟩
    · go_ret
      exact ⟨rfl, rfl⟩
  · go_ret
    exact ⟨rfl, rfl⟩
theorem at1_ge (p : Bool) : decide (0 ≤ at1 p) = p := by cases p <;> rfl
theorem at2_ge (p q : Bool) : decide (0 ≤ at2 p q) = (p || q) := by cases p <;> cases q <;> rfl
theorem any_long (b n : Nat) (z : Int) (w : World) (h : Calls Tryd.prog 49 #[.slice (some ⟨b, 0, none⟩) n n, .func (.func 42) #[] #[]] w fun e w' => e = .returned (.int .i64 z) ∧ w' = w) :
    Calls Tryd.prog 34 #[.slice (some ⟨b, 0, none⟩) n n] w fun e w' => e = .returned (.bool (decide (0 ≤ z))) ∧ w' = w := by
  go_enter Tryd.func34, Tryd.ntmps34
  go_wp2_with (first | (go_at_call 49; refine h.mono ?_; rintro e w1 ⟨rfl, rfl⟩) | go_in)
  go_ret
  exact ⟨rfl, rfl⟩
theorem long1 (b : Nat) (a1 : Option Addr) (l1 c1 : Nat) (w : World) (h0 : w.cell? ⟨b, 0, none⟩ = some (.slice a1 l1 c1)) :
    Calls Tryd.prog 34 #[.slice (some ⟨b, 0, none⟩) 1 1] w fun e w' => e = .returned (.bool (tl l1)) ∧ w' = w := by
  have := any_long b 1 _ w (index1 b a1 l1 c1 w h0)
  rwa [at1_ge] at this
theorem long2 (b : Nat) (a1 a2 : Option Addr) (l1 c1 l2 c2 : Nat) (w : World) (h0 : w.cell? ⟨b, 0, none⟩ = some (.slice a1 l1 c1)) (h1 : w.cell? ⟨b, 1, none⟩ = some (.slice a2 l2 c2)) :
    Calls Tryd.prog 34 #[.slice (some ⟨b, 0, none⟩) 2 2] w fun e w' => e = .returned (.bool (tl l1 || tl l2)) ∧ w' = w := by
  have := any_long b 2 _ w (index2 b a1 a2 l1 c1 l2 c2 w h0 h1)
  rwa [at2_ge] at this
end Go.Proofs.YtikhjhbohkaajaaDoor
