/- What the document's Row answers: the fault of a row: a walk over the program. -/
import Derived.Test.YtdbanimlnjhhlaaDoorWrP
import Derived.Test.YtdbanimlnjhhlaaDoorRefUa
namespace Go.Proofs.YtdbanimlnjhhlaaDoor
open Go.ChangeShapes Go.WideShapes Go.ChangeAt Go.RowKit El Pol
theorem dblocks_none (ao : Option Addr) (cap : Nat) (w : World) :
    Calls Tryd.prog 41 #[.slice ao 0 cap] w fun e w' => e = .returned (.int .i64 0) ∧ Below w.heap.size w w' := by
  go_enter Tryd.func41, Tryd.ntmps41
  go_wp2
  go_loop [3] (fun t => t = .int .i64 0) (fun _ => 0)
  case atStart => rfl
  case round =>
    subst hrel
    go_wp2
    go_ret
    exact ⟨rfl, Below.refl _ _⟩
theorem drow_any (row : Int) (v : Value) (n : Nat) (f : Nat → List El) (w : World) (hr : RdT w v n f) :
    Calls Tryd.prog 19 #[.int .i64 row, v] w fun e w' => e = .returned (.int .i64 ((wE row n f : Nat) : Int)) ∧ Below w.heap.size w w' := by
  obtain ⟨ao, cap, rfl, _, _⟩ := hr.len
  by_cases h : row < 0 ∨ 20 ≤ row
  · rw [wE_row h]
    clear hr
    rcases h with h | h
    · have hd1 : decide (row < 0) = true := decide_eq_true h
      clear h
      go_enter Tryd.func19, Tryd.ntmps19
      go_wp2
      go_ret
      exact ⟨rfl, Below.refl _ _⟩
    · have hd1 : decide (row < 0) = false := decide_eq_false (by omega)
      have hd2 : decide (20 ≤ row) = true := decide_eq_true h
      clear h
      go_enter Tryd.func19, Tryd.ntmps19
      go_wp2
      go_ret
      exact ⟨rfl, Below.refl _ _⟩
  · have hd1 : decide (row < 0) = false := decide_eq_false (fun q => h (.inl q))
    have hd2 : decide (20 ≤ row) = false := decide_eq_false (fun q => h (.inr q))
    by_cases h2 : 12 < n
    · rw [wE_full h h2]
      have h2' : (12 : Int) < (n : Int) := by omega
      clear hr h
      go_enter Tryd.func19, Tryd.ntmps19
      go_wp2
      go_ret
      exact ⟨rfl, Below.refl _ _⟩
    · have h2' : ¬ (12 : Int) < (n : Int) := by omega
      have C : Calls Tryd.prog 41 #[.slice ao n cap] w fun e w' => e = .returned (.int .i64 ((wE row n f : Nat) : Int)) ∧ Below w.heap.size w w' := by
        by_cases h3 : n = 0
        · subst h3
          rw [wE_none h]
          exact dblocks_none ao cap w
        · rw [wE_some h h2 h3]
          exact rblocks_any _ n f w hr (by omega) (by omega)
      generalize wE row n f = q at *
      clear hr h
      go_enter Tryd.func19, Tryd.ntmps19
      go_wp2_with fail
      refine C.mono ?_
      rintro e w1 ⟨rfl, hB⟩
      clear C
      go_wp2
      go_ret
      exact ⟨rfl, hB⟩
end Go.Proofs.YtdbanimlnjhhlaaDoor
