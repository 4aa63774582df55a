/- What wire.Pack answers: a walk over the program. -/
import Derived.Test.YtdbanimlnjhhlaaDoorWrC
import Derived.Test.YtdbanimlnjhhlaaDoorWrS
import Derived.Test.YtdbanimlnjhhlaaDoorWrT
import Derived.Test.YtdbanimlnjhhlaaDoorBlkB
import Derived.Test.YtdbanimlnjhhlaaDoorBldJ
namespace Go.Proofs.YtdbanimlnjhhlaaDoor
open Go.ChangeShapes Go.WideShapes Go.ChangeAt Go.RowKit El Pol
/-- the fault of a row -/
def wE (row : Int) (n : Nat) (f : Nat → List El) : Nat := if row < 0 ∨ 20 ≤ row then 1 else if 12 < n then 4 else if n = 0 then 0 else bbad n f
/-- its bytes -/
def wP (row : Int) (n : Nat) (f : Nat → List El) : List El := if wE row n f = 0 then wpack row.toNat n f else []
theorem wE_row {row : Int} {n : Nat} {f : Nat → List El} (h : row < 0 ∨ 20 ≤ row) : wE row n f = 1 := if_pos h
theorem wE_full {row : Int} {n : Nat} {f : Nat → List El} (h : ¬ (row < 0 ∨ 20 ≤ row)) (h2 : 12 < n) : wE row n f = 4 := by unfold wE; rw [if_neg h, if_pos h2]
theorem wE_none {row : Int} {f : Nat → List El} (h : ¬ (row < 0 ∨ 20 ≤ row)) : wE row 0 f = 0 := by unfold wE; rw [if_neg h, if_neg (by omega), if_pos rfl]
theorem wE_some {row : Int} {n : Nat} {f : Nat → List El} (h : ¬ (row < 0 ∨ 20 ≤ row)) (h2 : ¬ 12 < n) (h3 : n ≠ 0) : wE row n f = bbad n f := by unfold wE; rw [if_neg h, if_neg h2, if_neg h3]
theorem wP_bad {row : Int} {n : Nat} {f : Nat → List El} (h : wE row n f ≠ 0) : wP row n f = [] := if_neg h
theorem wP_ok {row : Int} {n : Nat} {f : Nat → List El} (h : wE row n f = 0) : wP row n f = wpack row.toNat n f := if_pos h
theorem wE_lt (row : Int) (n : Nat) (f : Nat → List El) : wE row n f ≤ 4 := by
  unfold wE bbad
  split
  · omega
  · split
    · omega
    · split
      · omega
      · split
        · omega
        · split <;> omega
theorem wok_of {row : Int} {n : Nat} {f : Nat → List El} (h : wE row n f = 0) : ∃ r : Nat, row = r ∧ WOk r n f := by
  by_cases h1 : row < 0 ∨ 20 ≤ row
  · rw [wE_row h1] at h; omega
  · by_cases h2 : 12 < n
    · rw [wE_full h1 h2] at h; omega
    · obtain ⟨r, rfl⟩ : ∃ r : Nat, row = r := ⟨row.toNat, by omega⟩
      by_cases h3 : n = 0
      · subst h3
        exact ⟨r, rfl, by omega, by omega, fun i hi => by omega, by unfold wsz; rw [if_pos rfl]; omega⟩
      · rw [wE_some h1 h2 h3] at h
        obtain ⟨q1, q2⟩ := bbad_ok h
        have e : wsz f n = (f 0).length := if_neg h3
        exact ⟨r, rfl, by omega, by omega, fun i hi => by rw [e]; exact q1 i hi, by rw [e]; exact q2⟩
theorem wE_ok {r n : Nat} {f : Nat → List El} (h : WOk r n f) : wE (r : Int) n f = 0 := by
  have h1 := h.row
  have h2 := h.many
  by_cases h3 : n = 0
  · subst h3; exact wE_none (by omega)
  · have e : wsz f n = (f 0).length := if_neg h3
    rw [wE_some (by omega) (by omega) h3]
    exact bbad_of (fun i hi => by rw [h.one i hi, e]) (by rw [← e]; exact h.short)
theorem wP_of {r n : Nat} {f : Nat → List El} (h : WOk r n f) : wP (r : Int) n f = wpack r n f := by
  rw [wP_ok (wE_ok h)]; rfl
theorem blocks_none (ao : Option Addr) (cap : Nat) (w : World) :
    Calls Tryd.prog 42 #[.slice ao 0 cap] w fun e w' => e = .returned .nilIface ∧ Below w.heap.size w w' := by
  have hz : Calls Tryd.prog 59 #[.slice ao 0 cap] w fun e w' => e = .returned (.int .i64 0) ∧ w' = w := by
    go_enter Tryd.func59, Tryd.ntmps59
    go_wp2
    go_ret
    exact ⟨rfl, rfl⟩
  have hi : ∀ (c : Value) (W : World), Calls Tryd.prog 75 #[.slice ao 0 cap, .func (.func 60) #[] #[c]] W fun e w' => e = .returned (.int .i64 (-1)) ∧ w' = W := fun c W => by
    go_enter Tryd.func75, Tryd.ntmps75
    go_wp2
    go_loop [8] (fun t => t = .int .i64 0) (fun t => 0)
    case atStart => rfl
    case round =>
      subst hrel
      go_wp2
      go_ret
      exact ⟨rfl, rfl⟩
  have hcn : ∀ (c : Value) (W : World), Calls Tryd.prog 55 #[.slice ao 0 cap, .func (.func 60) #[] #[c]] W fun e w' => e = .returned (.bool false) ∧ w' = W := fun c W => by
    have C := hi c W
    clear hi
    go_enter Tryd.func55, Tryd.ntmps55
    go_wp2_with fail
    refine C.mono ?_
    rintro e w1 ⟨rfl, hw⟩
    obtain rfl := hw.symm
    clear C
    go_wp2
    go_ret
    exact ⟨rfl, rfl⟩
  clear hi
  have hal : Below w.heap.size w (w.alloc (.cells #[.int .i64 0] 3)) := (Below.refl _ _).alloc (Nat.le_refl _) _
  have hc0 := cell_new w (.int .i64 0) 3
  go_enter Tryd.func42, Tryd.ntmps42
  go_wp2_with fail
  refine hz.mono ?_
  rintro e0 w0 ⟨rfl, hw0⟩
  obtain rfl := hw0.symm
  clear hz
  go_wp2_with fail
  refine (hcn _ _).mono ?_
  rintro e w1 ⟨rfl, hw⟩
  obtain rfl := hw.symm
  clear hcn
  go_wp2
  go_ret
  exact ⟨rfl, hal⟩
end Go.Proofs.YtdbanimlnjhhlaaDoor
