/- The closed fact of the whole: P is the sum: a walk over the program. -/
import Derived.Test.YtfnbpljgmchhbaaPw
namespace Go.Proofs.Ytfnbpljgmchhbaa
open Go.RowKit El Pol Mx
def p56 (i : Nat) : List El := if i = 0 then [5] else [6]
theorem lit56 (w : World) : RdF (w.alloc (.cells #[.string ⟨#[5]⟩, .string ⟨#[6]⟩] 9)) (.slice (some ⟨w.heap.size, 0, none⟩) 2 2) 2 (fun i => st (p56 i)) := by
  refine OwL.rdF (own_lit (B := 0) [.string ⟨#[5]⟩, .string ⟨#[6]⟩] (Nat.zero_le _) (by simp)) (fun i hi => ?_)
  match i, hi with
  | 0, _ => rfl
  | 1, _ => rfl
theorem p_is : row (pp 2 (mx p56)) 1 = [3] := by decide +kernel
theorem q_is : row (qq 2 (mx p56)) 1 = [9] := by decide +kernel
set_option maxRecDepth 100000 in
theorem one_any (w : World) : Calls Try.prog 11 #[] w fun e w' => e = .returned (.bool true) ∧ Below w.heap.size w w' := by
  have C := pencode_ok 2 1 (by omega) (by omega) _ p56 _ (lit56 w) (fun i hi => by unfold p56; split <;> rfl) (by omega)
  rw [p_is, q_is] at C
  have HB : Hid (Below w.heap.size w (w.alloc (.cells #[.string ⟨#[5]⟩, .string ⟨#[6]⟩] 9))) := al_below _ _
  go_enter Try.func11, Try.ntmps11
  go_wp2_with fail
  refine (show Calls Try.prog 13 #[.slice (some ⟨w.heap.size, 0, none⟩) 2 2] (w.alloc (.cells #[.string ⟨#[5]⟩, .string ⟨#[6]⟩] 9)) (fun e w' => e = .returned (.tuple #[.string ⟨#[3]⟩, .string ⟨#[9]⟩, .nilIface]) ∧ _) from C).mono ?_
  rintro e w1 ⟨rfl, hB⟩
  have HB1 : Hid (Below w.heap.size w w1) := HB.out.trans (hB.mono HB.out.size)
  clear C hB HB
  go_wp2
  go_ret
  exact ⟨rfl, HB1.out⟩
end Go.Proofs.Ytfnbpljgmchhbaa
