/- What slices.SortFunc makes of twelve numbers or fewer: walks over the program. -/
import Derived.Test.YtfeikmmojilmbaaDoorSrtB
namespace Go.Proofs.YtfeikmmojilmbaaDoor
open Go.RowKit
set_option maxRecDepth 100000 in
set_option maxHeartbeats 2000000 in
theorem len64_any (n : Nat) (hn : n ≤ 12) (w : World) : Calls Tryd.prog 94 #[.int .u64 (n : Int)] w fun e w' => (∃ l : Int, e = .returned (.int .i64 l)) ∧ w' = w := by
  have h : n = 0 ∨ n = 1 ∨ n = 2 ∨ n = 3 ∨ n = 4 ∨ n = 5 ∨ n = 6 ∨ n = 7 ∨ n = 8 ∨ n = 9 ∨ n = 10 ∨ n = 11 ∨ n = 12 := by omega
  rcases h with rfl | rfl | rfl | rfl | rfl | rfl | rfl | rfl | rfl | rfl | rfl | rfl | rfl
  all_goals
    clear hn
    go_enter Tryd.func94, Tryd.ntmps94
    go_wp2
    go_ret
    exact ⟨⟨_, rfl⟩, rfl⟩
theorem len_any (n : Nat) (hn : n ≤ 12) (w : World) : Calls Tryd.prog 80 #[.int .u64 (n : Int)] w fun e w' => (∃ l : Int, e = .returned (.int .i64 l)) ∧ w' = w := by
  have C := len64_any n hn w
  go_enter Tryd.func80, Tryd.ntmps80
  go_wp2_with fail
  refine C.mono ?_
  rintro e w1 ⟨⟨l, rfl⟩, hw⟩
  obtain rfl := hw.symm
  clear C hw
  go_wp2
  go_ret
  exact ⟨⟨_, rfl⟩, rfl⟩
set_option maxRecDepth 100000 in
set_option maxHeartbeats 2000000 in
theorem pdq_any {KP : World → Prop} {F : Nat → Nat} {B b n cap q1 q2 : Nat} {f0 : Nat → Nat} {w : World} (hK : ∀ W W', KP W → But (· = b) W W' → KP W') (hC : CmpF KP q1 q2 F) (hn : n ≤ 12) (h : SrW KP F B b n cap f0 w f0 w) (l : Int) :
    Calls Tryd.prog 79 #[.slice (some ⟨b, 0, none⟩) n cap, .int .i64 0, .int .i64 (n : Int), .int .i64 l, cmpV q1 q2] w fun e w' => e = .returned (.tuple #[]) ∧ ∃ f, SrtN F n f ∧ SrW KP F B b n cap f0 w f w' := by
  have C := insert_any hK hC hn h
  have hz : (n : Int) ≤ 12 := by omega
  clear h hC hK
  go_enter Tryd.func79, Tryd.ntmps79
  go_wp2
  refine wp_loop_rounds 1 ?_
  rw [rounds_succ]
  go_wp2_with fail
  refine C.mono ?_
  rintro e w1 ⟨rfl, f, hS, hW⟩
  have HS : Hid (SrtN F n f) := hS
  have HW : Hid (SrW KP F B b n cap f0 w f w1) := hW
  clear C hS hW
  go_wp2
  (try simp only [Exit.inBlock, Exit.then])
  refine bodyPost_ret (results_none rfl _ _ _) rfl ?_
  exact ⟨rfl, f, HS.out, HW.out⟩
set_option maxRecDepth 100000 in
set_option maxHeartbeats 2000000 in
theorem sort_any {KP : World → Prop} {F : Nat → Nat} {B b n cap q1 q2 : Nat} {f0 : Nat → Nat} {w : World} (hK : ∀ W W', KP W → But (· = b) W W' → KP W') (hC : CmpF KP q1 q2 F) (hn : n ≤ 12) (h : SrW KP F B b n cap f0 w f0 w) :
    Calls Tryd.prog 70 #[.slice (some ⟨b, 0, none⟩) n cap, cmpV q1 q2] w fun e w' => e = .returned (.tuple #[]) ∧ ∃ f, SrtN F n f ∧ SrW KP F B b n cap f0 w f w' := by
  have C := fun l => pdq_any hK hC hn h l
  have N := len_any n hn w
  have hz : (n : Int) ≤ 12 := by omega
  clear h hC hK
  go_enter Tryd.func70, Tryd.ntmps70
  go_wp2_with fail
  refine N.mono ?_
  rintro e w1 ⟨⟨l, rfl⟩, hw⟩
  obtain rfl := hw.symm
  clear N hw
  go_wp2_with fail
  refine (C l).mono ?_
  rintro e w1 ⟨rfl, f, hS, hW⟩
  have HS : Hid (SrtN F n f) := hS
  have HW : Hid (SrW KP F B b n cap f0 w f w1) := hW
  clear C hS hW
  go_wp2
  go_end0
  exact ⟨rfl, f, HS.out, HW.out⟩
/-- of none -/
theorem insert_none (q1 q2 : Nat) (w : World) : Calls Tryd.prog 85 #[.slice none 0 0, .int .i64 0, .int .i64 0, cmpV q1 q2] w fun e w' => e = .returned (.tuple #[]) ∧ w' = w := by
  go_enter Tryd.func85, Tryd.ntmps85
  go_wp2
  refine wp_loop_rounds 1 ?_
  rw [rounds_succ]
  go_wp2
  go_end0
  exact ⟨rfl, rfl⟩
set_option maxRecDepth 100000 in
set_option maxHeartbeats 2000000 in
theorem pdq_none (q1 q2 : Nat) (w : World) (l : Int) : Calls Tryd.prog 79 #[.slice none 0 0, .int .i64 0, .int .i64 0, .int .i64 l, cmpV q1 q2] w fun e w' => e = .returned (.tuple #[]) ∧ w' = w := by
  have C := insert_none q1 q2 w
  go_enter Tryd.func79, Tryd.ntmps79
  go_wp2
  refine wp_loop_rounds 1 ?_
  rw [rounds_succ]
  go_wp2_with fail
  refine C.mono ?_
  rintro e w1 ⟨rfl, hw⟩
  obtain rfl := hw.symm
  clear C hw
  go_wp2
  (try simp only [Exit.inBlock, Exit.then])
  refine bodyPost_ret (results_none rfl _ _ _) rfl ?_
  exact ⟨rfl, rfl⟩
theorem sort_none (q1 q2 : Nat) (w : World) : Calls Tryd.prog 70 #[.slice none 0 0, cmpV q1 q2] w fun e w' => e = .returned (.tuple #[]) ∧ w' = w := by
  have C := fun l => pdq_none q1 q2 w l
  have N := len_any 0 (Nat.zero_le _) w
  go_enter Tryd.func70, Tryd.ntmps70
  go_wp2_with fail
  refine N.mono ?_
  rintro e w1 ⟨⟨l, rfl⟩, hw⟩
  obtain rfl := hw.symm
  clear N hw
  go_wp2_with fail
  refine (C l).mono ?_
  rintro e w1 ⟨rfl, hw⟩
  obtain rfl := hw.symm
  clear C hw
  go_wp2
  go_end0
  exact ⟨rfl, rfl⟩
end Go.Proofs.YtfeikmmojilmbaaDoor
