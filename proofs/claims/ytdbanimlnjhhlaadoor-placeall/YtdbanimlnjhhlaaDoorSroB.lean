/- What slices.Sort makes of twelve numbers or fewer, no two of which are one: walks over the program. -/
import Derived.Test.YtdbanimlnjhhlaaDoorSrsB
import Derived.BigQuiet
namespace Go.Proofs.YtdbanimlnjhhlaaDoor
open Go.RowKit
theorem less_any (a b : Nat) (w : World) : Calls Tryd.prog 86 #[.int .i64 (a : Int), .int .i64 (b : Int)] w fun e w' => e = .returned (.bool (decide (a < b))) ∧ w' = w := by
  have N1 := isnan_any (a : Int) w
  have HZ : Hid (decide ((a : Int) < (b : Int)) = decide (a < b)) := decide_eq_decide.2 (by omega)
  go_enter Tryd.func86, Tryd.ntmps86
  go_wp2_with fail
  refine N1.mono ?_
  rintro e w1 ⟨rfl, hw⟩
  obtain rfl := hw.symm
  clear N1 hw
  go_wp2
  go_ret
  exact ⟨by rw [← HZ.out]; rfl, rfl⟩
set_option maxRecDepth 100000 in
set_option maxHeartbeats 4000000 in
theorem insertO_any {N B b n cap : Nat} {f0 : Nat → Nat} {w : World} (hn : n ≤ 12) (h : SrW (fun _ => True) (fun x => x) N B b n cap f0 w f0 w) :
    Calls Tryd.prog 80 #[.slice (some ⟨b, 0, none⟩) n cap, .int .i64 0, .int .i64 (n : Int)] w fun e w' => e = .returned (.tuple #[]) ∧ ∃ f, SrtN (fun x => x) n f ∧ SrW (fun _ => True) (fun x => x) N B b n cap f0 w f w' := by
  have H0 : Hid (SrW (fun _ => True) (fun x => x) N B b n cap f0 w f0 w) := h
  clear h
  have HK : Hid (∀ W W' : World, True → But (· = b) W W' → True) := fun _ _ _ _ => trivial
  go_enter Tryd.func80, Tryd.ntmps80
  go_wp2
  go_loopw [6] (fun vi0 wr => ∃ (i : Nat) (f : Nat → Nat), vi0 = .int .i64 i ∧ 1 ≤ i ∧ i ≤ 13 ∧ (i ≤ n ∨ n ≤ 1) ∧ Hid (SrtN (fun x => x) (min i n) f) ∧ Hid (SrW (fun _ => True) (fun x => x) N B b n cap f0 w f wr)) (fun c _ => n - (intOf c).toNat)
  case atStart => exact ⟨1, f0, rfl, by omega, by omega, by omega, fun p q h1 h2 => by omega, H0.out⟩
  case round =>
    clear H0
    obtain ⟨i, f, rfl, hi1, hi13, hin, HS, HW⟩ := hrel
    by_cases hlt : i < n
    · have hltz : (i : Int) < (n : Int) := by omega
      have HI : Hid (InsN (fun x => x) i i f) := InsN.start (by have := HS.out; rw [Nat.min_eq_left (by omega)] at this; exact this)
      clear HS hin
      obtain ⟨w0, rfl⟩ : ∃ w0, w0 = wr := ⟨_, rfl⟩
      go_wp2
      go_loopw [7] (fun vj wq => ∃ (j : Nat) (fj : Nat → Nat), vj = .int .i64 j ∧ j ≤ i ∧ Hid (InsN (fun x => x) i j fj) ∧ Hid (SrW (fun _ => True) (fun x => x) N B b n cap f0 w fj wq)) (fun c _ => (intOf c).toNat)
      case atStart => exact ⟨i, f, rfl, Nat.le_refl _, HI.out, HW.out⟩
      case round =>
        clear HI HW
        obtain ⟨j, fj, rfl, hji, HI, HW⟩ := hrel
        by_cases hj0 : j = 0
        · have HD : Hid (SrtN (fun x => x) (min (i + 1) n) fj) := by
            rw [Nat.min_eq_left (by omega)]
            exact HI.out.done (fun k hk => by omega)
          have hjz : decide (0 < j) = false := decide_eq_false (by omega)
          clear HI hj0
          go_wp2_with fail
          go_quiet (fail)
          go_wp2
          go_roundw
          case rel => exact ⟨i + 1, fj, by go_num, by omega, by omega, by omega, HD.out, HW.out.old HK.out (below_drewN (Below.refl _ _) nq)⟩
          case measure => simp [intOf]; omega
        · obtain ⟨k, rfl⟩ : ∃ k, j = k + 1 := ⟨j - 1, by omega⟩
          have hc1 := OwI.cell HW.out.own (k + 1) (by omega)
          have hc0 := OwI.cell HW.out.own k (by omega)
          have hjz : decide ((0 : Int) < (k : Int) + 1) = true := decide_eq_true (by omega)
          have hz2 : (k : Int) + 1 < (n : Int) := by omega
          have hz3 : (k : Int) < (n : Int) := by omega
          have hwp : IntKind.i64.wrap (k : Int) = (k : Int) := by rw [IntKind.wrap_i64]; omega
          have hp0 : (0 : Int) ≤ (k : Int) + 1 := by omega
          have ht : ((k : Int) + 1).toNat = k + 1 := by omega
          have hcast : (((k + 1 : Nat)) : Int) = (k : Int) + 1 := by omega
          obtain ⟨x1, hx1⟩ : ∃ x1, x1 = fj (k + 1) := ⟨_, rfl⟩
          obtain ⟨x0, hx0⟩ : ∃ x0, x0 = fj k := ⟨_, rfl⟩
          have HX1 : Hid (x1 = fj (k + 1)) := hx1
          have HX0 : Hid (x0 = fj k) := hx0
          rw [← hx1] at hc1
          rw [← hx0] at hc0
          clear hx1 hx0
          have L := less_any x1 x0
          rw [hcast]
          by_cases hl : x1 < x0
          · rw [decide_eq_true hl] at L
            go_wp2_with fail
            go_quiet ((go_at_call 86; exact Calls.quiet_of_same (L _)))
            have HW2 : Hid (SrW (fun _ => True) (fun x => x) N B b n cap f0 w fj (wr.drewN nq)) := HW.out.old HK.out (below_drewN (Below.refl _ _) nq)
            have d1 : (wr.drewN nq).cell? ⟨b, k + 1, none⟩ = some (vi (x1 : Int)) := hc1
            have d0 : (wr.drewN nq).cell? ⟨b, k, none⟩ = some (vi (x0 : Int)) := hc0
            generalize wr.drewN nq = w2 at *
            have e1 := OwI.free HW2.out.own (k + 1)
            have e0 := OwI.free HW2.out.own k
            have HT : Hid (SrW (fun _ => True) (fun x => x) N B b n cap f0 w (swp fj k) ((w2.setCell ⟨b, k + 1, none⟩ (vi (x0 : Int))).setCell ⟨b, k, none⟩ (vi (x1 : Int)))) := by
              rw [HX0.out, HX1.out]
              exact HW2.out.swp HK.out (by omega)
            have HN : Hid (InsN (fun x => x) i k (swp fj k)) := HI.out.step (by omega) (by rw [← HX0.out, ← HX1.out]; exact hl)
            have d3 : (w2.setCell ⟨b, k + 1, none⟩ (vi (x0 : Int))).cell? ⟨b, k, none⟩ = some (vi (x0 : Int)) := by
              rw [World.cell?_setCell_other _ _ _ _ (by simp)]; exact d0
            clear HI HW HW2 HX1 HX0 hl L hc1 hc0
            go_wp2_with fail
            go_region
            have HD : Hid (SrW (fun _ => True) (fun x => x) N B b n cap f0 w (swp fj k) ((w2.setCell ⟨b, k + 1, none⟩ (vi (x0 : Int))).setCell ⟨b, k, none⟩ (vi (x1 : Int))).drew) := HT.out.old HK.out (below_drewN (Below.refl _ _) 1)
            clear HT d3 d1 d0 e1 e0
            generalize ((w2.setCell ⟨b, k + 1, none⟩ (vi (x0 : Int))).setCell ⟨b, k, none⟩ (vi (x1 : Int))).drew = w4 at *
            go_wp2
            go_roundw
            case rel => exact ⟨k, swp fj k, by go_num, by omega, HN.out, HD.out⟩
            case measure => simp [intOf]
          · rw [decide_eq_false hl] at L
            have HD : Hid (SrtN (fun x => x) (min (i + 1) n) fj) := by
              rw [Nat.min_eq_left (by omega)]
              refine HI.out.done (fun m hm => ?_)
              obtain rfl : m = k := by omega
              have := HW.out.inj (m + 1) m (by omega) (by omega) (by omega)
              rw [← HX0.out, ← HX1.out] at *
              omega
            clear HI
            go_wp2_with fail
            go_quiet ((go_at_call 86; exact Calls.quiet_of_same (L _)))
            have HW2 : Hid (SrW (fun _ => True) (fun x => x) N B b n cap f0 w fj (wr.drewN nq)) := HW.out.old HK.out (below_drewN (Below.refl _ _) nq)
            clear HW HX1 HX0 hl L hc1 hc0
            go_wp2
            go_roundw
            case rel => exact ⟨i + 1, fj, by go_num, by omega, by omega, by omega, HD.out, HW2.out⟩
            case measure => simp [intOf]; omega
    · have hltz : ¬ (i : Int) < (n : Int) := by omega
      have HD : Hid (SrtN (fun x => x) n f) := by have := HS.out; rw [Nat.min_eq_right (by omega)] at this; exact this
      clear HS
      go_wp2
      go_end0
      exact ⟨rfl, f, HD.out, HW.out⟩
set_option maxRecDepth 100000 in
set_option maxHeartbeats 2000000 in
theorem len64_any (n : Nat) (hn : n ≤ 12) (w : World) : Calls Tryd.prog 90 #[.int .u64 (n : Int)] w fun e w' => (∃ l : Int, e = .returned (.int .i64 l)) ∧ w' = w := by
  have h : n = 0 ∨ n = 1 ∨ n = 2 ∨ n = 3 ∨ n = 4 ∨ n = 5 ∨ n = 6 ∨ n = 7 ∨ n = 8 ∨ n = 9 ∨ n = 10 ∨ n = 11 ∨ n = 12 := by omega
  rcases h with rfl | rfl | rfl | rfl | rfl | rfl | rfl | rfl | rfl | rfl | rfl | rfl | rfl
  all_goals
    clear hn
    go_enter Tryd.func90, Tryd.ntmps90
    go_wp2
    go_ret
    exact ⟨⟨_, rfl⟩, rfl⟩
theorem len_any (n : Nat) (hn : n ≤ 12) (w : World) : Calls Tryd.prog 67 #[.int .u64 (n : Int)] w fun e w' => (∃ l : Int, e = .returned (.int .i64 l)) ∧ w' = w := by
  have C := len64_any n hn w
  go_enter Tryd.func67, Tryd.ntmps67
  go_wp2_with fail
  refine C.mono ?_
  rintro e w1 ⟨⟨l, rfl⟩, hw⟩
  obtain rfl := hw.symm
  clear C hw
  go_wp2
  go_ret
  exact ⟨⟨_, rfl⟩, rfl⟩
set_option maxRecDepth 100000 in
set_option maxHeartbeats 2000000 in
theorem pdqO_any {N B b n cap : Nat} {f0 : Nat → Nat} {w : World} (hn : n ≤ 12) (h : SrW (fun _ => True) (fun x => x) N B b n cap f0 w f0 w) (l : Int) :
    Calls Tryd.prog 66 #[.slice (some ⟨b, 0, none⟩) n cap, .int .i64 0, .int .i64 (n : Int), .int .i64 l] w fun e w' => e = .returned (.tuple #[]) ∧ ∃ f, SrtN (fun x => x) n f ∧ SrW (fun _ => True) (fun x => x) N B b n cap f0 w f w' := by
  have C := insertO_any hn h
  have hz : (n : Int) ≤ 12 := by omega
  clear h
  go_enter Tryd.func66, Tryd.ntmps66
  go_wp2
  refine wp_loop_rounds 1 ?_
  rw [rounds_succ]
  go_wp2_with fail
  refine C.mono ?_
  rintro e w1 ⟨rfl, f, hS, hW⟩
  have HS : Hid (SrtN (fun x => x) n f) := hS
  have HW : Hid (SrW (fun _ => True) (fun x => x) N B b n cap f0 w f w1) := hW
  clear C hS hW
  go_wp2
  (try simp only [Exit.inBlock, Exit.then])
  refine bodyPost_ret (results_none rfl _ _ _) rfl ?_
  exact ⟨rfl, f, HS.out, HW.out⟩
set_option maxRecDepth 100000 in
set_option maxHeartbeats 2000000 in
theorem sortO_any {N B b n cap : Nat} {f0 : Nat → Nat} {w : World} (hn : n ≤ 12) (h : SrW (fun _ => True) (fun x => x) N B b n cap f0 w f0 w) :
    Calls Tryd.prog 50 #[.slice (some ⟨b, 0, none⟩) n cap] w fun e w' => e = .returned (.tuple #[]) ∧ ∃ f, SrtN (fun x => x) n f ∧ SrW (fun _ => True) (fun x => x) N B b n cap f0 w f w' := by
  have C := fun l => pdqO_any hn h l
  have M := len_any n hn w
  have hz : (n : Int) ≤ 12 := by omega
  clear h
  go_enter Tryd.func50, Tryd.ntmps50
  go_wp2_with fail
  refine M.mono ?_
  rintro e w1 ⟨⟨l, rfl⟩, hw⟩
  obtain rfl := hw.symm
  clear M hw
  go_wp2_with fail
  refine (C l).mono ?_
  rintro e w1 ⟨rfl, f, hS, hW⟩
  have HS : Hid (SrtN (fun x => x) n f) := hS
  have HW : Hid (SrW (fun _ => True) (fun x => x) N B b n cap f0 w f w1) := hW
  clear C hS hW
  go_wp2
  go_end0
  exact ⟨rfl, f, HS.out, HW.out⟩
end Go.Proofs.YtdbanimlnjhhlaaDoor
