/- Whether there is such a disk, such an array; whether a stripe has a disk that is none: walks over the program. -/
import Derived.Test.YtdbanimlnjhhlaaDoorOwIs
import Derived.Test.YtdbanimlnjhhlaaDoorRowAt
import Derived.Test.YtdbanimlnjhhlaaDoorPcD
import Derived.BigQuiet
namespace Go.Proofs.YtdbanimlnjhhlaaDoor
open Go.RowKit
/-- there is no such array -/
def noAr (n : Int) : Bool := decide (n < 1) || decide (10 < n)
theorem noAr_false {n : Int} : noAr n = false ↔ 1 ≤ n ∧ n ≤ 10 := by
  unfold noAr
  rw [Bool.or_eq_false_iff, decide_eq_false_iff_not, decide_eq_false_iff_not]
  omega
theorem noAr_true {n : Int} : noAr n = true ↔ n < 1 ∨ 10 < n := by
  unfold noAr
  rw [Bool.or_eq_true, decide_eq_true_iff, decide_eq_true_iff]
theorem noarray_any (n : Int) (w : World) : Calls Tryd.prog 28 #[.int .i64 n] w fun e w' => e = .returned (.bool (noAr n)) ∧ w' = w := by
  by_cases h1 : n < 1
  · rw [noAr_true.2 (.inl h1)]
    go_enter Tryd.func28, Tryd.ntmps28
    go_wp2
    go_ret
    exact ⟨rfl, rfl⟩
  · by_cases h2 : 10 < n
    · rw [noAr_true.2 (.inr h2)]
      go_enter Tryd.func28, Tryd.ntmps28
      go_wp2
      go_ret
      exact ⟨by simp <;> omega, rfl⟩
    · rw [noAr_false.2 (by omega)]
      go_enter Tryd.func28, Tryd.ntmps28
      go_wp2
      go_ret
      exact ⟨by simp <;> omega, rfl⟩
theorem nodisk_any (n d : Int) (w : World) : Calls Tryd.prog 31 #[.int .i64 n, .int .i64 d] w fun e w' => e = .returned (.bool (noDk n d)) ∧ w' = w := by
  by_cases h1 : d < 0
  · rw [noDk_true.2 (.inl h1)]
    go_enter Tryd.func31, Tryd.ntmps31
    go_wp2
    go_ret
    exact ⟨rfl, rfl⟩
  · by_cases h2 : n ≤ d
    · rw [noDk_true.2 (.inr h2)]
      go_enter Tryd.func31, Tryd.ntmps31
      go_wp2
      go_ret
      exact ⟨by simp <;> omega, rfl⟩
    · rw [noDk_false.2 (by omega)]
      go_enter Tryd.func31, Tryd.ntmps31
      go_wp2
      go_ret
      exact ⟨by simp <;> omega, rfl⟩
/-- a stripe has a disk that is none -/
theorem nod1_any (n d : Int) (h : Nat) (w : World) (hc : w.cell? ⟨h, 0, none⟩ = some (.int .i64 n)) :
    Calls Tryd.prog 69 #[.int .i64 d, .pointer (some ⟨h, 0, none⟩)] w fun e w' => e = .returned (.bool (noDk n d)) ∧ w' = w := by
  have C := nodisk_any n d w
  generalize noDk n d = b at *
  go_enter Tryd.func69, Tryd.ntmps69
  go_wp2_with fail
  refine C.mono ?_
  rintro e w1 ⟨rfl, hw⟩
  obtain rfl := hw.symm
  clear C hw
  go_wp2
  go_ret
  exact ⟨rfl, rfl⟩
set_option maxHeartbeats 400000 in
theorem nodIndex_any (ao : Option Addr) (n cap h : Nat) (f : Nat → Int) (m : Int) (w : World) (hr : RdF w (.slice ao n cap) n (fun i => vi (f i))) (hh : w.cell? ⟨h, 0, none⟩ = some (.int .i64 m)) :
    Calls Tryd.prog 91 #[.slice ao n cap, .func (.func 69) #[] #[.pointer (some ⟨h, 0, none⟩)]] w fun e w' => ∃ z, e = .returned (.int .i64 z) ∧ Fst (fun i => noDk m (f i)) n z ∧ w' = w := by
  obtain ⟨_, _, e0, hn1, hn2⟩ := hr.len
  cases e0
  have HR : Hid (RdF w (.slice ao n cap) n (fun i => vi (f i))) := hr
  have HH : Hid (w.cell? ⟨h, 0, none⟩ = some (.int .i64 m)) := hh
  clear hr hh
  go_enter Tryd.func91, Tryd.ntmps91
  go_wp2
  go_loop [8] (fun t => ∃ k : Nat, k ≤ n ∧ t = .int .i64 k ∧ Hid (∀ i, i < k → noDk m (f i) = false)) (fun t => n - (intOf t).toNat)
  case atStart => exact ⟨0, Nat.zero_le _, rfl, fun i hi => absurd hi (Nat.not_lt_zero _)⟩
  case round =>
    obtain ⟨k, hk, rfl, HF⟩ := hrel
    by_cases hlt : k < n
    · obtain ⟨ad, rfl, hck⟩ := HR.out.at k hlt
      unfold vi at hck
      have C := nod1_any m (f k) h w HH.out
      obtain ⟨b, hb⟩ : ∃ b, b = noDk m (f k) := ⟨_, rfl⟩
      rw [← hb] at C
      have HB : Hid (b = noDk m (f k)) := hb
      obtain ⟨y, hy⟩ : ∃ y, y = f k := ⟨_, rfl⟩
      rw [← hy] at C hck
      clear hb hy
      cases b
      all_goals
        go_wp2_with fail
        refine C.mono ?_
        rintro e w1 ⟨rfl, hw⟩
        obtain rfl := hw.symm
        clear C
        go_wp2
      · go_round
        case rel => exact ⟨k + 1, by omega, by go_num, fun i hi => by
          by_cases e : i = k
          · rw [e]; exact HB.out.symm
          · exact HF.out i (by omega)⟩
        case measure => simp [intOf]; omega
      · go_ret
        exact ⟨_, rfl, .inr ⟨k, hlt, rfl, HB.out.symm⟩, rfl⟩
    · go_wp2
      go_ret
      exact ⟨_, rfl, .inl ⟨rfl, fun i hi => HF.out i (by omega)⟩, rfl⟩
theorem nodContains_any (ao : Option Addr) (n cap h : Nat) (f : Nat → Int) (m : Int) (w : World) (hr : RdF w (.slice ao n cap) n (fun i => vi (f i))) (hh : w.cell? ⟨h, 0, none⟩ = some (.int .i64 m)) :
    Calls Tryd.prog 68 #[.slice ao n cap, .func (.func 69) #[] #[.pointer (some ⟨h, 0, none⟩)]] w fun e w' => e = .returned (.bool (badR m n f)) ∧ w' = w := by
  have C := nodIndex_any ao n cap h f m w hr hh
  clear hr hh
  go_enter Tryd.func68, Tryd.ntmps68
  go_wp2_with fail
  refine C.mono ?_
  rintro e w1 ⟨z, rfl, hz, hw⟩
  obtain rfl := hw.symm
  have HZ : Hid (decide (0 ≤ z) = badR m n f) := hz.any
  clear C hz
  go_wp2
  go_ret
  exact ⟨by rw [← HZ.out]; rfl, rfl⟩
theorem nod_any (v : Value) (n : Nat) (f : Nat → Int) (m : Int) (w : World) (hr : RdF w v n (fun i => vi (f i))) :
    Calls Tryd.prog 51 #[.int .i64 m, v] w fun e w' => e = .returned (.bool (badR m n f)) ∧ Below w.heap.size w w' := by
  obtain ⟨ao, cap, rfl, _, _⟩ := hr.len
  have C := nodContains_any ao n cap w.heap.size f m _ (hr.old (al_below w (.cells #[.int .i64 m] 3))) (cell_new w (.int .i64 m) 3)
  have HB : Hid (Below w.heap.size w (w.alloc (.cells #[.int .i64 m] 3))) := al_below _ _
  clear hr
  generalize badR m n f = b at *
  go_enter Tryd.func51, Tryd.ntmps51
  go_wp2_with fail
  refine C.mono ?_
  rintro e w1 ⟨rfl, hw⟩
  rw [← hw] at HB
  clear C hw
  go_wp2
  go_ret
  exact ⟨rfl, HB.out⟩
end Go.Proofs.YtdbanimlnjhhlaaDoor
