/- Of what is long, and of writes that are none, plainly: Which texts are too long, which writes are not right: walks over the program. -/
import Derived.Test.YtdbanimlnjhhlaaDoorRoB
import Derived.BigQuiet
namespace Go.Proofs.YtdbanimlnjhhlaaDoor
open Go.RowKit El Pol
theorem long_any (t : List El) (w : World) : Calls Tryd.prog 56 #[st t] w fun e w' => e = .returned (.bool (decide (16 < t.length))) ∧ w' = w := by
  have hs := sb_size t
  go_enter Tryd.func56, Tryd.ntmps56
  go_wp2
  go_ret
  refine ⟨?_, rfl⟩
  show Ending.returned (.bool (decide ((16 : Int) < (t.length : Int)))) = _
  rw [show decide ((16 : Int) < (t.length : Int)) = decide (16 < t.length) from decide_eq_decide.2 (by omega)]
set_option maxHeartbeats 400000 in
theorem tindex_any (ao : Option Addr) (n cap : Nat) (f : Nat → List El) (w : World) (hn : n ≤ 1000) (hr : RdT w (.slice ao n cap) n f) :
    Calls Tryd.prog 75 #[.slice ao n cap, .func (.func 56) #[] #[]] w fun e w' => ∃ z, e = .returned (.int .i64 z) ∧ Fst (fun i => decide (16 < (f i).length)) n z ∧ w' = w := by
  have HR : Hid (RdT w (.slice ao n cap) n f) := hr
  clear hr
  go_enter Tryd.func75, Tryd.ntmps75
  go_wp2
  go_loop [8] (fun t => ∃ k : Nat, k ≤ n ∧ t = .int .i64 k ∧ Hid (∀ i, i < k → decide (16 < (f i).length) = false)) (fun t => n - (intOf t).toNat)
  case atStart => exact ⟨0, Nat.zero_le _, rfl, fun i hi => absurd hi (Nat.not_lt_zero _)⟩
  case round =>
    obtain ⟨k, hk, rfl, HF⟩ := hrel
    by_cases hlt : k < n
    · obtain ⟨ad, rfl, hck⟩ := HR.out.at k hlt
      have C := long_any (f k) w
      obtain ⟨b, hb⟩ : ∃ b, b = decide (16 < (f k).length) := ⟨_, rfl⟩
      rw [← hb] at C
      have HB : Hid (b = decide (16 < (f k).length)) := hb
      clear hb
      unfold st at C hck
      generalize sb (f k) = s at *
      cases b
      all_goals
        go_wp2_with fail
        refine C.mono ?_
        rintro e w1 ⟨rfl, hw⟩
        obtain rfl := hw.symm
        clear C
        go_wp2
      · go_round
        case rel => exact ⟨k + 1, by omega, by go_num, fun i hi => by
          by_cases e : i = k
          · rw [e]; exact HB.out.symm
          · exact HF.out i (by omega)⟩
        case measure => simp [intOf]; omega
      · go_ret
        exact ⟨_, rfl, .inr ⟨k, hlt, rfl, HB.out.symm⟩, rfl⟩
    · go_wp2
      go_ret
      exact ⟨_, rfl, .inl ⟨rfl, fun i hi => HF.out i (by omega)⟩, rfl⟩
theorem tcontains_any (ao : Option Addr) (n cap : Nat) (f : Nat → List El) (w : World) (hn : n ≤ 1000) (hr : RdT w (.slice ao n cap) n f) :
    Calls Tryd.prog 55 #[.slice ao n cap, .func (.func 56) #[] #[]] w fun e w' => e = .returned (.bool (anyB (fun i => decide (16 < (f i).length)) n)) ∧ w' = w := by
  have C := tindex_any ao n cap f w hn hr
  clear hr
  go_enter Tryd.func55, Tryd.ntmps55
  go_wp2_with fail
  refine C.mono ?_
  rintro e w1 ⟨z, rfl, hz, hw⟩
  obtain rfl := hw.symm
  have HZ : Hid (decide (0 ≤ z) = anyB (fun i => decide (16 < (f i).length)) n) := hz.any
  clear C hz
  go_wp2
  go_ret
  exact ⟨by rw [← HZ.out]; rfl, rfl⟩
/-- a write that is not right -/
def badW (n : Nat) (x : Wr) : Bool := decide (x.1 < 0) || decide ((n : Int) ≤ x.1) || decide (16 < x.2.length)
theorem badW_ok {n : Nat} {x : Wr} : badW n x = false ↔ OkW n x := by
  unfold badW OkW
  simp only [Bool.or_eq_false_iff, decide_eq_false_iff_not]
  omega
theorem any_bad {n : Nat} {l : List Wr} : anyB (fun i => badW n (wat l i)) l.length = false ↔ ∀ x ∈ l, OkW n x := by
  rw [anyB_false]
  constructor
  · intro h x hx
    obtain ⟨i, hi, rfl⟩ := List.getElem_of_mem hx
    have := h i hi
    rw [badW_ok] at this
    simpa [wat, List.getD_eq_getElem?_getD, hi] using this
  · intro h i hi
    rw [badW_ok]
    have e : wat l i = l[i] := by simp [wat, List.getD_eq_getElem?_getD, hi]
    rw [e]
    exact h _ (List.getElem_mem hi)
end Go.Proofs.YtdbanimlnjhhlaaDoor
