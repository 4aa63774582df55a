/- Is a number in a list? A walk over the document's own. -/
import Derived.Test.YtfeikmmojilmbaaDoorOwNs
namespace Go.Proofs.YtfeikmmojilmbaaDoor
open Go.RowKit
/-- is a number in a list? -/
theorem in_any (v : Value) (l : List Nat) (n : Nat) (w : World) (h : RdN w v l) (_hl : l.length ≤ 1000) : Calls Tryd.prog 40 #[v, .int .i64 (n : Int)] w fun e w' => e = .returned (.bool (decide (n ∈ l))) ∧ w' = w := by
  obtain ⟨ao, cap, rfl, _, _⟩ := h.len
  have HR : Hid (RdN w (.slice ao l.length cap) l) := h
  clear h
  go_enter Tryd.func40, Tryd.ntmps40
  go_wp2
  go_loop [5] (fun c => ∃ k : Nat, k ≤ l.length ∧ c = .int .i64 k ∧ Hid (∀ i, i < k → l.getD i 0 ≠ n)) (fun c => l.length - (intOf c).toNat)
  case atStart => exact ⟨0, Nat.zero_le _, rfl, fun i hi => absurd hi (Nat.not_lt_zero _)⟩
  case round =>
    obtain ⟨k, hk, rfl, HF⟩ := hrel
    by_cases hlt : k < l.length
    · obtain ⟨ad, rfl, hc⟩ := HR.out.at k hlt
      obtain ⟨x, hx⟩ : ∃ x, l.getD k 0 = x := ⟨_, rfl⟩
      unfold vi at hc
      rw [hx] at hc
      by_cases e : x = n
      · have HM : Hid (n ∈ l) := by
          (show n ∈ l)
          rw [← e, ← hx]
          simp [List.getD_eq_getElem?_getD, hlt]
        subst e
        clear hx
        generalize hln : l.length = ln at *
        clear hln
        go_wp2
        go_ret
        exact ⟨by rw [decide_eq_true HM.out]; rfl, rfl⟩
      · have hne : (((x : Nat) : Int) == ((n : Nat) : Int)) = false := by simp; omega
        have hne2 : ¬ ((x : Nat) : Int) = ((n : Nat) : Int) := by omega
        have HF2 : Hid (∀ i, i < k + 1 → l.getD i 0 ≠ n) := fun i hi => by
          by_cases ei : i = k
          · rw [ei, hx]; exact e
          · exact HF.out i (by omega)
        clear hx e
        have HL : Hid (∀ m, m = l.length → m = l.length) := fun _ h => h
        go_wp2
        go_round
        case rel => exact ⟨k + 1, by omega, by go_num, HF2⟩
        case measure => simp [intOf]; omega
    · have HM : Hid (n ∉ l) := fun q => by
        obtain ⟨i, hi, e⟩ := List.getElem_of_mem q
        exact HF.out i (by omega) (by simp [List.getD_eq_getElem?_getD, hi, e])
      go_wp2
      go_ret
      exact ⟨by rw [decide_eq_false HM.out]; rfl, rfl⟩
end Go.Proofs.YtfeikmmojilmbaaDoor
