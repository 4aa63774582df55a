/- Any two may be lost: where the data have a fault, or a place is none: by walks over the program. -/
import Derived.Test.YtpajchokohfhpaaPHealA
import Derived.Test.YtpajchokohfhpaaPw
import Derived.BigCall
import Derived.BigGuard
import Derived.Deep.Cut
import Derived.Deep.CutRange
namespace Go.Proofs.Ytpajchokohfhpaa
open Go.ChangeShapes Go.WideShapes Go.ChangeAt Go.RowKit El Pol Mx
set_option maxRecDepth 100000 in
set_option maxHeartbeats 1000000 in
theorem heals_bad (v : Value) (n : Nat) (a : Nat → List El) (i k : Int) (s t : ByteArray) (w : World) (h : RdF w v n (fun i => st (a i))) (hn : n ≤ 8796093021952) (hb : pqf n a ≠ 0) :
    Calls Try.prog 3 #[v, .int .i64 i, .int .i64 k, .string s, .string t] w fun e w' => e = .returned (.bool true) ∧ Below w.heap.size w w' := by
  have HH : Hid (RdF w v n (fun i => st (a i))) := h
  obtain ⟨ao, cap, rfl, _, _⟩ := h.len
  obtain ⟨c, hc⟩ : ∃ c, c = pqf n a := ⟨_, rfl⟩
  have HC : Hid (pqf n a = c) := hc.symm
  rw [← hc] at hb
  clear h hc
  go_enter Try.func3, Try.ntmps3
  go_wp2_with fail
  refine (fact56 w).mono ?_
  rintro e w1 ⟨rfl, hB1⟩
  have C := pencode_bad (.slice ao n cap) n c a w1 (HH.out.old hB1) hn HC.out hb
  go_wp2_with fail
  refine C.mono ?_
  rintro e w2 ⟨rfl, hB2⟩
  have hB := hB1.trans (hB2.mono hB1.size)
  clear C hB2 hB1
  go_wp2
  go_ret
  exact ⟨rfl, hB⟩
set_option maxRecDepth 100000 in
set_option maxHeartbeats 1000000 in
theorem heals_out (v : Value) (d L : Nat) (a : Nat → List El) (i k : Int) (s t : ByteArray) (w : World) (h : RdF w v d (fun i => st (a i))) (h1 : 1 ≤ d) (h2 : d ≤ 10) (hl : ∀ i, i < d → (a i).length = L) (hL : L ≤ 16) (ho : i < 0 ∨ (d : Int) + 2 ≤ i ∨ k < 0 ∨ (d : Int) + 2 ≤ k) :
    Calls Try.prog 3 #[v, .int .i64 i, .int .i64 k, .string s, .string t] w fun e w' => e = .returned (.bool true) ∧ Below w.heap.size w w' := by
  have HH : Hid (RdF w v d (fun i => st (a i))) := h
  have HL : Hid (∀ i, i < d → (a i).length = L) := hl
  obtain ⟨ao, cap, rfl, _, _⟩ := h.len
  have hd3 : ¬ (d : Int) + 2 < 3 := by omega
  have hd12 : ¬ (12 : Int) < (d : Int) + 2 := by omega
  have hd3' : (3 : Int) ≤ (d : Int) + 2 := by omega
  have hd12' : (d : Int) + 2 ≤ 12 := by omega
  clear h hl
  by_cases q1 : i < 0
  · clear ho
    go_enter Try.func3, Try.ntmps3
    go_wp2_with fail
    refine (fact56 w).mono ?_
    rintro e w1 ⟨rfl, hB1⟩
    have C := pencode_ok d L h1 h2 (.slice ao d cap) a w1 (HH.out.old hB1) HL.out hL
    unfold st at C
    generalize sb (row (pp d (mx a)) L) = p at *
    generalize sb (row (qq d (mx a)) L) = q at *
    go_wp2_with fail
    refine C.mono ?_
    rintro e w2 ⟨rfl, hB2⟩
    have hB := hB1.trans (hB2.mono hB1.size)
    clear C hB2 hB1
    go_wp2
    go_ret
    exact ⟨rfl, hB⟩
  · by_cases q2 : (d : Int) + 2 ≤ i
    · clear ho
      go_enter Try.func3, Try.ntmps3
      go_wp2_with fail
      refine (fact56 w).mono ?_
      rintro e w1 ⟨rfl, hB1⟩
      have C := pencode_ok d L h1 h2 (.slice ao d cap) a w1 (HH.out.old hB1) HL.out hL
      unfold st at C
      generalize sb (row (pp d (mx a)) L) = p at *
      generalize sb (row (qq d (mx a)) L) = q at *
      go_wp2_with fail
      refine C.mono ?_
      rintro e w2 ⟨rfl, hB2⟩
      have hB := hB1.trans (hB2.mono hB1.size)
      clear C hB2 hB1
      go_wp2
      go_ret
      exact ⟨rfl, hB⟩
    · by_cases q3 : k < 0
      · clear ho
        go_enter Try.func3, Try.ntmps3
        go_wp2_with fail
        refine (fact56 w).mono ?_
        rintro e w1 ⟨rfl, hB1⟩
        have C := pencode_ok d L h1 h2 (.slice ao d cap) a w1 (HH.out.old hB1) HL.out hL
        unfold st at C
        generalize sb (row (pp d (mx a)) L) = p at *
        generalize sb (row (qq d (mx a)) L) = q at *
        go_wp2_with fail
        refine C.mono ?_
        rintro e w2 ⟨rfl, hB2⟩
        have hB := hB1.trans (hB2.mono hB1.size)
        clear C hB2 hB1
        go_wp2
        go_ret
        exact ⟨rfl, hB⟩
      · have q4 : (d : Int) + 2 ≤ k := by omega
        clear ho
        go_enter Try.func3, Try.ntmps3
        go_wp2_with fail
        refine (fact56 w).mono ?_
        rintro e w1 ⟨rfl, hB1⟩
        have C := pencode_ok d L h1 h2 (.slice ao d cap) a w1 (HH.out.old hB1) HL.out hL
        unfold st at C
        generalize sb (row (pp d (mx a)) L) = p at *
        generalize sb (row (qq d (mx a)) L) = q at *
        go_wp2_with fail
        refine C.mono ?_
        rintro e w2 ⟨rfl, hB2⟩
        have hB := hB1.trans (hB2.mono hB1.size)
        clear C hB2 hB1
        go_wp2
        go_ret
        exact ⟨rfl, hB⟩
end Go.Proofs.Ytpajchokohfhpaa
