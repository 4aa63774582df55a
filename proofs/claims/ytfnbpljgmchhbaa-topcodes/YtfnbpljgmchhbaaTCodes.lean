/- TopCodes, a part of it: walks over the program. -/
import Derived.Test.YtfnbpljgmchhbaaTCd
import Derived.Deep.Cut
import Derived.Deep.CutRange
import Derived.BigCall
import Derived.BigGuard
namespace Go.Proofs.Ytfnbpljgmchhbaa
open Go.ChangeShapes Go.WideShapes Go.ChangeAt Go.RowKit El Pol Mx
set_option linter.unusedVariables false in
set_option maxRecDepth 1000000 in
set_option maxHeartbeats 8000000 in
theorem tcodes_bad (ro i k : Int) (n c1 : Nat) (a1 : Option Addr) (a : Nat → List El) (w : World) (hr : RdF w (.slice a1 n c1) n (fun i => st (a i))) (hn : n ≤ 8796093021952) (hb : ebad (n : Int) 2 n a ≠ 0) (hb2 : pqf n a ≠ 0) :
    Calls Try.prog 5 #[.int .i64 ro, .slice a1 n c1, .int .i64 i, .int .i64 k] w fun e w' => e = .returned (.bool true) ∧ Below w.heap.size w w' := by
  have HR : Hid (RdF w (.slice a1 n c1) n (fun i => st (a i))) := hr
  clear hr
  have HC : Hid (ebad (n : Int) 2 n a ≠ 0) := hb
  have HD : Hid (pqf n a ≠ 0) := hb2
  clear hb hb2
  go_enter Try.func5, Try.ntmps5
  refine wp_seq_k fun K hK => ?_
  have HK : Hid _ := hK
  clear hK
  go_wp2
  refine HK.out _ _ ?_
  clear HK K
  refine wp_seq_k fun K hK => ?_
  have HK : Hid _ := hK
  clear hK
  go_wp2_with fail
  refine (one_any w).mono ?_
  rintro e0 w1 ⟨rfl, hB1⟩
  have HB1 : Hid (Below w.heap.size w w1) := hB1
  clear hB1
  go_wp2
  refine HK.out _ _ ?_
  clear HK K
  refine wp_seq_k fun K hK => ?_
  have HK : Hid _ := hK
  clear hK
  go_wp2
  refine HK.out _ _ ?_
  clear HK K
  refine wp_seq_k fun K hK => ?_
  have HK : Hid _ := hK
  clear hK
  go_wp2
  refine HK.out _ _ ?_
  clear HK K
  have C := encode_bad (n : Int) 2 (by unfold I64; omega) (by unfold I64; omega) (.slice a1 n c1) n _ a w1 (HR.out.old HB1.out) hn rfl HC.out
  generalize ebad (n : Int) 2 n a = q1 at C
  refine wp_seq_k fun K hK => ?_
  have HK : Hid _ := hK
  clear hK
  go_wp2_with fail
  refine (C).mono ?_
  rintro e0 w2 ⟨rfl, hB2⟩
  have HB2 : Hid (Below w.heap.size w w2) := HB1.out.trans (hB2.mono HB1.out.size)
  have D := pencode_bad (.slice a1 n c1) n _ a w2 (HR.out.old HB2.out) hn rfl HD.out
  generalize pqf n a = q2 at D
  clear C hB2 HB1
  go_wp2
  refine HK.out _ _ ?_
  clear HK K
  refine wp_seq_k fun K hK => ?_
  have HK : Hid _ := hK
  clear hK
  go_wp2_with fail
  refine (D).mono ?_
  rintro e0 w3 ⟨rfl, hB3⟩
  have HB3 : Hid (Below w.heap.size w w3) := HB2.out.trans (hB3.mono HB2.out.size)
  clear D hB3 HB2
  go_wp2
  refine HK.out _ _ ?_
  clear HK K
  go_wp2
  go_ret
  exact ⟨rfl, HB3.out⟩
set_option linter.unusedVariables false in
set_option maxRecDepth 1000000 in
set_option maxHeartbeats 8000000 in
theorem tcodes_out (ro i k : Int) (n c1 l : Nat) (a1 : Option Addr) (a : Nat → List El) (w : World) (hr : RdF w (.slice a1 n c1) n (fun i => st (a i))) (h1 : 1 ≤ n) (h2 : n ≤ 10) (hll : ∀ i, i < n → (a i).length = l) (hl : l ≤ 16)
    (ho : i < 0 ∨ (¬ i < 0 ∧ (n : Int) + 2 ≤ i) ∨ (¬ i < 0 ∧ ¬ (n : Int) + 2 ≤ i ∧ k < 0) ∨ (¬ i < 0 ∧ ¬ (n : Int) + 2 ≤ i ∧ ¬ k < 0 ∧ (n : Int) + 2 ≤ k)) :
    Calls Try.prog 5 #[.int .i64 ro, .slice a1 n c1, .int .i64 i, .int .i64 k] w fun e w' => e = .returned (.bool true) ∧ Below w.heap.size w w' := by
  have HR : Hid (RdF w (.slice a1 n c1) n (fun i => st (a i))) := hr
  have HL : Hid (∀ i, i < n → (a i).length = l) := hll
  clear hr hll
  have d0 : decide ((n : Int) < 1) = false := decide_eq_false (by omega)
  have d1 : decide ((10 : Int) < (n : Int)) = false := decide_eq_false (by omega)
  rcases ho with ho | ho | ho | ho
  · have q1 : decide (i < 0) = true := decide_eq_true ho
    clear ho
    go_enter Try.func5, Try.ntmps5
    refine wp_seq_k fun K hK => ?_
    have HK : Hid _ := hK
    clear hK
    go_wp2
    refine HK.out _ _ ?_
    clear HK K
    refine wp_seq_k fun K hK => ?_
    have HK : Hid _ := hK
    clear hK
    go_wp2_with fail
    refine (one_any w).mono ?_
    rintro e0 w1 ⟨rfl, hB1⟩
    have HB1 : Hid (Below w.heap.size w w1) := hB1
    clear hB1
    go_wp2
    refine HK.out _ _ ?_
    clear HK K
    refine wp_seq_k fun K hK => ?_
    have HK : Hid _ := hK
    clear hK
    go_wp2
    refine HK.out _ _ ?_
    clear HK K
    refine wp_seq_k fun K hK => ?_
    have HK : Hid _ := hK
    clear hK
    go_wp2
    refine HK.out _ _ ?_
    clear HK K
    have C := encode_ok n 2 l h1 (by omega) (.slice a1 n c1) a w1 (HR.out.old HB1.out) HL.out hl
    rw [show ((2 : Nat) : Int) = 2 from rfl] at C
    refine wp_seq_k fun K hK => ?_
    have HK : Hid _ := hK
    clear hK
    go_wp2_with fail
    refine (C).mono ?_
    rintro e0 w2 ⟨va, rfl, hO2, hB2⟩
    have HB2 : Hid (Below w.heap.size w w2) := HB1.out.trans (hB2.mono HB1.out.size)
    have HA2 : Hid (RdF w2 va 2 (fun x => st (row (mm n (par n) (mx a) x) l))) := OwL.rdM hO2
    have D := pencode_ok n l h1 h2 (.slice a1 n c1) a w2 (HR.out.old HB2.out) HL.out hl
    obtain ⟨sp, hsp⟩ : ∃ s, s = sb (row (pp n (mx a)) l) := ⟨_, rfl⟩
    obtain ⟨sq, hsq⟩ : ∃ s, s = sb (row (qq n (mx a)) l) := ⟨_, rfl⟩
    have HSP : Hid (sp = sb (row (pp n (mx a)) l)) := hsp
    have HSQ : Hid (sq = sb (row (qq n (mx a)) l)) := hsq
    unfold st at D
    rw [← hsp, ← hsq] at D
    clear C hB2 HB1 hO2 hsp hsq
    go_wp2
    refine HK.out _ _ ?_
    clear HK K
    refine wp_seq_k fun K hK => ?_
    have HK : Hid _ := hK
    clear hK
    go_wp2_with fail
    refine (D).mono ?_
    rintro e0 w3 ⟨rfl, hB3⟩
    have HB3 : Hid (Below w.heap.size w w3) := HB2.out.trans (hB3.mono HB2.out.size)
    have HA3 : Hid (RdF w3 va 2 (fun x => st (row (mm n (par n) (mx a) x) l))) := HA2.out.old hB3
    obtain ⟨aa, ca, rfl, _, _⟩ := HA3.out.len
    clear D hB3 HB2 HA2
    go_wp2
    refine HK.out _ _ ?_
    clear HK K
    refine wp_seq_k fun K hK => ?_
    have HK : Hid _ := hK
    clear hK
    go_wp2
    refine HK.out _ _ ?_
    clear HK K
    go_wp2
    go_ret
    exact ⟨rfl, HB3.out⟩
  · have q1 : decide (i < 0) = false := decide_eq_false ho.1
    have q2 : decide ((n : Int) + 2 ≤ i) = true := decide_eq_true ho.2
    clear ho
    go_enter Try.func5, Try.ntmps5
    refine wp_seq_k fun K hK => ?_
    have HK : Hid _ := hK
    clear hK
    go_wp2
    refine HK.out _ _ ?_
    clear HK K
    refine wp_seq_k fun K hK => ?_
    have HK : Hid _ := hK
    clear hK
    go_wp2_with fail
    refine (one_any w).mono ?_
    rintro e0 w1 ⟨rfl, hB1⟩
    have HB1 : Hid (Below w.heap.size w w1) := hB1
    clear hB1
    go_wp2
    refine HK.out _ _ ?_
    clear HK K
    refine wp_seq_k fun K hK => ?_
    have HK : Hid _ := hK
    clear hK
    go_wp2
    refine HK.out _ _ ?_
    clear HK K
    refine wp_seq_k fun K hK => ?_
    have HK : Hid _ := hK
    clear hK
    go_wp2
    refine HK.out _ _ ?_
    clear HK K
    have C := encode_ok n 2 l h1 (by omega) (.slice a1 n c1) a w1 (HR.out.old HB1.out) HL.out hl
    rw [show ((2 : Nat) : Int) = 2 from rfl] at C
    refine wp_seq_k fun K hK => ?_
    have HK : Hid _ := hK
    clear hK
    go_wp2_with fail
    refine (C).mono ?_
    rintro e0 w2 ⟨va, rfl, hO2, hB2⟩
    have HB2 : Hid (Below w.heap.size w w2) := HB1.out.trans (hB2.mono HB1.out.size)
    have HA2 : Hid (RdF w2 va 2 (fun x => st (row (mm n (par n) (mx a) x) l))) := OwL.rdM hO2
    have D := pencode_ok n l h1 h2 (.slice a1 n c1) a w2 (HR.out.old HB2.out) HL.out hl
    obtain ⟨sp, hsp⟩ : ∃ s, s = sb (row (pp n (mx a)) l) := ⟨_, rfl⟩
    obtain ⟨sq, hsq⟩ : ∃ s, s = sb (row (qq n (mx a)) l) := ⟨_, rfl⟩
    have HSP : Hid (sp = sb (row (pp n (mx a)) l)) := hsp
    have HSQ : Hid (sq = sb (row (qq n (mx a)) l)) := hsq
    unfold st at D
    rw [← hsp, ← hsq] at D
    clear C hB2 HB1 hO2 hsp hsq
    go_wp2
    refine HK.out _ _ ?_
    clear HK K
    refine wp_seq_k fun K hK => ?_
    have HK : Hid _ := hK
    clear hK
    go_wp2_with fail
    refine (D).mono ?_
    rintro e0 w3 ⟨rfl, hB3⟩
    have HB3 : Hid (Below w.heap.size w w3) := HB2.out.trans (hB3.mono HB2.out.size)
    have HA3 : Hid (RdF w3 va 2 (fun x => st (row (mm n (par n) (mx a) x) l))) := HA2.out.old hB3
    obtain ⟨aa, ca, rfl, _, _⟩ := HA3.out.len
    clear D hB3 HB2 HA2
    go_wp2
    refine HK.out _ _ ?_
    clear HK K
    refine wp_seq_k fun K hK => ?_
    have HK : Hid _ := hK
    clear hK
    go_wp2
    refine HK.out _ _ ?_
    clear HK K
    go_wp2
    go_ret
    exact ⟨rfl, HB3.out⟩
  · have q1 : decide (i < 0) = false := decide_eq_false ho.1
    have q2 : decide ((n : Int) + 2 ≤ i) = false := decide_eq_false ho.2.1
    have q3 : decide (k < 0) = true := decide_eq_true ho.2.2
    clear ho
    go_enter Try.func5, Try.ntmps5
    refine wp_seq_k fun K hK => ?_
    have HK : Hid _ := hK
    clear hK
    go_wp2
    refine HK.out _ _ ?_
    clear HK K
    refine wp_seq_k fun K hK => ?_
    have HK : Hid _ := hK
    clear hK
    go_wp2_with fail
    refine (one_any w).mono ?_
    rintro e0 w1 ⟨rfl, hB1⟩
    have HB1 : Hid (Below w.heap.size w w1) := hB1
    clear hB1
    go_wp2
    refine HK.out _ _ ?_
    clear HK K
    refine wp_seq_k fun K hK => ?_
    have HK : Hid _ := hK
    clear hK
    go_wp2
    refine HK.out _ _ ?_
    clear HK K
    refine wp_seq_k fun K hK => ?_
    have HK : Hid _ := hK
    clear hK
    go_wp2
    refine HK.out _ _ ?_
    clear HK K
    have C := encode_ok n 2 l h1 (by omega) (.slice a1 n c1) a w1 (HR.out.old HB1.out) HL.out hl
    rw [show ((2 : Nat) : Int) = 2 from rfl] at C
    refine wp_seq_k fun K hK => ?_
    have HK : Hid _ := hK
    clear hK
    go_wp2_with fail
    refine (C).mono ?_
    rintro e0 w2 ⟨va, rfl, hO2, hB2⟩
    have HB2 : Hid (Below w.heap.size w w2) := HB1.out.trans (hB2.mono HB1.out.size)
    have HA2 : Hid (RdF w2 va 2 (fun x => st (row (mm n (par n) (mx a) x) l))) := OwL.rdM hO2
    have D := pencode_ok n l h1 h2 (.slice a1 n c1) a w2 (HR.out.old HB2.out) HL.out hl
    obtain ⟨sp, hsp⟩ : ∃ s, s = sb (row (pp n (mx a)) l) := ⟨_, rfl⟩
    obtain ⟨sq, hsq⟩ : ∃ s, s = sb (row (qq n (mx a)) l) := ⟨_, rfl⟩
    have HSP : Hid (sp = sb (row (pp n (mx a)) l)) := hsp
    have HSQ : Hid (sq = sb (row (qq n (mx a)) l)) := hsq
    unfold st at D
    rw [← hsp, ← hsq] at D
    clear C hB2 HB1 hO2 hsp hsq
    go_wp2
    refine HK.out _ _ ?_
    clear HK K
    refine wp_seq_k fun K hK => ?_
    have HK : Hid _ := hK
    clear hK
    go_wp2_with fail
    refine (D).mono ?_
    rintro e0 w3 ⟨rfl, hB3⟩
    have HB3 : Hid (Below w.heap.size w w3) := HB2.out.trans (hB3.mono HB2.out.size)
    have HA3 : Hid (RdF w3 va 2 (fun x => st (row (mm n (par n) (mx a) x) l))) := HA2.out.old hB3
    obtain ⟨aa, ca, rfl, _, _⟩ := HA3.out.len
    clear D hB3 HB2 HA2
    go_wp2
    refine HK.out _ _ ?_
    clear HK K
    refine wp_seq_k fun K hK => ?_
    have HK : Hid _ := hK
    clear hK
    go_wp2
    refine HK.out _ _ ?_
    clear HK K
    go_wp2
    go_ret
    exact ⟨rfl, HB3.out⟩
  · have q1 : decide (i < 0) = false := decide_eq_false ho.1
    have q2 : decide ((n : Int) + 2 ≤ i) = false := decide_eq_false ho.2.1
    have q3 : decide (k < 0) = false := decide_eq_false ho.2.2.1
    have q4 : decide ((n : Int) + 2 ≤ k) = true := decide_eq_true ho.2.2.2
    clear ho
    go_enter Try.func5, Try.ntmps5
    refine wp_seq_k fun K hK => ?_
    have HK : Hid _ := hK
    clear hK
    go_wp2
    refine HK.out _ _ ?_
    clear HK K
    refine wp_seq_k fun K hK => ?_
    have HK : Hid _ := hK
    clear hK
    go_wp2_with fail
    refine (one_any w).mono ?_
    rintro e0 w1 ⟨rfl, hB1⟩
    have HB1 : Hid (Below w.heap.size w w1) := hB1
    clear hB1
    go_wp2
    refine HK.out _ _ ?_
    clear HK K
    refine wp_seq_k fun K hK => ?_
    have HK : Hid _ := hK
    clear hK
    go_wp2
    refine HK.out _ _ ?_
    clear HK K
    refine wp_seq_k fun K hK => ?_
    have HK : Hid _ := hK
    clear hK
    go_wp2
    refine HK.out _ _ ?_
    clear HK K
    have C := encode_ok n 2 l h1 (by omega) (.slice a1 n c1) a w1 (HR.out.old HB1.out) HL.out hl
    rw [show ((2 : Nat) : Int) = 2 from rfl] at C
    refine wp_seq_k fun K hK => ?_
    have HK : Hid _ := hK
    clear hK
    go_wp2_with fail
    refine (C).mono ?_
    rintro e0 w2 ⟨va, rfl, hO2, hB2⟩
    have HB2 : Hid (Below w.heap.size w w2) := HB1.out.trans (hB2.mono HB1.out.size)
    have HA2 : Hid (RdF w2 va 2 (fun x => st (row (mm n (par n) (mx a) x) l))) := OwL.rdM hO2
    have D := pencode_ok n l h1 h2 (.slice a1 n c1) a w2 (HR.out.old HB2.out) HL.out hl
    obtain ⟨sp, hsp⟩ : ∃ s, s = sb (row (pp n (mx a)) l) := ⟨_, rfl⟩
    obtain ⟨sq, hsq⟩ : ∃ s, s = sb (row (qq n (mx a)) l) := ⟨_, rfl⟩
    have HSP : Hid (sp = sb (row (pp n (mx a)) l)) := hsp
    have HSQ : Hid (sq = sb (row (qq n (mx a)) l)) := hsq
    unfold st at D
    rw [← hsp, ← hsq] at D
    clear C hB2 HB1 hO2 hsp hsq
    go_wp2
    refine HK.out _ _ ?_
    clear HK K
    refine wp_seq_k fun K hK => ?_
    have HK : Hid _ := hK
    clear hK
    go_wp2_with fail
    refine (D).mono ?_
    rintro e0 w3 ⟨rfl, hB3⟩
    have HB3 : Hid (Below w.heap.size w w3) := HB2.out.trans (hB3.mono HB2.out.size)
    have HA3 : Hid (RdF w3 va 2 (fun x => st (row (mm n (par n) (mx a) x) l))) := HA2.out.old hB3
    obtain ⟨aa, ca, rfl, _, _⟩ := HA3.out.len
    clear D hB3 HB2 HA2
    go_wp2
    refine HK.out _ _ ?_
    clear HK K
    refine wp_seq_k fun K hK => ?_
    have HK : Hid _ := hK
    clear hK
    go_wp2
    refine HK.out _ _ ?_
    clear HK K
    go_wp2
    go_ret
    exact ⟨rfl, HB3.out⟩
set_option linter.unusedVariables false in
set_option maxRecDepth 1000000 in
set_option maxHeartbeats 8000000 in
theorem tcodes_in (ro : Int) (i k n c1 l : Nat) (a1 : Option Addr) (a : Nat → List El) (w : World) (hr : RdF w (.slice a1 n c1) n (fun i => st (a i))) (h1 : 1 ≤ n) (h2 : n ≤ 10) (hll : ∀ i, i < n → (a i).length = l) (hl : l ≤ 16) (hi : i < n + 2) (hk : k < n + 2) :
    Calls Try.prog 5 #[.int .i64 ro, .slice a1 n c1, .int .i64 (i : Int), .int .i64 (k : Int)] w fun e w' => e = .returned (.bool true) ∧ Below w.heap.size w w' := by
  have HR : Hid (RdF w (.slice a1 n c1) n (fun i => st (a i))) := hr
  have HL : Hid (∀ i, i < n → (a i).length = l) := hll
  clear hr hll
  have d0 : decide ((n : Int) < 1) = false := decide_eq_false (by omega)
  have d1 : decide ((10 : Int) < (n : Int)) = false := decide_eq_false (by omega)
  have q1 : decide ((i : Int) < 0) = false := decide_eq_false (by omega)
  have q2 : decide ((n : Int) + 2 ≤ (i : Int)) = false := decide_eq_false (by omega)
  have q3 : decide ((k : Int) < 0) = false := decide_eq_false (by omega)
  have q4 : decide ((n : Int) + 2 ≤ (k : Int)) = false := decide_eq_false (by omega)
  go_enter Try.func5, Try.ntmps5
  refine wp_seq_k fun K hK => ?_
  have HK : Hid _ := hK
  clear hK
  go_wp2
  refine HK.out _ _ ?_
  clear HK K
  refine wp_seq_k fun K hK => ?_
  have HK : Hid _ := hK
  clear hK
  go_wp2_with fail
  refine (one_any w).mono ?_
  rintro e0 w1 ⟨rfl, hB1⟩
  have HB1 : Hid (Below w.heap.size w w1) := hB1
  clear hB1
  go_wp2
  refine HK.out _ _ ?_
  clear HK K
  refine wp_seq_k fun K hK => ?_
  have HK : Hid _ := hK
  clear hK
  go_wp2
  refine HK.out _ _ ?_
  clear HK K
  refine wp_seq_k fun K hK => ?_
  have HK : Hid _ := hK
  clear hK
  go_wp2
  refine HK.out _ _ ?_
  clear HK K
  have C := encode_ok n 2 l h1 (by omega) (.slice a1 n c1) a w1 (HR.out.old HB1.out) HL.out hl
  rw [show ((2 : Nat) : Int) = 2 from rfl] at C
  refine wp_seq_k fun K hK => ?_
  have HK : Hid _ := hK
  clear hK
  go_wp2_with fail
  refine (C).mono ?_
  rintro e0 w2 ⟨va, rfl, hO2, hB2⟩
  have HB2 : Hid (Below w.heap.size w w2) := HB1.out.trans (hB2.mono HB1.out.size)
  have HA2 : Hid (RdF w2 va 2 (fun x => st (row (mm n (par n) (mx a) x) l))) := OwL.rdM hO2
  have D := pencode_ok n l h1 h2 (.slice a1 n c1) a w2 (HR.out.old HB2.out) HL.out hl
  obtain ⟨sp, hsp⟩ : ∃ s, s = sb (row (pp n (mx a)) l) := ⟨_, rfl⟩
  obtain ⟨sq, hsq⟩ : ∃ s, s = sb (row (qq n (mx a)) l) := ⟨_, rfl⟩
  have HSP : Hid (sp = sb (row (pp n (mx a)) l)) := hsp
  have HSQ : Hid (sq = sb (row (qq n (mx a)) l)) := hsq
  unfold st at D
  rw [← hsp, ← hsq] at D
  clear C hB2 HB1 hO2 hsp hsq
  go_wp2
  refine HK.out _ _ ?_
  clear HK K
  refine wp_seq_k fun K hK => ?_
  have HK : Hid _ := hK
  clear hK
  go_wp2_with fail
  refine (D).mono ?_
  rintro e0 w3 ⟨rfl, hB3⟩
  have HB3 : Hid (Below w.heap.size w w3) := HB2.out.trans (hB3.mono HB2.out.size)
  have HA3 : Hid (RdF w3 va 2 (fun x => st (row (mm n (par n) (mx a) x) l))) := HA2.out.old hB3
  obtain ⟨aa, ca, rfl, _, _⟩ := HA3.out.len
  clear D hB3 HB2 HA2
  go_wp2
  refine HK.out _ _ ?_
  clear HK K
  refine wp_seq_k fun K hK => ?_
  have HK : Hid _ := hK
  clear hK
  go_wp2
  refine HK.out _ _ ?_
  clear HK K
  refine wp_seq_k fun K hK => ?_
  have HK : Hid _ := hK
  clear hK
  go_wp2
  refine HK.out _ _ ?_
  clear HK K
  exact tcD ro n c1 l i k a1 a w (.slice aa 2 ca) sp sq _ _ _ _ _ _ _ _ _ _ _ _ _ _ _ _ _ _ _ _ _ _ _ _ _ _ _ _ _ _ _ _ _ _ _ _ _ _ _ _ _ _ _ _ _ _ _ _ _ _ _ _ _ _ _ _ _ _ _ _ _ _ _ _ _ _ _ _ _ _ _ _ _ _ _ _ _ _ _ _ _ _ _ _ _ _ _ _ _ _ _ _ _ _ _ _ _ _ _ _ _ _ _ _ _ _ _ _ _ _ _ _ _ _ _ _ _ _ _ _ _ _ _ _ _ _ _ _ _ _ _ _ _ _ _ _ _ _ _ _ _ _ _ _ _ _ _ _ _ _ _ _ _ _ _ _ _ _ _ _ _ _ _ _ _ _ _ _ _ _ _ _ _ _ _ _ _ _ _ _ _ _ _ HR h1 h2 HL hl hi hk HB3 HA3 HSP HSQ
theorem tcodes_any (ro i k : Int) (n c1 : Nat) (a1 : Option Addr) (a : Nat → List El) (w : World) (hr : RdF w (.slice a1 n c1) n (fun i => st (a i))) (hn : n ≤ 8796093021952) :
    Calls Try.prog 5 #[.int .i64 ro, .slice a1 n c1, .int .i64 i, .int .i64 k] w fun e w' => e = .returned (.bool true) ∧ Below w.heap.size w w' := by
  by_cases hb : pqf n a = 0
  · obtain ⟨h1, h2, hbb⟩ := pqf_ok hb
    obtain ⟨q1, q2⟩ := bbad_ok hbb
    by_cases hi1 : i < 0
    · exact tcodes_out ro i k n c1 (a 0).length a1 a w hr h1 h2 q1 q2 (.inl hi1)
    · by_cases hi2 : (n : Int) + 2 ≤ i
      · exact tcodes_out ro i k n c1 (a 0).length a1 a w hr h1 h2 q1 q2 (.inr (.inl ⟨hi1, hi2⟩))
      · by_cases hk1 : k < 0
        · exact tcodes_out ro i k n c1 (a 0).length a1 a w hr h1 h2 q1 q2 (.inr (.inr (.inl ⟨hi1, hi2, hk1⟩)))
        · by_cases hk2 : (n : Int) + 2 ≤ k
          · exact tcodes_out ro i k n c1 (a 0).length a1 a w hr h1 h2 q1 q2 (.inr (.inr (.inr ⟨hi1, hi2, hk1, hk2⟩)))
          · obtain ⟨i', rfl⟩ : ∃ i' : Nat, i = (i' : Int) := ⟨i.toNat, by omega⟩
            obtain ⟨k', rfl⟩ : ∃ k' : Nat, k = (k' : Int) := ⟨k.toNat, by omega⟩
            exact tcodes_in ro i' k' n c1 (a 0).length a1 a w hr h1 h2 q1 q2 (by omega) (by omega)
  · refine tcodes_bad ro i k n c1 a1 a w hr hn (fun q => hb ?_) hb
    unfold ebad at q
    by_cases hc : cbad (n : Int) 2 = 0
    · rw [if_neg (by simpa using hc), if_neg (by simp)] at q
      have := cbad_ok hc
      unfold pqf
      rw [if_neg (by omega)]
      exact q
    · rw [if_pos hc] at q
      omega
end Go.Proofs.Ytfnbpljgmchhbaa
