/- What code.Decode answers where there is no fault: by a walk over the program. -/
import Derived.Test.YtfnbpljgmchhbaaCodeI
namespace Go.Proofs.Ytfnbpljgmchhbaa
open Go.ChangeShapes Go.WideShapes Go.ChangeAt Go.RowKit El Pol Mx
theorem gp_rows (k : Nat) (s : Nat → Nat) : (fun i j => gp k (par k) (s i) j) = fun i j => gen k (s i) j := by
  funext i j
  exact gp_gen k (s i) j
set_option maxRecDepth 100000 in
set_option maxHeartbeats 2000000 in
theorem decode_ok (k m L : Nat) (h1 : 1 ≤ k) (h2 : k + m ≤ 12) (v lv : Value) (a : Nat → List El) (lost : Nat → Bool) (w : World) (h : RdF w v (k + m) (fun i => st (a i))) (hl : RdF w lv (k + m) (fun i => .bool (lost i)))
    (hk : k ≤ (ix lost (k + m)).length) (hL : ∀ i, i < (ix lost (k + m)).length → (a (at' lost (k + m) i)).length = L) (hL16 : L ≤ 16) :
    Calls Try.prog 14 #[.int .i64 k, .int .i64 m, v, lv] w fun e w' => ∃ (v' : Value) (T : M), e = .returned (.tuple #[v', .nilIface]) ∧ Inv k (fun i j => gen k (at' lost (k + m) i) j) T ∧
      w'.ownsRow w.heap.size 9 1 v' k ((List.range k).map (fun i => st (row (mm k T (mx (fun i => a (at' lost (k + m) i))) i) L))) ∧ Below w.heap.size w w' := by
  have HD : Hid (∀ (w1 : World), Below w.heap.size w w1 → ∀ (u : Value), RdM w1 u m (rws (par k) k) → Calls Try.prog 30 #[u, v, lv] w1 fun e w' => ∃ (v' : Value) (T : M), e = .returned (.tuple #[v', .nilIface]) ∧ Inv k (fun i j => gen k (at' lost (k + m) i) j) T ∧
      w'.ownsRow w1.heap.size 9 1 v' k ((List.range k).map (fun i => st (row (mm k T (mx (fun i => a (at' lost (k + m) i))) i) L))) ∧ Below w1.heap.size w1 w') := fun w1 hB u hu => by
    have := regain_ok k m L h1 h2 u v lv (par k) a lost w1 hu (h.old hB) (hl.old hB) hk hL hL16 (by rw [gp_rows]; exact left_not h2 hk)
    rw [gp_rows] at this
    exact this
  obtain ⟨ao, cap, rfl, _, _⟩ := h.len
  obtain ⟨al, cl, rfl, _, _⟩ := hl.len
  have C := ccheck_ok k m h1 h2 w
  have hne1 : (((k + m : Nat) : Int) != (k : Int) + (m : Int)) = false := by simp
  clear h hl hL hk
  go_enter Try.func14, Try.ntmps14
  go_wp2_with fail
  refine C.mono ?_
  rintro e w1 ⟨rfl, hw⟩
  obtain rfl := hw.symm
  clear C
  go_wp2_with fail
  refine (prows_any k m h1 h2 _).mono ?_
  rintro e w2 ⟨v2, rv2, rfl, hO2, hB2⟩
  have E := HD.out w2 hB2 v2 hO2.rd
  obtain ⟨a2, c2, rfl, _, _⟩ := hO2.rd.len
  clear hO2 HD
  go_wp2_with fail
  refine E.mono ?_
  rintro e w7 ⟨v7, T, rfl, hI, hO7, hB7⟩
  have HI : Hid (Inv k (fun i j => gen k (at' lost (k + m) i) j) T) := hI
  have hB07 := hB2.trans (hB7.mono hB2.size)
  have hO8 := ownsRow_mono hO7 hB2.size
  clear E hO7 hB7 hB2 hI
  go_wp2
  go_ret2
  exact ⟨_, T, rfl, HI.out, hO8, hB07⟩
end Go.Proofs.Ytfnbpljgmchhbaa
