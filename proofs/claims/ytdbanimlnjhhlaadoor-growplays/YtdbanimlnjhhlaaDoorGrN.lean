/- A grow of cells: a walk over the program. -/
import Derived.Test.YtdbanimlnjhhlaaDoorGrC
import Derived.Test.YtdbanimlnjhhlaaDoorRoF
namespace Go.Proofs.YtdbanimlnjhhlaaDoor
open Go.RowKit El Pol
def noN (n : Int) : Prop := n < 1 ∨ 9 < n
instance (n : Int) : Decidable (noN n) := inferInstanceAs (Decidable (_ ∨ _))
/-- what is wrong with a grow's cells and disks -/
def growE (m : Nat) (c : Nat → List El) (n : Int) : Nat := if cellsE m c ≠ 0 then cellsE m c else if noN n then 1 else 0
theorem growE_ok {m : Nat} {c : Nat → List El} {n : Int} (h : growE m c n = 0) : cellsE m c = 0 ∧ ∃ k : Nat, n = (k : Int) ∧ 1 ≤ k ∧ k ≤ 9 := by
  unfold growE at h
  split at h
  · contradiction
  · split at h
    · omega
    · rename_i h1 h2
      unfold noN at h2
      exact ⟨by omega, n.toNat, by omega, by omega, by omega⟩
theorem fresh_all {m : Nat} {c : Nat → List El} : (Rdo.fresh m c).cells = c := rfl
set_option maxRecDepth 100000 in
set_option maxHeartbeats 1000000 in
theorem gnew_bad (v : Value) (m : Nat) (c : Nat → List El) (n : Int) (w : World) (hr : RdT w v m c) (he : growE m c n ≠ 0) :
    Calls Tryd.prog 11 #[v, .int .i64 n] w fun e w' => e = .returned (.tuple #[.pointer none, errV (growE m c n)]) ∧ Below w.heap.size w w' := by
  by_cases h1 : cellsE m c = 0
  · have e0 : growE m c n = if noN n then 1 else 0 := if_neg (fun z => z h1)
    have h2 : noN n := by
      rw [e0] at he
      split at he
      · assumption
      · exact absurd rfl he
    rw [e0, if_pos h2, errV, if_neg (by omega)]
    have C := rnew_ok v m c w hr h1
    obtain ⟨ao, cap, rfl, _, _⟩ := hr.len
    clear hr he h1 e0
    unfold noN at h2
    by_cases h3 : n < 1
    · have d3 : decide (n < 1) = true := decide_eq_true h3
      clear h2
      go_enter Tryd.func11, Tryd.ntmps11
      go_wp2_with fail
      refine C.mono ?_
      rintro e w1 ⟨x, rfl, _, hB⟩
      have HB : Hid (Below w.heap.size w w1) := hB
      clear C hB
      go_wp2
      go_ret2
      exact ⟨rfl, HB.out⟩
    · have d3 : decide (n < 1) = false := decide_eq_false h3
      have d4 : decide (9 < n) = true := decide_eq_true (by omega)
      clear h2
      go_enter Tryd.func11, Tryd.ntmps11
      go_wp2_with fail
      refine C.mono ?_
      rintro e w1 ⟨x, rfl, _, hB⟩
      have HB : Hid (Below w.heap.size w w1) := hB
      clear C hB
      go_wp2
      go_ret2
      exact ⟨rfl, HB.out⟩
  · have e0 : growE m c n = cellsE m c := if_pos h1
    rw [e0]
    have C := rnew_bad v m c w hr h1
    obtain ⟨ao, cap, rfl, _, _⟩ := hr.len
    generalize cellsE m c = f at *
    rw [errV, if_neg h1] at C ⊢
    have HB : Hid (Below w.heap.size w w) := Below.refl _ _
    clear hr he e0
    go_enter Tryd.func11, Tryd.ntmps11
    go_wp2_with fail
    refine C.mono ?_
    rintro e w1 ⟨rfl, hw⟩
    obtain rfl := hw.symm
    clear C hw
    go_wp2
    go_ret2
    exact ⟨rfl, HB.out⟩
set_option maxRecDepth 100000 in
set_option maxHeartbeats 1000000 in
theorem gnew_ok (v : Value) (m : Nat) (c : Nat → List El) (n : Nat) (w : World) (hr : RdT w v m c) (he : cellsE m c = 0) (h1 : 1 ≤ n) (h9 : n ≤ 9) :
    Calls Tryd.prog 11 #[v, .int .i64 (n : Int)] w fun e w' => ∃ x : GP, e = .returned (.tuple #[.pointer (some ⟨x.p, 0, none⟩), .nilIface]) ∧ IsG w.heap.size w' x (Grw.fresh n m c) ∧ Below w.heap.size w w' := by
  have C := rnew_ok v m c w hr he
  obtain ⟨hm, hs⟩ := cellsE_ok he
  have HO : Hid (Rdo.fresh m c).ok := Rdo.fresh_ok hm hs
  obtain ⟨ao, cap, rfl, _, _⟩ := hr.len
  have d3 : decide ((n : Int) < 1) = false := decide_eq_false (by omega)
  have d4 : decide (9 < (n : Int)) = false := decide_eq_false (by omega)
  clear hr he hs
  go_enter Tryd.func11, Tryd.ntmps11
  go_wp2_with fail
  refine C.mono ?_
  rintro e w1 ⟨y, rfl, hM, hB⟩
  have D := rall_any hM HO.out
  have HB : Hid (Below w.heap.size w w1) := hB
  have hsz := hB.size
  clear C hM hB HO
  go_wp2_with fail
  refine D.mono ?_
  rintro e w2 ⟨u, rfl, hO, hB2⟩
  rw [fresh_all] at hO
  obtain ⟨a2, k2, rfl⟩ := OwT.len hO
  have hB3 : Below w.heap.size w w2 := HB.out.trans (hB2.mono hsz)
  have HG : Hid (IsG w.heap.size (w2.alloc (.cells #[.slice a2 m k2, .int .i64 (n : Int), .int .i64 0] 78)) ⟨w2.heap.size, .slice a2 m k2⟩ (Grw.fresh n m c)) :=
    ⟨heap_alloc_new w2 _, ownsRow_old (OwT.base hO hsz) (al_below _ _), hB3.size⟩
  have HB4 : Hid (Below w.heap.size w (w2.alloc (.cells #[.slice a2 m k2, .int .i64 (n : Int), .int .i64 0] 78))) := hB3.alloc hB3.size _
  clear D hO hB2 hB3 HB hsz
  go_wp2
  go_ret2
  exact ⟨⟨w2.heap.size, .slice a2 m k2⟩, rfl, HG.out, HB4.out⟩
end Go.Proofs.YtdbanimlnjhhlaaDoor
