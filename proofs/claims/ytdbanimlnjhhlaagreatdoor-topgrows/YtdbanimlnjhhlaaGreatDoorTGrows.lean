/- TopGrows, a part of it: walks over the program. -/
import Derived.Test.YtdbanimlnjhhlaaGreatDoorTGw
import Derived.BigCall
import Derived.BigGuard
import Derived.Deep.Cut
namespace Go.Proofs.YtdbanimlnjhhlaaGreatDoor
open Go.RowKit El Pol Mx Lay
theorem MK.firstT {n rows : Nat} (hn : 3 ≤ n ∧ n ≤ 10) (hr : 1 ≤ rows ∧ rows ≤ 20) {w w1 : World} {x : PAd} (h : AL w x (Arr.fresh n rows 2) 0 w1) : MK w x n rows (Arr.fresh n rows 2) (fun _ => List.replicate 2 0) 0 w1 :=
  ⟨h, Keep.fresh hn hr (by omega), rfl, rfl, rfl, fun r hr => Arr.nl_none (fun d _ => by
    show (false || decide (rows ≤ r)) = false
    simp; omega)⟩
def tgbad (n rows : Int) : Prop := n < 3 ∨ 10 < n ∨ rows < 1 ∨ 20 < rows
theorem tgbad_arr {n rows : Int} (h : abad n rows 2 ≠ 0) : tgbad n rows := by
  by_cases q : tgbad n rows
  · exact q
  · refine absurd ?_ h
    unfold tgbad at q
    unfold abad
    rw [if_neg]
    rintro (z | z)
    · rw [lbad_of (by omega) (by omega)] at z
      omega
    · unfold newE at z
      rw [if_neg (by omega)] at z
      omega
set_option maxRecDepth 1000000 in
set_option maxHeartbeats 8000000 in
theorem tgrows_bad (n rows : Int) (v2 v3 : Value) (w : World) (ha : abad n rows 2 ≠ 0) :
    Calls Tryz.prog 3 #[.int .i64 n, .int .i64 rows, v2, v3] w fun e w' => e = .returned (.bool true) ∧ Below w.heap.size w w' := by
  have C0 := one_any w
  have HN : Hid (∀ W : World, Calls Tryz.prog 5 #[.int .i64 n, .int .i64 rows, .int .i64 2] W fun e w' => e = .returned (.tuple #[.pointer none, errV 1]) ∧ Below W.heap.size W w') := fun W => pa_new_bad n rows 2 ha W
  have hbad := tgbad_arr ha
  clear ha
  by_cases h0 : n < 3
  · have d0 : decide (n < 3) = true := decide_eq_true h0
    clear hbad
    go_enter Tryz.func3, Tryz.ntmps3
    go_wp2_with fail
    refine C0.mono ?_
    rintro e w1 ⟨rfl, hB1⟩
    have HB1 : Hid (Below w.heap.size w w1) := hB1
    have C := HN.out w1
    rw [errV, if_neg (by omega)] at C
    clear C0 hB1 HN
    go_wp2_with fail
    refine C.mono ?_
    rintro e w2 ⟨rfl, hB2⟩
    have HB2 : Hid (Below w.heap.size w w2) := HB1.out.trans (hB2.mono HB1.out.size)
    clear C hB2 HB1
    go_wp2
    go_ret
    exact ⟨rfl, HB2.out⟩
  · have d0 : decide (n < 3) = false := decide_eq_false h0
    by_cases h1 : 10 < n
    · have d1 : decide (10 < n) = true := decide_eq_true h1
      clear hbad
      go_enter Tryz.func3, Tryz.ntmps3
      go_wp2_with fail
      refine C0.mono ?_
      rintro e w1 ⟨rfl, hB1⟩
      have HB1 : Hid (Below w.heap.size w w1) := hB1
      have C := HN.out w1
      rw [errV, if_neg (by omega)] at C
      clear C0 hB1 HN
      go_wp2_with fail
      refine C.mono ?_
      rintro e w2 ⟨rfl, hB2⟩
      have HB2 : Hid (Below w.heap.size w w2) := HB1.out.trans (hB2.mono HB1.out.size)
      clear C hB2 HB1
      go_wp2
      go_ret
      exact ⟨rfl, HB2.out⟩
    · have d1 : decide (10 < n) = false := decide_eq_false h1
      by_cases h2 : rows < 1
      · have d2 : decide (rows < 1) = true := decide_eq_true h2
        clear hbad
        go_enter Tryz.func3, Tryz.ntmps3
        go_wp2_with fail
        refine C0.mono ?_
        rintro e w1 ⟨rfl, hB1⟩
        have HB1 : Hid (Below w.heap.size w w1) := hB1
        have C := HN.out w1
        rw [errV, if_neg (by omega)] at C
        clear C0 hB1 HN
        go_wp2_with fail
        refine C.mono ?_
        rintro e w2 ⟨rfl, hB2⟩
        have HB2 : Hid (Below w.heap.size w w2) := HB1.out.trans (hB2.mono HB1.out.size)
        clear C hB2 HB1
        go_wp2
        go_ret
        exact ⟨rfl, HB2.out⟩
      · have d2 : decide (rows < 1) = false := decide_eq_false h2
        have h3 : 20 < rows := by unfold tgbad at hbad; omega
        have d3 : decide (20 < rows) = true := decide_eq_true h3
        clear hbad
        go_enter Tryz.func3, Tryz.ntmps3
        go_wp2_with fail
        refine C0.mono ?_
        rintro e w1 ⟨rfl, hB1⟩
        have HB1 : Hid (Below w.heap.size w w1) := hB1
        have C := HN.out w1
        rw [errV, if_neg (by omega)] at C
        clear C0 hB1 HN
        go_wp2_with fail
        refine C.mono ?_
        rintro e w2 ⟨rfl, hB2⟩
        have HB2 : Hid (Below w.heap.size w w2) := HB1.out.trans (hB2.mono HB1.out.size)
        clear C hB2 HB1
        go_wp2
        go_ret
        exact ⟨rfl, HB2.out⟩
set_option linter.unusedVariables false in
set_option maxRecDepth 1000000 in
set_option maxHeartbeats 16000000 in
theorem tgrows_ok (n rows : Nat) (hn : 3 ≤ n ∧ n ≤ 10) (hr : 1 ≤ rows ∧ rows ≤ 20) (a2 a3 : Option Addr) (n2 c2 n3 c3 : Nat) (S2 : Nat → List El) (f3 : Nat → Int) (w : World) (HG : Hid (Handle w)) (r2 : RdT w (.slice a2 n2 c2) n2 S2) (r3 : RdF w (.slice a3 n3 c3) n3 (fun i => .int .i64 (f3 i))) :
    Calls Tryz.prog 3 #[.int .i64 (n : Int), .int .i64 (rows : Int), .slice a2 n2 c2, .slice a3 n3 c3] w fun e w' => e = .returned (.bool true) ∧ Below w.heap.size w w' := by
  have HR2 : Hid _ := r2
  have HR3 : Hid _ := r3
  clear r2 r3
  have C0 := one_any w
  have hbig : rows * (n - 2) ≤ 20 * 8 := Nat.mul_le_mul hr.2 (by omega)
  obtain ⟨cc, hcc⟩ : ∃ c, n - 2 = c := ⟨_, rfl⟩
  obtain ⟨m, hm⟩ : ∃ m, m = rows * (n - 2) := ⟨_, rfl⟩
  have hs : (n : Int) - 2 = (cc : Int) := by omega
  have hmul : (rows : Int) * (cc : Int) = (m : Int) := by rw [hm, ← hcc, Int.natCast_mul]
  have HM : Hid (m = rows * (n - 2)) := hm
  have HCC : Hid (n - 2 = cc) := hcc
  have n10 : (n : Int) ≤ 10 := by omega
  have n3z : (3 : Int) ≤ (n : Int) := by omega
  have r20 : (rows : Int) ≤ 20 := by omega
  have r1z : (1 : Int) ≤ (rows : Int) := by omega
  have m160 : (m : Int) ≤ 160 := by omega
  have d0 : decide ((n : Int) < 3) = false := decide_eq_false (by omega)
  have d1 : decide (10 < (n : Int)) = false := decide_eq_false (by omega)
  have d2 : decide ((rows : Int) < 1) = false := decide_eq_false (by omega)
  have d3 : decide (20 < (rows : Int)) = false := decide_eq_false (by omega)
  clear hcc hm hbig
  go_enter Tryz.func3, Tryz.ntmps3
  go_wp2_with fail
  refine C0.mono ?_
  rintro e w1 ⟨rfl, hB1⟩
  have HL : Hid (Below w.heap.size w w1) := hB1
  clear C0 hB1
  have C := pa_new_ok n rows 2 hn hr (by omega) w1
  generalize hx : newAt w1.heap.size n = x at C
  have HX : Hid (∀ w2, PA w2 x (Arr.fresh n rows 2) 0 → Below w1.heap.size w1 w2 → AL w x (Arr.fresh n rows 2) 0 w2) := fun w2 hp hb => by rw [← hx] at hp ⊢; exact AL.newIn HL.out hp hb
  clear hx
  go_wp2_with fail
  refine C.mono ?_
  rintro e w2 ⟨rfl, hp, hb⟩
  have HA : Hid (AL w x (Arr.fresh n rows 2) 0 w2) := HX.out w2 hp hb
  clear C hp hb HX HL
  by_cases hm40 : m ≤ 40
  · have m40 : (m : Int) ≤ 40 := by omega
    have d4 : decide (40 < (m : Int)) = false := decide_eq_false (by omega)
    have HT : Hid (TG w x n rows w2.heap.size 0 0 (.slice none 0 0) (Arr.fresh n rows 2) (fun _ => List.replicate 2 0) w2) := ⟨MK.firstT hn hr HA.out, World.ownsRow_nil _ _ _ _, fun i hi => HA.out.pa.lt i hi, HA.out.low.size, Nat.le_refl _⟩
    clear HA
    go_upto_region 9 with fail
    rename ∀ (a : Act) (w : World), Code.wp _ _ _ a w → _ => hK
    have HK : Hid _ := hK
    clear hK
    go_wp2
    refine HK.out _ _ ?_
    clear HK
    exact tg_a n rows m cc n2 c2 n3 c3 a2 a3 x w _ _ _ S2 f3 _ _ _ _ _ _ _ _ _ _ _ _ _ _ _ _ _ _ _ _ _ _ _ _ _ _ _ _ _ _ _ _ _ _ _ _ _ _ _ _ _ _ _ _ _ _ _ _ _ _ _ _ _ _ _ _ _ _ _ _ _ _ _ _ _ _ _ _ _ _ _ _ _ _ _ _ _ _ _ _ _ _ _ _ _ _ _ _ _ _ _ _ _ _ _ _ _ _ _ _ _ _ _ _ _ _ _ _ _ _ _ _ _ _ _ _ _ _ _ _ _ _ _ _ _ _ _ _ _ _ _ _ _ _ _ _ _ _ _ _ _ _ _ _ _ _ _ _ _ _ _ _ _ _ _ _ _ _ _ _ _ _ _ _ _ _ _ _ _ _ _ _ _ _ _ _ _ _ _ _ _ _ _ _ _ _ _ _ _ _ _ _ _ _ _ _ _ _ _ _ _ _ _ _ _ HG hn hr HCC HM hm40 HR2.out HR3.out (fun _ => rfl) HT.out
  · have m40 : (40 : Int) < (m : Int) := by omega
    have d4 : decide (40 < (m : Int)) = true := decide_eq_true m40
    have HF : Hid (Below w.heap.size w w2) := HA.out.low
    clear HA
    go_wp2
    go_ret
    exact ⟨rfl, HF.out⟩
theorem tgrows_any (n rows : Int) (a2 a3 : Option Addr) (n2 c2 n3 c3 : Nat) (S2 : Nat → List El) (f3 : Nat → Int) (w : World) (hg : Handle w) (r2 : RdT w (.slice a2 n2 c2) n2 S2) (r3 : RdF w (.slice a3 n3 c3) n3 (fun i => .int .i64 (f3 i))) :
    Calls Tryz.prog 3 #[.int .i64 n, .int .i64 rows, .slice a2 n2 c2, .slice a3 n3 c3] w fun e w' => e = .returned (.bool true) ∧ Below w.heap.size w w' := by
  by_cases ha : abad n rows 2 = 0
  · obtain ⟨h1, h2, _⟩ := abad_ok ha
    obtain ⟨n, rfl⟩ : ∃ m : Nat, n = m := ⟨n.toNat, by omega⟩
    obtain ⟨rows, rfl⟩ : ∃ m : Nat, rows = m := ⟨rows.toNat, by omega⟩
    exact tgrows_ok n rows (by omega) (by omega) a2 a3 n2 c2 n3 c3 S2 f3 w hg r2 r3
  · exact tgrows_bad n rows _ _ w ha
end Go.Proofs.YtdbanimlnjhhlaaGreatDoor
