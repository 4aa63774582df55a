/- ScrubTwo: a walk over the program. -/
import Derived.Test.YtilfjahbdlepjaaDoorSc
import Derived.Test.YtilfjahbdlepjaaDoorPa
import Derived.Test.YtilfjahbdlepjaaDoorEr
import Derived.Test.YtilfjahbdlepjaaDoorAr
import Derived.BigCall
import Derived.BigGuard
namespace Go.Proofs.YtilfjahbdlepjaaDoor
open Go.RowKit El Pol Mx Lay
set_option maxRecDepth 100000 in
set_option maxHeartbeats 8000000 in
theorem two_any (n i k : Int) (b c : List El) (w : World) (hg : Handle w) :
    Calls Tryd.prog 4 #[.int .i64 n, .int .i64 i, .int .i64 k, st b, st c] w fun e w' => e = .returned (.bool true) ∧ Below w.heap.size w w' := by
  have HG : Hid (Handle w) := hg
  obtain ⟨i1, i2, i3, i4, i5, i6⟩ := one1_is
  have C := pa_new_ok 3 1 1 (by omega) (by omega) (by omega) w
  have HX : Hid (∀ w1, PA w1 (newAt w.heap.size 3) (Arr.fresh 3 1 1) 0 → Below w.heap.size w w1 → AL w (newAt w.heap.size 3) (Arr.fresh 3 1 1) 0 w1) := fun w1 hp hb => AL.new hp hb
  generalize newAt w.heap.size 3 = x at *
  have hs1 : st [(1 : El)] = .string ⟨#[1]⟩ := rfl
  have HP : Hid (∀ w1, AL w x (Arr.fresh 3 1 1) 0 w1 → Calls Tryd.prog 13 #[.pointer (some ⟨x.p, 0, none⟩), .int .i64 2, .int .i64 0, .string ⟨#[1]⟩] w1 fun e w' => e = .returned .nilIface ∧ AL w x one1 1 w') := fun w1 hA => by
    have := pa_poke hA.pa (Arr.fresh_ok (by omega) (by omega) (by omega)) (by omega) ((2 : Nat) : Int) ((0 : Nat) : Int) [1]
    rw [show ([(1 : El)]).length = 1 from rfl, i1, errV, if_pos rfl, hs1] at this
    exact this.mono fun e w' ⟨he, hp, hb⟩ => ⟨he, hA.next hp hb (Arr.poke_n _ _ _ _)⟩
  have HR : Hid (∀ w1, AL w x one1 1 w1 → Calls Tryd.prog 14 #[.pointer (some ⟨x.p, 0, none⟩), .int .i64 3, .int .i64 0] w1 fun e w' => e = .returned (.tuple #[.int .i64 2, .nilIface]) ∧ Below w.heap.size w w') := fun w1 hA => by
    obtain ⟨r1, r2, _⟩ := Arr.row_in i2 (s := 0) (by omega)
    have := srow_any hA.pa i2 (by omega) ((one1.n : Nat) : Int) ((0 : Nat) : Int)
    rw [r1, r2, i5, i6, errV, if_pos rfl, i3] at this
    exact this.mono fun e w' ⟨he, hp, hb⟩ => ⟨he, hA.low.trans (hb.below hA.low.size (by rw [← i3]; exact hA.out))⟩
  clear hg i1 i2 i3 i4 i5 i6 hs1
  generalize one1 = A1 at *
  generalize Arr.fresh 3 1 1 = A0 at *
  have hbl := sb_size b
  have hcl := sb_size c
  have hzz : (sb [0, 0]).toList = [0, 0] := by rw [sb_list]; rfl
  have hbe : ((sb b).toList == [0, 0]) = decide (b = [0, 0]) := by rw [← hzz]; exact sb_same b [0, 0]
  have hce : ((sb c).toList == [0, 0]) = decide (c = [0, 0]) := by rw [← hzz]; exact sb_same c [0, 0]
  clear hzz
  go_enter Tryd.func4, Tryd.ntmps4
  go_wp2_with fail
  refine C.mono ?_
  rintro e w1 ⟨rfl, hp, hb⟩
  have P := HP.out w1 (HX.out w1 hp hb)
  clear C hp hb HX HP
  go_wp2_with fail
  refine P.mono ?_
  rintro e w2 ⟨rfl, hA⟩
  have R := HR.out w2 hA
  clear P hA HR
  go_wp2_with fail
  refine R.mono ?_
  rintro e w3 ⟨rfl, hB3⟩
  have HL3 : Hid (Below w.heap.size w w3) := hB3
  clear R hB3
  by_cases hn1 : n < 3
  · have C := pa_new_bad n 1 2 (fun h => by have := abad_ok h; omega) w3
    rw [errV, if_neg (by omega)] at C
    go_wp2_with fail
    refine C.mono ?_
    rintro e w4 ⟨rfl, hb⟩
    have HL : Hid (Below w.heap.size w w4) := HL3.out.trans (hb.mono HL3.out.size)
    clear C hb
    go_wp2
    go_ret
    exact ⟨rfl, HL.out⟩
  by_cases hn2 : 10 < n
  · have C := pa_new_bad n 1 2 (fun h => by have := abad_ok h; omega) w3
    rw [errV, if_neg (by omega)] at C
    go_wp2_with fail
    refine C.mono ?_
    rintro e w4 ⟨rfl, hb⟩
    have HL : Hid (Below w.heap.size w w4) := HL3.out.trans (hb.mono HL3.out.size)
    clear C hb
    go_wp2
    go_ret
    exact ⟨rfl, HL.out⟩
  obtain ⟨n, rfl⟩ : ∃ m : Nat, n = m := ⟨n.toNat, by omega⟩
  have hn : 3 ≤ n ∧ n ≤ 10 := by omega
  have C := pa_new_ok n 1 2 hn (by omega) (by omega) w3
  generalize hx : newAt w3.heap.size n = y at C
  have HX : Hid (∀ w1, PA w1 y (Arr.fresh n 1 2) 0 → Below w3.heap.size w3 w1 → AL w y (Arr.fresh n 1 2) 0 w1) := fun w1 hp hb => by rw [← hx] at hp ⊢; exact AL.newIn HL3.out hp hb
  clear hx
  go_wp2_with fail
  refine C.mono ?_
  rintro e w4 ⟨rfl, hp, hb⟩
  have hA4 := HX.out w4 hp hb
  have HL : Hid (Below w.heap.size w w4) := hA4.low
  have HA4 : Hid (AL w y (Arr.fresh n 1 2) 0 w4) := hA4
  clear C hp hb hA4 HX HL3
  by_cases h1 : i < 0
  ·
    go_wp2
    go_ret
    exact ⟨rfl, HL.out⟩
  by_cases h2 : (n : Int) ≤ i
  ·
    go_wp2
    go_ret
    exact ⟨rfl, HL.out⟩
  by_cases h3 : k ≤ i
  ·
    go_wp2
    go_ret
    exact ⟨rfl, HL.out⟩
  by_cases h4 : (n : Int) ≤ k
  ·
    go_wp2
    go_ret
    exact ⟨rfl, HL.out⟩
  by_cases h5 : ¬ b.length = 2
  · have h5' : ¬ ((b.length : Nat) : Int) = 2 := by omega
    clear h5
    go_wp2
    go_ret
    exact ⟨rfl, HL.out⟩
  have h5 := Decidable.not_not.1 h5
  by_cases h6 : ¬ c.length = 2
  · have h6' : ¬ ((c.length : Nat) : Int) = 2 := by omega
    rw [h5] at hbl
    clear h6 h5
    go_wp2
    go_ret
    exact ⟨rfl, HL.out⟩
  have h6 := Decidable.not_not.1 h6
  rw [h5] at hbl
  rw [h6] at hcl
  by_cases h7 : b = [0, 0]
  · rw [decide_eq_true h7] at hbe
    clear h7 h5 h6
    go_wp2
    go_ret
    exact ⟨rfl, HL.out⟩
  rw [decide_eq_false h7] at hbe
  by_cases h8 : c = [0, 0]
  · rw [decide_eq_true h8] at hce
    clear h8 h7 h5 h6
    go_wp2
    go_ret
    exact ⟨rfl, HL.out⟩
  rw [decide_eq_false h8] at hce
  obtain ⟨i, rfl⟩ : ∃ m : Nat, i = m := ⟨i.toNat, by omega⟩
  obtain ⟨k, rfl⟩ : ∃ m : Nat, k = m := ⟨k.toNat, by omega⟩
  obtain ⟨j1, j2, j3, j4, j5, j6, j7, j8⟩ := two2_is (b := b) (c := c) hn (i := i) (k := k) (by omega) (by omega) h5 h6 h7
  have P1 : Calls Tryd.prog 13 #[.pointer (some ⟨y.p, 0, none⟩), .int .i64 (i : Int), .int .i64 0, st b] w4 fun e w' => e = .returned .nilIface ∧ AL w y ((Arr.fresh n 1 2).poke (i : Int) ((0 : Nat) : Int) b) 1 w' := by
    have := pa_poke HA4.out.pa (Arr.fresh_ok hn (by omega) (by omega)) (by omega) (i : Int) ((0 : Nat) : Int) b
    rw [h5, j1, errV, if_pos rfl] at this
    exact this.mono fun e w' ⟨he, hp, hb⟩ => ⟨he, HA4.out.next hp hb (Arr.poke_n _ _ _ _)⟩
  have HP2 : Hid (∀ w5, AL w y ((Arr.fresh n 1 2).poke (i : Int) ((0 : Nat) : Int) b) 1 w5 → Calls Tryd.prog 13 #[.pointer (some ⟨y.p, 0, none⟩), .int .i64 (k : Int), .int .i64 0, st c] w5 fun e w' => e = .returned .nilIface ∧ AL w y (two2 n i k b c) 2 w') := fun w5 hA => by
    have := pa_poke hA.pa j3 (by omega) (k : Int) ((0 : Nat) : Int) c
    rw [h6, j2, errV, if_pos rfl] at this
    exact this.mono fun e w' ⟨he, hp, hb⟩ => ⟨he, hA.next hp hb (Arr.poke_n _ _ _ _)⟩
  have HR : Hid (∀ w1, AL w y (two2 n i k b c) 2 w1 → Calls Tryd.prog 14 #[.pointer (some ⟨y.p, 0, none⟩), .int .i64 (n : Int), .int .i64 0] w1 fun e w' => e = .returned (.tuple #[.int .i64 ((two2 n i k b c).scrubD 0), errV ((two2 n i k b c).scrubE 0)]) ∧ Below w.heap.size w w') := fun w1 hA => by
    obtain ⟨r1, r2, _⟩ := Arr.row_in j5 (s := 0) (by omega)
    have := srow_any hA.pa j5 (by omega) (((two2 n i k b c).n : Nat) : Int) ((0 : Nat) : Int)
    rw [r1, r2, j6] at this
    exact this.mono fun e w' ⟨he, hp, hb⟩ => ⟨he, hA.low.trans (hb.below hA.low.size (by rw [← j6]; exact hA.out))⟩
  clear HA4 h5 h6 h7 h8 j1 j2 j3 j4 j5 j6 j7
  generalize (two2 n i k b c).scrubE 0 = E at *
  generalize (two2 n i k b c).scrubD 0 = D at *
  generalize two2 n i k b c = A2 at *
  generalize (Arr.fresh n 1 2).poke (i : Int) ((0 : Nat) : Int) b = A1 at *
  unfold st at *
  generalize sb b = s3 at *
  generalize sb c = s4 at *
  have HJ : Hid ((E = 8 ∧ D = 0) ∨ (E = 0 ∧ ∃ d : Nat, D = d)) := j8
  clear j8 HL
  go_wp2_with fail
  refine P1.mono ?_
  rintro e w5 ⟨rfl, hA⟩
  have P2 := HP2.out w5 hA
  clear P1 HP2 hA
  go_wp2_with fail
  refine P2.mono ?_
  rintro e w6 ⟨rfl, hA⟩
  have R := HR.out w6 hA
  clear P2 HR hA
  go_wp2_with fail
  refine R.mono ?_
  rintro e w7 ⟨rfl, hB7⟩
  have X := err_x E 8 w7 (HG.out.old hB7)
  have HL7 : Hid (Below w.heap.size w w7) := hB7
  clear R hB7
  rcases HJ.out with ⟨rfl, rfl⟩ | ⟨rfl, d, rfl⟩
  · rw [show decide (8 = 8) = true from rfl, errV, if_neg (by omega)] at X
    clear HJ
    rw [errV, if_neg (by omega)]
    go_wp2_with fail
    refine X.mono ?_
    rintro e w8 ⟨rfl, hB8⟩
    have HL : Hid (Below w.heap.size w w8) := HL7.out.trans (hB8.mono HL7.out.size)
    clear X hB8
    go_wp2
    go_ret
    exact ⟨rfl, HL.out⟩
  · rw [show decide (0 = 8) = false from rfl, errV, if_pos rfl] at X
    clear HJ
    rw [errV, if_pos rfl]
    go_wp2_with fail
    refine X.mono ?_
    rintro e w8 ⟨rfl, hB8⟩
    have HL : Hid (Below w.heap.size w w8) := HL7.out.trans (hB8.mono HL7.out.size)
    clear X hB8
    go_wp2
    go_ret
    exact ⟨rfl, HL.out⟩
end Go.Proofs.YtilfjahbdlepjaaDoor
