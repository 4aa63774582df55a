/- One byte that is not known is known again, where there is a row: a walk over the law. -/
import Derived.Test.YtfnbpljgmchhbaaWMe
namespace Go.Proofs.Ytfnbpljgmchhbaa
open Go.ChangeShapes Go.WideShapes Go.ChangeAt Go.RowKit El Pol
theorem torn_same {b : List El} (h : WUn b) {j : Nat} (hj : j < b.length) {x : El} (hx : WUn (wset b j x)) : wset b j x = b := by
  have h2 : WUn (wset b j (co b j)) := by rw [wset_self hj]; exact h
  rw [wun_same hx h2, wset_self hj]
/-- what is known of bytes of which one is another one -/
structure Torn (b : List El) (j : Nat) (x : El) : Prop where
  mend : ∀ w1, Calls Try.prog 10 #[.string (sb (wset b j x)), .int .i64 (j : Int)] w1 fun e w' => e = .returned (.tuple #[.string (sb b), .nilIface]) ∧ Below w1.heap.size w1 w'
  same : wset b j x = b → ∀ w1, Calls Try.prog 8 #[.string (sb (wset b j x))] w1 fun e w' => ∃ q u, e = .returned (.tuple #[.int .i64 q, u, .nilIface]) ∧ Below w1.heap.size w1 w'
  none : wset b j x ≠ b → ∀ w1, Calls Try.prog 8 #[.string (sb (wset b j x))] w1 fun e w' => ∃ q u, e = .returned (.tuple #[.int .i64 q, u, .iface 49 (.int .i64 2)]) ∧ Below w1.heap.size w1 w'
theorem torn_any {b : List El} (h : WUn b) {j : Nat} (hj : j < b.length) (x : El) : Torn b j x := by
  have hl := wun_short h
  have hlx : (wset b j x).length ≤ 197 := by rw [wset_len hj]; exact hl
  refine ⟨fun w1 => ?_, fun e w1 => ?_, fun e w1 => ?_⟩
  · have e : wset (wset b j x) j (co b j) = b := by rw [wset_wset hj, wset_self hj]
    have := mend_ok (wset b j x) j (co b j) w1 (by rw [wset_len hj]; exact hj) (by rw [e]; exact h)
    rw [e] at this
    exact this
  · have := unpack_any (wset b j x) w1 (by omega)
    rw [wUE_ok (by rw [e]; exact h)] at this
    exact this.mono fun _ _ ⟨u, q1, _, q3⟩ => ⟨_, u, q1, q3⟩
  · have := unpack_any (wset b j x) w1 (by omega)
    rw [wUE_bad (fun q => e (torn_same h hj q))] at this
    exact this.mono fun _ _ ⟨u, q1, _, q3⟩ => ⟨_, u, q1, q3⟩
set_option maxHeartbeats 4000000 in
set_option maxRecDepth 100000 in
theorem wmends_ok (r : Nat) (v : Value) (n : Nat) (f : Nat → List El) (t : List El) (a : Int) (x : El) (w : World) (hr : RdT w v n f) (hm : t.length ≤ 9223372036854775807) (ho : WOk r n f) :
    Calls Try.prog 3 #[.int .i64 (r : Int), v, st t, .int .i64 a, .int .u8 ((x.val : Nat) : Int)] w fun e w' => e = .returned (.bool true) ∧ Below w.heap.size w w' := by
  obtain ⟨ao, cap, rfl, _, _⟩ := hr.len
  have HB0 : Hid (Below w.heap.size w (w.alloc (.cells #[.string ⟨#[97]⟩] 9))) := al_below _ _
  have F := pack_ok 1 1 _ fa _ (lit_a w) fa_ok
  obtain ⟨hF, hF3⟩ := fa_pack
  rw [show ((1 : Nat) : Int) = 1 from rfl] at F
  unfold st at F
  generalize sb (wpack 1 1 fa) = s0 at *
  have hF3 := hF3 (by omega)
  have hf3 : 3 < s0.size := by omega
  have HR : Hid (RdT w (.slice ao n cap) n f) := hr
  have HPg : Hid (∀ w1, Below w.heap.size w w1 → Calls Try.prog 7 #[.int .i64 (r : Int), .slice ao n cap] w1 fun e w' => e = .returned (.tuple #[.string (sb (wpack r n f)), .nilIface]) ∧ Below w1.heap.size w1 w') := fun w1 hb => pack_ok r n _ f w1 (hr.old hb) ho
  have HV : Hid (∀ w1, Calls Try.prog 8 #[.string (sb (wpack r n f))] w1 fun e w' => ∃ u, e = .returned (.tuple #[.int .i64 (r : Int), u, .nilIface]) ∧ OwT w1.heap.size w' u n f ∧ Below w1.heap.size w1 w') := fun w1 => unpack_pack ho w1
  have hUb : WUn (wpack r n f) := (pack_wun ho).1
  have hll := wun_short hUb
  clear hr ho
  generalize wpack r n f = b at *
  have HT : Hid (∀ j, j < b.length → Torn b j x) := fun j hj => torn_any hUb hj x
  have HW : Hid (∀ j, (sb b).extract 0 j ++ sb [x] ++ (sb b).extract (j + 1) b.length = sb (wset b j x)) := fun j => sb_wset b j x
  have HS : Hid (∀ j, ((sb (wset b j x)).toList == (sb b).toList) = decide (wset b j x = b)) := fun j => sb_same _ _
  have hbb := sb_same b b
  rw [decide_eq_true rfl] at hbb
  have hsl := sb_size b
  have HJ : Hid (a < 0 ∨ (¬ a < 0 ∧ (b.length : Int) ≤ a) ∨ ∃ j : Nat, a = j ∧ j < b.length) := by
    by_cases h1 : a < 0
    · exact .inl h1
    · by_cases h2 : (b.length : Int) ≤ a
      · exact .inr (.inl ⟨h1, h2⟩)
      · exact .inr (.inr ⟨a.toNat, by omega, by omega⟩)
  obtain ⟨sB, hsB⟩ : ∃ sB, sB = sb b := ⟨_, rfl⟩
  have HB : Hid (sb b = sB) := hsB.symm
  rw [← hsB] at HPg HV HW HS hbb hsl
  generalize b.length = l at *
  clear hUb hsB
  by_cases hu : WUn t
  · have HU : Hid (∀ w1, Calls Try.prog 8 #[.string (sb t)] w1 fun e w' => ∃ u, e = .returned (.tuple #[.int .i64 ((wrow t : Nat) : Int), u, .nilIface]) ∧ OwT w1.heap.size w' u (wmany t) (wpt t) ∧ Below w1.heap.size w1 w') := fun w1 => by
      have := unpack_any t w1 hm
      rw [wUE_ok hu] at this
      exact this
    have HP : Hid (∀ u w1, RdT w1 u (wmany t) (wpt t) → Calls Try.prog 7 #[.int .i64 ((wrow t : Nat) : Int), u] w1 fun e w' => e = .returned (.tuple #[.string (sb t), .nilIface]) ∧ Below w1.heap.size w1 w') := fun u w1 h => by
      have := pack_ok (wrow t) (wmany t) u (wpt t) w1 h (wun_ok hu)
      rw [wun_pack hu] at this
      exact this
    have hss := sb_same t t
    rw [decide_eq_true rfl] at hss
    unfold st
    generalize sb t = s at *
    generalize wrow t = r1 at *
    generalize wmany t = n1 at *
    generalize wpt t = p1 at *
    clear hu
    go_enter Try.func3, Try.ntmps3
    go_wp2_with fail
    refine F.mono ?_
    rintro e w1 ⟨rfl, hB1⟩
    have HB1 : Hid (Below w.heap.size w w1) := HB0.out.trans (hB1.mono HB0.out.size)
    have U := HU.out w1
    clear F hB1 HB0 HU
    go_wp2_with fail
    refine U.mono ?_
    rintro e w2 ⟨u, rfl, hO2, hB2⟩
    have HB2 : Hid (Below w.heap.size w w2) := HB1.out.trans (hB2.mono HB1.out.size)
    have P := HP.out u w2 hO2.rd
    clear U hO2 hB2 HB1 HP
    go_wp2_with fail
    refine P.mono ?_
    rintro e wc ⟨rfl, hB3⟩
    have HBc : Hid (Below w.heap.size w wc) := HB2.out.trans (hB3.mono HB2.out.size)
    clear P hB3 HB2
    have P := HPg.out wc HBc.out
    clear HPg
    go_wp2_with fail
    refine P.mono ?_
    rintro e w5 ⟨rfl, hB5⟩
    have HB5 : Hid (Below w.heap.size w w5) := HBc.out.trans (hB5.mono HBc.out.size)
    have V := HV.out w5
    clear P hB5 HBc HV
    go_wp2_with fail
    refine V.mono ?_
    rintro e w6 ⟨u6, rfl, hO6, hB6⟩
    have HB6 : Hid (Below w.heap.size w w6) := HB5.out.trans (hB6.mono HB5.out.size)
    have X := texts_any u6 (.slice ao n cap) n n f f w6 hO6.rd (HR.out.old HB6.out)
    rw [sameL_self] at X
    clear V hO6 hB6 HB5 HR
    go_wp2_with fail
    refine X.mono ?_
    rintro e w7 ⟨rfl, hB7⟩
    have HB7 : Hid (Below w.heap.size w w7) := HB6.out.trans (hB7.mono HB6.out.size)
    clear X hB7 HB6
    rcases HJ.out with hd | ⟨hd1, hd2⟩ | ⟨j, ej, hj⟩
    · have hd3 : decide (a < 0) = true := decide_eq_true hd
      clear HJ hd
      go_wp2
      go_ret
      exact ⟨rfl, HB7.out⟩
    · have hd3 : decide (a < 0) = false := decide_eq_false (by omega)
      have hd4 : decide ((l : Int) ≤ a) = true := decide_eq_true hd2
      clear HJ hd1 hd2
      go_wp2
      go_ret
      exact ⟨rfl, HB7.out⟩
    · subst ej
      have hd3 : decide ((j : Int) < 0) = false := decide_eq_false (by omega)
      have hd4 : decide (l ≤ j) = false := decide_eq_false (by omega)
      have T := HT.out j hj
      have HX := HW.out j
      have hsj := HS.out j
      have z1 : (sB.extract 0 j).size = j := by rw [ByteArray.size_extract]; omega
      have z2 : (sB.extract (j + 1) l).size = l - (j + 1) := by rw [ByteArray.size_extract]; omega
      have z3 : (sb [x]).size = 1 := sb_size _
      have HTm : Hid (∀ w1, Calls Try.prog 10 #[.string (sb (wset b j x)), .int .i64 (j : Int)] w1 fun e w' => e = .returned (.tuple #[.string sB, .nilIface]) ∧ Below w1.heap.size w1 w') := by rw [← HB.out]; exact T.mend
      have HTs : Hid (wset b j x = b → ∀ w1, Calls Try.prog 8 #[.string (sb (wset b j x))] w1 fun e w' => ∃ q u, e = .returned (.tuple #[.int .i64 q, u, .nilIface]) ∧ Below w1.heap.size w1 w') := T.same
      have HTn : Hid (wset b j x ≠ b → ∀ w1, Calls Try.prog 8 #[.string (sb (wset b j x))] w1 fun e w' => ∃ q u, e = .returned (.tuple #[.int .i64 q, u, .iface 49 (.int .i64 2)]) ∧ Below w1.heap.size w1 w') := T.none
      have hconv := run_text (w := (w7.alloc (.cells #[.int .u8 ((x.val : Nat) : Int)] 5)).drew) (v := .slice (some ⟨w7.heap.size, 0, none⟩) 1 1) (xs := [x]) (.inr ⟨_, 1, rfl, Nat.le_refl _, by omega, fun i hi => by
        have : i = 0 := by simp at hi; omega
        subst this
        rw [add_zero]
        exact cell_new w7 (.int .u8 ((x.val : Nat) : Int)) 5⟩) 30 9 Try.underlying30 Try.underlying9
      unfold st at hconv
      generalize sb (wset b j x) = sT at *
      generalize sb [x] = s3 at *
      generalize hA : sB.extract 0 j = A at *
      generalize hC : sB.extract (j + 1) l = C at *
      have z4 : (A ++ s3).size = j + 1 := by rw [ByteArray.size_append, z1, z3]
      have hj2 : (j : Int) + 1 ≤ (l : Int) := by omega
      have hj3 : j + 1 ≤ l := by omega
      have hj4 : j ≤ l := by omega
      have hj5 : (0 : Int) ≤ (j : Int) + 1 := by omega
      have hwr : IntKind.i64.wrap ((j : Int) + 1) = (j : Int) + 1 := by rw [IntKind.wrap_i64]; omega
      have hc1 : ¬ 9223372036854775807 < A.size + s3.size := by rw [z1, z3]; omega
      have hc2 : ¬ 9223372036854775807 < (A ++ s3).size + C.size := by rw [z4, z2]; omega
      clear T HJ HT HW HS
      go_wp2
      go_region
      all_goals
        have HB8 : Hid (Below w.heap.size w (w7.alloc (.cells #[.int .u8 ((x.val : Nat) : Int)] 5)).drew) := (HB7.out.alloc HB7.out.size _).drew
        generalize (w7.alloc (.cells #[.int .u8 ((x.val : Nat) : Int)] 5)).drew = w8 at *
        have M := HTm.out w8
        clear hconv HTm HX z1 z2 z3 z4 hj2 hj3 hj4 hj5 hwr hc1 hc2 hA hC HB7
        go_wp2_with fail
        refine M.mono ?_
        rintro e w9 ⟨rfl, hB9⟩
        have HB9 : Hid (Below w.heap.size w w9) := HB8.out.trans (hB9.mono HB8.out.size)
        clear M hB9 HB8
        by_cases hq : wset b j x = b
        · have U2 := HTs.out hq w9
          rw [decide_eq_true hq] at hsj
          clear HTs HTn hq
          go_wp2_with fail
          refine U2.mono ?_
          rintro e wa ⟨q, u, rfl, hBa⟩
          have HBa : Hid (Below w.heap.size w wa) := HB9.out.trans (hBa.mono HB9.out.size)
          clear U2 hBa HB9
          go_wp2
          go_ret
          exact ⟨rfl, HBa.out⟩
        · have U2 := HTn.out hq w9
          rw [decide_eq_false hq] at hsj
          clear HTs HTn hq
          go_wp2_with fail
          refine U2.mono ?_
          rintro e wa ⟨q, u, rfl, hBa⟩
          have HBa : Hid (Below w.heap.size w wa) := HB9.out.trans (hBa.mono HB9.out.size)
          clear U2 hBa HB9
          go_wp2
          go_ret
          exact ⟨rfl, HBa.out⟩
  · have HU : Hid (∀ w1, Calls Try.prog 8 #[.string (sb t)] w1 fun e w' => ∃ u, e = .returned (.tuple #[.int .i64 0, u, .iface 49 (.int .i64 2)]) ∧ OwT w1.heap.size w' u 0 (wpt t) ∧ Below w1.heap.size w1 w') := fun w1 => by
      have := unpack_any t w1 hm
      rw [wUE_bad hu] at this
      exact this
    unfold st
    generalize sb t = s at *
    generalize wpt t = p1 at *
    clear hu
    go_enter Try.func3, Try.ntmps3
    go_wp2_with fail
    refine F.mono ?_
    rintro e w1 ⟨rfl, hB1⟩
    have HB1 : Hid (Below w.heap.size w w1) := HB0.out.trans (hB1.mono HB0.out.size)
    have U := HU.out w1
    clear F hB1 HB0 HU
    go_wp2_with fail
    refine U.mono ?_
    rintro e wc ⟨u, rfl, hO2, hB2⟩
    have HBc : Hid (Below w.heap.size w wc) := HB1.out.trans (hB2.mono HB1.out.size)
    clear U hO2 hB2 HB1
    have P := HPg.out wc HBc.out
    clear HPg
    go_wp2_with fail
    refine P.mono ?_
    rintro e w5 ⟨rfl, hB5⟩
    have HB5 : Hid (Below w.heap.size w w5) := HBc.out.trans (hB5.mono HBc.out.size)
    have V := HV.out w5
    clear P hB5 HBc HV
    go_wp2_with fail
    refine V.mono ?_
    rintro e w6 ⟨u6, rfl, hO6, hB6⟩
    have HB6 : Hid (Below w.heap.size w w6) := HB5.out.trans (hB6.mono HB5.out.size)
    have X := texts_any u6 (.slice ao n cap) n n f f w6 hO6.rd (HR.out.old HB6.out)
    rw [sameL_self] at X
    clear V hO6 hB6 HB5 HR
    go_wp2_with fail
    refine X.mono ?_
    rintro e w7 ⟨rfl, hB7⟩
    have HB7 : Hid (Below w.heap.size w w7) := HB6.out.trans (hB7.mono HB6.out.size)
    clear X hB7 HB6
    rcases HJ.out with hd | ⟨hd1, hd2⟩ | ⟨j, ej, hj⟩
    · have hd3 : decide (a < 0) = true := decide_eq_true hd
      clear HJ hd
      go_wp2
      go_ret
      exact ⟨rfl, HB7.out⟩
    · have hd3 : decide (a < 0) = false := decide_eq_false (by omega)
      have hd4 : decide ((l : Int) ≤ a) = true := decide_eq_true hd2
      clear HJ hd1 hd2
      go_wp2
      go_ret
      exact ⟨rfl, HB7.out⟩
    · subst ej
      have hd3 : decide ((j : Int) < 0) = false := decide_eq_false (by omega)
      have hd4 : decide (l ≤ j) = false := decide_eq_false (by omega)
      have T := HT.out j hj
      have HX := HW.out j
      have hsj := HS.out j
      have z1 : (sB.extract 0 j).size = j := by rw [ByteArray.size_extract]; omega
      have z2 : (sB.extract (j + 1) l).size = l - (j + 1) := by rw [ByteArray.size_extract]; omega
      have z3 : (sb [x]).size = 1 := sb_size _
      have HTm : Hid (∀ w1, Calls Try.prog 10 #[.string (sb (wset b j x)), .int .i64 (j : Int)] w1 fun e w' => e = .returned (.tuple #[.string sB, .nilIface]) ∧ Below w1.heap.size w1 w') := by rw [← HB.out]; exact T.mend
      have HTs : Hid (wset b j x = b → ∀ w1, Calls Try.prog 8 #[.string (sb (wset b j x))] w1 fun e w' => ∃ q u, e = .returned (.tuple #[.int .i64 q, u, .nilIface]) ∧ Below w1.heap.size w1 w') := T.same
      have HTn : Hid (wset b j x ≠ b → ∀ w1, Calls Try.prog 8 #[.string (sb (wset b j x))] w1 fun e w' => ∃ q u, e = .returned (.tuple #[.int .i64 q, u, .iface 49 (.int .i64 2)]) ∧ Below w1.heap.size w1 w') := T.none
      have hconv := run_text (w := (w7.alloc (.cells #[.int .u8 ((x.val : Nat) : Int)] 5)).drew) (v := .slice (some ⟨w7.heap.size, 0, none⟩) 1 1) (xs := [x]) (.inr ⟨_, 1, rfl, Nat.le_refl _, by omega, fun i hi => by
        have : i = 0 := by simp at hi; omega
        subst this
        rw [add_zero]
        exact cell_new w7 (.int .u8 ((x.val : Nat) : Int)) 5⟩) 30 9 Try.underlying30 Try.underlying9
      unfold st at hconv
      generalize sb (wset b j x) = sT at *
      generalize sb [x] = s3 at *
      generalize hA : sB.extract 0 j = A at *
      generalize hC : sB.extract (j + 1) l = C at *
      have z4 : (A ++ s3).size = j + 1 := by rw [ByteArray.size_append, z1, z3]
      have hj2 : (j : Int) + 1 ≤ (l : Int) := by omega
      have hj3 : j + 1 ≤ l := by omega
      have hj4 : j ≤ l := by omega
      have hj5 : (0 : Int) ≤ (j : Int) + 1 := by omega
      have hwr : IntKind.i64.wrap ((j : Int) + 1) = (j : Int) + 1 := by rw [IntKind.wrap_i64]; omega
      have hc1 : ¬ 9223372036854775807 < A.size + s3.size := by rw [z1, z3]; omega
      have hc2 : ¬ 9223372036854775807 < (A ++ s3).size + C.size := by rw [z4, z2]; omega
      clear T HJ HT HW HS
      go_wp2
      go_region
      all_goals
        have HB8 : Hid (Below w.heap.size w (w7.alloc (.cells #[.int .u8 ((x.val : Nat) : Int)] 5)).drew) := (HB7.out.alloc HB7.out.size _).drew
        generalize (w7.alloc (.cells #[.int .u8 ((x.val : Nat) : Int)] 5)).drew = w8 at *
        have M := HTm.out w8
        clear hconv HTm HX z1 z2 z3 z4 hj2 hj3 hj4 hj5 hwr hc1 hc2 hA hC HB7
        go_wp2_with fail
        refine M.mono ?_
        rintro e w9 ⟨rfl, hB9⟩
        have HB9 : Hid (Below w.heap.size w w9) := HB8.out.trans (hB9.mono HB8.out.size)
        clear M hB9 HB8
        by_cases hq : wset b j x = b
        · have U2 := HTs.out hq w9
          rw [decide_eq_true hq] at hsj
          clear HTs HTn hq
          go_wp2_with fail
          refine U2.mono ?_
          rintro e wa ⟨q, u, rfl, hBa⟩
          have HBa : Hid (Below w.heap.size w wa) := HB9.out.trans (hBa.mono HB9.out.size)
          clear U2 hBa HB9
          go_wp2
          go_ret
          exact ⟨rfl, HBa.out⟩
        · have U2 := HTn.out hq w9
          rw [decide_eq_false hq] at hsj
          clear HTs HTn hq
          go_wp2_with fail
          refine U2.mono ?_
          rintro e wa ⟨q, u, rfl, hBa⟩
          have HBa : Hid (Below w.heap.size w wa) := HB9.out.trans (hBa.mono HB9.out.size)
          clear U2 hBa HB9
          go_wp2
          go_ret
          exact ⟨rfl, HBa.out⟩
theorem wmends_any (row : Int) (v : Value) (n : Nat) (f : Nat → List El) (t : List El) (a : Int) (x : El) (w : World) (hr : RdT w v n f) (hm : t.length ≤ 9223372036854775807) :
    Calls Try.prog 3 #[.int .i64 row, v, st t, .int .i64 a, .int .u8 ((x.val : Nat) : Int)] w fun e w' => e = .returned (.bool true) ∧ Below w.heap.size w w' := by
  by_cases he : wE row n f = 0
  · obtain ⟨r, rfl, ho⟩ := wok_of he
    exact wmends_ok r v n f t a x w hr hm ho
  · exact wmends_bad row v n f t a x w hr hm he
end Go.Proofs.Ytfnbpljgmchhbaa
