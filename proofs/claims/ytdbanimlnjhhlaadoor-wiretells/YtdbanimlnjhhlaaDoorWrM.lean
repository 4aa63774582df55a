/- What wire.Mend answers: walks over the program. -/
import Derived.Test.YtdbanimlnjhhlaaDoorWrV
import Derived.Deep.RegionWith
namespace Go.Proofs.YtdbanimlnjhhlaaDoor
open Go.ChangeShapes Go.WideShapes Go.ChangeAt Go.RowKit El Pol
theorem wun_short {t : List El} (h : WUn t) : t.length ≤ 197 := by
  rw [h.len]
  have : wmany t * wsize t ≤ 12 * 16 := Nat.mul_le_mul h.many h.size
  omega
theorem wun_same {t : List El} {j : Nat} {x y : El} (hx : WUn (wset t j x)) (hy : WUn (wset t j y)) : x = y := wun_one hx hy
theorem wb_self (x : El) : wb x.val = x := wb_of x
set_option maxHeartbeats 1000000 in
theorem mend_range (t : List El) (a : Int) (w : World) (h : a < 0 ∨ (t.length : Int) ≤ a) :
    Calls Tryd.prog 27 #[st t, .int .i64 a] w fun e w' => e = .returned (.tuple #[st [], errV 1]) ∧ w' = w := by
  have hs := sb_size t
  unfold st
  rw [← hs] at h
  clear hs
  generalize sb t = s at *
  go_enter Tryd.func27, Tryd.ntmps27
  rcases h with h | h
  · have hd1 : decide (a < 0) = true := decide_eq_true h
    clear h
    go_wp2
    go_ret2
    exact ⟨rfl, rfl⟩
  · have hd1 : decide (a < 0) = false := decide_eq_false (by omega)
    have hd2 : decide ((s.size : Int) ≤ a) = true := decide_eq_true h
    clear h
    go_wp2
    go_ret2
    exact ⟨rfl, rfl⟩
set_option maxHeartbeats 1000000 in
theorem mend_many (t : List El) (j : Nat) (w : World) (h : j < t.length) (hl : 197 < t.length) :
    Calls Tryd.prog 27 #[st t, .int .i64 (j : Int)] w fun e w' => e = .returned (.tuple #[st [], errV 5]) ∧ w' = w := by
  have hs := sb_size t
  unfold st
  rw [← hs] at h hl
  clear hs
  generalize sb t = s at *
  have hd1 : decide ((j : Int) < 0) = false := decide_eq_false (by omega)
  have hd2 : decide (s.size ≤ j) = false := decide_eq_false (by omega)
  have h3 : (197 : Int) < (s.size : Int) := by omega
  clear h hl
  go_enter Tryd.func27, Tryd.ntmps27
  go_wp2
  go_ret2
  exact ⟨rfl, rfl⟩
/-- so far none does -/
abbrev NoM (t : List El) (j k : Nat) : Prop := ∀ i, i < k → ¬ WUn (wset t j (wb i))
set_option maxHeartbeats 4000000 in
set_option maxRecDepth 100000 in
theorem mend_few (t : List El) (j : Nat) (w : World) (h : j < t.length) (hl : t.length ≤ 197) (z : List El) (e : Nat)
    (hz : ∀ k, k < 256 → NoM t j k → WUn (wset t j (wb k)) → z = wset t j (wb k) ∧ e = 0) (hn : NoM t j 256 → z = [] ∧ e = 5) :
    Calls Tryd.prog 27 #[st t, .int .i64 (j : Int)] w fun f w' => f = .returned (.tuple #[st z, errV e]) ∧ Below w.heap.size w w' := by
  have hs := sb_size t
  have HZ : Hid (∀ k, k < 256 → NoM t j k → WUn (wset t j (wb k)) → z = wset t j (wb k) ∧ e = 0) := hz
  have HN : Hid (NoM t j 256 → z = [] ∧ e = 5) := hn
  have HW : Hid (∀ x, (sb t).extract 0 j ++ sb [x] ++ (sb t).extract (j + 1) t.length = sb (wset t j x)) := fun x => sb_wset t j x
  have z1 : ((sb t).extract 0 j).size = j := by rw [ByteArray.size_extract]; omega
  have z2 : ((sb t).extract (j + 1) t.length).size = t.length - (j + 1) := by rw [ByteArray.size_extract]; omega
  have HL : Hid (∀ x, (wset t j x).length ≤ 197) := fun x => by rw [wset_len h]; exact hl
  unfold st
  generalize sb t = s at *
  generalize t.length = l at *
  have hd1 : decide ((j : Int) < 0) = false := decide_eq_false (by omega)
  have hd2 : decide (l ≤ j) = false := decide_eq_false (by omega)
  have h3 : ¬ (197 : Int) < (l : Int) := by omega
  clear hz hn
  go_enter Tryd.func27, Tryd.ntmps27
  go_wp2
  go_loopw [24] (fun c wr => ∃ k : Nat, k ≤ 256 ∧ c = .int .i64 k ∧ Hid (NoM t j k) ∧ Hid (Below w.heap.size w wr)) (fun c _ => 256 - (intOf c).toNat)
  case atStart => exact ⟨0, Nat.zero_le _, rfl, fun i hi => absurd hi (Nat.not_lt_zero _), Below.refl _ _⟩
  case round =>
    obtain ⟨k, hk, rfl, HM, HB⟩ := hrel
    by_cases hlt : k < 256
    · have T := text1 k wr.drew hlt
      have hz3 : (sb [wb k]).size = 1 := sb_size _
      have HX := HW.out (wb k)
      have hj2 : (j : Int) + 1 ≤ (l : Int) := by omega
      have hj3 : j + 1 ≤ l := by omega
      have hj4 : j ≤ l := by omega
      have hj5 : (0 : Int) ≤ (j : Int) + 1 := by omega
      unfold st at T
      generalize sb [wb k] = s3 at *
      generalize hA : s.extract 0 j = A at *
      generalize hC : s.extract (j + 1) l = C at *
      have hz4 : (A ++ s3).size = j + 1 := by rw [ByteArray.size_append, z1, hz3]
      have hj6 : 0 ≤ (j : Int) + 1 ∧ (j : Int) + 1 ≤ (s.size : Int) := ⟨hj5, by rw [hs]; exact hj2⟩
      have hj7 : 0 ≤ (j : Int) + 1 ∧ (j : Int) + 1 ≤ (l : Int) := ⟨hj5, hj2⟩
      have hwr : IntKind.i64.wrap ((j : Int) + 1) = (j : Int) + 1 := by rw [IntKind.wrap_i64]; omega
      have hc1 : ¬ 9223372036854775807 < A.size + s3.size := by rw [z1, hz3]; omega
      have hc2 : ¬ 9223372036854775807 < (A ++ s3).size + C.size := by rw [hz4, z2]; omega
      go_wp2
      go_region_with (first | (go_at_call 44; refine T.mono ?_; rintro f w1 ⟨rfl, hB1⟩))
      all_goals
        have HB1 : Hid (Below w.heap.size w w1) := HB.out.trans (((below_drewN (Below.refl wr.heap.size wr) 1).trans hB1).mono HB.out.size)
        have U := unpack_any (wset t j (wb k)) w1 (by have := HL.out (wb k); omega)
        have HX2 : Hid (sb (wset t j (wb k)) = sb (wset t j (wb k))) := rfl
        clear T hB1 HX hwr hc1 hc2 hj2 hj3 hj4 hj5 hj6 hj7 hz3 hz4 z1 z2 hA hC HB
        unfold st at U
        obtain ⟨s5, hs5⟩ : ∃ s5, s5 = sb (wset t j (wb k)) := ⟨_, rfl⟩
        have HS5 : Hid (s5 = sb (wset t j (wb k))) := hs5
        rw [← hs5] at U
        rw [← hs5]
        clear hs5 HX2
        by_cases hu : WUn (wset t j (wb k))
        · rw [wUE_ok hu, show errV 0 = Value.nilIface from rfl] at U
          have HE : Hid (z = wset t j (wb k) ∧ e = 0) := HZ.out k hlt HM.out hu
          generalize cnt 0 (wrow (wset t j (wb k))) = q1 at *
          generalize cnt 0 (wmany (wset t j (wb k))) = q2 at *
          clear hu
          go_wp2_with fail
          refine U.mono ?_
          rintro f w2 ⟨u, rfl, hO, hB2⟩
          have HB2 : Hid (Below w.heap.size w w2) := HB1.out.trans (hB2.mono HB1.out.size)
          clear U hO hB2
          go_wp2
          go_ret2
          exact ⟨by rw [HE.out.1, HE.out.2, ← HS5.out]; rfl, HB2.out⟩
        · rw [wUE_bad hu] at U
          have HM2 : Hid (NoM t j (k + 1)) := fun i hi => by
            by_cases ei : i = k
            · rw [ei]; exact hu
            · exact HM.out i (by omega)
          rw [errV_ne (by omega)] at U
          generalize cnt 2 (wrow (wset t j (wb k))) = q1 at *
          generalize cnt 2 (wmany (wset t j (wb k))) = q2 at *
          clear hu HM
          go_wp2_with fail
          refine U.mono ?_
          rintro f w2 ⟨u, rfl, hO, hB2⟩
          have HB2 : Hid (Below w.heap.size w w2) := HB1.out.trans (hB2.mono HB1.out.size)
          clear U hO hB2
          go_wp2
          go_roundw
          case rel => exact ⟨k + 1, by omega, by go_num, HM2.out, HB2.out⟩
          case measure => simp [intOf]; omega
    · have ek : k = 256 := by omega
      have HE : Hid (z = [] ∧ e = 5) := HN.out (by rw [← ek]; exact HM.out)
      have hk2 : ¬ (k : Int) < 256 := by omega
      clear ek HM
      go_wp2
      go_ret2
      exact ⟨by rw [HE.out.1, HE.out.2]; rfl, HB.out⟩
/-- Mend, where a byte does -/
theorem mend_ok (t : List El) (j : Nat) (x : El) (w : World) (h : j < t.length) (hx : WUn (wset t j x)) :
    Calls Tryd.prog 27 #[st t, .int .i64 (j : Int)] w fun f w' => f = .returned (.tuple #[st (wset t j x), errV 0]) ∧ Below w.heap.size w w' := by
  have hl := wun_short hx
  rw [wset_len h] at hl
  refine mend_few t j w h hl _ 0 (fun k hk _ hu => ⟨by rw [wun_same hx hu], rfl⟩) (fun hn => absurd hx ?_)
  rw [← wb_self x]
  exact hn x.val x.isLt
/-- Mend, where none does -/
theorem mend_none (t : List El) (j : Nat) (w : World) (h : j < t.length) (hx : ∀ x, ¬ WUn (wset t j x)) :
    Calls Tryd.prog 27 #[st t, .int .i64 (j : Int)] w fun f w' => f = .returned (.tuple #[st [], errV 5]) ∧ Below w.heap.size w w' := by
  by_cases hl : t.length ≤ 197
  · exact mend_few t j w h hl _ 5 (fun k hk _ hu => absurd hu (hx _)) (fun _ => ⟨rfl, rfl⟩)
  · exact (mend_many t j w h (by omega)).mono fun _ _ ⟨h1, h2⟩ => ⟨h1, h2 ▸ Below.refl _ _⟩
end Go.Proofs.YtdbanimlnjhhlaaDoor
