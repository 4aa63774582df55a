/- One byte that is not known is known again: a walk over the law. -/
import Derived.Test.YtfnbpljgmchhbaaWrM
import Derived.Test.YtfnbpljgmchhbaaTxX
namespace Go.Proofs.Ytfnbpljgmchhbaa
open Go.ChangeShapes Go.WideShapes Go.ChangeAt Go.RowKit El Pol
/-- what was packed is read as it was -/
theorem unpack_pack {r n : Nat} {f : Nat → List El} (ho : WOk r n f) (w : World) :
    Calls Try.prog 8 #[st (wpack r n f)] w fun e w' => ∃ u, e = .returned (.tuple #[.int .i64 (r : Int), u, .nilIface]) ∧ OwT w.heap.size w' u n f ∧ Below w.heap.size w w' := by
  obtain ⟨h1, h2, h3, h4⟩ := pack_wun ho
  have hl := wun_short h1
  have := unpack_any (wpack r n f) w (by omega)
  rw [wUE_ok h1, h2, h3] at this
  exact this.mono fun e w' ⟨u, q1, q2, q3⟩ => ⟨u, q1, OwT.congr q2 h4, q3⟩
theorem sameL_self (n : Nat) (f : Nat → List El) : sameL n n f f = true := sameL_iff.2 ⟨rfl, fun _ _ => rfl⟩
def fa (_ : Nat) : List El := [97]
theorem fa_ok : WOk 1 1 fa := ⟨by omega, by omega, fun i _ => rfl, by (show 1 ≤ 16); omega⟩
theorem lit_a (w : World) : RdT (w.alloc (.cells #[.string ⟨#[97]⟩] 9)) (.slice (some ⟨w.heap.size, 0, none⟩) 1 1) 1 fa := by
  refine OwL.rdF (own_lit (B := 0) [.string ⟨#[97]⟩] (Nat.zero_le _) (by simp)) (fun i hi => ?_)
  match i, hi with
  | 0, _ => rfl
theorem fa_pack : (sb (wpack 1 1 fa)).size = 6 ∧ ∀ h : 3 < (sb (wpack 1 1 fa)).size, ((sb (wpack 1 1 fa))[3]'h).toNat = 97 :=
  ⟨by rw [sb_size, wpack_len fa_ok]; rfl, fun h => by rw [sb_at]; rfl⟩
set_option maxHeartbeats 4000000 in
set_option maxRecDepth 100000 in
theorem wmends_bad (row : Int) (v : Value) (n : Nat) (f : Nat → List El) (t : List El) (a : Int) (x : El) (w : World) (hr : RdT w v n f) (hm : t.length ≤ 9223372036854775807) (he : wE row n f ≠ 0) :
    Calls Try.prog 3 #[.int .i64 row, v, st t, .int .i64 a, .int .u8 ((x.val : Nat) : Int)] w fun e w' => e = .returned (.bool true) ∧ Below w.heap.size w w' := by
  obtain ⟨ao, cap, rfl, _, _⟩ := hr.len
  have HB0 : Hid (Below w.heap.size w (w.alloc (.cells #[.string ⟨#[97]⟩] 9))) := al_below _ _
  have F := pack_ok 1 1 _ fa _ (lit_a w) fa_ok
  obtain ⟨hF, hF3⟩ := fa_pack
  rw [show ((1 : Nat) : Int) = 1 from rfl] at F
  unfold st at F
  generalize sb (wpack 1 1 fa) = s0 at *
  have hF3 := hF3 (by omega)
  have hf3 : 3 < s0.size := by omega
  have HPb : Hid (∀ w1, Below w.heap.size w w1 → Calls Try.prog 7 #[.int .i64 row, .slice ao n cap] w1 fun e w' => e = .returned (.tuple #[.string ⟨#[]⟩, .iface 49 (.int .i64 (wE row n f))]) ∧ Below w1.heap.size w1 w') := fun w1 hb => by
    have := pack_any row _ n f w1 (hr.old hb)
    rw [wP_bad he, errV_ne he] at this
    exact this
  clear hr he
  generalize wE row n f = q at *
  by_cases hu : WUn t
  · have HU : Hid (∀ w1, Calls Try.prog 8 #[.string (sb t)] w1 fun e w' => ∃ u, e = .returned (.tuple #[.int .i64 ((wrow t : Nat) : Int), u, .nilIface]) ∧ OwT w1.heap.size w' u (wmany t) (wpt t) ∧ Below w1.heap.size w1 w') := fun w1 => by
      have := unpack_any t w1 hm
      rw [wUE_ok hu] at this
      exact this
    have HP : Hid (∀ u w1, RdT w1 u (wmany t) (wpt t) → Calls Try.prog 7 #[.int .i64 ((wrow t : Nat) : Int), u] w1 fun e w' => e = .returned (.tuple #[.string (sb t), .nilIface]) ∧ Below w1.heap.size w1 w') := fun u w1 h => by
      have := pack_ok (wrow t) (wmany t) u (wpt t) w1 h (wun_ok hu)
      rw [wun_pack hu] at this
      exact this
    have hss := sb_same t t
    rw [decide_eq_true rfl] at hss
    unfold st
    generalize sb t = s at *
    generalize wrow t = r1 at *
    generalize wmany t = n1 at *
    generalize wpt t = p1 at *
    clear hu
    go_enter Try.func3, Try.ntmps3
    go_wp2_with fail
    refine F.mono ?_
    rintro e w1 ⟨rfl, hB1⟩
    have HB1 : Hid (Below w.heap.size w w1) := HB0.out.trans (hB1.mono HB0.out.size)
    have U := HU.out w1
    clear F hB1 HB0 HU
    go_wp2_with fail
    refine U.mono ?_
    rintro e w2 ⟨u, rfl, hO2, hB2⟩
    have HB2 : Hid (Below w.heap.size w w2) := HB1.out.trans (hB2.mono HB1.out.size)
    have P := HP.out u w2 hO2.rd
    clear U hO2 hB2 HB1 HP
    go_wp2_with fail
    refine P.mono ?_
    rintro e wc ⟨rfl, hB3⟩
    have HBc : Hid (Below w.heap.size w wc) := HB2.out.trans (hB3.mono HB2.out.size)
    have HO : Hid True := trivial
    clear P hB3 HB2
    have P := HPb.out wc HBc.out
    clear HPb HO
    go_wp2_with fail
    refine P.mono ?_
    rintro e w5 ⟨rfl, hB5⟩
    have HB5 : Hid (Below w.heap.size w w5) := HBc.out.trans (hB5.mono HBc.out.size)
    clear P hB5
    go_wp2
    go_ret
    exact ⟨rfl, HB5.out⟩
  · have HU : Hid (∀ w1, Calls Try.prog 8 #[.string (sb t)] w1 fun e w' => ∃ u, e = .returned (.tuple #[.int .i64 0, u, .iface 49 (.int .i64 2)]) ∧ OwT w1.heap.size w' u 0 (wpt t) ∧ Below w1.heap.size w1 w') := fun w1 => by
      have := unpack_any t w1 hm
      rw [wUE_bad hu] at this
      exact this
    unfold st
    generalize sb t = s at *
    generalize wpt t = p1 at *
    clear hu
    go_enter Try.func3, Try.ntmps3
    go_wp2_with fail
    refine F.mono ?_
    rintro e w1 ⟨rfl, hB1⟩
    have HB1 : Hid (Below w.heap.size w w1) := HB0.out.trans (hB1.mono HB0.out.size)
    have U := HU.out w1
    clear F hB1 HB0 HU
    go_wp2_with fail
    refine U.mono ?_
    rintro e wc ⟨u, rfl, hO2, hB2⟩
    have HBc : Hid (Below w.heap.size w wc) := HB1.out.trans (hB2.mono HB1.out.size)
    have HO : Hid True := trivial
    clear U hO2 hB2 HB1
    have P := HPb.out wc HBc.out
    clear HPb HO
    go_wp2_with fail
    refine P.mono ?_
    rintro e w5 ⟨rfl, hB5⟩
    have HB5 : Hid (Below w.heap.size w w5) := HBc.out.trans (hB5.mono HBc.out.size)
    clear P hB5
    go_wp2
    go_ret
    exact ⟨rfl, HB5.out⟩
end Go.Proofs.Ytfnbpljgmchhbaa
