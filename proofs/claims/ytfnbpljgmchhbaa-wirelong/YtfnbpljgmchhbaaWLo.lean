/- As long as its parts, and five: a walk over the law. -/
import Derived.Test.YtfnbpljgmchhbaaWrQ
namespace Go.Proofs.Ytfnbpljgmchhbaa
open Go.ChangeShapes Go.WideShapes Go.ChangeAt Go.RowKit El Pol
theorem wok_none (r : Nat) (h : r < 20) (f : Nat → List El) : WOk r 0 f := ⟨h, by omega, fun i hi => by omega, by unfold wsz; rw [if_pos rfl]; omega⟩
set_option maxHeartbeats 1000000 in
theorem wlong_any (row : Int) (v : Value) (n : Nat) (f : Nat → List El) (w : World) (hr : RdT w v n f) :
    Calls Try.prog 4 #[.int .i64 row, v] w fun e w' => e = .returned (.bool true) ∧ Below w.heap.size w w' := by
  obtain ⟨ao, cap, rfl, _, _⟩ := hr.len
  have F := pack_ok 3 0 (.slice none 0 0) (fun _ => []) w (rdf_none _ _) (wok_none 3 (by omega) _)
  have hF : (sb (wpack 3 0 (fun _ => []))).size = 5 := by rw [sb_size, wpack_len (wok_none 3 (by omega) _)]; omega
  rw [show ((3 : Nat) : Int) = 3 from rfl] at F
  unfold st at F
  generalize sb (wpack 3 0 (fun _ => [])) = s0 at *
  have HR : Hid (RdT w (.slice ao n cap) n f) := hr
  by_cases he : wE row n f = 0
  · obtain ⟨r, rfl, ho⟩ := wok_of he
    have hn := ho.many
    have hz := ho.short
    have HO : Hid (∀ i, i < n → (f i).length = wsz f n) := ho.one
    have HP : Hid (∀ w1, Below w.heap.size w w1 → Calls Try.prog 7 #[.int .i64 (r : Int), .slice ao n cap] w1 fun e w' => e = .returned (.tuple #[.string (sb (wpack r n f)), .nilIface]) ∧ Below w1.heap.size w1 w') := fun w1 hb => pack_ok r n _ f w1 (hr.old hb) ho
    have hs : (sb (wpack r n f)).size = 5 + n * wsz f n := by rw [sb_size, wpack_len ho]
    clear hr he ho
    generalize sb (wpack r n f) = s at *
    generalize wsz f n = z at *
    go_enter Try.func4, Try.ntmps4
    go_wp2_with fail
    refine F.mono ?_
    rintro e w1 ⟨rfl, hB1⟩
    have HB1 : Hid (Below w.heap.size w w1) := hB1
    have P := HP.out w1 hB1
    clear F hB1 HP
    go_wp2_with fail
    refine P.mono ?_
    rintro e w2 ⟨rfl, hB2⟩
    have HB2 : Hid (Below w.heap.size w w2) := HB1.out.trans (hB2.mono HB1.out.size)
    clear P hB2 HB1
    go_wp2
    go_loop [9, 10] (fun m c => ∃ k : Nat, k ≤ n ∧ c = .int .i64 k ∧ m = .int .i64 ((5 + k * z : Nat) : Int)) (fun _ c => n - (intOf c).toNat)
    case atStart => exact ⟨0, Nat.zero_le _, rfl, by simp⟩
    case round =>
      obtain ⟨k, hk, rfl, rfl⟩ := hrel
      have hkz : k * z ≤ 192 := Nat.mul_le_mul (Nat.le_trans hk hn) hz
      by_cases hlt : k < n
      · obtain ⟨ad, rfl, hc⟩ := (HR.out.old HB2.out).at k hlt
        have hl := HO.out k hlt
        have hsk := sb_size (f k)
        rw [hl] at hsk
        unfold st at hc
        clear hl
        generalize sb (f k) = t at *
        have HK : Hid ((5 + (k + 1) * z : Nat) = 5 + k * z + z) := by (show (5 + (k + 1) * z : Nat) = 5 + k * z + z); rw [Nat.add_mul, Nat.one_mul]; omega
        obtain ⟨q, hq⟩ : ∃ q, q = 5 + k * z := ⟨_, rfl⟩
        have HQ : Hid (q = 5 + k * z) := hq
        have hq2 : q ≤ 200 := by omega
        rw [← hq]
        clear hkz hq
        go_wp2
        go_round
        case rel => exact ⟨k + 1, by omega, by go_num, by rw [HK.out, ← HQ.out]; (first | rfl | (congr 1; omega))⟩
        case measure => simp [intOf]; omega
      · have e : k = n := by omega
        have hck : ¬ (k : Int) < (n : Int) := by omega
        have HE : Hid (5 + k * z = s.size) := by (show 5 + k * z = s.size); rw [hs, e]
        have hb : ((s.size : Int) == ((5 + k * z : Nat) : Int)) = true := by rw [HE.out]; simp
        obtain ⟨q, hq⟩ : ∃ q, q = 5 + k * z := ⟨_, rfl⟩
        rw [← hq] at hb ⊢
        clear e hs hkz hq
        go_wp2
        go_ret
        exact ⟨rfl, HB2.out⟩
  · have HP : Hid (∀ w1, Below w.heap.size w w1 → Calls Try.prog 7 #[.int .i64 row, .slice ao n cap] w1 fun e w' => e = .returned (.tuple #[.string ⟨#[]⟩, .iface 49 (.int .i64 (wE row n f))]) ∧ Below w1.heap.size w1 w') := fun w1 hb => by
      have := pack_any row _ n f w1 (hr.old hb)
      rw [wP_bad he, errV_ne he] at this
      exact this
    clear hr he
    generalize wE row n f = q at *
    go_enter Try.func4, Try.ntmps4
    go_wp2_with fail
    refine F.mono ?_
    rintro e w1 ⟨rfl, hB1⟩
    have HB1 : Hid (Below w.heap.size w w1) := hB1
    have P := HP.out w1 hB1
    clear F hB1 HP
    go_wp2_with fail
    refine P.mono ?_
    rintro e w2 ⟨rfl, hB2⟩
    have HB2 : Hid (Below w.heap.size w w2) := HB1.out.trans (hB2.mono HB1.out.size)
    clear P hB2 HB1
    go_wp2
    go_ret
    exact ⟨rfl, HB2.out⟩
end Go.Proofs.Ytfnbpljgmchhbaa
