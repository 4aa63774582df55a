/- What the document says of cells and writes: walks over its own functions. -/
import Derived.Test.YtacfafbnimhibaaDoorRoF
import Derived.Test.YtacfafbnimhibaaDoorRfA0
import Derived.Test.YtacfafbnimhibaaDoorRoW
import Derived.Test.YtacfafbnimhibaaDoorTxW
import Derived.Test.YtacfafbnimhibaaDoorDk
namespace Go.Proofs.YtacfafbnimhibaaDoor
open Go.RowKit El Pol
/-- what is wrong with writes -/
def writesE (n : Nat) (l : List Wr) : Nat := if 40 < l.length then 4 else if anyB (fun i => badW n (wat l i)) l.length = true then 1 else 0
theorem check_writes (t : Rdo) (l : List Wr) : t.checkE l = if t.stopped = true then 6 else writesE t.n l := rfl
set_option maxHeartbeats 2000000 in
theorem rwrites_any (n : Nat) (v : Value) (l : List Wr) (w : World) (hr : RdW w v l) :
    Calls Tryd.prog 26 #[.int .i64 (n : Int), v] w fun e w' => e = .returned (.int .i64 ((writesE n l : Nat) : Int)) ∧ w' = w := by
  obtain ⟨ao, cap, rfl, _, _⟩ := hr.len
  have HR : Hid (RdW w (.slice ao l.length cap) l) := hr
  clear hr
  by_cases h1 : 40 < l.length
  · have HE : Hid (writesE n l = 4) := if_pos h1
    have h1' : (40 : Int) < (l.length : Int) := by omega
    go_enter Tryd.func26, Tryd.ntmps26
    go_wp2
    go_ret
    exact ⟨by rw [HE.out]; rfl, rfl⟩
  · have HE : Hid (writesE n l = if anyB (fun i => badW n (wat l i)) l.length = true then 1 else 0) := if_neg h1
    obtain ⟨m, hm⟩ : ∃ m, m = l.length := ⟨_, rfl⟩
    rw [← hm] at HR HE h1 ⊢
    have HM : Hid (m = l.length) := hm
    clear hm
    have h1' : ¬ (40 : Int) < (m : Int) := by omega
    go_enter Tryd.func26, Tryd.ntmps26
    go_wp2
    go_loop [5] (fun t => ∃ k : Nat, k ≤ m ∧ t = .int .i64 k ∧ Hid (∀ i, i < k → badW n (wat l i) = false)) (fun t => m - (intOf t).toNat)
    case atStart => exact ⟨0, Nat.zero_le _, rfl, fun i hi => absurd hi (Nat.not_lt_zero _)⟩
    case round =>
      obtain ⟨k, hk, rfl, HF⟩ := hrel
      by_cases hlt : k < m
      · obtain ⟨ad, rfl, d0, d1⟩ := HR.out.at k (by rw [← HM.out]; exact hlt)
        rw [show (ad.add (k * 2)).add 1 = ⟨(ad.add (k * 2)).block, (ad.add (k * 2)).off + 1, none⟩ from rfl] at d1
        have hs := sb_size (wat l k).2
        have hkz : (k : Int) < (m : Int) := by omega
        have HBD : Hid (badW n (wat l k) = (decide ((wat l k).1 < 0) || decide ((n : Int) ≤ (wat l k).1) || decide (16 < (wat l k).2.length))) := rfl
        unfold st at d1
        generalize sb (wat l k).2 = s at *
        generalize hll : (wat l k).2.length = ln at *
        generalize (wat l k).1 = a at *
        have HX : Hid (badW n (wat l k) = true → writesE n l = 1) := fun q => by rw [HE.out, if_pos (anyB_true.2 ⟨k, hlt, q⟩)]
        by_cases p1 : a < 0
        · have HY : Hid (writesE n l = 1) := HX.out (by rw [HBD.out, decide_eq_true p1]; rfl)
          go_wp2
          go_ret
          exact ⟨by rw [HY.out]; rfl, rfl⟩
        by_cases p2 : (n : Int) ≤ a
        · have HY : Hid (writesE n l = 1) := HX.out (by rw [HBD.out, decide_eq_false p1, decide_eq_true p2]; rfl)
          go_wp2
          go_ret
          exact ⟨by rw [HY.out]; rfl, rfl⟩
        by_cases p3 : 16 < ln
        · have HY : Hid (writesE n l = 1) := HX.out (by rw [HBD.out, decide_eq_true p3]; simp)
          have p3' : (16 : Int) < (ln : Int) := by omega
          go_wp2
          go_ret
          exact ⟨by rw [HY.out]; rfl, rfl⟩
        · have HY : Hid (badW n (wat l k) = false) := by (show _ = _); rw [HBD.out, decide_eq_false p1, decide_eq_false p2, decide_eq_false p3]; rfl
          have p3' : ¬ (16 : Int) < (ln : Int) := by omega
          go_wp2
          go_round
          case rel => exact ⟨k + 1, by omega, by go_num, fun i hi => by
            by_cases e : i = k
            · rw [e]; exact HY.out
            · exact HF.out i (by omega)⟩
          case measure => simp [intOf]; omega
      · have hkz : ¬ (k : Int) < (m : Int) := by omega
        have HX : Hid (writesE n l = 0) := by
          (show _ = _)
          rw [HE.out, if_neg]
          intro q
          obtain ⟨i, hi, hp⟩ := anyB_true.1 q
          have := HF.out i (by omega)
          rw [this] at hp
          cases hp
        go_wp2
        go_ret
        exact ⟨by rw [HX.out]; rfl, rfl⟩
end Go.Proofs.YtacfafbnimhibaaDoor
