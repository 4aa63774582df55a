/- GrowOne: walks over the program. -/
import Derived.Test.YtdbanimlnjhhlaaGrS
import Derived.Test.YtdbanimlnjhhlaaGrN
import Derived.Test.YtdbanimlnjhhlaaGrD
namespace Go.Proofs.Ytdbanimlnjhhlaa
open Go.RowKit El Pol
/-- cells of one byte each, its number -/
def oneC (i : Nat) : List El := [by8 i]
theorem oneC_ok {n : Nat} (h : n ≤ 40) : cellsE n oneC = 0 := by
  unfold cellsE
  rw [if_neg (by omega), if_neg (by rw [Bool.not_eq_true, anyB_false]; intro i _; rfl)]
theorem one_ht {n : Nat} : (Grw.mk 1 n n oneC).ht 0 = (n + 1) / 2 ∧ (Grw.mk 1 n n oneC).ht 1 = n / 2 :=
  ⟨Grw.ht_all rfl (by omega), (Grw.ht_all (g := Grw.mk 1 n n oneC) rfl (Nat.le_refl 1)).trans (by (show (n + 1 - 1) / 2 = n / 2); rw [Nat.add_sub_cancel])⟩
set_option maxRecDepth 100000 in
theorem gone_out (n : Int) (hn : n < 0 ∨ 40 < n) (w : World) :
    Calls Try.prog 3 #[.int .i64 n] w fun e w' => e = .returned (.bool true) ∧ Below w.heap.size w w' := by
  by_cases h1 : n < 0
  · have d1 : decide (n < 0) = true := decide_eq_true h1
    clear hn
    go_enter Try.func3, Try.ntmps3
    go_wp2
    go_ret
    exact ⟨rfl, Below.refl _ _⟩
  · have d1 : decide (n < 0) = false := decide_eq_false h1
    have d2 : decide (40 < n) = true := decide_eq_true (by omega)
    clear hn
    go_enter Try.func3, Try.ntmps3
    go_wp2
    go_ret
    exact ⟨rfl, Below.refl _ _⟩
set_option maxRecDepth 100000 in
set_option maxHeartbeats 4000000 in
theorem gone_in (n : Nat) (hn : n ≤ 40) (w : World) :
    Calls Try.prog 3 #[.int .i64 (n : Int)] w fun e w' => e = .returned (.bool true) ∧ Below w.heap.size w w' := by
  obtain ⟨j0, hj, hy0, hy1, hy2⟩ := info_parts infoT
  have d1 : decide ((n : Int) < 0) = false := decide_eq_false (by omega)
  have d2 : decide (40 < (n : Int)) = false := decide_eq_false (by omega)
  go_enter Try.func3, Try.ntmps3
  go_wp2
  go_loopw [3, 4] (fun o c wr => ∃ k : Nat, k ≤ n ∧ c = .int .i64 k ∧ Hid (OwT w.heap.size wr o k oneC) ∧ Hid (Below w.heap.size w wr)) (fun _ c _ => n - (intOf c).toNat)
  case atStart => exact ⟨0, Nat.zero_le _, rfl, World.ownsRow_nil _ _ _ _, Below.refl _ _⟩
  case round =>
    obtain ⟨k, hk, rfl, HO, HB⟩ := hrel
    obtain ⟨a1, c1, rfl⟩ := OwT.len HO.out
    have hsz := HB.out.size
    by_cases hlt : k < n
    · have hkz : (k : Int) < (n : Int) := by omega
      have e0 : eb (by8 k) = .int .u8 (k : Int) := by (show Value.int .u8 (((by8 k).val : Nat) : Int) = _); rw [by8_val (by omega)]
      have HS0 : Hid (oneC k = [by8 k]) := rfl
      have hO1 : Ow w.heap.size (wr.alloc (.cells #[.int .u8 (k : Int)] 5)) (.slice (some ⟨wr.heap.size, 0, none⟩) 1 1) [by8 k] := by
        rw [← e0]
        exact own_lit (w := wr) (e := 5) [eb (by8 k)] hsz (by simp)
      have hcv := run_text hO1.rd 23 9 Try.underlying23 Try.underlying9
      have HB1 : Hid (Below w.heap.size w (wr.alloc (.cells #[.int .u8 (k : Int)] 5))) := HB.out.alloc hsz _
      have hO2 : (wr.alloc (.cells #[.int .u8 (k : Int)] 5)).ownsRow w.heap.size 9 1 (.slice a1 k c1) k ((List.range k).map (fun i => st (oneC i))) := World.ownsRow.alloc HO.out _
      unfold st at hcv
      obtain ⟨s, hs⟩ : ∃ s, s = sb [by8 k] := ⟨_, rfl⟩
      have HS : Hid (s = sb (oneC k)) := by rw [HS0.out]; exact hs
      rw [← hs] at hcv
      obtain ⟨xs, hxs⟩ : ∃ xs, xs = (List.range k).map (fun i => st (oneC i)) := ⟨_, rfl⟩
      have HXS : Hid (xs = (List.range k).map (fun i => st (oneC i))) := hxs
      rw [← hxs] at hO2
      have hza : (wr.alloc (.cells #[.int .u8 (k : Int)] 5)).heap.size = wr.heap.size + 1 := by simp
      clear hO1 hs hxs HO HB HS0 e0
      go_wp2_with (first | (at_builtin; refine wpList_append_own _ rfl _ _ 22 rfl w.heap.size 9 j0 (.string ⟨#[]⟩) 1 16 Try.underlying22 hj hy0 hy1 hy2 rfl (by decide) _ _ _ rfl (World.ownsRow.alloc hO2 _) ⟨wr.heap.size + 1, 0, none⟩ 1 1 [.string s] rfl rfl (by rw [← hza]; exact one_cell _) (by intro u hu; simp at hu; subst hu; rfl) (by unfold maxLen; omega) (by omega) (by simp; omega) ?_))
      intro v' w3 hown hgrow _
      have HO3 : Hid (OwT w.heap.size w3 v' (k + 1) oneC) := by
        rw [HXS.out] at hown
        exact OwT.snoc hown (by rw [HS.out])
      have HB3 : Hid (Below w.heap.size w w3) := (HB1.out.alloc (by simp; omega) _).grown hgrow (by simp; omega) (fun g hg => (World.ownsRow.lt hO2 g hg).1)
      clear hown hgrow hO2 HXS HS HB1 hcv
      go_wp2
      go_roundw
      case rel => exact ⟨k + 1, by omega, by go_num, HO3.out, HB3.out⟩
      case measure => simp [intOf]; omega
    · have e : k = n := by omega
      have hkz : (n : Int) ≤ (k : Int) := by omega
      have HR : Hid (RdT wr (.slice a1 n c1) n oneC) := by
        have := OwT.rd HO.out
        rw [e] at this
        exact this
      have C := gnew_ok (.slice a1 n c1) n oneC 1 wr HR.out (oneC_ok hn) (by omega) (by omega)
      rw [show ((1 : Nat) : Int) = 1 from rfl] at C
      have HB : Hid (Below w.heap.size w wr) := HB.out
      clear HO hlt hk
      go_upto_region 8 with fail
      rw [e]
      clear e hkz
      go_wp2_with fail
      refine C.mono ?_
      rintro e w1 ⟨x, rfl, hG, hB1⟩
      have HG1 : Hid (IsG wr.heap.size w1 x ⟨1, n, 0, oneC⟩) := hG
      have HB1 : Hid (Below wr.heap.size wr w1) := hB1
      clear C hG hB1
      go_wp2
      go_loopw [7] (fun c w2 => ∃ j : Nat, j ≤ n ∧ c = .int .i64 j ∧ Hid (IsG wr.heap.size w2 x ⟨1, n, j, oneC⟩) ∧ Hid (Below wr.heap.size wr w2)) (fun c _ => n - (intOf c).toNat)
      case atStart => exact ⟨0, Nat.zero_le _, rfl, HG1.out, HB1.out⟩
      case round =>
        clear HG1 HB1
        rename World => w2
        obtain ⟨j, hj', rfl, HG, HB2⟩ := hrel
        have HK : Hid (Grw.mk 1 n j oneC).ok := ⟨by (show 1 ≤ 1); omega, by (show 1 ≤ 9); omega, hn, hj', fun i _ => by (show 1 ≤ 16); omega⟩
        by_cases hlt : j < n
        · have hjz : (j : Int) < (n : Int) := by omega
          have C := gstep_any HG.out HK.out
          rw [Grw.step_more hlt, Grw.stepE_more hlt, errV, if_pos rfl] at C
          go_wp2_with fail
          refine C.mono ?_
          rintro e w3 ⟨rfl, hG3, hb3⟩
          have HG3 : Hid (IsG wr.heap.size w3 x ⟨1, n, j + 1, oneC⟩) := hG3
          have HB3 : Hid (Below wr.heap.size wr w3) := HB2.out.trans (hb3.below HB2.out.size HG.out.low)
          clear C hG3 hb3 HG HB2 HK
          generalize (Grw.mk 1 n j oneC).more = bm at *
          go_wp2
          go_roundw
          case rel => exact ⟨j + 1, by omega, by go_num, HG3.out, HB3.out⟩
          case measure => simp [intOf]; omega
        · have ej : j = n := by omega
          subst ej
          have C := gdisks_any HG.out HK.out
          dsimp only at C
          have hth := one_ht (n := j)
          have HRW : Hid (∀ i, i < j → i / 2 < (Grw.mk 1 j j oneC).ht (i % 2) ∧ (Grw.mk 1 j j oneC).row (i % 2) (i / 2) = oneC i) := fun i hi => by
            have e1 : gd 1 j i = i % 2 := by unfold gd; rw [gm_yes hi]
            have e2 : gr 1 j i = i / 2 := by unfold gr; rw [gm_yes hi]
            have z1 := Grw.ht_gt (g := Grw.mk 1 j j oneC) hi
            have z2 := Grw.row_is HK.out hi
            dsimp only at z1 z2
            rw [e1, e2] at z1 z2
            exact ⟨z1, z2⟩
          have HB4 : Hid (Below wr.heap.size wr w2) := HB2.out
          clear HG HB2 HK hlt hj'
          go_wp2_with fail
          refine C.mono ?_
          rintro e w5 ⟨q, rfl, hD, hB5⟩
          have HD : Hid (RdTT w5 (.slice (some ⟨q, 0, none⟩) 2 2) 2 (Grw.mk 1 j j oneC).ht (Grw.mk 1 j j oneC).row) := hD
          have HB5 : Hid (Below wr.heap.size wr w5) := HB4.out.trans (hB5.mono HB4.out.size)
          have HR5 : Hid (RdT w5 (.slice a1 j c1) j oneC) := HR.out.old HB5.out
          obtain ⟨ad0, cp0, ar0, cr0, ee0, k0, _⟩ := hD.at (Below.refl _ _) (k := 0) (by omega)
          obtain ⟨ad1, cp1, ar1, cr1, ee1, k1, _⟩ := hD.at (Below.refl _ _) (k := 1) (by omega)
          cases ee0
          cases ee1
          rw [hth.1, add_zero] at k0
          rw [hth.2] at k1
          have k1' : w5.cell? ⟨q, 1, none⟩ = some (.slice ar1 (j / 2) cr1) := k1
          obtain ⟨h0, hh0⟩ : ∃ h0, h0 = (j + 1) / 2 := ⟨_, rfl⟩
          obtain ⟨h1, hh1⟩ : ∃ h1, h1 = j / 2 := ⟨_, rfl⟩
          have i0 : ((j : Int) + 1) / 2 = (h0 : Int) := by omega
          have i1 : (j : Int) / 2 = (h1 : Int) := by omega
          rw [← hh0] at k0
          rw [← hh1] at k1'
          clear C hD hB5 HB4 HR hth k1 hh0 hh1
          go_wp2
          clear k0 k1' i0 i1
          go_loopw [11] (fun c w6 => ∃ i : Nat, i ≤ j ∧ c = .int .i64 i ∧ ∃ p, w6 = w5.drewN p) (fun c _ => j - (intOf c).toNat)
          case atStart => exact ⟨0, Nat.zero_le _, rfl, 0, rfl⟩
          case round =>
            rename World => w6
            obtain ⟨i, hi, rfl, hq6⟩ := hrel
            have hB6 : Below w5.heap.size w5 w6 := by obtain ⟨p, rfl⟩ := hq6; exact below_drewN (Below.refl _ _) p
            by_cases hlt : i < j
            · have hiz : (i : Int) < (j : Int) := by omega
              obtain ⟨z1, z2⟩ := HRW.out i hlt
              obtain ⟨i2, hi2⟩ : ∃ i2, i2 = i % 2 := ⟨_, rfl⟩
              obtain ⟨r, hr⟩ : ∃ r, r = i / 2 := ⟨_, rfl⟩
              have y2 : (i : Int) % 2 = (i2 : Int) := by omega
              have y3 : (i : Int) / 2 = (r : Int) := by omega
              have y4 : i2 < 2 := by omega
              rw [← hi2, ← hr] at z1 z2
              obtain ⟨ad, cp, ar, cr, ee, m0, m1⟩ := HD.out.at hB6 y4
              cases ee
              obtain ⟨af, rfl, m2⟩ := m1.at r z1
              obtain ⟨al, rfl, m3⟩ := (HR5.out.old hB6).at i hlt
              rw [z2] at m2
              unfold st at m2 m3
              generalize sb (oneC i) = s at *
              generalize (Grw.mk 1 j j oneC).ht i2 = hh at *
              have m0' : w6.cell? ⟨q, i2, none⟩ = some (.slice (some af) hh cr) := by
                have e : (⟨q, 0, none⟩ : Addr).add i2 = ⟨q, i2, none⟩ := by unfold Addr.add; split <;> simp_all
                rw [← e]; exact m0
              have HQ : Hid (∀ n, ∃ p, w6.drewN n = w5.drewN p) := fun n => drewN_more hq6 n
              clear hB6 hq6 hi2 hr m0 m1 z2 HRW HB5
              have z1' : (r : Int) < (hh : Int) := by omega
              go_wp2
              go_quiet (fail)
              have hq2 := HQ.out nq
              clear m0' m2 m3 HQ
              go_wp2
              go_roundw
              case rel => exact ⟨i + 1, by omega, by go_num, hq2⟩
              case measure => simp [intOf]; omega
            · have hiz : (j : Int) ≤ (i : Int) := by omega
              have HF : Hid (Below w.heap.size w w6) := HB.out.trans ((HB5.out.trans (hB6.mono HB5.out.size)).mono HB.out.size)
              clear hB6 hq6 HD HR5 HB5
              go_wp2
              go_ret
              exact ⟨rfl, HF.out⟩
theorem gone_any (n : Int) (w : World) :
    Calls Try.prog 3 #[.int .i64 n] w fun e w' => e = .returned (.bool true) ∧ Below w.heap.size w w' := by
  by_cases h : n < 0 ∨ 40 < n
  · exact gone_out n h w
  · obtain ⟨k, rfl⟩ : ∃ k : Nat, n = (k : Int) := ⟨n.toNat, by omega⟩
    exact gone_in k (by omega) w
end Go.Proofs.Ytdbanimlnjhhlaa
