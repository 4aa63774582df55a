/- RedoWhole: a walk over the program. -/
import Derived.Test.YtacfafbnimhibaaDoorRoI
import Derived.Test.YtacfafbnimhibaaDoorRoG
import Derived.Test.YtacfafbnimhibaaDoorRoW
import Derived.Test.YtacfafbnimhibaaDoorErrx
namespace Go.Proofs.YtacfafbnimhibaaDoor
open Go.RowKit El Pol
/-- the cells "a", "b", "c", "d" -/
def abcd (i : Nat) : List El := if i = 0 then [97] else if i = 1 then [98] else if i = 2 then [99] else [100]
/-- the i-th write; the first n -/
def whW (bad : Int) (i : Nat) : Wr := (if (i : Int) = bad then 4 else ((i % 4 : Nat) : Int), [120])
def whL (bad : Int) (n : Nat) : List Wr := (List.range n).map (whW bad)
theorem whL_len (bad : Int) (n : Nat) : (whL bad n).length = n := by simp [whL]
theorem whL_succ (bad : Int) (n : Nat) : whL bad (n + 1) = whL bad n ++ [whW bad n] := by simp [whL, List.range_succ]
theorem whL_bad {bad : Int} {n : Nat} (h0 : 0 ≤ bad) (h1 : bad < n) : ¬ ∀ x ∈ whL bad n, OkW 4 x := fun h => by
  obtain ⟨b, rfl⟩ := Int.eq_ofNat_of_zero_le h0
  have := (h (whW b b) (List.mem_map.2 ⟨b, by simp; omega, rfl⟩)).2.1
  unfold whW at this
  rw [if_pos rfl] at this
  exact absurd this (by decide)
theorem whL_ok {bad : Int} {n : Nat} (h : ¬ (0 ≤ bad ∧ bad < n)) : ∀ x ∈ whL bad n, OkW 4 x := by
  intro x hx
  obtain ⟨i, hi, rfl⟩ := List.mem_map.1 hx
  have hi := List.mem_range.1 hi
  unfold whW
  rw [if_neg (by omega)]
  refine ⟨?_, ?_, ?_⟩
  · show 0 ≤ ((i % 4 : Nat) : Int); omega
  · show ((i % 4 : Nat) : Int) < 4; omega
  · show 1 ≤ 16; omega
theorem whL_cells {bad : Int} : ∀ (n : Nat), ¬ (0 ≤ bad ∧ bad < n) → ∀ j, j < 4 → doR abcd (whL bad n) j = if j < n then [120] else abcd j
  | 0, _, j, _ => by simp [whL, doR]
  | n + 1, h, j, hj => by
    have ih := whL_cells n (fun q => h ⟨q.1, by omega⟩) j hj
    rw [whL_succ]
    unfold doR at ih ⊢
    rw [List.foldl_append]
    show up (List.foldl doW abcd (whL bad n)) (whW bad n).1.toNat (whW bad n).2 j = _
    have e1 : (whW bad n).1.toNat = n % 4 := by
      unfold whW
      rw [if_neg (by omega)]
      rfl
    rw [e1]
    by_cases e : j = n % 4
    · rw [e, up_at, if_pos (by omega)]
      rfl
    · rw [up_ne _ _ e, ih]
      by_cases e2 : j < n
      · rw [if_pos e2, if_pos (by omega)]
      · rw [if_neg e2, if_neg (by omega)]
theorem lit4 (w : World) : RdT (w.alloc (.cells #[.string ⟨#[97]⟩, .string ⟨#[98]⟩, .string ⟨#[99]⟩, .string ⟨#[100]⟩] 9)) (.slice (some ⟨w.heap.size, 0, none⟩) 4 4) 4 abcd := by
  refine OwL.rdF (own_lit (B := 0) [.string ⟨#[97]⟩, .string ⟨#[98]⟩, .string ⟨#[99]⟩, .string ⟨#[100]⟩] (Nat.zero_le _) (by simp)) (fun i hi => ?_)
  match i, hi with
  | 0, _ => rfl
  | 1, _ => rfl
  | 2, _ => rfl
  | 3, _ => rfl
theorem abcd_ok : cellsE 4 abcd = 0 := by decide
set_option linter.unusedVariables false in
set_option maxRecDepth 100000 in
set_option maxHeartbeats 4000000 in
theorem whole_law (n bad : Int) (w : World) (hg : Handle w) :
    Calls Tryd.prog 5 #[.int .i64 n, .int .i64 bad] w fun e w' => e = .returned (.bool true) ∧ Below w.heap.size w w' := by
  have N := rnew_ok _ 4 abcd _ (lit4 w) abcd_ok
  have HB0 : Hid (Below w.heap.size w (w.alloc (.cells #[.string ⟨#[97]⟩, .string ⟨#[98]⟩, .string ⟨#[99]⟩, .string ⟨#[100]⟩] 9))) := al_below _ _
  by_cases hn : n < 1 ∨ 40 < n
  · by_cases h1 : n < 1
    · go_enter Tryd.func5, Tryd.ntmps5
      go_wp2_with fail
      refine N.mono ?_
      rintro e w1 ⟨x, rfl, hM, hB⟩
      have HB1 : Hid (Below w.heap.size w w1) := HB0.out.trans (hB.mono HB0.out.size)
      clear N hM hB
      go_wp2
      go_ret
      exact ⟨rfl, HB1.out⟩
    · have h2 : 40 < n := by omega
      go_enter Tryd.func5, Tryd.ntmps5
      go_wp2_with fail
      refine N.mono ?_
      rintro e w1 ⟨x, rfl, hM, hB⟩
      have HB1 : Hid (Below w.heap.size w w1) := HB0.out.trans (hB.mono HB0.out.size)
      clear N hM hB hn
      go_wp2
      go_ret
      exact ⟨rfl, HB1.out⟩
  · obtain ⟨m, rfl⟩ : ∃ m : Nat, n = m := ⟨n.toNat, by omega⟩
    have hm1 : 1 ≤ m := by omega
    have hm40 : m ≤ 40 := by omega
    have q1 : ¬ (m : Int) < 1 := by omega
    have q2 : ¬ (40 : Int) < (m : Int) := by omega
    obtain ⟨i0, hi, hz0, hz1, hz2⟩ := info_parts infoW
    have HH : Hid (Handle w) := hg
    clear hn hg
    go_enter Tryd.func5, Tryd.ntmps5
    go_wp2_with fail
    refine N.mono ?_
    rintro e w1 ⟨x, rfl, hM, hB⟩
    have HB1 : Hid (Below w.heap.size w w1) := HB0.out.trans (hB.mono HB0.out.size)
    have HM1 : Hid (MR w.heap.size w1 x (Rdo.fresh 4 abcd)) := hM.base HB0.out.size
    clear N hM hB HB0
    go_wp2
    go_loopw [7, 8] (fun o c wr => ∃ k : Nat, k ≤ m ∧ c = .int .i64 k ∧ OwW w1.heap.size wr o (whL bad k) ∧ Below w1.heap.size w1 wr) (fun _ c _ => m - (intOf c).toNat)
    case atStart => exact ⟨0, Nat.zero_le _, rfl, World.ownsRow_nil _ _ _ _, Below.refl _ _⟩
    case round =>
      obtain ⟨k, hk, rfl, hO, hBr⟩ := hrel
      have hsz := hBr.size
      obtain ⟨a1, c1, rfl⟩ := OwW.len hO
      have hll := whL_len bad k
      by_cases hlt : k < m
      · have q3 : (k : Int) < (m : Int) := by omega
        obtain ⟨kk, hkk⟩ : ∃ kk : Nat, kk = k % 4 := ⟨_, rfl⟩
        have hmod : (k : Int) % 4 = (kk : Int) := by omega
        have HGL : Hid (∀ g, (Value.slice a1 (whL bad k).length c1).ownBlock = some g → w1.heap.size ≤ g ∧ g < wr.heap.size) := World.ownsRow.lt hO
        have HV : Hid (∀ z : Int, z = (whW bad k).1 → vw (whL bad (k + 1)) = vw (whL bad k) ++ [.int .i64 z, .string ⟨#[120]⟩]) := fun z hz => by rw [whL_succ, vw_snoc, hz]; rfl
        have HL : Hid ((whL bad (k + 1)).length = (whL bad k).length + 1) := by (show _ = _); rw [whL_len, whL_len]
        by_cases hb : (k : Int) = bad
        · have hbb : ((k : Int) == bad) = true := by rw [beq_iff_eq]; exact hb
          have HW : Hid ((4 : Int) = (whW bad k).1) := by (show _ = _); unfold whW; rw [if_pos hb]
          clear hb hkk
          go_upto_region 11 with fail
          generalize (4 : Int) = z at HW ⊢
          have HB1r : Hid (Below w1.heap.size w1 (wr.alloc (.cells #[.int .i64 z, .string ⟨#[120]⟩] 50))) := hBr.alloc hsz _
          have hO1 := World.ownsRow.alloc hO (.cells #[.int .i64 z, .string ⟨#[120]⟩] 50)
          have e0 : (wr.alloc (.cells #[.int .i64 z, .string ⟨#[120]⟩] 50)).cell? ⟨wr.heap.size, 0, none⟩ = some (.int .i64 z) := by rw [cell_of_row _ _ 0 _ _ _ (heap_alloc_new wr _)]; rfl
          have e1 : (wr.alloc (.cells #[.int .i64 z, .string ⟨#[120]⟩] 50)).cell? ⟨wr.heap.size, 1, none⟩ = some (.string ⟨#[120]⟩) := by rw [cell_of_row _ _ 1 _ _ _ (heap_alloc_new wr _)]; rfl
          have hsz1 : w1.heap.size ≤ (wr.alloc (.cells #[.int .i64 z, .string ⟨#[120]⟩] 50)).heap.size := by simp; omega
          clear hO hBr
          generalize wr.heap.size = q at *
          generalize wr.alloc (.cells #[.int .i64 z, .string ⟨#[120]⟩] 50) = w2 at *
          have HV1 := HV.out z HW.out
          have hvl := vw_len (whL bad k)
          rw [hll] at hO1 HGL hvl HL ⊢
          obtain ⟨X, hX⟩ : ∃ X, X = vw (whL bad k) := ⟨_, rfl⟩
          rw [← hX] at hO1 HV1 hvl
          have HVX : Hid (vw (whL bad (k + 1)) = X ++ [.int .i64 z, .string ⟨#[120]⟩]) := HV1
          clear hX HV HV1
          go_wp2_with (first | (at_builtin; refine wpList_append_own _ rfl _ _ 51 rfl w1.heap.size 50 i0 (.agg #[.int .i64 0, .string ⟨#[]⟩]) 2 24 Tryd.underlying51 hi hz0 hz1 hz2 rfl (by decide) _ _ _ rfl (World.ownsRow.alloc hO1 _) ⟨w2.heap.size, 0, none⟩ 1 1 [.int .i64 z, .string ⟨#[120]⟩] rfl rfl (two_cell _) (by intro u hu; simp at hu; rcases hu with rfl | rfl <;> rfl) (by unfold maxLen; omega) (by omega) (by simp; omega) ?_))
          intro v3 w3 hown hgrow _
          have HO3 : Hid (OwW w1.heap.size w3 v3 (whL bad (k + 1))) := by
            (show World.ownsRow _ _ _ _ _ _ _)
            rw [HVX.out, HL.out]
            exact hown
          have HB3 : Hid (Below w1.heap.size w1 w3) := (HB1r.out.alloc hsz1 _).grown hgrow (by simp; omega) (fun g hg => (HGL.out g hg).1)
          clear hown hgrow hO1 e0 e1 HGL HB1r
          go_wp2
          go_roundw
          case rel => exact ⟨k + 1, by omega, by go_num, HO3.out, HB3.out⟩
          case measure => simp [intOf]; omega
        · have hbb : ((k : Int) == bad) = false := by rw [beq_eq_false_iff_ne]; exact hb
          have HW : Hid ((kk : Int) = (whW bad k).1) := by (show _ = _); unfold whW; rw [if_neg hb, hkk]
          clear hb hkk
          go_upto_region 11 with fail
          generalize (kk : Int) = z at HW hmod ⊢
          have HB1r : Hid (Below w1.heap.size w1 (wr.alloc (.cells #[.int .i64 z, .string ⟨#[120]⟩] 50))) := hBr.alloc hsz _
          have hO1 := World.ownsRow.alloc hO (.cells #[.int .i64 z, .string ⟨#[120]⟩] 50)
          have e0 : (wr.alloc (.cells #[.int .i64 z, .string ⟨#[120]⟩] 50)).cell? ⟨wr.heap.size, 0, none⟩ = some (.int .i64 z) := by rw [cell_of_row _ _ 0 _ _ _ (heap_alloc_new wr _)]; rfl
          have e1 : (wr.alloc (.cells #[.int .i64 z, .string ⟨#[120]⟩] 50)).cell? ⟨wr.heap.size, 1, none⟩ = some (.string ⟨#[120]⟩) := by rw [cell_of_row _ _ 1 _ _ _ (heap_alloc_new wr _)]; rfl
          have hsz1 : w1.heap.size ≤ (wr.alloc (.cells #[.int .i64 z, .string ⟨#[120]⟩] 50)).heap.size := by simp; omega
          clear hO hBr
          generalize wr.heap.size = q at *
          generalize wr.alloc (.cells #[.int .i64 z, .string ⟨#[120]⟩] 50) = w2 at *
          have HV1 := HV.out z HW.out
          have hvl := vw_len (whL bad k)
          rw [hll] at hO1 HGL hvl HL ⊢
          obtain ⟨X, hX⟩ : ∃ X, X = vw (whL bad k) := ⟨_, rfl⟩
          rw [← hX] at hO1 HV1 hvl
          have HVX : Hid (vw (whL bad (k + 1)) = X ++ [.int .i64 z, .string ⟨#[120]⟩]) := HV1
          clear hX HV HV1
          go_wp2_with (first | (at_builtin; refine wpList_append_own _ rfl _ _ 51 rfl w1.heap.size 50 i0 (.agg #[.int .i64 0, .string ⟨#[]⟩]) 2 24 Tryd.underlying51 hi hz0 hz1 hz2 rfl (by decide) _ _ _ rfl (World.ownsRow.alloc hO1 _) ⟨w2.heap.size, 0, none⟩ 1 1 [.int .i64 z, .string ⟨#[120]⟩] rfl rfl (two_cell _) (by intro u hu; simp at hu; rcases hu with rfl | rfl <;> rfl) (by unfold maxLen; omega) (by omega) (by simp; omega) ?_))
          intro v3 w3 hown hgrow _
          have HO3 : Hid (OwW w1.heap.size w3 v3 (whL bad (k + 1))) := by
            (show World.ownsRow _ _ _ _ _ _ _)
            rw [HVX.out, HL.out]
            exact hown
          have HB3 : Hid (Below w1.heap.size w1 w3) := (HB1r.out.alloc hsz1 _).grown hgrow (by simp; omega) (fun g hg => (HGL.out g hg).1)
          clear hown hgrow hO1 e0 e1 HGL HB1r
          go_wp2
          go_roundw
          case rel => exact ⟨k + 1, by omega, by go_num, HO3.out, HB3.out⟩
          case measure => simp [intOf]; omega
      · have ek : k = m := by omega
        rw [ek] at hO
        rw [hll]
        have q3 : ¬ (k : Int) < (m : Int) := by omega
        have HMr : MR w.heap.size wr x (Rdo.fresh 4 abcd) := HM1.out.old hBr
        have hok : (Rdo.fresh 4 abcd).ok := Rdo.fresh_ok (cellsE_ok abcd_ok).1 (cellsE_ok abcd_ok).2
        have P := rput_any HMr hok (by simp [Rdo.fresh]) (Nat.le_trans HB1.out.size hsz) _ _ (OwW.rd hO)
        have HBr : Hid (Below w.heap.size w wr) := HB1.out.trans (hBr.mono HB1.out.size)
        have HL : Hid (∀ k, x.F k → w.heap.size ≤ k) := HMr.low
        have HOK : Hid ((Rdo.fresh 4 abcd).ok) := hok
        subst ek
        clear hO hBr hok HMr
        have hlen := whL_len bad k
        rw [hlen] at P
        by_cases hb : 0 ≤ bad ∧ bad < (k : Int)
        · have hce : (Rdo.fresh 4 abcd).checkE (whL bad k) = 1 := by
            unfold Rdo.checkE
            rw [if_neg (by simp [Rdo.fresh]), if_neg (by rw [hlen]; omega), if_pos ?_]
            have : ¬ anyB (fun i => badW (Rdo.fresh 4 abcd).n (wat (whL bad k) i)) (whL bad k).length = false := fun q => whL_bad hb.1 hb.2 (any_bad.1 q)
            simpa using this
          have e1 : (Rdo.fresh 4 abcd).putE (whL bad k) = 1 := by unfold Rdo.putE; rw [hce]; rfl
          have e2 : (Rdo.fresh 4 abcd).put (whL bad k) = Rdo.fresh 4 abcd := by unfold Rdo.put; rw [hce]; rfl
          rw [e1, e2, errV, if_neg (by omega)] at P
          have d1 : decide (bad < 0) = false := decide_eq_false (by omega)
          have d2 : decide (0 ≤ bad) = true := decide_eq_true hb.1
          have d3 : decide (bad < (k : Int)) = true := decide_eq_true hb.2
          have h1 := hb.1
          have h2 := hb.2
          clear hce e1 e2 hb
          go_wp2_with fail
          refine P.mono ?_
          rintro e w4 ⟨x4, hx4, rfl, hM4, hB4, _⟩
          have HB4 : Hid (Below w.heap.size w w4) := HBr.out.trans (hB4.below HBr.out.size HL.out)
          have A := rall_any hM4 HOK.out
          rw [hx4] at A
          have BY := rbytes_any hM4
          rw [hx4] at BY
          have HMB : Hid (MR w.heap.size w4 x4 (Rdo.fresh 4 abcd)) := hM4
          have HX4 : Hid (x4.p = x.p) := hx4
          clear P hM4 hB4 hx4 BY
          go_wp2_with fail
          refine A.mono ?_
          rintro e w5 ⟨u, rfl, hO5, hB5⟩
          have HB5 : Hid (Below w.heap.size w w5) := HB4.out.trans (hB5.mono HB4.out.size)
          obtain ⟨g5, k5, rfl, _, hg5, _, _⟩ := OwT.at hO5 (by show 0 < 4; omega)
          have E := err_same 1 w5 (HH.out.old HB5.out)
          have HM5 : Hid (MR w.heap.size w5 x4 (Rdo.fresh 4 abcd)) := HMB.out.old hB5
          have HO5 : Hid (OwT w4.heap.size w5 (.slice (some ⟨g5, 0, none⟩) 4 k5) 4 abcd) := hO5
          clear A hO5 hB5 HMB
          go_wp2_with fail
          refine E.mono ?_
          rintro e w6 ⟨rfl, hB6⟩
          have HB6 : Hid (Below w.heap.size w w6) := HB5.out.trans (hB6.mono HB5.out.size)
          have BY := rbytes_any (HM5.out.old hB6)
          rw [HX4.out] at BY
          have hO6 : OwT w4.heap.size w6 (.slice (some ⟨g5, 0, none⟩) 4 k5) 4 abcd := ownsRow_old HO5.out hB6
          have c0 : w6.cell? ⟨g5, 0, none⟩ = some (.string ⟨#[97]⟩) := OwT.cell hO6 0 (by omega)
          have c3 : w6.cell? ⟨g5, 3, none⟩ = some (.string ⟨#[100]⟩) := OwT.cell hO6 3 (by omega)
          clear E hB6 hO6 HO5 HM5
          go_wp2_with fail
          refine BY.mono ?_
          rintro e w7 ⟨rfl, hw7⟩
          obtain rfl := hw7.symm
          clear BY hw7
          go_wp2
          go_ret
          exact ⟨rfl, HB6.out⟩
        · have hok2 : OkR 4 (whL bad k) := ⟨by rw [hlen]; omega, whL_ok hb⟩
          have hce : (Rdo.fresh 4 abcd).checkE (whL bad k) = 0 := by
            unfold Rdo.checkE
            rw [if_neg (by simp [Rdo.fresh]), if_neg (by rw [hlen]; omega), if_neg ?_]
            intro q
            have h5 : anyB (fun i => badW (Rdo.fresh 4 abcd).n (wat (whL bad k) i)) (whL bad k).length = false := any_bad.2 (whL_ok hb)
            rw [h5] at q
            cases q
          have e1 : (Rdo.fresh 4 abcd).putE (whL bad k) = 0 := by unfold Rdo.putE; rw [hce]; rfl
          have e2 : (Rdo.fresh 4 abcd).put (whL bad k) = ⟨4, abcd, [whL bad k], [], 0, -1, false⟩ := by unfold Rdo.put; rw [hce]; rfl
          have hok3 := Rdo.put_ok HOK.out (whL bad k)
          rw [e2] at hok3
          rw [e1, e2, errV, if_pos rfl] at P
          have HC : Hid (∀ j, j < 4 → Rdo.cells ⟨4, abcd, [whL bad k], [], 0, -1, false⟩ j = if j < k then [120] else abcd j) := fun j hj => whL_cells k hb j hj
          have HLG : Hid (2 ≤ (Rdo.log ⟨4, abcd, [whL bad k], [], 0, -1, false⟩).length ∧ (Rdo.log ⟨4, abcd, [whL bad k], [], 0, -1, false⟩).length ≤ 722) := by
            (show _ ∧ _)
            have h1 := hok2.body
            have h2 : (Rdo.log ⟨4, abcd, [whL bad k], [], 0, -1, false⟩).length = (bodyR (whL bad k)).length + 2 := by
              show (logOf [whL bad k] ++ []).length = _
              rw [List.append_nil, logOf_cons, logOf_nil, List.append_nil, recB_length]
            omega
          have HO3 : Hid (Rdo.ok ⟨4, abcd, [whL bad k], [], 0, -1, false⟩) := hok3
          obtain ⟨t4, ht4⟩ : ∃ t4 : Rdo, t4 = ⟨4, abcd, [whL bad k], [], 0, -1, false⟩ := ⟨_, rfl⟩
          have HN4 : Hid (t4.n = 4) := by (show _ = _); rw [ht4]
          rw [← ht4] at P HC HLG HO3
          clear hce e1 e2 hok2 hok3 ht4
          have hbz : bad < 0 ∨ (k : Int) ≤ bad := by omega
          clear hb
          go_wp2_with fail
          refine P.mono ?_
          rintro e w4 ⟨x4, hx4, rfl, hM4, hB4, _⟩
          have HB4 : Hid (Below w.heap.size w w4) := HBr.out.trans (hB4.below HBr.out.size HL.out)
          have A := rall_any hM4 HO3.out
          rw [hx4] at A
          have HMB : Hid (MR w.heap.size w4 x4 t4) := hM4
          have HX4 : Hid (x4.p = x.p) := hx4
          clear P hM4 hB4 hx4
          go_wp2_with fail
          refine A.mono ?_
          rintro e w5 ⟨u, rfl, hO5, hB5⟩
          have HB5 : Hid (Below w.heap.size w w5) := HB4.out.trans (hB5.mono HB4.out.size)
          rw [HN4.out] at hO5
          obtain ⟨g5, k5, rfl, _, hg5, _, _⟩ := OwT.at hO5 (by omega)
          have BY := rbytes_any (HMB.out.old hB5)
          rw [HX4.out] at BY
          have c0 := OwT.cell hO5 0 (by omega)
          have c3 := OwT.cell hO5 3 (by omega)
          rw [HC.out 0 (by omega), if_pos (by omega)] at c0
          rw [HC.out 3 (by omega)] at c3
          have hl1 := HLG.out.1
          have hl2 := HLG.out.2
          clear A hO5 hB5 HMB HC HLG
          have c0' : w5.cell? ⟨g5, 0, none⟩ = some (.string ⟨#[120]⟩) := c0
          clear c0
          generalize t4.log.length = ll at *
          have hl1' : (2 : Int) ≤ (ll : Int) := by omega
          by_cases h3 : 3 < k
          · rw [if_pos h3] at c3
            have c3' : w5.cell? ⟨g5, 3, none⟩ = some (.string ⟨#[120]⟩) := c3
            have h3' : (3 : Int) < (k : Int) := by omega
            clear c3
            rcases hbz with hbz | hbz
            · go_wp2_with fail
              refine BY.mono ?_
              rintro e w7 ⟨rfl, hw7⟩
              obtain rfl := hw7.symm
              clear BY hw7
              go_wp2
              go_ret
              exact ⟨rfl, HB5.out⟩
            · go_wp2_with fail
              refine BY.mono ?_
              rintro e w7 ⟨rfl, hw7⟩
              obtain rfl := hw7.symm
              clear BY hw7
              go_wp2
              go_ret
              exact ⟨rfl, HB5.out⟩
          · rw [if_neg h3] at c3
            have c3' : w5.cell? ⟨g5, 3, none⟩ = some (.string ⟨#[100]⟩) := c3
            have h3' : ¬ (3 : Int) < (k : Int) := by omega
            clear c3
            rcases hbz with hbz | hbz
            · go_wp2_with fail
              refine BY.mono ?_
              rintro e w7 ⟨rfl, hw7⟩
              obtain rfl := hw7.symm
              clear BY hw7
              go_wp2
              go_ret
              refine ⟨?_, HB5.out⟩
              show Ending.returned (.bool (!decide ((3 : Int) < (k : Int)))) = _
              rw [decide_eq_false (by omega)]
              rfl
            · go_wp2_with fail
              refine BY.mono ?_
              rintro e w7 ⟨rfl, hw7⟩
              obtain rfl := hw7.symm
              clear BY hw7
              go_wp2
              go_ret
              refine ⟨?_, HB5.out⟩
              show Ending.returned (.bool (!decide ((3 : Int) < (k : Int)))) = _
              rw [decide_eq_false (by omega)]
              rfl
end Go.Proofs.YtacfafbnimhibaaDoor
