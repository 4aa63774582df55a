/- CacheRoom: a walk over the program. -/
import Derived.Test.YtfeikmmojilmbaaChG
import Derived.Test.YtfeikmmojilmbaaChR
import Derived.Test.YtfeikmmojilmbaaChI
import Derived.BigCall
import Derived.BigGuard
namespace Go.Proofs.Ytfeikmmojilmbaa
open Go.RowKit Go.Maps El Pol
theorem infoTx : (Try.prog.info? 9).map (fun i => (i.zero, i.size, i.bytes)) = some (some (.string ⟨#[]⟩), 1, 16) := by kernel_rfl
/-- forty texts that are empty -/
theorem make40 (W : World) : ∃ M : Array Value, (Instr.makeSlice 22 (.int .i64 40) (.int .i64 40)).run Try.prog W = .ok (.slice (some ⟨W.heap.size, 0, none⟩) 40 40) (W.alloc (.cells M 9)) ∧ RdT (W.alloc (.cells M 9)) (.slice (some ⟨W.heap.size, 0, none⟩) 40 40) 40 (fun _ => []) := by
  obtain ⟨i0, hi, hz0, hz1, hz2⟩ := info_parts infoTx
  have h := run_make (P := Try.prog) W 22 9 i0 (.string ⟨#[]⟩) Try.underlying22 hi hz0 .i64 .i64 40 40 (by omega) (by omega) (by rw [hz2]; omega) (by omega)
  rw [hz1] at h
  refine ⟨_, h, .inr ⟨⟨W.heap.size, 0, none⟩, 40, rfl, Nat.le_refl _, by omega, fun i hi' => ?_⟩⟩
  have e : (⟨W.heap.size, 0, none⟩ : Addr).add i = ⟨W.heap.size, i, none⟩ := by unfold Addr.add; split <;> simp_all
  rw [e, cell_of_row _ _ _ _ _ _ (heap_alloc_new W _)]
  have h2 := toList_madeCells_one (.string ⟨#[]⟩) 40
  have h3 : (madeCells (Value.string ⟨#[]⟩).cells 40)[i]? = (madeCells (Value.string ⟨#[]⟩).cells 40).toList[i]? := by simp
  have h4 : (Value.string ⟨#[]⟩).cells = #[.string ⟨#[]⟩] := rfl
  show (madeCells (Value.string ⟨#[]⟩).cells (((40 : Int).toNat) * 1))[i]? = _
  rw [show ((40 : Int).toNat) * 1 = 40 from rfl, h3, h4, h2, List.getElem?_replicate_of_lt hi']
  rfl
theorem cells40 : cellsE 40 (fun _ => []) = 0 := by
  unfold cellsE
  rw [if_neg (by omega), if_neg (by rw [Bool.not_eq_true, anyB_false]; intro i _; rfl)]
theorem room_row {R n : Nat} (h1 : 1 ≤ R) (h2 : R ≤ 12) (hn : n ≤ 40) : (Che.readsTo 40 (fun _ => []) R n).ok ∧ (Che.readsTo 40 (fun _ => []) R n).row.length = min n R ∧ (∀ j, j < min n R → (Che.readsTo 40 (fun _ => []) R n).row.getD j 0 = n - R + j) ∧ (Che.readsTo 40 (fun _ => []) R n).hits = 0 ∧ (Che.readsTo 40 (fun _ => []) R n).n = 40 := by
  have hs : ∀ i, i < 40 → ((fun _ => ([] : List El)) i).length ≤ 16 := fun _ _ => Nat.zero_le _
  obtain ⟨a, b, _⟩ := Che.readsTo_ok (f := fun _ => []) (Nat.le_refl 40) hs h1 h2 n hn
  obtain ⟨e1, e2⟩ := Che.readsTo_row (f := fun _ => []) (Nat.le_refl 40) hs h1 h2 n hn
  refine ⟨a, by rw [e1, List.length_drop, List.length_range]; omega, fun j hj => ?_, e2, b⟩
  rw [e1]
  have : n - R + j < n := by omega
  simp [List.getD_eq_getElem?_getD, this]
set_option maxRecDepth 100000 in
set_option maxHeartbeats 2000000 in
theorem room_bad (room n : Int) (hr : room < 1 ∨ 12 < room) (w : World) :
    Calls Try.prog 3 #[.int .i64 room, .int .i64 n] w fun e w' => e = .returned (.bool true) ∧ Below w.heap.size w w' := by
  obtain ⟨M, hmk, hR⟩ := make40 w
  have e1 : chE 40 (fun _ => []) room = 1 := by unfold chE; rw [cells40, if_neg (by omega), if_pos hr]
  have C := cnew_bad _ 40 (fun _ => []) room _ hR (by rw [e1]; omega)
  rw [e1, errV, if_neg (by omega)] at C
  have HB : Hid (Below w.heap.size w (w.alloc (.cells M 9))) := al_below _ _
  clear hR e1
  have fin : True := trivial
  by_cases h1 : room < 1
  · clear hr fin
    go_enter Try.func3, Try.ntmps3
    go_wp2_with fail
    refine C.mono ?_
    rintro e w1 ⟨rfl, hB⟩
    have HB1 : Hid (Below w.heap.size w w1) := HB.out.trans (hB.mono HB.out.size)
    clear C hB HB hmk
    go_wp2
    go_ret
    exact ⟨rfl, HB1.out⟩
  · have h2 : 12 < room := hr.resolve_left h1
    clear hr fin
    go_enter Try.func3, Try.ntmps3
    go_wp2_with fail
    refine C.mono ?_
    rintro e w1 ⟨rfl, hB⟩
    have HB1 : Hid (Below w.heap.size w w1) := HB.out.trans (hB.mono HB.out.size)
    clear C hB HB hmk
    go_wp2
    go_ret
    exact ⟨rfl, HB1.out⟩
set_option maxRecDepth 100000 in
set_option maxHeartbeats 2000000 in
theorem room_out (R : Nat) (n : Int) (h1 : 1 ≤ R) (h2 : R ≤ 12) (hn : n < 0 ∨ 40 < n) (w : World) :
    Calls Try.prog 3 #[.int .i64 (R : Int), .int .i64 n] w fun e w' => e = .returned (.bool true) ∧ Below w.heap.size w w' := by
  by_cases h3 : n < 0
  · clear hn
    obtain ⟨M, hmk, hR⟩ := make40 w
    have C := cnew_ok _ 40 (fun _ => []) R _ hR cells40 h1 h2
    have HB : Hid (Below w.heap.size w (w.alloc (.cells M 9))) := al_below _ _
    clear hR
    go_enter Try.func3, Try.ntmps3
    go_wp2_with fail
    refine C.mono ?_
    rintro e w1 ⟨x, rfl, hM, hB⟩
    have HB1 : Hid (Below w.heap.size w w1) := HB.out.trans (hB.mono HB.out.size)
    have HM1 : Hid (MC w.heap.size w1 x (Che.fresh 40 (fun _ => []) R) 0) := hM.base HB.out.size
    clear C hB HB hmk hM
    go_wp2
    go_ret
    exact ⟨rfl, HB1.out⟩
  · have h4 : 40 < n := hn.resolve_left h3
    clear hn
    obtain ⟨M, hmk, hR⟩ := make40 w
    have C := cnew_ok _ 40 (fun _ => []) R _ hR cells40 h1 h2
    have HB : Hid (Below w.heap.size w (w.alloc (.cells M 9))) := al_below _ _
    clear hR
    go_enter Try.func3, Try.ntmps3
    go_wp2_with fail
    refine C.mono ?_
    rintro e w1 ⟨x, rfl, hM, hB⟩
    have HB1 : Hid (Below w.heap.size w w1) := HB.out.trans (hB.mono HB.out.size)
    have HM1 : Hid (MC w.heap.size w1 x (Che.fresh 40 (fun _ => []) R) 0) := hM.base HB.out.size
    clear C hB HB hmk hM
    go_wp2
    go_ret
    exact ⟨rfl, HB1.out⟩
set_option maxRecDepth 100000 in
set_option maxHeartbeats 2000000 in
theorem room_in (R n : Nat) (h1 : 1 ≤ R) (h2 : R ≤ 12) (hn : n ≤ 40) (w : World) :
    Calls Try.prog 3 #[.int .i64 (R : Int), .int .i64 (n : Int)] w fun e w' => e = .returned (.bool true) ∧ Below w.heap.size w w' := by
  have hz1 : (n : Int) ≤ 40 := by omega
  have hz2 : ¬ (n : Int) < 0 := by omega
  have HRR : Hid (∀ k, k ≤ 40 → (Che.readsTo 40 (fun _ => []) R k).ok ∧ (Che.readsTo 40 (fun _ => []) R k).row.length = min k R ∧ (∀ j, j < min k R → (Che.readsTo 40 (fun _ => []) R k).row.getD j 0 = k - R + j) ∧ (Che.readsTo 40 (fun _ => []) R k).hits = 0 ∧ (Che.readsTo 40 (fun _ => []) R k).n = 40) := fun k hk => room_row h1 h2 hk
  obtain ⟨M, hmk, hR⟩ := make40 w
  have C := cnew_ok _ 40 (fun _ => []) R _ hR cells40 h1 h2
  have HB : Hid (Below w.heap.size w (w.alloc (.cells M 9))) := al_below _ _
  clear hR
  go_enter Try.func3, Try.ntmps3
  go_wp2_with fail
  refine C.mono ?_
  rintro e w1 ⟨x, rfl, hM, hB⟩
  have HB1 : Hid (Below w.heap.size w w1) := HB.out.trans (hB.mono HB.out.size)
  have HM1 : Hid (MC w.heap.size w1 x (Che.fresh 40 (fun _ => []) R) 0) := hM.base HB.out.size
  clear C hB HB hmk hM
  go_wp2
  go_loopw [8] (fun cn wr => ∃ k : Nat, k ≤ n ∧ cn = .int .i64 k ∧ Hid (MC w.heap.size wr x (Che.readsTo 40 (fun _ => []) R k) k) ∧ Hid (Below w.heap.size w wr)) (fun cn _ => n - (intOf cn).toNat)
  case atStart => exact ⟨0, Nat.zero_le _, rfl, HM1.out, HB1.out⟩
  case round =>
    clear HM1 HB1
    obtain ⟨k, hk, rfl, HM, HB⟩ := hrel
    by_cases hlt : k < n
    · have hkz : (k : Int) < (n : Int) := by omega
      have C := cread_ok HM.out (by omega) (i := k) (by rw [(HRR.out k (by omega)).2.2.2.2]; omega)
      rw [errV, if_pos rfl] at C
      unfold st at C
      generalize sb _ = sx at C
      go_wp2_with fail
      refine C.mono ?_
      rintro e w2 ⟨rfl, hM2, hb2⟩
      have HM2 : Hid (MC w.heap.size w2 x (Che.readsTo 40 (fun _ => []) R (k + 1)) (k + 1)) := hM2
      have HB2 : Hid (Below w.heap.size w w2) := HB.out.trans (hb2.below HB.out.size HM.out.low)
      clear C hM2 hb2 HM HB
      go_wp2
      go_roundw
      case rel => exact ⟨k + 1, by omega, by go_num, HM2.out, HB2.out⟩
      case measure => simp [intOf]; omega
    · have hkn : k = n := by omega
      have hkz : ¬ (k : Int) < (n : Int) := by omega
      rw [hkn] at HM
      obtain ⟨ho, hlen, hat, hhit, hnn⟩ := HRR.out n hn
      have HAT : Hid (∀ j, j < min n R → (Che.readsTo 40 (fun _ => []) R n).row.getD j 0 = n - R + j) := hat
      have HLN : Hid ((Che.readsTo 40 (fun _ => []) R n).row.length = min n R) := hlen
      have HOK : Hid (Che.readsTo 40 (fun _ => []) R n).ok := ho
      have HNN : Hid ((Che.readsTo 40 (fun _ => []) R n).n = 40) := hnn
      have HHT : Hid ((Che.readsTo 40 (fun _ => []) R n).hits = 0) := hhit
      obtain ⟨c, hc⟩ : ∃ c, c = Che.readsTo 40 (fun _ => []) R n := ⟨_, rfl⟩
      rw [← hc] at HAT HLN HOK HNN HHT HM
      clear ho hlen hat hhit hnn HRR hlt hk hc hkn
      by_cases hRn : R < n
      · have hRz : (R : Int) < (n : Int) := by omega
        obtain ⟨wt, hwt⟩ : ∃ wt, wt = R := ⟨_, rfl⟩
        have hm : min n R = wt := by omega
        rw [hm] at HLN HAT
        have hwz : ((R : Nat) : Int) = ((wt : Nat) : Int) := by omega
        have hw12 : wt ≤ 12 := by omega
        have hwk : wt ≤ n := by omega
        have HKW : Hid (n - R = n - wt) := (by omega : n - R = n - wt)
        clear hm
        go_upto_region 14 with fail
        rw [hwz]
        clear hwt hwz hRz hRn
        obtain ⟨us, si, T, hM, hT⟩ := HM.out.is
        have C := chas_any hM (by rw [HLN.out]; omega)
        clear hM
        go_wp2_with fail
        refine C.mono ?_
        rintro e w2 ⟨v, rfl, hO2, hB2⟩
        have HM2 : Hid (MC w.heap.size w2 x c n) := HM.out.old hB2
        have HB2 : Hid (Below w.heap.size w w2) := HB.out.trans (hB2.mono HB.out.size)
        obtain ⟨ao, cap, hv⟩ := OwN.len hO2
        have HR2 : Hid (RdN w2 v c.row) := OwN.rd hO2
        have HV : Hid (∀ j, v.ownBlock = some j → ¬ x.F j) := fun j hj e => by
          have h1 := (World.ownsRow.lt hO2 j hj).1
          have h2 := HM.out.lt j e
          omega
        rw [HLN.out] at hv
        rw [hv] at HR2 HV
        subst hv
        clear C hO2 hB2 HM HB
        obtain ⟨us2, si2, T2, hM2, _⟩ := HM2.out.is
        have H := chits_any hM2
        rw [HHT.out] at H
        clear hM2
        have hWz : ((wt : Nat) : Int) ≤ 40 := by omega
        go_wp2_with fail
        refine H.mono ?_
        rintro e w3 ⟨rfl, hw⟩
        obtain rfl := hw.symm
        clear H hw
        go_wp2
        go_loopw [13] (fun cn wq => ∃ j : Nat, j ≤ wt ∧ cn = .int .i64 j ∧ Hid (MC w.heap.size wq x (Che.again c c.row j) (n + j)) ∧ Hid (RdN wq (.slice ao wt cap) c.row) ∧ Hid (Below w.heap.size w wq)) (fun cn _ => wt - (intOf cn).toNat)
        case atStart => exact ⟨0, Nat.zero_le _, rfl, HM2.out, HR2.out, HB2.out⟩
        case round =>
          clear HM2 HR2 HB2
          obtain ⟨j, hj, rfl, HMj, HRj, HBj⟩ := hrel
          obtain ⟨ha1, ha2, ha3, ha4⟩ := Che.again_row HOK.out j (by rw [HLN.out]; exact hj)
          by_cases hjl : j < wt
          · have hjz : (j : Int) < (wt : Int) := by omega
            obtain ⟨ad, rfl, hcell⟩ := HRj.out.at j (by rw [HLN.out]; exact hjl)
            have hy := HAT.out j hjl
            obtain ⟨y, hyy⟩ : ∃ y, y = c.row.getD j 0 := ⟨_, rfl⟩
            have HYY : Hid (y = c.row.getD j 0) := hyy
            have hyv : y = n - wt + j := by rw [hyy, hy, HKW.out]
            have HYZ : Hid ((n : Int) - (wt : Int) + (j : Int) = (y : Int)) := (by omega : (n : Int) - (wt : Int) + (j : Int) = (y : Int))
            rw [← hyy] at hcell
            have C := cread_ok HMj.out (by omega) (i := y) (by rw [ha4, HNN.out]; omega)
            rw [errV, if_pos rfl] at C
            unfold st at C
            generalize sb _ = sx at C
            have hy40 : (y : Int) ≤ 40 := by omega
            clear ha1 ha2 ha3 ha4 hy hyy hyv
            go_wp2_with fail
            refine C.mono ?_
            rintro e w4 ⟨rfl, hM4, hb4⟩
            have HM4 : Hid (MC w.heap.size w4 x (Che.again c c.row (j + 1)) (n + (j + 1))) := by
              have e1 : (Che.again c c.row j).read y = Che.again c c.row (j + 1) := by rw [HYY.out]; rfl
              rw [e1] at hM4
              exact hM4
            have HR4 : Hid (RdN w4 (.slice (some ad) wt cap) c.row) := HRj.out.but hb4 HV.out
            have HB4 : Hid (Below w.heap.size w w4) := HBj.out.trans (hb4.below HBj.out.size HMj.out.low)
            obtain ⟨ad', e', hcell4⟩ := HR4.out.at j (by rw [HLN.out]; exact hjl)
            obtain rfl := Option.some.inj e'
            rw [← HYY.out] at hcell4
            have hyz := HYZ.out
            clear C hM4 hb4 HMj HRj HBj hcell e' HYY HYZ
            go_wp2
            go_roundw
            case rel => exact ⟨j + 1, by omega, by go_num, HM4.out, HR4.out, HB4.out⟩
            case measure => simp [intOf]; omega
          · have hjw : j = wt := by omega
            have hjz : ¬ (j : Int) < (wt : Int) := by omega
            obtain ⟨us3, si3, T3, hM3, _⟩ := HMj.out.is
            have H := chits_any hM3
            rw [ha3, HHT.out, Nat.zero_add, hjw] at H
            clear hM3 ha1 ha2 ha3 ha4
            go_wp2_with fail
            refine H.mono ?_
            rintro e w3 ⟨rfl, hw⟩
            obtain rfl := hw.symm
            clear H hw
            go_wp2
            go_ret
            exact ⟨by first | rfl | simp, HBj.out⟩
      · have hRz : ¬ (R : Int) < (n : Int) := by omega
        have hm : min n R = n := by omega
        rw [hm] at HLN HAT
        have hw12 : n ≤ 12 := by omega
        have hwk : n ≤ n := Nat.le_refl _
        have HKW : Hid (n - R = n - n) := (by omega : n - R = n - n)
        clear hm
        go_upto_region 14 with fail
        obtain ⟨us, si, T, hM, hT⟩ := HM.out.is
        have C := chas_any hM (by rw [HLN.out]; omega)
        clear hM
        go_wp2_with fail
        refine C.mono ?_
        rintro e w2 ⟨v, rfl, hO2, hB2⟩
        have HM2 : Hid (MC w.heap.size w2 x c n) := HM.out.old hB2
        have HB2 : Hid (Below w.heap.size w w2) := HB.out.trans (hB2.mono HB.out.size)
        obtain ⟨ao, cap, hv⟩ := OwN.len hO2
        have HR2 : Hid (RdN w2 v c.row) := OwN.rd hO2
        have HV : Hid (∀ j, v.ownBlock = some j → ¬ x.F j) := fun j hj e => by
          have h1 := (World.ownsRow.lt hO2 j hj).1
          have h2 := HM.out.lt j e
          omega
        rw [HLN.out] at hv
        rw [hv] at HR2 HV
        subst hv
        clear C hO2 hB2 HM HB
        obtain ⟨us2, si2, T2, hM2, _⟩ := HM2.out.is
        have H := chits_any hM2
        rw [HHT.out] at H
        clear hM2
        have hWz : ((n : Nat) : Int) ≤ 40 := by omega
        go_wp2_with fail
        refine H.mono ?_
        rintro e w3 ⟨rfl, hw⟩
        obtain rfl := hw.symm
        clear H hw
        go_wp2
        go_loopw [13] (fun cn wq => ∃ j : Nat, j ≤ n ∧ cn = .int .i64 j ∧ Hid (MC w.heap.size wq x (Che.again c c.row j) (n + j)) ∧ Hid (RdN wq (.slice ao n cap) c.row) ∧ Hid (Below w.heap.size w wq)) (fun cn _ => n - (intOf cn).toNat)
        case atStart => exact ⟨0, Nat.zero_le _, rfl, HM2.out, HR2.out, HB2.out⟩
        case round =>
          clear HM2 HR2 HB2
          obtain ⟨j, hj, rfl, HMj, HRj, HBj⟩ := hrel
          obtain ⟨ha1, ha2, ha3, ha4⟩ := Che.again_row HOK.out j (by rw [HLN.out]; exact hj)
          by_cases hjl : j < n
          · have hjz : (j : Int) < (n : Int) := by omega
            obtain ⟨ad, rfl, hcell⟩ := HRj.out.at j (by rw [HLN.out]; exact hjl)
            have hy := HAT.out j hjl
            obtain ⟨y, hyy⟩ : ∃ y, y = c.row.getD j 0 := ⟨_, rfl⟩
            have HYY : Hid (y = c.row.getD j 0) := hyy
            have hyv : y = n - n + j := by rw [hyy, hy, HKW.out]
            have HYZ : Hid ((n : Int) - (n : Int) + (j : Int) = (y : Int)) := (by omega : (n : Int) - (n : Int) + (j : Int) = (y : Int))
            rw [← hyy] at hcell
            have C := cread_ok HMj.out (by omega) (i := y) (by rw [ha4, HNN.out]; omega)
            rw [errV, if_pos rfl] at C
            unfold st at C
            generalize sb _ = sx at C
            have hy40 : (y : Int) ≤ 40 := by omega
            clear ha1 ha2 ha3 ha4 hy hyy hyv
            go_wp2_with fail
            refine C.mono ?_
            rintro e w4 ⟨rfl, hM4, hb4⟩
            have HM4 : Hid (MC w.heap.size w4 x (Che.again c c.row (j + 1)) (n + (j + 1))) := by
              have e1 : (Che.again c c.row j).read y = Che.again c c.row (j + 1) := by rw [HYY.out]; rfl
              rw [e1] at hM4
              exact hM4
            have HR4 : Hid (RdN w4 (.slice (some ad) n cap) c.row) := HRj.out.but hb4 HV.out
            have HB4 : Hid (Below w.heap.size w w4) := HBj.out.trans (hb4.below HBj.out.size HMj.out.low)
            obtain ⟨ad', e', hcell4⟩ := HR4.out.at j (by rw [HLN.out]; exact hjl)
            obtain rfl := Option.some.inj e'
            rw [← HYY.out] at hcell4
            have hyz := HYZ.out
            clear C hM4 hb4 HMj HRj HBj hcell e' HYY HYZ
            go_wp2
            go_roundw
            case rel => exact ⟨j + 1, by omega, by go_num, HM4.out, HR4.out, HB4.out⟩
            case measure => simp [intOf]; omega
          · have hjw : j = n := by omega
            have hjz : ¬ (j : Int) < (n : Int) := by omega
            obtain ⟨us3, si3, T3, hM3, _⟩ := HMj.out.is
            have H := chits_any hM3
            rw [ha3, HHT.out, Nat.zero_add, hjw] at H
            clear hM3 ha1 ha2 ha3 ha4
            go_wp2_with fail
            refine H.mono ?_
            rintro e w3 ⟨rfl, hw⟩
            obtain rfl := hw.symm
            clear H hw
            go_wp2
            go_ret
            exact ⟨by first | rfl | simp, HBj.out⟩
theorem room_any (room n : Int) (w : World) :
    Calls Try.prog 3 #[.int .i64 room, .int .i64 n] w fun e w' => e = .returned (.bool true) ∧ Below w.heap.size w w' := by
  by_cases hr : room < 1 ∨ 12 < room
  · exact room_bad room n hr w
  · obtain ⟨R, rfl⟩ : ∃ R : Nat, room = R := ⟨room.toNat, by omega⟩
    by_cases hn : n < 0 ∨ 40 < n
    · exact room_out R n (by omega) (by omega) hn w
    · obtain ⟨k, rfl⟩ : ∃ k : Nat, n = k := ⟨n.toNat, by omega⟩
      exact room_in R k (by omega) (by omega) (by omega) w
end Go.Proofs.Ytfeikmmojilmbaa
