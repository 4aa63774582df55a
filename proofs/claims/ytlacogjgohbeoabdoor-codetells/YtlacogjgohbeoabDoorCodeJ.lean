/- What code.Decode answers where there is no fault: by a walk over the program. -/
import Derived.Test.YtlacogjgohbeoabDoorCodeI
namespace Go.Proofs.YtlacogjgohbeoabDoor
open Go.ChangeShapes Go.WideShapes Go.ChangeAt Go.RowKit El Pol Mx
theorem RdM.cut {w : World} {ao : Option Addr} {m n k cap : Nat} {a : Nat → List El} (h : RdM w (.slice ao m cap) n a) (hk : k ≤ n) : RdM w (.slice ao k cap) k a := by
  obtain ⟨rv, h1, h2⟩ := h.rdF
  exact (h1.cut hk).rdM (fun i hi => h2 i (by omega))
set_option maxRecDepth 100000 in
set_option maxHeartbeats 2000000 in
theorem decode_ok (k m L : Nat) (h1 : 1 ≤ k) (h2 : k + m ≤ 12) (v lv : Value) (a : Nat → List El) (lost : Nat → Bool) (w : World) (h : RdF w v (k + m) (fun i => st (a i))) (hl : RdF w lv (k + m) (fun i => .bool (lost i)))
    (hk : k ≤ (ix lost (k + m)).length) (hL : ∀ i, i < (ix lost (k + m)).length → (a (at' lost (k + m) i)).length = L) (hL16 : L ≤ 16) :
    Calls Tryd.prog 28 #[.int .i64 k, .int .i64 m, v, lv] w fun e w' => ∃ (v' : Value) (T : M), e = .returned (.tuple #[v', .nilIface]) ∧ Inv k (fun i j => gen k (at' lost (k + m) i) j) T ∧
      w'.ownsRow w.heap.size 9 1 v' k ((List.range k).map (fun i => st (row (mm k T (mx (fun i => a (at' lost (k + m) i))) i) L))) ∧ Below w.heap.size w w' := by
  have HL : Hid (RdF w lv (k + m) (fun i => .bool (lost i))) := hl
  have HLL : Hid (∀ i, i < (ix lost (k + m)).length → (a (at' lost (k + m) i)).length = L) := hL
  obtain ⟨ao, cap, rfl, _, _⟩ := h.len
  obtain ⟨al, cl, rfl, _, _⟩ := hl.len
  have C := ccheck_ok k m h1 h2 w
  have D := left_texts _ _ (k + m) _ lost w h hl (by omega) (fun i _ => ⟨_, rfl⟩)
  have hle := ix_le lost (k + m)
  have HS : Hid (¬ Sing k (fun i j => gen k (at' lost (k + m) i) j)) := left_not h2 hk
  have hne1 : (((k + m : Nat) : Int) != (k : Int) + (m : Int)) = false := by simp
  clear h hl hL
  go_enter Tryd.func28, Tryd.ntmps28
  go_wp2_with fail
  refine C.mono ?_
  rintro e w1 ⟨rfl, hw⟩
  obtain rfl := hw.symm
  clear C
  go_wp2_with fail
  refine D.mono ?_
  rintro e w2 ⟨v2, rfl, hO, hB2⟩
  have hR : RdF w2 v2 (ix lost (k + m)).length (fun i => st (a (at' lost (k + m) i))) := by
    have hO2 := hO
    unfold OwL at hO2
    rw [List.length_map] at hO2
    exact OwL.rdF hO2 (fun i hi => at_map _ hi)
  clear D hO
  obtain ⟨n, hn⟩ : ∃ n, n = (ix lost (k + m)).length := ⟨_, rfl⟩
  rw [← hn] at hR hk hle
  have HN : Hid (n = (ix lost (k + m)).length) := hn
  clear hn
  have E := blocks_ok v2 n _ w2 hR (by omega) (by omega) (bbad_of (fun i hi => by rw [HLL.out i (by rw [← HN.out]; exact hi), HLL.out 0 (by rw [← HN.out]; omega)]) (by rw [HLL.out 0 (by rw [← HN.out]; omega)]; exact hL16))
  have HR : Hid (RdF w2 v2 n (fun i => st (row (mx (fun i => a (at' lost (k + m) i)) i) L))) := blocks_rows hR (fun i hi => HLL.out i (by rw [← HN.out]; exact hi))
  obtain ⟨ao2, c2, rfl, hnc2, _⟩ := hR.len
  obtain ⟨ad2, rfl, _⟩ := hR.at 0 (by omega)
  have had2 := add_zero ad2
  clear hR
  have hge : ¬ ((n : Int) < (k : Int)) := by omega
  go_wp2_with fail
  refine E.mono ?_
  rintro e w3 ⟨rfl, hB3⟩
  have hB23 := hB2.trans (hB3.mono hB2.size)
  have HR3 : Hid (RdF w3 (.slice (some ad2) n c2) n (fun i => st (row (mx (fun i => a (at' lost (k + m) i)) i) L))) := HR.out.old hB3
  clear E HR hB2 hB3
  go_wp2_with fail
  refine (partrows_any k m h1 h2 w3).mono ?_
  rintro e w4 ⟨v4, rfl, hM4, hB4⟩
  have hB24 := hB23.trans (hB4.mono hB23.size)
  have HR4 : Hid (RdF w4 (.slice (some ad2) n c2) n (fun i => st (row (mx (fun i => a (at' lost (k + m) i)) i) L))) := HR3.out.old hB4
  obtain ⟨rv4, hF4, hRow4⟩ := hM4.rdF
  have F := left_rows v4 (.slice al (k + m) cl) (k + m) rv4 lost w4 hF4 (HL.out.old hB24) (by omega) (fun i hi => by obtain ⟨x, y, e, _⟩ := (hRow4 i hi).len; exact ⟨_, _, _, e⟩)
  have HRow : Hid (∀ i, i < k + m → Rd w4 (rv4 i) (row (gen k i) k)) := hRow4
  obtain ⟨a4, c4, rfl, _, _⟩ := hM4.len
  clear hM4 hF4 hRow4 hB23 hB4 HR3
  go_wp2_with fail
  refine F.mono ?_
  rintro e w5 ⟨v5, rfl, hO5, hB5⟩
  have hR5 : RdF w5 v5 n (fun i => rv4 (at' lost (k + m) i)) := by
    have hO2 := hO5
    unfold OwL at hO2
    rw [List.length_map, ← HN.out] at hO2
    exact OwL.rdF hO2 (fun i hi => at_map _ (by rw [← HN.out]; exact hi))
  have hM5 : RdM w5 v5 n (fun i => row (gen k (at' lost (k + m) i)) k) := hR5.rdM (fun i hi => (HRow.out _ (at_mem (by rw [← HN.out]; exact hi)).1).old hB5)
  have hB25 := hB24.trans (hB5.mono hB24.size)
  have HR5 : Hid (RdF w5 (.slice (some ad2) n c2) n (fun i => st (row (mx (fun i => a (at' lost (k + m) i)) i) L))) := HR4.out.old hB5
  obtain ⟨ao5, c5, rfl, hnc5, _⟩ := hR5.len
  obtain ⟨ad5, rfl, _⟩ := hR5.at 0 (by omega)
  have had5 := add_zero ad5
  have G := inverse_ok (.slice (some ad5) k c5) k (fun i j => gen k (at' lost (k + m) i) j) w5 ⟨hM5.cut hk, by omega, by omega, fun e => e⟩ (by omega)
  clear F hO5 hR5 hM5 hB24 hB5 HR4 HRow
  go_wp2_with fail
  refine G.mono ?_
  rintro e w6 (⟨v6, T, rv6, rfl, hI, hO6, hB6⟩ | ⟨_, hS, _⟩)
  · have hB26 := hB25.trans (hB6.mono hB25.size)
    have HI : Hid (Inv k (fun i j => gen k (at' lost (k + m) i) j) T) := hI
    have TT := times_any v6 (.slice (some ad2) k c2) k k k L T (mx (fun i => a (at' lost (k + m) i))) w6 hO6.rd ((HR5.out.old hB6).cut hk) (Nat.le_refl _) (fun _ => by omega) (by omega) hL16
    obtain ⟨a6, c6, rfl, _, _⟩ := hO6.rd.len
    clear G hI hO6 hB25 hB6 HR5
    go_wp2_with fail
    refine TT.mono ?_
    rintro e w7 ⟨v7, rfl, hO7, hB7⟩
    have hB27 := hB26.trans (hB7.mono hB26.size)
    have hO8 := ownsRow_mono hO7 hB26.size
    clear TT hO7 hB7 hB26
    go_wp2
    go_ret2
    exact ⟨_, T, rfl, HI.out, hO8, hB27⟩
  · exact absurd hS HS.out
end Go.Proofs.YtlacogjgohbeoabDoor
