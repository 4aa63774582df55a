/- What poly.Through answers of any points: by walks over the program. -/
import Derived.Test.YtikhjhbohkaajaaDoorPolyG
namespace Go.Proofs.YtikhjhbohkaajaaDoor
open Go.ChangeShapes Go.WideShapes Go.ChangeAt Go.RowKit El Pol
abbrev clash : Value := .iface 55 (.int .i64 7)
set_option maxRecDepth 100000 in
set_option maxHeartbeats 400000 in
theorem through_full (ao : Option Addr) (n cap : Nat) (w : World) (h : 40 < n) :
    Calls Tryd.prog 28 #[.slice ao n cap] w fun e w' => e = .returned (.tuple #[.slice none 0 0, full]) ∧ Below w.heap.size w w' := by
  go_enter Tryd.func28, Tryd.ntmps28
  go_wp2
  go_ret2
  exact ⟨rfl, Below.refl _ _⟩
set_option maxRecDepth 100000 in
set_option maxHeartbeats 400000 in
theorem through_clash (v : Value) (n : Nat) (X Y : Nat → El) (w : World) (hp : RdP w v n X Y) (h : n ≤ 40) (ht : twice X n = true) :
    Calls Tryd.prog 28 #[v] w fun e w' => e = .returned (.tuple #[.slice none 0 0, clash]) ∧ Below w.heap.size w w' := by
  obtain ⟨ao, cap, rfl, _, _⟩ := hp.len
  have C := twice_any ao n cap X Y w hp h
  rw [ht] at C
  clear hp
  go_enter Tryd.func28, Tryd.ntmps28
  go_wp2_with fail
  refine C.mono ?_
  rintro e w1 ⟨rfl, hB⟩
  go_wp2
  go_ret2
  exact ⟨rfl, hB⟩
set_option maxRecDepth 100000 in
set_option maxHeartbeats 2000000 in
theorem through_ok (v : Value) (n : Nat) (X Y : Nat → El) (w : World) (hp : RdP w v n X Y) (h : n ≤ 40) (ht : twice X n = false) :
    Calls Tryd.prog 28 #[v] w fun e w' => ∃ p v', e = .returned (.tuple #[v', .nilIface]) ∧ Through X Y n p ∧ Ow w.heap.size w' v' p ∧ Below w.heap.size w w' := by
  obtain ⟨ao, cap, rfl, _, _⟩ := hp.len
  have C := twice_any ao n cap X Y w hp h
  rw [ht] at C
  have HD : Hid (∀ i j, i < j → j < n → X i ≠ X j) := not_twice ht
  have HP : Hid (RdP w (.slice ao n cap) n X Y) := hp
  clear hp ht
  have h40 : decide ((40 : Int) < (n : Int)) = false := by simp; omega
  obtain ⟨i0, hi, hz0, hz1, hz2⟩ := info_parts info8
  go_enter Tryd.func28, Tryd.ntmps28
  go_wp2_with fail
  refine C.mono ?_
  rintro e w1 ⟨rfl, hB1⟩
  clear C
  go_wp2_with (first | (at_make; refine wpList_make_full _ rfl _ _ 35 rfl w1.heap.size 5 i0 (.int .u8 0) 1 Tryd.underlying35 hi hz0 hz1 _ _ _ _ n rfl rfl rfl rfl (by rw [hz2]; omega) (by unfold maxLen; omega) (Nat.le_refl _) ?_))
  intro w2 hown hgrow
  have hT := Ow.made hown
  have hB2 := hB1.trans ((below_of_grown hgrow).mono hB1.size)
  have hs1 := hB1.size
  have hs2 : w1.heap.size < w2.heap.size := (hT.lt _ rfl).2
  clear hown hgrow hB1
  have hT3 := hT.old ((Below.refl w2.heap.size w2).alloc (Nat.le_refl _) (.cells #[.int .u8 1] 5))
  have hB3 := hB2.alloc hB2.size (.cells #[.int .u8 1] 5)
  have hV3 := rd_one w2
  clear hT hB2
  go_wp2
  go_loopw [5, 24] (fun s t wr => ∃ (k : Nat) (T V : List El), k ≤ n ∧ t = .int .i64 k ∧ Ow w1.heap.size wr (.slice (some ⟨w1.heap.size, 0, none⟩) n n) T ∧ Rd wr s V ∧ s.ownBlock ≠ some w1.heap.size ∧ Hid (n = T.length ∧ Thr X Y k T ∧ Van X k V) ∧ Below w.heap.size w wr ∧ w1.heap.size < wr.heap.size) (fun _ t _ => n - (intOf t).toNat)
  case atStart => exact ⟨0, List.replicate n 0, [1], Nat.zero_le _, rfl, hT3, hV3, by simp [Value.ownBlock]; omega, ⟨by simp, thr_start X Y n, van_start X⟩, hB3, by simp; omega⟩
  case round =>
    clear hT3 hV3 hB3
    obtain ⟨k, T, V, hk, rfl, hT, hV, hne, HI, hB, hsz⟩ := hrel
    obtain ⟨va, vc, rfl, hvc, hvc2⟩ := hV.len
    rw [HI.out.2.2.1] at hvc hV hne ⊢
    by_cases hkn : k < n
    · obtain ⟨ad, rfl, hc0, hc1⟩ := (HP.out.old hB).some k hkn
      rw [add_one] at hc1
      obtain ⟨x, hx⟩ : ∃ x : El, x = X k := ⟨_, rfl⟩
      obtain ⟨y, hy⟩ : ∃ y : El, y = Y k := ⟨_, rfl⟩
      rw [← hx] at hc0
      rw [← hy] at hc1
      have HX : Hid (x = X k) := hx
      have HY : Hid (y = Y k) := hy
      clear hx hy
      have hnot := thr_not X n k V HD.out hkn HI.out.2.2
      rw [← HX.out] at hnot
      have HNOT : Hid ((ev V x).val ≠ 0) := val_ne hnot
      have HS : Hid (Thr X Y (k + 1) (addAt T 0 V (ti (pl y (ev T x)) (iv (ev V x))))) := by
        have := thr_step X Y n k T V HD.out hkn HI.out.1.symm HI.out.2.1 HI.out.2.2
        rw [← HX.out, ← HY.out] at this
        exact this
      have HV2 : Hid (Van X (k + 1) (trim (Pol.mul V [x, 1]))) := by rw [HX.out]; exact van_step X k V HI.out.2.2
      have HTL : Hid (n = T.length) := HI.out.1
      have HVL : Hid (V.length = k + 1) := HI.out.2.2.1
      clear hnot HI
      go_wp2
      have hnc := new_cells wr (.int .u8 ((x.val : Nat) : Int)) (.int .u8 ((y.val : Nat) : Int)) 49
      have hBa : Below wr.heap.size wr (wr.alloc (.cells #[.int .u8 ((x.val : Nat) : Int), .int .u8 ((y.val : Nat) : Int)] 49)) := (Below.refl _ _).alloc (Nat.le_refl _) _
      have hsw : (wr.alloc (.cells #[.int .u8 ((x.val : Nat) : Int), .int .u8 ((y.val : Nat) : Int)] 49)).heap.size = wr.heap.size + 1 := by simp
      generalize wr.alloc (.cells #[.int .u8 ((x.val : Nat) : Int), .int .u8 ((y.val : Nat) : Int)] 49) = W at *
      have hTw := hT.old hBa
      have hVw := hV.old hBa
      have hBw := hB.trans (hBa.mono hB.size)
      obtain ⟨hnc0, hnc1⟩ := hnc
      have HTR : Hid (∀ q, Rd (W.drewN q) (.slice (some ⟨w1.heap.size, 0, none⟩) n n) T) := fun q => hTw.rd.old (below_drewN (Below.refl _ _) _)
      clear hT hV hB hBa hc0 hc1
      go_quiet ((first | (go_at_call 35; exact Calls.quiet_of (value_quiet _ T x _ (HTR.out _))) | (go_at_call 5; exact Calls.quiet_of_same (add_any _ _ y.isLt (ev T x).isLt _))))
      have hdn : Below W.heap.size W (W.drewN nq) := below_drewN (Below.refl _ _) _
      have hnd0 : (W.drewN nq).cell? ⟨wr.heap.size, 0, none⟩ = some (.int .u8 ((x.val : Nat) : Int)) := hnc0
      have hTd := hTw.old hdn
      have hVd := hVw.old hdn
      have hBd := hBw.trans (hdn.mono hBw.size)
      have hsd : (W.drewN nq).heap.size = wr.heap.size + 1 := hsw
      clear HTR hTw hVw hBw hdn hnc0 hnc1 hsw
      generalize W.drewN nq = W2 at *
      go_wp2_with fail
      refine (value_any _ V x _ hVd).mono ?_
      rintro e w3 ⟨rfl, hB3⟩
      have hT3 := hTd.old hB3
      have hV3 := hVd.old hB3
      have hBB3 := hBd.trans (hB3.mono hBd.size)
      have hs3 := hB3.size
      have hc3 : w3.cell? ⟨wr.heap.size, 0, none⟩ = some (.int .u8 ((x.val : Nat) : Int)) := by rw [hB3.cell (by simp only; omega)]; exact hnd0
      clear hTd hVd hBd hnd0 hB3
      go_wp2_with fail
      refine (div_some _ _ (pl y (ev T x)).isLt (ev V x).isLt HNOT.out _).mono ?_
      rintro e w4 ⟨rfl, hw4⟩
      obtain rfl := hw4.symm
      go_wp2_with fail
      refine (addTimes_any w1.heap.size w1.heap.size 0 n n n n T (.slice va (k + 1) vc) V (ti (pl y (ev T x)) (iv (ev V x))) _ hV3 (fun _ => hne) hT3 HTL.out (by rw [HVL.out]; omega) (by rw [HVL.out]; omega) (by omega)).mono ?_
      rintro e w5 ⟨rfl, hT5, hg5⟩
      have hV5 := hV3.grown hg5 (fun _ => hne)
      have hB5 := hBB3.trans (below_of_grownAt hg5 hBB3.size (by omega))
      have hs5 := hg5.size
      have hc5 : w5.cell? ⟨wr.heap.size, 0, none⟩ = some (.int .u8 ((x.val : Nat) : Int)) := hg5.cell hc3 (by simp; omega)
      clear hT3 hV3 hBB3 hc3 hg5
      go_wp2_with fail
      refine (product_any _ _ V [x, 1] _ (hV5.alloc _) (rd_two w5 x) (by rw [HVL.out]; simp; omega)).mono ?_
      rintro e w6 ⟨v6, rfl, hO6, hB6⟩
      have hBa6 : Below w5.heap.size w5 (w5.alloc (.cells #[.int .u8 ((x.val : Nat) : Int), .int .u8 1] 5)) := (Below.refl _ _).alloc (Nat.le_refl _) _
      have hB56 := hBa6.trans (hB6.mono (by simp))
      have hT6 := hT5.old hB56
      have hBB6 := hB5.trans (hB56.mono hB5.size)
      have hV6 := hO6.rd
      have hne6 : v6.ownBlock ≠ some w1.heap.size := fun e => by have := (hO6.lt _ e).1; simp at this; omega
      have hs6 := hB56.size
      clear hT5 hV5 hB5 hO6 hB6 hBa6 hB56 hc5
      go_wp2
      go_roundw
      case rel => exact ⟨k + 1, _, _, by omega, by go_num, hT6, hV6, hne6, ⟨by rw [addAt_length]; exact HTL.out, HS.out, HV2.out⟩, hBB6, by omega⟩
      case measure => simp [intOf]; omega
    · have hkk : k = n := by omega
      have HE : Hid (Through X Y n (trim T)) := by rw [← hkk]; rw [hkk]; exact thr_done X Y n T (hkk ▸ HI.out.2.1)
      have HTL : Hid (n = T.length) := HI.out.1
      have hs0 := hB.size
      clear hkk
      go_wp2_with fail
      refine (trim_any _ T _ hT.rd (by rw [← HTL.out]; omega)).mono ?_
      rintro e w3 ⟨v3, rfl, hO3, hB3⟩
      have hO3' := hO3.mono (B' := w.heap.size) hs0
      have hB3' := hB.trans (hB3.mono hs0)
      clear hO3 hB3 hT hV hB HI
      go_wp2
      go_ret2
      exact ⟨_, _, rfl, HE.out, hO3', hB3'⟩
end Go.Proofs.YtikhjhbohkaajaaDoor
