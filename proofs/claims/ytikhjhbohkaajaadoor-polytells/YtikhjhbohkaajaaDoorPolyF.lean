/- What poly.DivMod answers, whatever lists of bytes it is given: by walks over the program. -/
import Derived.Test.YtikhjhbohkaajaaDoorPolyE
import Derived.Test.YtikhjhbohkaajaaDoorWalkD
namespace Go.Proofs.YtikhjhbohkaajaaDoor
open Go.ChangeShapes Go.WideShapes Go.ChangeAt Go.RowKit El Pol
abbrev none5 : Value := .iface 55 (.int .i64 5)
set_option maxRecDepth 100000 in
set_option maxHeartbeats 400000 in
theorem divmod_full (a1 a2 : Option Addr) (l1 c1 l2 c2 : Nat) (w : World) (h : (tl l1 || tl l2) = true) :
    Calls Tryd.prog 26 #[.slice a1 l1 c1, .slice a2 l2 c2] w fun e w' => e = .returned (.tuple #[.slice none 0 0, .slice none 0 0, full]) ∧ Below w.heap.size w w' := by
  have hn := new_cells w (.slice a1 l1 c1) (.slice a2 l2 c2) 35
  have c := long2 w.heap.size a1 a2 l1 c1 l2 c2 _ hn.1 hn.2
  rw [h] at c
  clear hn h
  go_enter Tryd.func26, Tryd.ntmps26
  go_wp2_with fail
  refine c.mono ?_
  rintro e w1 ⟨rfl, hw⟩
  obtain rfl := hw.symm
  go_wp2
  exact bodyPost_ret (v := .tuple #[.slice none 0 0, .slice none 0 0, full]) (by simp [results, Tryd.results26, go_sem]) rfl ⟨rfl, (Below.refl _ _).alloc (Nat.le_refl _) _⟩
theorem Ow.store_other {B B2 h t n cap nq : Nat} {wr : World} {v : Value} {L O : List El} (hL : Ow B wr v L) (hO : Ow B2 wr (.slice (some ⟨h, 0, none⟩) n cap) O) (hn : n = O.length) (hne : v.ownBlock ≠ some h) (x : El) :
    Ow B ((wr.drewN nq).setCell ⟨h, t, none⟩ (.int .u8 ((x.val : Nat) : Int))) v L := by
  have hd : Below wr.heap.size wr (wr.drewN nq) := below_drewN (Below.refl _ _) _
  exact (hL.old hd).grown ((hO.old hd).stored hn t x).2 hne
theorem div_next {xs ys O L : List El} {t d : Nat} {x y : El} (h0 : trim ys ≠ []) (hL : t + d + 1 = L.length) (hd : d + 1 = (trim ys).length) (hx : x = co L (t + d)) (hy : y = co (trim ys) d) (h : DivInv xs (trim ys) O L) :
    (trim (addAt L t (trim ys) (ti x (iv y)))).length < t + d + 1 ∧
      DivInv xs (trim ys) (O.set t (ti x (iv y))) ((addAt L t (trim ys) (ti x (iv y))).take (trim (addAt L t (trim ys) (ti x (iv y)))).length) := by
  have := div_round xs (trim ys) O L (by rw [trim_trim]; exact h0) (trim_trim ys) h (by omega)
  dsimp only at this
  rw [show L.length - (trim ys).length = t by omega, show L.length - 1 = t + d by omega, show (trim ys).length - 1 = d by omega, ← hx, ← hy, ← hL] at this
  exact this
def slLen : Value → Nat | .slice _ n _ => n | _ => 0
set_option maxRecDepth 100000 in
set_option maxHeartbeats 1000000 in
theorem divmod_none (u v : Value) (xs ys : List El) (w : World) (hx : Rd w u xs) (hy : Rd w v ys) (h1 : xs.length ≤ 40) (h2 : ys.length ≤ 40) (h0 : trim ys = []) :
    Calls Tryd.prog 26 #[u, v] w fun e w' => e = .returned (.tuple #[.slice none 0 0, .slice none 0 0, none5]) ∧ Below w.heap.size w w' := by
  have H0 : Hid (trim ys = []) := h0
  clear h0
  obtain ⟨a1, c1, rfl, _, _⟩ := hx.len
  obtain ⟨a2, c2, rfl, _, _⟩ := hy.len
  have hn := new_cells w (.slice a1 xs.length c1) (.slice a2 ys.length c2) 35
  have c := long2 w.heap.size a1 a2 xs.length c1 ys.length c2 _ hn.1 hn.2
  rw [tl_not (by omega), tl_not (by omega)] at c
  have hx' := hx.alloc (.cells #[.slice a1 xs.length c1, .slice a2 ys.length c2] 35)
  have hy' := hy.alloc (.cells #[.slice a1 xs.length c1, .slice a2 ys.length c2] 35)
  have T1 := trim_any _ ys _ hy' (by omega)
  clear hn hx hy hy'
  obtain ⟨n, hn⟩ : ∃ n, n = xs.length := ⟨_, rfl⟩
  obtain ⟨m, hm⟩ : ∃ m, m = ys.length := ⟨_, rfl⟩
  rw [← hn] at h1 c hx' T1 ⊢
  rw [← hm] at h2 c hx' T1 ⊢
  have HN : Hid (n = xs.length) := hn
  have HM : Hid (m = ys.length) := hm
  clear hn hm
  go_enter Tryd.func26, Tryd.ntmps26
  go_wp2_with fail
  refine c.mono ?_
  rintro e w1 ⟨rfl, hw⟩
  obtain rfl := hw.symm
  clear c
  go_wp2_with fail
  refine T1.mono ?_
  rintro e w1 ⟨dv, rfl, hD, hB1⟩
  have hx1 := hx'.old hB1
  have hB1' : Below w.heap.size w w1 := ((Below.refl _ _).alloc (Nat.le_refl _) _).trans (hB1.mono (by simp))
  have hs1 : w.heap.size + 1 ≤ w1.heap.size := by have := hB1.size; simpa using this
  simp only [World.size_alloc] at hD
  clear T1 hx' hB1
  go_wp2_with fail
  refine (trim_any _ xs _ hx1 (by rw [← HN.out]; omega)).mono ?_
  rintro e w2 ⟨lv, rfl, hL, hB2⟩
  have hD2 := hD.old hB2
  have hB2' := hB1'.trans (hB2.mono (by omega))
  have hs2 := hB2.size
  clear hx1 hB1' hB2
  rw [H0.out] at hD hD2
  obtain ⟨ad, cd, rfl, hcd, hcd2⟩ := hD2.rd.len
  clear hD
  go_wp2
  exact bodyPost_ret (v := .tuple #[.slice none 0 0, .slice none 0 0, none5]) (by simp [results, Tryd.results26, go_sem]) rfl ⟨rfl, hB2'⟩
set_option maxRecDepth 100000 in
set_option maxHeartbeats 1000000 in
theorem divmod_ok (u v : Value) (xs ys : List El) (w : World) (hx : Rd w u xs) (hy : Rd w v ys) (h1 : xs.length ≤ 40) (h2 : ys.length ≤ 40) (h0 : trim ys ≠ []) :
    Calls Tryd.prog 26 #[u, v] w fun e w' => ∃ q r vq vr, e = .returned (.tuple #[vq, vr, .nilIface]) ∧ DivOk xs ys q r ∧ Ow w.heap.size w' vq q ∧ Ow w.heap.size w' vr r ∧ Below w.heap.size w w' := by
  obtain ⟨a1, c1, rfl, _, _⟩ := hx.len
  obtain ⟨a2, c2, rfl, _, _⟩ := hy.len
  have hn := new_cells w (.slice a1 xs.length c1) (.slice a2 ys.length c2) 35
  have c := long2 w.heap.size a1 a2 xs.length c1 ys.length c2 _ hn.1 hn.2
  rw [tl_not (by omega), tl_not (by omega)] at c
  have hx' := hx.alloc (.cells #[.slice a1 xs.length c1, .slice a2 ys.length c2] 35)
  have hy' := hy.alloc (.cells #[.slice a1 xs.length c1, .slice a2 ys.length c2] 35)
  have T1 := trim_any _ ys _ hy' (by omega)
  clear hn hx hy hy'
  obtain ⟨n, hn⟩ : ∃ n, n = xs.length := ⟨_, rfl⟩
  obtain ⟨m, hm⟩ : ∃ m, m = ys.length := ⟨_, rfl⟩
  rw [← hn] at h1 c hx' T1 ⊢
  rw [← hm] at h2 c hx' T1 ⊢
  have HN : Hid (n = xs.length) := hn
  have HM : Hid (m = ys.length) := hm
  clear hn hm
  go_enter Tryd.func26, Tryd.ntmps26
  go_wp2_with fail
  refine c.mono ?_
  rintro e w1 ⟨rfl, hw⟩
  obtain rfl := hw.symm
  clear c
  go_wp2_with fail
  refine T1.mono ?_
  rintro e w1 ⟨dv, rfl, hD, hB1⟩
  have hx1 := hx'.old hB1
  have hB1' : Below w.heap.size w w1 := ((Below.refl _ _).alloc (Nat.le_refl _) _).trans (hB1.mono (by simp))
  have hs1 : w.heap.size + 1 ≤ w1.heap.size := by have := hB1.size; simpa using this
  simp only [World.size_alloc] at hD
  clear T1 hx' hB1
  go_wp2_with fail
  refine (trim_any _ xs _ hx1 (by rw [← HN.out]; omega)).mono ?_
  rintro e w2 ⟨lv, rfl, hL, hB2⟩
  have hD2 := hD.old hB2
  have hB2' := hB1'.trans (hB2.mono (by omega))
  have hs2 := hB2.size
  clear hx1 hB1' hB2
  obtain ⟨gd, cd, rfl, hgd1, hgd2, hcd, hcd2⟩ := hD2.at h0
  have hdl : (trim ys).length ≤ m := by rw [HM.out]; exact trim_length_le ys
  have hdp : 0 < (trim ys).length := List.length_pos_iff.2 h0
  have hgd3 := (hD.lt gd rfl).2
  clear hD
  obtain ⟨d', hd⟩ : ∃ d', d' + 1 = (trim ys).length := ⟨(trim ys).length - 1, by omega⟩
  rw [← hd] at hdl hdp hcd hD2 ⊢
  have HD : Hid (d' + 1 = (trim ys).length) := hd
  clear hd
  by_cases hlv : trim xs = []
  · have HE : Hid (DivOk xs ys [] []) := by
      refine ⟨rfl, rfl, by rw [← HD.out]; exact hdp, Nat.zero_le _, fun i => ?_⟩
      rw [(trim_nil_iff xs).1 hlv i, co_nil, mul_zero_left [] ys co_nil, pl_self]
    rw [hlv] at hL
    obtain ⟨al, cl, rfl, hcl, hcl2⟩ := hL.rd.len
    obtain ⟨i0, hi, hz0, hz1, hz2⟩ := info_parts info8
    have hd0 : ((d' : Int) + 1 == 0) = false := by rw [beq_eq_false_iff_ne]; omega
    have hd1 : (0 : Int) < (d' : Int) + 1 := by omega
    clear hlv hD2
    go_wp2_with (first | (at_make; refine wpList_make_full _ rfl _ _ 35 rfl w2.heap.size 5 i0 (.int .u8 0) 1 Tryd.underlying35 hi hz0 hz1 _ _ _ _ 0 rfl rfl (by simp) (by simp) (by simp) (by unfold maxLen; omega) (Nat.le_refl _) ?_))
    intro w3 hown hgrow
    have hO := Ow.made hown
    have hB3 := below_of_grown hgrow
    have hL3 := hL.old hB3
    have hB3' := hB2'.trans (hB3.mono (by omega))
    have hs3 := hB3.size
    clear hown hgrow hL hB2' hB3
    go_wp2
    refine wp_loop_rounds 1 ?_
    rw [rounds_succ]
    go_wp2_with fail
    refine (trim_any _ [] _ hO.rd (by simp)).mono ?_
    rintro e w4 ⟨vq, rfl, hQ, hB4⟩
    have hL4 := hL3.old hB4
    have hB4' := hB3'.trans (hB4.mono (by omega))
    have hs4 := hB4.size
    clear hL3 hO hB3' hB4
    go_wp2_with fail
    refine (trim_any _ [] _ hL4.rd (by simp)).mono ?_
    rintro e w5 ⟨vr, rfl, hR, hB5⟩
    have hQ5 : Ow w.heap.size w5 vq [] := (hQ.old hB5).mono (B' := w.heap.size) (by omega)
    have hR5 : Ow w.heap.size w5 vr [] := hR.mono (B' := w.heap.size) (by omega)
    have hB5' := hB4'.trans (hB5.mono (by omega))
    clear hQ hR hB5 hB4' hL4
    go_wp2
    exact bodyPost_ret (v := .tuple #[vq, vr, .nilIface]) (by simp [results, Tryd.results26, go_sem]) rfl ⟨_, _, _, _, rfl, HE.out, hQ5, hR5, hB5'⟩
  obtain ⟨gl, cl, rfl, hgl1, hgl2, hcl, hcl2⟩ := hL.at hlv
  have hnl : (trim xs).length ≤ n := by rw [HN.out]; exact trim_length_le xs
  obtain ⟨k0, hk0⟩ : ∃ k0, k0 = (trim xs).length := ⟨_, rfl⟩
  rw [← hk0] at hnl hcl hL ⊢
  have HK0 : Hid (k0 = (trim xs).length) := hk0
  clear hk0
  obtain ⟨i0, hi, hz0, hz1, hz2⟩ := info_parts info8
  have hd0 : ((d' : Int) + 1 == 0) = false := by rw [beq_eq_false_iff_ne]; omega
  go_wp2_with (first | (at_make; refine wpList_make_full _ rfl _ _ 35 rfl w2.heap.size 5 i0 (.int .u8 0) 1 Tryd.underlying35 hi hz0 hz1 _ _ _ _ _ rfl rfl rfl rfl (by rw [hz2]; omega) (by unfold maxLen; omega) (Nat.le_refl _) ?_))
  intro w3 hown hgrow
  have hO := Ow.made hown
  have hB3 := below_of_grown hgrow
  have hL3 := hL.old hB3
  have hD3 := hD2.old hB3
  have hB3' := hB2'.trans (hB3.mono (by omega))
  have hs3 := hB3.size
  clear hown hgrow hL hD2 hB2' hB3
  clear hd0
  go_wp2
  go_loopw [8] (fun s wr => ∃ (k : Nat) (O L : List El), k ≤ k0 ∧ s = .slice (some ⟨gl, 0, none⟩) k cl ∧ Ow w1.heap.size wr (.slice (some ⟨gl, 0, none⟩) k cl) L ∧ Ow w2.heap.size wr (.slice (some ⟨w2.heap.size, 0, none⟩) k0 k0) O ∧ Ow (w.heap.size + 1) wr (.slice (some ⟨gd, 0, none⟩) (d' + 1) cd) (trim ys) ∧ Hid (k = L.length ∧ k0 = O.length ∧ DivInv xs (trim ys) O L) ∧ Below w.heap.size w wr ∧ w2.heap.size < wr.heap.size) (fun s _ => slLen s)
  case atStart => exact ⟨k0, List.replicate k0 0, trim xs, Nat.le_refl _, rfl, hL3, hO, hD3, ⟨HK0.out, by simp, by rw [HK0.out]; exact div_start xs (trim ys)⟩, hB3', by have := (hO.lt _ rfl).2; exact this⟩
  case round =>
    clear hL3 hO hD3 hB3'
    obtain ⟨k, O, L, hk, rfl, hL, hO, hD, HI, hB, hsz⟩ := hrel
    by_cases hge : d' + 1 ≤ k
    · obtain ⟨t, rfl⟩ : ∃ t, k = t + d' + 1 := ⟨k - (d' + 1), by omega⟩
      have hcl := hL.cell HI.out.1 (t + d') (by omega)
      have hcd := hD.cell HD.out d' (by omega)
      have hfo := hO.free HI.out.2.1 t
      have hco := hO.cell HI.out.2.1 t (by omega)
      have hle : (d' : Int) ≤ (t : Int) + (d' : Int) := by omega
      have hsub : (t : Int) + (d' : Int) + 1 - ((d' : Int) + 1) = (t : Int) := by omega
      obtain ⟨x, hxv⟩ : ∃ x : El, x = co L (t + d') := ⟨_, rfl⟩
      obtain ⟨y, hyv⟩ : ∃ y : El, y = co (trim ys) d' := ⟨_, rfl⟩
      rw [← hxv] at hcl
      rw [← hyv] at hcd
      have HX : Hid (x = co L (t + d')) := hxv
      have HY : Hid (y = co (trim ys) d') := hyv
      clear hxv hyv
      have hy0 : y.val ≠ 0 := by
        have := trim_last ys h0
        rw [← HD.out, Nat.add_sub_cancel, ← HY.out] at this
        exact val_ne this
      have HY0 : Hid (y.val ≠ 0) := hy0
      clear hy0
      go_wp2
      go_quiet ((go_at_call 14; exact Calls.quiet_of_same (div_some _ _ x.isLt y.isLt HY0.out _)))
      have hdn : Below wr.heap.size wr (wr.drewN nq) := below_drewN (Below.refl _ _) _
      have hOs := (hO.old hdn).stored HI.out.2.1 t (ti x (iv y))
      have hLs := hL.store_other (nq := nq) (t := t) hO HI.out.2.1 (by simp [Value.ownBlock]; omega) (ti x (iv y))
      have hDs := hD.store_other (nq := nq) (t := t) hO HI.out.2.1 (by simp [Value.ownBlock]; omega) (ti x (iv y))
      have hBs := hB.trans ((hdn.mono hB.size).trans (below_of_grownAt hOs.2 (by have := hB.size; simpa using this) (by omega)))
      have hOs1 := hOs.1
      have N := div_next h0 HI.out.1 HD.out HX.out HY.out HI.out.2.2
      have NL : Hid (t + d' + 1 = L.length) := HI.out.1
      have NO : Hid (k0 = O.length) := HI.out.2.1
      have N1 := N.1
      have N2 : Hid (DivInv xs (trim ys) (O.set t (ti x (iv y))) ((addAt L t (trim ys) (ti x (iv y))).take (trim (addAt L t (trim ys) (ti x (iv y)))).length)) := N.2
      have hszs : w2.heap.size < ((wr.drewN nq).setCell ⟨w2.heap.size, t, none⟩ (.int .u8 (((ti x (iv y)).val : Nat) : Int))).heap.size := by simpa using hsz
      clear hdn hOs N HI hL hO hD hB hsz hcl hcd
      go_wp2_with fail
      clear hco hfo
      refine (addTimes_any w1.heap.size gl t (t + d' + 1) cl (t + d' + 1 - t) (cl - t) L (.slice (some ⟨gd, 0, none⟩) (d' + 1) cd) (trim ys) (ti x (iv y)) _ hDs.rd (fun _ => by simp [Value.ownBlock]; omega) hLs NL.out (by rw [← HD.out]; omega) (by rw [← HD.out]; omega) (by omega)).mono ?_
      rintro e w4 ⟨rfl, hL4, hg4⟩
      have hO4 := hOs1.grown hg4 (by simp [Value.ownBlock]; omega)
      have hD4 := hDs.grown hg4 (by simp [Value.ownBlock]; omega)
      have hB4 := hBs.trans (below_of_grownAt hg4 hBs.size (by omega))
      have hsz4 := Nat.lt_of_lt_of_le hszs hg4.size
      have hS4 := size_any _ _ _ hL4.rd
      obtain ⟨A, hA⟩ : ∃ A, A = addAt L t (trim ys) (ti x (iv y)) := ⟨_, rfl⟩
      have hAl : t + d' + 1 = A.length := by rw [hA, addAt_length]; exact NL.out
      rw [← hA] at N1 N2 hL4 hS4
      have HAL : Hid (t + d' + 1 = A.length) := hAl
      obtain ⟨j, hj⟩ : ∃ j, j = (trim A).length := ⟨_, rfl⟩
      rw [← hj] at N1 N2 hS4
      have HJ : Hid (j = (trim A).length) := hj
      clear hA hAl hj hLs hOs1 hDs hBs hszs hg4
      have hjc : (j : Int) ≤ (cl : Int) := by omega
      go_wp2_with fail
      refine hS4.mono ?_
      rintro e w5 ⟨rfl, hw5⟩
      obtain rfl := hw5.symm
      clear hS4
      have hL5 := hL4.cut (m := j) HAL.out (by omega)
      go_wp2
      go_roundw
      case rel => exact ⟨j, O.set t (ti x (iv y)), A.take j, by omega, rfl, hL5, hO4, hD4, ⟨by rw [List.length_take, ← HAL.out]; omega, by rw [List.length_set]; exact NO.out, N2.out⟩, hB4, hsz4⟩
      case measure => simp [slLen]; omega
    · have hlt : (k : Int) < (d' : Int) + 1 := by omega
      have DO := div_done xs ys O L HI.out.2.2 (by rw [← HI.out.1, ← HD.out]; omega)
      have HE : Hid (DivOk xs ys (trim O) L) := DO
      have hTL : trim L = L := HI.out.2.2.1
      have HTL : Hid (trim L = L) := hTL
      have HKL : Hid (k = L.length) := HI.out.1
      have HKO : Hid (k0 = O.length) := HI.out.2.1
      clear DO hTL HI hD
      go_wp2_with fail
      refine (trim_any _ O _ hO.rd (by rw [← HKO.out]; omega)).mono ?_
      rintro e w4 ⟨vq, rfl, hQ, hB4⟩
      have hL4 := hL.old hB4
      have hB4' := hB.trans (hB4.mono hB.size)
      have hs4 := hB4.size
      have hs0 := hB.size
      clear hL hO hB hB4
      go_wp2_with fail
      refine (trim_any _ L _ hL4.rd (by rw [← HKL.out]; omega)).mono ?_
      rintro e w5 ⟨vr, rfl, hR, hB5⟩
      rw [HTL.out] at hR
      have hQ5 := (hQ.old hB5).mono (B' := w.heap.size) (by omega)
      have hR5 := hR.mono (B' := w.heap.size) (by omega)
      have hB5' := hB4'.trans (hB5.mono (by omega))
      clear hQ hR hB5 hB4' hL4
      go_wp2
      exact bodyPost_ret (v := .tuple #[vq, vr, .nilIface]) (by simp [results, Tryd.results26, go_sem]) rfl ⟨_, _, _, _, rfl, HE.out, hQ5, hR5, hB5'⟩
end Go.Proofs.YtikhjhbohkaajaaDoor
