/- What the document's own DivMod of polynomials answers: by a walk over the program. -/
import Derived.Test.YtikhjhbohkaajaaDoorRefD
namespace Go.Proofs.YtikhjhbohkaajaaDoor
open Go.ChangeShapes Go.WideShapes Go.ChangeAt Go.RowKit El Pol
def sLen : Value → Nat | .slice _ n _ => n | _ => 0
theorem rd_1 (w : World) (c : El) : Rd (w.alloc (.cells #[.int .u8 ((c.val : Nat) : Int)] 5)) (.slice (some ⟨w.heap.size, 0, none⟩) 1 1) [c] := rd_lit w [c] (by simp)
set_option maxRecDepth 100000 in
set_option maxHeartbeats 2000000 in
theorem rdivmod_any (u v : Value) (xs ys : List El) (w : World) (hx : Rd w u xs) (hy : Rd w v ys) (h1 : xs.length ≤ 40) (h2 : ys.length ≤ 40) (h0 : trim ys ≠ []) :
    Calls Tryd.prog 25 #[u, v] w fun e w' => ∃ q r vq vr, e = .returned (.tuple #[vq, vr]) ∧ DivOk xs ys q r ∧ Rd w' vq q ∧ Rd w' vr r ∧ Below w.heap.size w w' := by
  obtain ⟨a1, c1, rfl, _, _⟩ := hx.len
  obtain ⟨a2, c2, rfl, _, _⟩ := hy.len
  obtain ⟨n, hn⟩ : ∃ n, n = xs.length := ⟨_, rfl⟩
  obtain ⟨m, hm⟩ : ∃ m, m = ys.length := ⟨_, rfl⟩
  rw [← hn] at h1 hx ⊢
  rw [← hm] at h2 hy ⊢
  have HN : Hid (n = xs.length) := hn
  have HM : Hid (m = ys.length) := hm
  have H0 : Hid (trim ys ≠ []) := h0
  have hT1 := trim_length_le xs
  have hT2 := trim_length_le ys
  rw [← hn] at hT1
  rw [← hm] at hT2
  clear hn hm h0
  go_enter Tryd.func25, Tryd.ntmps25
  go_wp2_with fail
  refine (rtrim_any _ xs _ hx (by rw [← HN.out]; omega)).mono ?_
  rintro e w1 ⟨av, rfl, hA, hB⟩
  have hyb := hy.old hB
  have hW := hB
  replace hA := hA.rd
  clear hx hy hB
  go_wp2_with fail
  refine (rtrim_any _ ys _ hyb (by rw [← HM.out]; omega)).mono ?_
  rintro e w2 ⟨bv, rfl, hD, hB⟩
  replace hA := hA.old hB
  replace hW := hW.trans (hB.mono hW.size)
  replace hD := hD.rd
  clear hyb hB
  obtain ⟨ab, cb, rfl, _, _⟩ := hD.len
  obtain ⟨d', hd⟩ : ∃ d', d' + 1 = (trim ys).length := ⟨(trim ys).length - 1, by have := List.length_pos_iff.2 H0.out; omega⟩
  rw [← hd] at hD hT2 ⊢
  have HD : Hid (d' + 1 = (trim ys).length) := hd
  clear hd
  obtain ⟨ae, rfl, _⟩ := hD.some 0 (by rw [← HD.out]; omega)
  go_wp2
  go_loopw [0, 6] (fun s q wr => ∃ A Q : List El, Rd wr s A ∧ Rd wr q Q ∧ Rd wr (.slice (some ae) (d' + 1) cb) (trim ys) ∧ Hid (RInv xs (trim ys) Q A) ∧ Below w.heap.size w wr) (fun s _ _ => sLen s)
  case atStart => exact ⟨trim xs, [], hA, .inl ⟨rfl, rfl⟩, hD, rinv_start xs (trim ys), hW⟩
  case round =>
    clear hA hD hW
    obtain ⟨A, Q, hA, hQ, hD, HI, hW⟩ := hrel
    obtain ⟨sa, sc, rfl, hsc, hsc2⟩ := hA.len
    obtain ⟨k, hk⟩ : ∃ k, k = A.length := ⟨_, rfl⟩
    rw [← hk] at hA hsc ⊢
    have HK : Hid (k = A.length) := hk
    have hkl : k ≤ n := by have := HI.out.2.2.1; omega
    have hql : Q.length ≤ 40 := by have := HI.out.2.2.2.1; omega
    have HQL : Hid (Q.length ≤ 40) := hql
    clear hk hql
    by_cases hge : d' + 1 ≤ k
    · obtain ⟨t, rfl⟩ : ∃ t, k = t + d' + 1 := ⟨k - (d' + 1), by omega⟩
      obtain ⟨ad, rfl, d0⟩ := hA.some (t + d') (by rw [← HK.out]; omega)
      obtain ⟨_, hae, d1⟩ := hD.some d' (by rw [← HD.out]; omega)
      obtain rfl := (Option.some.inj hae).symm
      have hle : (d' : Int) ≤ (t : Int) + (d' : Int) := by omega
      have hsub : (t : Int) + (d' : Int) + 1 - ((d' : Int) + 1) = (t : Int) := by omega
      obtain ⟨x, hxv⟩ : ∃ x : El, x = co A (t + d') := ⟨_, rfl⟩
      obtain ⟨y, hyv⟩ : ∃ y : El, y = co (trim ys) d' := ⟨_, rfl⟩
      rw [← hxv] at d0
      rw [← hyv] at d1
      have hy0 : y ≠ 0 := by
        have := trim_last ys H0.out
        rw [← HD.out, Nat.add_sub_cancel, ← hyv] at this
        exact this
      have HY0 : Hid (y ≠ 0) := hy0
      have N := rinv_next H0.out HK.out HD.out hxv hyv HI.out
      have N1 := N.1
      have N2 : Hid (RInv xs (trim ys) (trim (Pol.add Q (row (sf [ti x (iv y)] 1 t) (t + 1)))) (trim (Pol.add A (row (sf (trim ys) (ti x (iv y)) t) (t + (d' + 1)))))) := N.2
      clear hxv hyv hy0 N HI hae
      go_wp2
      go_quiet ((first | (go_at_call 9; exact Calls.quiet_of (invQ y HY0.out _)) | (go_at_call 8; exact Calls.quiet_of (timesQ x (iv y) _))))
      have hdn : Below wr.heap.size wr (wr.drewN nq) := below_drewN (Below.refl _ _) _
      replace hA := hA.old hdn
      replace hQ := hQ.old hdn
      replace hD := hD.old hdn
      replace hW := hW.trans (hdn.mono hW.size)
      clear hdn d0 d1
      generalize wr.drewN nq = W at *
      generalize ti x (iv y) = f at *
      have hal : Below W.heap.size W (W.alloc (.cells #[.int .u8 ((f.val : Nat) : Int)] 5)) := (Below.refl _ _).alloc (Nat.le_refl _) _
      go_wp2_with fail
      refine (rtimes_one _ [f] t _ (rd_1 W f) (by simp) (by omega)).mono ?_
      rintro e w3 ⟨v3, rfl, hS, hB⟩
      replace hB := hal.trans (hB.mono (by simp))
      replace hA := hA.old hB
      replace hQ := hQ.old hB
      replace hD := hD.old hB
      replace hW := hW.trans (hB.mono hW.size)
      replace hS := hS.rd
      clear hB hal
      go_wp2_with fail
      refine (rsum_any _ _ Q _ _ hQ hS (by have := HQL.out; omega) (by rw [row_length]; simp; omega)).mono ?_
      rintro e w4 ⟨v4, rfl, hS4, hB⟩
      replace hA := hA.old hB
      replace hD := hD.old hB
      replace hW := hW.trans (hB.mono hW.size)
      have hQ4 := hS4.rd
      clear hB hS hS4 hQ
      go_wp2_with fail
      refine (rtimes_any _ (trim ys) f t _ hD (by rw [← HD.out]; omega) (by omega)).mono ?_
      rintro e w5 ⟨v5, rfl, hS, hB⟩
      replace hA := hA.old hB
      replace hQ4 := hQ4.old hB
      replace hD := hD.old hB
      replace hW := hW.trans (hB.mono hW.size)
      replace hS := hS.rd
      rw [← HD.out] at hS
      clear hB
      go_wp2_with fail
      refine (rsum_any _ _ A _ _ hA hS (by rw [← HK.out]; omega) (by rw [row_length]; omega)).mono ?_
      rintro e w6 ⟨v6, rfl, hS6, hB⟩
      replace hQ4 := hQ4.old hB
      replace hD := hD.old hB
      replace hW := hW.trans (hB.mono hW.size)
      have hA6 := hS6.rd
      clear hB hS hS6 hA
      have hm6 : sLen v6 < t + d' + 1 := by obtain ⟨a6, c6, rfl, _, _⟩ := hA6.len; exact N1
      clear N1
      go_wp2
      go_roundw
      case rel => exact ⟨_, _, hA6, hQ4, hD, N2.out, hW⟩
      case measure => simpa [sLen] using hm6
    · have hlt : (k : Int) < (d' : Int) + 1 := by omega
      have HE : Hid (DivOk xs ys Q A) := rinv_done HI.out (by rw [← HK.out, ← HD.out]; omega)
      clear HI hD
      go_wp2
      go_ret2
      exact ⟨_, _, _, _, rfl, HE.out, hQ, hA, hW⟩
end Go.Proofs.YtikhjhbohkaajaaDoor
