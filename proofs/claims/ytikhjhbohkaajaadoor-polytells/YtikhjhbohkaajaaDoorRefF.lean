/- What the document's own Through answers of any points of unlike X: by a walk over the program. -/
import Derived.Test.YtikhjhbohkaajaaDoorRefE
import Derived.Test.YtikhjhbohkaajaaDoorPolyH
namespace Go.Proofs.YtikhjhbohkaajaaDoor
open Go.ChangeShapes Go.WideShapes Go.ChangeAt Go.RowKit El Pol
def cnt (i k : Nat) : Nat := if k ≤ i then k + 1 else k
/-- as Lagrange did: Y i at X i, 0 at the first k others -/
def LInv (X Y : Nat → El) (i k : Nat) (p : List El) : Prop := p.length ≤ cnt i k ∧ ev p (X i) = Y i ∧ ∀ j, j < k → j ≠ i → ev p (X j) = 0
theorem ev_one (c x : El) : ev [c] x = c := by show pl c (ti x 0) = c; rw [ti_zero, pl_zero]
theorem ev_two (a b x : El) : ev [a, b] x = pl a (ti x b) := by show pl a (ti x (pl b (ti x 0))) = _; rw [ti_zero, pl_zero]
theorem linv_start (X Y : Nat → El) (i : Nat) : LInv X Y i 0 [Y i] := ⟨by simp [cnt], ev_one _ _, fun j hj => by omega⟩
theorem linv_same {X Y : Nat → El} {i k : Nat} {p : List El} (h : LInv X Y i k p) (hk : k = i) : LInv X Y i (k + 1) p := by
  subst hk
  refine ⟨?_, h.2.1, fun j hj hne => h.2.2 j (by omega) hne⟩
  have := h.1
  unfold cnt at *
  rw [if_pos (Nat.le_refl _)] at this
  rw [if_neg (by omega)]
  exact this
theorem linv_step {X Y : Nat → El} {i k : Nat} {p : List El} (h : LInv X Y i k p) (hne : k ≠ i) (hX : X i ≠ X k) :
    LInv X Y i (k + 1) (trim (Pol.mul p [ti (X k) (iv (pl (X i) (X k))), iv (pl (X i) (X k))])) := by
  have hd : pl (X i) (X k) ≠ 0 := fun e => hX (pl_eq_zero e)
  have ee : ∀ x, ev (trim (Pol.mul p [ti (X k) (iv (pl (X i) (X k))), iv (pl (X i) (X k))])) x = ti (ev p x) (ti (pl (X k) x) (iv (pl (X i) (X k)))) := by
    intro x; rw [ev_trim, ev_mul, ev_two, pl_ti]
  refine ⟨?_, ?_, fun j hj hji => ?_⟩
  · have h1 : (trim (Pol.mul p [ti (X k) (iv (pl (X i) (X k))), iv (pl (X i) (X k))])).length ≤ p.length + 1 :=
      (trim_length_iff _ _).2 (fun m hm => co_mul_len _ _ _ (by simp; omega))
    have h2 : cnt i (k + 1) = cnt i k + 1 := by unfold cnt; split <;> split <;> omega
    have := h.1
    omega
  · rw [ee, pl_comm (X k), ti_iv hd, ti_one, h.2.1]
  · rw [ee]
    by_cases e : j = k
    · rw [e, pl_self, zero_ti, ti_zero]
    · rw [h.2.2 j (by omega) hji, zero_ti]
def OInv (X Y : Nat → El) (n i : Nat) (p : List El) : Prop := trim p = p ∧ p.length ≤ n ∧ ∀ j, j < n → ev p (X j) = if j < i then Y j else 0
theorem oinv_start (X Y : Nat → El) (n : Nat) : OInv X Y n 0 [] := ⟨rfl, Nat.zero_le _, fun j _ => by rw [if_neg (by omega)]; rfl⟩
theorem oinv_step {X Y : Nat → El} {n i : Nat} {o p : List El} (h : OInv X Y n i o) (hi : i < n) (hp : LInv X Y i n p) : OInv X Y n (i + 1) (trim (Pol.add o p)) := by
  have hl : p.length ≤ n := by have := hp.1; unfold cnt at this; rw [if_neg (by omega)] at this; exact this
  refine ⟨trim_trim _, (trim_length_iff _ _).2 (fun m hm => by rw [co_add, co_beyond o m (by have := h.2.1; omega), co_beyond p m (by omega), pl_self]), fun j hj => ?_⟩
  rw [ev_trim, ev_add, h.2.2 j hj]
  by_cases e : j = i
  · subst e; rw [if_neg (by omega), if_pos (by omega), zero_pl, hp.2.1]
  · rw [hp.2.2 j hj e, pl_zero]
    by_cases hlt : j < i
    · rw [if_pos hlt, if_pos (by omega)]
    · rw [if_neg hlt, if_neg (by omega)]
theorem oinv_done {X Y : Nat → El} {n : Nat} {o : List El} (h : OInv X Y n n o) : Through X Y n o := ⟨h.1, h.2.1, fun j hj => by rw [h.2.2 j hj, if_pos hj]⟩
theorem rd_2 (w : World) (a b : El) : Rd (w.alloc (.cells #[.int .u8 ((a.val : Nat) : Int), .int .u8 ((b.val : Nat) : Int)] 5)) (.slice (some ⟨w.heap.size, 0, none⟩) 2 2) [a, b] := rd_lit w [a, b] (by simp)
set_option maxRecDepth 100000 in
set_option maxHeartbeats 2000000 in
theorem rthrough_any (v : Value) (n : Nat) (X Y : Nat → El) (w : World) (hp : RdP w v n X Y) (h : n ≤ 40) (ht : twice X n = false) :
    Calls Tryd.prog 27 #[v] w fun e w' => ∃ p v', e = .returned v' ∧ Through X Y n p ∧ Rd w' v' p ∧ Below w.heap.size w w' := by
  obtain ⟨ao, cap, rfl, _, _⟩ := hp.len
  have HDD : Hid (∀ i j, i < j → j < n → X i ≠ X j) := not_twice ht
  clear ht
  go_enter Tryd.func27, Tryd.ntmps27
  go_wp2
  go_loopw [3, 4] (fun s t wr => ∃ (i : Nat) (o : List El), i ≤ n ∧ t = .int .i64 i ∧ Rd wr s o ∧ RdP wr (.slice ao n cap) n X Y ∧ Hid (OInv X Y n i o) ∧ Below w.heap.size w wr) (fun _ t _ => n - (intOf t).toNat)
  case atStart => exact ⟨0, [], Nat.zero_le _, rfl, .inl ⟨rfl, rfl⟩, hp, oinv_start X Y n, Below.refl _ _⟩
  case round =>
    clear hp
    obtain ⟨i, o, hi, rfl, hO, hp, HI, hW⟩ := hrel
    by_cases hin : i < n
    · obtain ⟨ad, rfl, d0, d1⟩ := hp.some i hin
      rw [add_one] at d1
      obtain ⟨yi, hyi⟩ : ∃ z, z = Y i := ⟨_, rfl⟩
      rw [← hyi] at d1
      have HL0 : Hid (LInv X Y i 0 [yi]) := by rw [hyi]; exact linv_start X Y i
      clear hyi d0
      have hal : Below wr.heap.size wr (wr.alloc (.cells #[.int .u8 ((yi.val : Nat) : Int)] 5)) := (Below.refl _ _).alloc (Nat.le_refl _) _
      have hP := rd_1 wr yi
      have hO1 := hO.old hal
      have hp1 := hp.old hal
      have hW1 := hW.trans (hal.mono hW.size)
      clear hal
      go_wp2
      clear hO hp hW d1
      go_loopw [5, 6] (fun s t wq => ∃ (k : Nat) (p : List El), k ≤ n ∧ t = .int .i64 k ∧ Rd wq s p ∧ Rd wq u3 o ∧ RdP wq (.slice (some ad) n cap) n X Y ∧ Hid (LInv X Y i k p) ∧ Below w.heap.size w wq) (fun _ t _ => n - (intOf t).toNat)
      case atStart => exact ⟨0, [yi], Nat.zero_le _, rfl, hP, hO1, hp1, HL0, hW1⟩
      case round =>
        clear hP hO1 hp1 HL0 hW1
        obtain ⟨k, p, hk, rfl, hP, hO, hp, HL, hW⟩ := hrel
        have hpl : p.length ≤ 41 := by have := HL.out.1; unfold cnt at this; split at this <;> omega
        have HPL : Hid (p.length ≤ 41) := hpl
        clear hpl
        by_cases hkn : k < n
        · by_cases hki : k = i
          · have hki' : ((k : Int) != (i : Int)) = false := by rw [bne_eq_false_iff_eq]; omega
            have HL2 : Hid (LInv X Y i (k + 1) p) := linv_same HL.out hki
            clear hki
            go_wp2
            go_roundw
            case rel => exact ⟨k + 1, p, by omega, by go_num, hP, hO, hp, HL2.out, hW⟩
            case measure => simp [intOf]; omega
          · have hki' : ((k : Int) != (i : Int)) = true := by rw [bne_iff_ne]; omega
            have hX : X i ≠ X k := by
              rcases Nat.lt_or_ge i k with h | h
              · exact HDD.out i k h hkn
              · exact (HDD.out k i (by omega) hin).symm
            obtain ⟨ad1, had, d0, _⟩ := hp.some i hin
            rw [← Option.some.inj had] at d0
            obtain ⟨ad2, had2, d2, _⟩ := hp.some k hkn
            rw [← Option.some.inj had2] at d2
            have HL2 := linv_step HL.out hki hX
            obtain ⟨xi, hxi⟩ : ∃ z, z = X i := ⟨_, rfl⟩
            obtain ⟨xk, hxk⟩ : ∃ z, z = X k := ⟨_, rfl⟩
            rw [← hxi] at d0 HL2 hX
            rw [← hxk] at d2 HL2 hX
            have HL3 : Hid (LInv X Y i (k + 1) (trim (Pol.mul p [ti xk (iv (pl xi xk)), iv (pl xi xk)]))) := HL2
            have HNZ : Hid (pl xi xk ≠ 0) := fun e => hX (pl_eq_zero e)
            clear hxi hxk HL2 hX had had2 hki
            go_wp2
            go_quiet ((first | (go_at_call 6; exact Calls.quiet_of (plusQ xi xk _)) | (go_at_call 9; exact Calls.quiet_of (invQ (pl xi xk) HNZ.out _))))
            have hdn : Below wr.heap.size wr (wr.drewN nq) := below_drewN (Below.refl _ _) _
            have d2' : (wr.drewN nq).cell? (ad.add (k * 2)) = some (.int .u8 ((xk.val : Nat) : Int)) := d2
            replace hP := hP.old hdn
            replace hO := hO.old hdn
            replace hp := hp.old hdn
            replace hW := hW.trans (hdn.mono hW.size)
            clear hdn d0 d2
            generalize wr.drewN nq = W at *
            generalize iv (pl xi xk) = f at *
            go_wp2_with fail
            refine (timesE xk f _).mono ?_
            rintro e w3 ⟨rfl, hB⟩
            replace hP := hP.old hB
            replace hO := hO.old hB
            replace hp := hp.old hB
            replace hW := hW.trans (hB.mono hW.size)
            clear hB d2'
            have hal : Below w3.heap.size w3 (w3.alloc (.cells #[.int .u8 (((ti xk f).val : Nat) : Int), .int .u8 ((f.val : Nat) : Int)] 5)) := (Below.refl _ _).alloc (Nat.le_refl _) _
            go_wp2_with fail
            refine (rproduct_any _ _ p [ti xk f, f] _ (hP.old hal) (rd_2 w3 (ti xk f) f) (by have := HPL.out; omega) (by simp)).mono ?_
            rintro e w4 ⟨v4, rfl, hS, hB⟩
            replace hB := hal.trans (hB.mono (by simp))
            replace hO := hO.old hB
            replace hp := hp.old hB
            replace hW := hW.trans (hB.mono hW.size)
            replace hS := hS.rd
            clear hB hal hP
            go_wp2
            go_roundw
            case rel => exact ⟨k + 1, _, by omega, by go_num, hS, hO, hp, HL3.out, hW⟩
            case measure => simp [intOf]; omega
        · have HO2 : Hid (OInv X Y n (i + 1) (trim (Pol.add o p))) := oinv_step HI.out hin (by have := HL.out; rwa [show k = n by omega] at this)
          have hol : o.length ≤ 40 := by have := HI.out.2.1; omega
          have HOL : Hid (o.length ≤ 40) := hol
          clear hol
          go_wp2_with fail
          refine (rsum_any _ _ o p _ hO hP (by have := HOL.out; omega) (by have := HPL.out; omega)).mono ?_
          rintro e w5 ⟨v5, rfl, hS, hB⟩
          replace hp := hp.old hB
          replace hW := hW.trans (hB.mono hW.size)
          replace hS := hS.rd
          clear hB hO hP
          go_wp2
          go_roundw
          case rel => exact ⟨i + 1, _, by omega, by go_num, hS, hp, HO2.out, hW⟩
          case measure => simp [intOf]; omega
    · have HE : Hid (Through X Y n o) := oinv_done (by have := HI.out; rwa [show i = n by omega] at this)
      clear hp HI
      go_wp2
      go_ret
      exact ⟨_, _, rfl, HE.out, hO, hW⟩
end Go.Proofs.YtikhjhbohkaajaaDoor
