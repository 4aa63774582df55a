/- Texts of plain mathematics, of memory and of walks, in one. -/
import Derived.Test.YtilfjahbdlepjaaDoorPa
import Derived.Test.YtilfjahbdlepjaaDoorAr
import Derived.Test.YtilfjahbdlepjaaDoorPl
/- The parts of a row of which nothing is lost: walks over the program. -/
namespace Go.Proofs.YtilfjahbdlepjaaDoor
open Go.RowKit El Pol Mx Lay
theorem is_gone (b : Bool) (w : World) : Calls Tryd.prog 48 #[.bool b] w fun e w' => e = .returned (.bool b) ∧ w' = w := by
  go_enter Tryd.func48, Tryd.ntmps48
  go_wp2
  go_ret
  exact ⟨rfl, rfl⟩
set_option maxHeartbeats 400000 in
theorem bindex_some (g n cap : Nat) (p : Nat → Bool) (w : World) (hn : n ≤ 1000) (hc : ∀ i, i < n → w.cell? ⟨g, i, none⟩ = some (.bool (p i))) :
    Calls Tryd.prog 63 #[.slice (some ⟨g, 0, none⟩) n cap, .func (.func 48) #[] #[]] w fun e w' => ∃ z, e = .returned (.int .i64 z) ∧ Fst p n z ∧ w' = w := by
  have HC : Hid (∀ i, i < n → w.cell? ⟨g, i, none⟩ = some (.bool (p i))) := hc
  clear hc
  go_enter Tryd.func63, Tryd.ntmps63
  go_wp2
  go_loop [8] (fun t => ∃ k : Nat, k ≤ n ∧ t = .int .i64 k ∧ Hid (∀ i, i < k → p i = false)) (fun t => n - (intOf t).toNat)
  case atStart => exact ⟨0, Nat.zero_le _, rfl, fun i hi => absurd hi (Nat.not_lt_zero _)⟩
  case round =>
    obtain ⟨k, hk, rfl, HF⟩ := hrel
    by_cases hlt : k < n
    · have hck := HC.out k hlt
      have C := is_gone (p k) w
      obtain ⟨b, hb⟩ : ∃ b, b = p k := ⟨_, rfl⟩
      rw [← hb] at C hck
      have HB : Hid (b = p k) := hb
      clear hb
      cases b
      all_goals
        go_wp2_with fail
        refine C.mono ?_
        rintro e w1 ⟨rfl, hw⟩
        obtain rfl := hw.symm
        clear C
        go_wp2
      · go_round
        case rel => exact ⟨k + 1, by omega, by go_num, fun i hi => by
          by_cases e : i = k
          · rw [e]; exact HB.out.symm
          · exact HF.out i (by omega)⟩
        case measure => simp [intOf]; omega
      · go_ret
        exact ⟨_, rfl, .inr ⟨k, hlt, rfl, HB.out.symm⟩, rfl⟩
    · go_wp2
      go_ret
      exact ⟨_, rfl, .inl ⟨rfl, fun i hi => HF.out i (by omega)⟩, rfl⟩
theorem bcontains_some (g n cap : Nat) (p : Nat → Bool) (w : World) (hn : n ≤ 1000) (hc : ∀ i, i < n → w.cell? ⟨g, i, none⟩ = some (.bool (p i))) :
    Calls Tryd.prog 47 #[.slice (some ⟨g, 0, none⟩) n cap, .func (.func 48) #[] #[]] w fun e w' => e = .returned (.bool (anyB p n)) ∧ w' = w := by
  have C := bindex_some g n cap p w hn hc
  clear hc
  go_enter Tryd.func47, Tryd.ntmps47
  go_wp2_with fail
  refine C.mono ?_
  rintro e w1 ⟨z, rfl, hz, hw⟩
  obtain rfl := hw.symm
  have HZ : Hid (decide (0 ≤ z) = anyB p n) := hz.any
  clear C hz
  go_wp2
  go_ret
  exact ⟨by rw [← HZ.out]; rfl, rfl⟩
theorem any_gn (p : Nat → Bool) (n : Nat) : anyB p n = decide (0 < (gn p n).length) := by
  rw [Bool.eq_iff_iff, decide_eq_true_iff, anyB_true, List.length_pos_iff]
  constructor
  · rintro ⟨i, hi, hp⟩ e
    have : i ∈ gn p n := mem_gn.2 ⟨hi, hp⟩
    rw [e] at this
    cases this
  · intro h
    obtain ⟨i, hi⟩ := List.exists_mem_of_ne_nil _ h
    exact ⟨i, mem_gn.1 hi⟩
namespace Arr
/-- what is wrong with a row that is to be looked at -/
def wholeE (a : Arr) (m r : Int) : Nat := if lbad m ≠ 0 ∨ a.noR r then 1 else if m = a.n then (if 0 < a.nl r.toNat then 6 else 0) else 3
theorem any_lo {a : Arr} (h : a.ok) {r : Nat} (hr : r < a.rows) : anyB (a.lo r) a.n = decide (0 < a.nl r) := by rw [any_gn, nl_lo h hr]
end Arr
set_option maxRecDepth 100000 in
set_option maxHeartbeats 1000000 in
theorem whole_bad {w : World} {x : PAd} {a : Arr} {N : Nat} (h : PA w x a N) (ho : a.ok) (m r : Int) (he : a.wholeE m r ≠ 0) :
    Calls Tryd.prog 33 #[.pointer (some ⟨x.p, 0, none⟩), .int .i64 m, .int .i64 r] w fun e w' => e = .returned (.tuple #[.slice none 0 0, errV (a.wholeE m r)]) ∧ Below w.heap.size w w' := by
  have C := lcheck_any m w
  have hn := ho.1
  by_cases h1 : lbad m = 0
  · rw [h1, errV, if_pos rfl] at C
    by_cases h2 : a.noR r
    · have R := pa_raw_bad h r h2
      have e1 : a.wholeE m r = 1 := by unfold Arr.wholeE; rw [if_pos (.inr h2)]
      rw [e1]
      rw [errV, if_neg (by omega)] at R
      rw [errV, if_neg (by omega)]
      clear h ho he h1 h2 e1
      go_enter Tryd.func33, Tryd.ntmps33
      go_wp2_with fail
      refine C.mono ?_
      rintro e w1 ⟨rfl, hw⟩
      obtain rfl := hw.symm
      clear C hw
      go_wp2_with fail
      refine R.mono ?_
      rintro e w1 ⟨rfl, hw⟩
      obtain rfl := hw.symm
      clear R hw
      go_wp2
      go_ret2
      exact ⟨rfl, Below.refl _ _⟩
    · obtain ⟨s, rfl, hs⟩ := Arr.noR_nat h2
      have R := pa_raw h ho s hs
      by_cases h3 : m = a.n
      · have e1 : a.wholeE m (s : Int) = if 0 < a.nl s then 6 else 0 := by unfold Arr.wholeE; rw [if_neg (by rw [h1]; exact fun z => z.elim (fun q => q rfl) h2), if_pos h3, Int.toNat_natCast]
        have h4 : 0 < a.nl s := by
          rw [e1] at he
          split at he
          · assumption
          · exact absurd rfl he
        rw [e1, if_pos h4, errV, if_neg (by omega)]
        have HA : Hid (anyB (a.lo s) a.n = true) := by (show _ = _); rw [Arr.any_lo ho hs, decide_eq_true h4]
        subst h3
        clear h ho he h1 h2 e1 h4
        go_enter Tryd.func33, Tryd.ntmps33
        go_wp2_with fail
        refine C.mono ?_
        rintro e w1 ⟨rfl, hw⟩
        obtain rfl := hw.symm
        clear C hw
        go_wp2_with fail
        refine R.mono ?_
        rintro e w1 ⟨g1, g2, rfl, hR1, hR2, hg, hB1⟩
        have T := bcontains_some g2 a.n a.n (a.lo s) w1 (by omega) (fun i hi => (hR2.2 i hi).1)
        rw [HA.out] at T
        clear R hR1 hR2 hg
        go_wp2_with fail
        refine T.mono ?_
        rintro e w2 ⟨rfl, hw⟩
        obtain rfl := hw.symm
        clear T hw
        go_wp2
        go_ret2
        exact ⟨rfl, hB1⟩
      · have e1 : a.wholeE m (s : Int) = 3 := by unfold Arr.wholeE; rw [if_neg (by rw [h1]; exact fun z => z.elim (fun q => q rfl) h2), if_neg h3]
        rw [e1, errV, if_neg (by omega)]
        have hne : ((a.n : Int) != m) = true := by rw [bne_iff_ne]; exact fun e => h3 e.symm
        clear h ho he h1 h2 e1 h3
        go_enter Tryd.func33, Tryd.ntmps33
        go_wp2_with fail
        refine C.mono ?_
        rintro e w1 ⟨rfl, hw⟩
        obtain rfl := hw.symm
        clear C hw
        go_wp2_with fail
        refine R.mono ?_
        rintro e w1 ⟨g1, g2, rfl, hR1, hR2, hg, hB1⟩
        clear R hR1 hR2 hg
        go_wp2
        go_ret2
        exact ⟨rfl, hB1⟩
  · have h2 : lbad m = 1 := by unfold lbad at h1 ⊢; split at h1 <;> simp_all
    have e1 : a.wholeE m r = 1 := by unfold Arr.wholeE; rw [if_pos (.inl h1)]
    rw [e1]
    rw [h2, errV, if_neg (by omega)] at C
    rw [errV, if_neg (by omega)]
    clear h ho he h1 h2 e1
    go_enter Tryd.func33, Tryd.ntmps33
    go_wp2_with fail
    refine C.mono ?_
    rintro e w1 ⟨rfl, hw⟩
    obtain rfl := hw.symm
    clear C hw
    go_wp2
    go_ret2
    exact ⟨rfl, Below.refl _ _⟩
set_option maxRecDepth 100000 in
set_option maxHeartbeats 1000000 in
theorem whole_ok {w : World} {x : PAd} {a : Arr} {N : Nat} (h : PA w x a N) (ho : a.ok) (s : Nat) (hs : s < a.rows) (h0 : a.nl s = 0) :
    Calls Tryd.prog 33 #[.pointer (some ⟨x.p, 0, none⟩), .int .i64 a.n, .int .i64 s] w fun e w' => ∃ g1, e = .returned (.tuple #[.slice (some ⟨g1, 0, none⟩) a.n a.n, .nilIface]) ∧ RowAt w' g1 a.n (fun i => st (a.part s i)) ∧ w.heap.size ≤ g1 ∧ Below w.heap.size w w' := by
  have C := lcheck_any (a.n : Int) w
  have hn := ho.1
  rw [show lbad (a.n : Int) = 0 from if_neg (by omega), errV, if_pos rfl] at C
  have R := pa_raw h ho s hs
  have HA : Hid (anyB (a.lo s) a.n = false) := by (show _ = _); rw [Arr.any_lo ho hs, decide_eq_false (by omega)]
  clear h ho h0
  go_enter Tryd.func33, Tryd.ntmps33
  go_wp2_with fail
  refine C.mono ?_
  rintro e w1 ⟨rfl, hw⟩
  obtain rfl := hw.symm
  clear C hw
  go_wp2_with fail
  refine R.mono ?_
  rintro e w1 ⟨g1, g2, rfl, hR1, hR2, ⟨hg, _⟩, hB1⟩
  have T := bcontains_some g2 a.n a.n (a.lo s) w1 (by omega) (fun i hi => (hR2.2 i hi).1)
  rw [HA.out] at T
  have HR1 : Hid (RowAt w1 g1 a.n (fun i => st (a.part s i))) := hR1
  clear R hR1 hR2
  go_wp2_with fail
  refine T.mono ?_
  rintro e w2 ⟨rfl, hw⟩
  obtain rfl := hw.symm
  clear T hw
  go_wp2
  go_ret2
  exact ⟨g1, rfl, HR1.out, hg, hB1⟩
end Go.Proofs.YtilfjahbdlepjaaDoor

/- The part of a row that is wrong is mended; a row is looked at: walks over the program. -/
namespace Go.Proofs.YtilfjahbdlepjaaDoor
open Go.RowKit El Pol Mx Lay
set_option maxRecDepth 100000 in
set_option maxHeartbeats 2000000 in
theorem mend_ok {w : World} {x : PAd} {a : Arr} {N : Nat} (h : PA w x a N) (ho : a.ok) (hN : N < 900000) (s : Nat) (hs : s < a.rows) (h0 : a.nl s = 0) (i : Nat) (hi : i < a.n) (g1 : Nat) (h1 : RowAt w g1 a.n (fun i => st (a.part s i))) :
    Calls Tryd.prog 35 #[.pointer (some ⟨x.p, 0, none⟩), .int .i64 s, .slice (some ⟨g1, 0, none⟩) a.n a.n, .int .i64 i] w fun e w' => e = .returned (.tuple #[.int .i64 ((ord a.n s i : Nat) : Int), .nilIface]) ∧
      PA w' x (a.poke ((ord a.n s i : Nat) : Int) (s : Int) (a.heal1 s i i)) (N + 1) ∧ But (x.F a.n) w w' := by
  obtain ⟨hn1, hn2⟩ := ho.1
  have hr2 := ho.2.1.2
  have O := order_ok a.n s hn1 hn2 (by omega) w
  obtain ⟨i0, hi', hz0, hz1, hz2⟩ := info_parts infoB
  obtain ⟨Z, hZ⟩ : ∃ Z, Z = Array.replicate a.n (Value.bool false) := ⟨_, rfl⟩
  have HZ : Hid (Z = Array.replicate a.n (Value.bool false)) := hZ
  have hmk : ∀ W : World, (Instr.makeSlice 30 (.int .i64 (a.n : Int)) (.int .i64 (a.n : Int))).run Tryd.prog W = .ok (.slice (some ⟨W.heap.size, 0, none⟩) a.n a.n) (W.alloc (.cells Z 4)) := fun W => by
    have := run_make (P := Tryd.prog) W 30 4 i0 (.bool false) Tryd.underlying30 hi' hz0 .i64 .i64 (a.n : Int) (a.n : Int) (by omega) (by omega) (by rw [hz2]; omega) (by omega)
    rw [this, hz1, Int.toNat_natCast, Nat.mul_one, hZ]
    simp [Value.cells, made_one]
  have HH : Hid (∀ (w1 : World) (g2 : Nat), RowAt w1 g1 a.n (fun j => st (a.part s j)) → RowAt w1 g2 a.n (fun j => .bool (lost1 i j)) →
      Calls Tryd.prog 37 #[.slice (some ⟨g1, 0, none⟩) a.n a.n, .slice (some ⟨g2, 0, none⟩) a.n a.n] w1 fun e w' => ∃ (gp cp : Nat), e = .returned (.tuple #[.slice (some ⟨gp, 0, none⟩) a.n cp, .nilIface]) ∧ RowAt w' gp a.n (fun j => st (a.heal1 s i j)) ∧ Below w1.heap.size w1 w') := fun w1 g2 h1 h3 => by
    have hk : a.n - 2 + 2 = a.n := by omega
    have r1 := h1.rd (Nat.le_refl _) (by omega)
    have r3 := h3.rd (Nat.le_refl _) (by omega)
    have := pheal_ok (a.n - 2) a.size (by omega) (by omega) (.slice (some ⟨g1, 0, none⟩) a.n a.n) (.slice (some ⟨g2, 0, none⟩) a.n a.n) (a.part s) (lost1 i) w1 (by rw [hk]; exact r1) (by rw [hk]; exact r3) (ix_lost1 i _) (fun _ _ => Arr.part_len ho hs (Arr.lo_none ho h0 _)) ho.2.2.1.2
    refine this.mono fun e w' ⟨v', D, he, hD, hO, hB⟩ => ?_
    rw [hk] at hO
    obtain ⟨gp, cp, rfl, _, _, _, hR⟩ := rowAt_own hO (by omega)
    exact ⟨gp, cp, he, hR.congr (fun j _ => by rw [Arr.heal1_is ho hD j]), hB⟩
  have HPK : Hid (∀ (w5 : World) (m : Nat), PA w5 x a N → Calls Tryd.prog 13 #[.pointer (some ⟨x.p, 0, none⟩), .int .i64 ((ord a.n s i : Nat) : Int), .int .i64 (s : Int), st (a.heal1 s i i)] (w5.drewN m) fun e w' => e = .returned .nilIface ∧ PA w' x (a.poke ((ord a.n s i : Nat) : Int) (s : Int) (a.heal1 s i i)) (N + 1) ∧ But (x.F a.n) w5 w') := fun w5 m hp => by
    have := pa_poke (hp.drewN m) ho hN ((ord a.n s i : Nat) : Int) (s : Int) (a.heal1 s i i)
    rw [(Arr.poke_none hs h0 (ord_lt hn1) (Arr.heal1_len a s i i)).1, errV, if_pos rfl] at this
    exact this.mono fun e w' ⟨h1, h2, h3⟩ => ⟨h1, h2, (But.drewN (But.refl _ _) m).trans h3 (Grows.refl _ _)⟩
  have HP : Hid (PA w x a N) := h
  have HLT : Hid (∀ k, x.F a.n k → k < w.heap.size) := h.lt
  have HR1 : Hid (RowAt w g1 a.n (fun j => st (a.part s j))) := h1
  clear h h1 ho h0 hZ hs
  have hin : (i : Int) < (a.n : Int) := by omega
  generalize a.poke ((ord a.n s i : Nat) : Int) (s : Int) (a.heal1 s i i) = a' at *
  obtain ⟨d, hd⟩ : ∃ d, d = ord a.n s i := ⟨_, rfl⟩
  have HD : Hid (d = ord a.n s i) := hd
  rw [← hd] at HPK ⊢
  clear hd
  go_enter Tryd.func35, Tryd.ntmps35
  go_wp2_with fail
  refine O.mono ?_
  rintro e w1 ⟨v', rfl, hO, hB1⟩
  obtain ⟨g0, cap, rfl, hc1, hc2, hg0, hR0⟩ := rowAt_own hO (by omega)
  have hb2 := al_below w1 (.cells (Array.replicate a.n (Value.bool false)) 4)
  have n2 := RowAt.new w1 a.n (Value.bool false) 4
  have p2 := n2.put i (.bool true)
  have hB12 : Below w1.heap.size w1 ((w1.alloc (.cells (Array.replicate a.n (Value.bool false)) 4)).setCell ⟨w1.heap.size, i, none⟩ (.bool true)) := hb2.setCell (p := ⟨w1.heap.size, i, none⟩) (Nat.le_refl _) _
  have hH := HH.out ((w1.alloc (.cells (Array.replicate a.n (Value.bool false)) 4)).setCell ⟨w1.heap.size, i, none⟩ (.bool true)) w1.heap.size ((HR1.out.old hB1).old hB12) (p2.1.congr (fun j _ => by
    unfold up lost1
    by_cases q : j = i
    · rw [if_pos q, decide_eq_true q]
    · rw [if_neg q, decide_eq_false q]))
  have k2 := (n2.2 i hi)
  dsimp only at k2
  obtain ⟨k2, f2⟩ := k2
  have HB13 : Hid (Below w.heap.size w ((w1.alloc (.cells (Array.replicate a.n (Value.bool false)) 4)).setCell ⟨w1.heap.size, i, none⟩ (.bool true))) := hB1.trans (hB12.mono hB1.size)
  have HR0 : Hid (RowAt ((w1.alloc (.cells (Array.replicate a.n (Value.bool false)) 4)).setCell ⟨w1.heap.size, i, none⟩ (.bool true)) g0 a.n (fun j => vi ((ord a.n s j : Nat) : Int))) := hR0.old hB12
  rw [← HZ.out] at hH k2 f2 HB13 HR0
  clear O hO hb2 n2 p2 hB12 hR0 HH HR1 hB1
  go_upto_region 5 with fail
  generalize w1.alloc (.cells Z 4) = w2 at *
  go_wp2_with fail
  generalize w2.setCell ⟨w1.heap.size, i, none⟩ (.bool true) = w3 at *
  refine hH.mono ?_
  rintro e w4 ⟨gp, cp, rfl, hRp, hB4⟩
  have hB14 := HB13.out.trans (hB4.mono HB13.out.size)
  have hR0 := HR0.out.old hB4
  have kp := (hRp.2 i hi).1
  have k0 := (hR0.2 i hi).1
  dsimp only at kp k0
  rw [← HD.out] at k0
  have P := fun m => HPK.out w4 m (HP.out.old hB14)
  have HK0 : Hid (∀ w5, But (x.F a.n) w4 w5 → w5.cell? ⟨g0, i, none⟩ = some (vi (d : Int))) := fun w5 hb => by rw [HD.out]; exact ((hR0.but hb (fun q => by have := HLT.out g0 q; omega)).2 i hi).1
  have HB14 : Hid (Below w.heap.size w w4) := hB14
  clear hH HB13 HR0 hRp hB4 hR0 HPK HP HZ hmk k2 f2 hB14 HLT
  generalize a.heal1 s i i = t at *
  go_upto_region 9 with fail
  refine region_tail 10 (by kernel_rfl) (by kernel_rfl) ?_
  simp only [List.take_succ_cons, List.take_zero, List.drop_succ_cons, List.drop_zero]
  repeat (go_big_quiet_step (fail))
  refine wpQuiet_nil ?_
  intro w9 hw9
  obtain ⟨nq, rfl⟩ := hw9
  go_wp2_with fail
  refine (P _).mono ?_
  rintro e w5 ⟨rfl, hp5, hb5⟩
  have k5 := HK0.out w5 hb5
  unfold vi at k5
  have HP5 : Hid (PA w5 x a' (N + 1)) := hp5
  have HB5 : Hid (But (x.F a.n) w w5) := (Below.but HB14.out _).trans hb5 (Grows.refl _ _)
  clear P hp5 hb5 HK0 HB14 kp k0
  go_wp2
  go_ret2
  exact ⟨rfl, HP5.out, HB5.out⟩
namespace Arr
/-- a row is looked at: the fault, the answer, and what stands there then -/
noncomputable def rowE (a : Arr) (m r : Int) : Nat := if a.wholeE m r = 0 then a.scrubE r.toNat else a.wholeE m r
noncomputable def rowD (a : Arr) (m r : Int) : Int := if a.wholeE m r = 0 then a.scrubD r.toNat else 0
noncomputable def row' (a : Arr) (m r : Int) : Arr := if a.wholeE m r = 0 then a.scrub r.toNat else a
theorem wholeE_ok {a : Arr} {m r : Int} (h : a.wholeE m r = 0) : m = a.n ∧ ∃ s : Nat, r = s ∧ s < a.rows ∧ a.nl s = 0 := by
  unfold wholeE at h
  split at h
  · omega
  · rename_i q
    obtain ⟨s, rfl, hs⟩ := noR_nat (fun z => q (.inr z))
    split at h
    · rename_i q2
      rw [Int.toNat_natCast] at h
      split at h
      · omega
      · exact ⟨q2, s, rfl, hs, by omega⟩
    · omega
end Arr
set_option maxRecDepth 100000 in
set_option maxHeartbeats 2000000 in
theorem srow_any {w : World} {x : PAd} {a : Arr} {N : Nat} (h : PA w x a N) (ho : a.ok) (hN : N < 900000) (m r : Int) :
    Calls Tryd.prog 14 #[.pointer (some ⟨x.p, 0, none⟩), .int .i64 m, .int .i64 r] w fun e w' => e = .returned (.tuple #[.int .i64 (a.rowD m r), errV (a.rowE m r)]) ∧ PA w' x (a.row' m r) (N + 1) ∧ But (x.F a.n) w w' := by
  by_cases he : a.wholeE m r = 0
  · obtain ⟨rfl, s, rfl, hs, h0⟩ := Arr.wholeE_ok he
    have e1 : a.rowE (a.n : Int) (s : Int) = a.scrubE s := by unfold Arr.rowE; rw [if_pos he, Int.toNat_natCast]
    have e2 : a.rowD (a.n : Int) (s : Int) = a.scrubD s := by unfold Arr.rowD; rw [if_pos he, Int.toNat_natCast]
    have e3 : a.row' (a.n : Int) (s : Int) = a.scrub s := by unfold Arr.row'; rw [if_pos he, Int.toNat_natCast]
    rw [e1, e2, e3]
    have C := whole_ok h ho s hs h0
    have hn := ho.1
    have HL : Hid (∀ (w1 : World) (g1 : Nat), RowAt w1 g1 a.n (fun i => st (a.part s i)) → Calls Tryd.prog 34 #[.slice (some ⟨g1, 0, none⟩) a.n a.n] w1 fun e w' => e = .returned (.tuple #[.int .i64 (a.lz s), errV (a.lf s)]) ∧ Below w1.heap.size w1 w') := fun w1 g1 h1 => by
      have hk : a.n - 2 + 2 = a.n := by omega
      have := plocate_ok (a.n - 2) a.size (by omega) (by omega) (.slice (some ⟨g1, 0, none⟩) a.n a.n) (a.part s) w1 (by rw [hk]; exact h1.rd (Nat.le_refl _) (by omega)) (fun i _ => Arr.part_len ho hs (Arr.lo_none ho h0 _)) ho.2.2.1.2
      refine this.mono fun e w' ⟨z, f, he, hL, hB⟩ => ⟨?_, hB⟩
      obtain ⟨q1, q2⟩ := Arr.l_same ho hL
      rw [he, q1, q2]
    have HP : Hid (PA w x a N) := h
    have HW := Arr.scrub_ways ho s
    have HM : Hid (∀ (w2 : World) (i g1 : Nat), i < a.n → PA w2 x a N → RowAt w2 g1 a.n (fun i => st (a.part s i)) → _) := fun w2 i g1 hi hp h1 => mend_ok hp ho hN s hs h0 i hi g1 h1
    clear h ho e1 e2 e3 he
    rcases HW with ⟨q, _⟩ | ⟨_, ⟨q1, q2⟩, q3, q4, q5⟩ | ⟨_, ⟨q1, q2⟩, q3, q4, q5⟩ | ⟨_, ⟨q1, q2, hli⟩, q3, q4, q5⟩
    · omega
    · rw [q3, q4, q5]
      rw [errV, if_neg (by omega)]
      simp only [q1, q2] at HL
      clear q1 q2 q3 q4 q5 HM
      go_enter Tryd.func14, Tryd.ntmps14
      go_wp2_with fail
      refine C.mono ?_
      rintro e w1 ⟨g1, rfl, hR1, hg, hB1⟩
      have L := HL.out w1 g1 hR1
      rw [errV, if_neg (by omega)] at L
      clear C hR1 HL
      go_wp2_with fail
      refine L.mono ?_
      rintro e w2 ⟨rfl, hB2⟩
      have HB : Hid (Below w.heap.size w w2) := hB1.trans (hB2.mono hB1.size)
      clear L hB1 hB2
      go_wp2
      go_ret2
      exact ⟨rfl, (HP.out.old HB.out).more (by omega), Below.but HB.out _⟩
    · rw [q3, q4, q5]
      rw [errV, if_pos rfl]
      simp only [q1, q2] at HL
      clear q1 q2 q3 q4 q5 HM
      go_enter Tryd.func14, Tryd.ntmps14
      go_wp2_with fail
      refine C.mono ?_
      rintro e w1 ⟨g1, rfl, hR1, hg, hB1⟩
      have L := HL.out w1 g1 hR1
      rw [errV, if_pos rfl] at L
      clear C hR1 HL
      go_wp2_with fail
      refine L.mono ?_
      rintro e w2 ⟨rfl, hB2⟩
      have HB : Hid (Below w.heap.size w w2) := hB1.trans (hB2.mono hB1.size)
      clear L hB1 hB2
      go_wp2
      go_ret2
      exact ⟨rfl, (HP.out.old HB.out).more (by omega), Below.but HB.out _⟩
    · rw [q3, q4, q5]
      rw [errV, if_pos rfl]
      simp only [q1, q2] at HL
      have HM1 := fun (w2 : World) (g1 : Nat) => HM.out w2 (a.li s) g1 hli
      clear q1 q2 q3 q4 q5 HM
      generalize a.poke ((ord a.n s (a.li s) : Nat) : Int) (s : Int) (a.heal1 s (a.li s) (a.li s)) = a' at *
      generalize ord a.n s (a.li s) = d at *
      generalize a.li s = i at *
      have HM : Hid _ := HM1
      have hi1 : ((i : Int) == -1) = false := by rw [beq_eq_false_iff_ne]; omega
      clear HM1
      go_enter Tryd.func14, Tryd.ntmps14
      go_wp2_with fail
      refine C.mono ?_
      rintro e w1 ⟨g1, rfl, hR1, hg, hB1⟩
      have L := HL.out w1 g1 hR1
      rw [errV, if_pos rfl] at L
      have HR1 : Hid (RowAt w1 g1 a.n (fun i => st (a.part s i))) := hR1
      clear C hR1 HL
      go_wp2_with fail
      refine L.mono ?_
      rintro e w2 ⟨rfl, hB2⟩
      have hB := hB1.trans (hB2.mono hB1.size)
      have M := HM.out w2 g1 (HP.out.old hB) (HR1.out.old hB2)
      have HB : Hid (Below w.heap.size w w2) := hB
      clear L hB1 hB2 HM hB HR1
      go_wp2_with fail
      refine M.mono ?_
      rintro e w3 ⟨rfl, hp3, hb3⟩
      have HP3 : Hid (PA w3 x a' (N + 1)) := hp3
      have HB3 : Hid (But (x.F a.n) w w3) := (Below.but HB.out _).trans hb3 (Grows.refl _ _)
      clear M hp3 hb3
      go_wp2
      go_ret2
      exact ⟨rfl, HP3.out, HB3.out⟩
  · have e1 : a.rowE m r = a.wholeE m r := by unfold Arr.rowE; rw [if_neg he]
    have e2 : a.rowD m r = 0 := by unfold Arr.rowD; rw [if_neg he]
    have e3 : a.row' m r = a := by unfold Arr.row'; rw [if_neg he]
    rw [e1, e2, e3]
    have C := whole_bad h ho m r he
    have HP : Hid (PA w x a N) := h
    rw [errV, if_neg he] at C
    rw [errV, if_neg he]
    clear h ho e1 e2 e3 he
    generalize a.wholeE m r = c at *
    go_enter Tryd.func14, Tryd.ntmps14
    go_wp2_with fail
    refine C.mono ?_
    rintro e w1 ⟨rfl, hB1⟩
    have HB : Hid (Below w.heap.size w w1) := hB1
    clear C hB1
    go_wp2
    go_ret2
    exact ⟨rfl, (HP.out.old HB.out).more (by omega), Below.but HB.out _⟩
namespace Arr
theorem row_in {a : Arr} (ho : a.ok) {s : Nat} (hs : s < a.rows) : a.rowD (a.n : Int) (s : Int) = a.scrubD s ∧ a.rowE (a.n : Int) (s : Int) = a.scrubE s ∧ a.row' (a.n : Int) (s : Int) = a.scrub s := by
  have hn := ho.1
  have e : a.wholeE (a.n : Int) (s : Int) = if 0 < a.nl s then 6 else 0 := by
    unfold wholeE
    rw [if_neg (by
      rintro (q | q)
      · exact q (lbad_of (by omega) (by omega))
      · unfold noR at q; omega), if_pos rfl, Int.toNat_natCast]
  unfold rowD rowE row'
  rw [e, Int.toNat_natCast]
  by_cases h : 0 < a.nl s
  · rw [if_pos h, if_neg (by omega), if_neg (by omega), if_neg (by omega)]
    rcases scrub_ways ho s with ⟨_, q1, q2, q3⟩ | ⟨q, _⟩ | ⟨q, _⟩ | ⟨q, _⟩
    · rw [q1, q2, q3]; exact ⟨rfl, rfl, rfl⟩
    · omega
    · omega
    · omega
  · rw [if_neg h, if_pos rfl, if_pos rfl, if_pos rfl]
    exact ⟨rfl, rfl, rfl⟩
end Arr
end Go.Proofs.YtilfjahbdlepjaaDoor
