/- IntentClean: walks over the program. -/
import Derived.Test.YtacfafbnimhibaaItL
import Derived.Test.YtacfafbnimhibaaItD
import Derived.Test.YtacfafbnimhibaaItE
import Derived.Test.YtacfafbnimhibaaItF
import Derived.Test.YtacfafbnimhibaaReg2
import Derived.Deep.Cut
import Derived.Deep.CutRange
import Derived.BigCall
import Derived.BigGuard
namespace Go.Proofs.Ytacfafbnimhibaa
open Go.RowKit Go.Maps
/-- of those that were dirty the first j were cleaned -/
def Cj (t0 : Itn) (j : Nat) (t : Itn) : Prop := Cz t ∧ t.wide = t0.wide ∧ ∀ r, t.dirty r = (t0.dirty r && !decide (r ∈ t0.list.take j))
theorem list_up (t : Itn) : t.list.Pairwise (· < ·) := List.Pairwise.filter _ List.pairwise_lt_range
theorem Cj.start {t0 : Itn} (h : Cz t0) : Cj t0 0 t0 := ⟨h, rfl, fun r => by simp⟩
theorem Cj.at {t0 t : Itn} {j : Nat} (h0 : Cz t0) (h : Cj t0 j t) (hj : j < t0.list.length) : ∃ r, t0.list.getD j 0 = r ∧ t.cleanB (r : Int) = true ∧ t.cleanE (r : Int) = 0 ∧ Cj t0 (j + 1) (t.clean (r : Int)) := by
  refine ⟨_, rfl, ?_⟩
  have hg : t0.list[j]? = some (t0.list.getD j 0) := by simp [hj]
  generalize t0.list.getD j 0 = r at *
  have hm := Itn.mem_list.1 (List.mem_of_getElem? hg)
  have hlast := h0.1.low r hm.2
  have hnG : ¬ t.noG (r : Int) := by
    unfold Itn.noG Itn.last
    rw [h.2.1]
    unfold Itn.last at hlast
    omega
  have hnot : r ∉ t0.list.take j := fun q => by
    obtain ⟨i, hi, e⟩ := List.getElem_of_mem q
    rw [List.getElem_take] at e
    rw [List.length_take] at hi
    have e2 : t0.list[j] = r := by rw [List.getElem?_eq_getElem hj] at hg; exact Option.some.inj hg
    have := List.pairwise_iff_getElem.1 (list_up t0) i j (by omega) hj (by omega)
    omega
  have hd : t.dirty r = true := by rw [h.2.2, hm.2, decide_eq_false hnot]; rfl
  have hB : t.cleanB (r : Int) = true := by
    unfold Itn.cleanB
    rw [if_neg hnG, Int.toNat_natCast, hd, Cz.idle h.1]
    rfl
  have hE : t.cleanE (r : Int) = 0 := if_neg hnG
  have hc : t.clean (r : Int) = ⟨t.wide, t.many, up t.dirty r false⟩ := by unfold Itn.clean; rw [if_pos hB, Int.toNat_natCast]
  refine ⟨hB, hE, ⟨h.1.1.clean _, by rw [hc]; exact h.1.2⟩, by rw [hc]; exact h.2.1, fun s => ?_⟩
  rw [hc]
  show up t.dirty r false s = _
  have htk : t0.list.take (j + 1) = t0.list.take j ++ [r] := by rw [List.take_add_one, hg]; rfl
  rw [htk]
  by_cases e : s = r
  · subst e; rw [up_at]; simp
  · rw [up_ne _ _ e, h.2.2]
    simp [e]
theorem Cj.all {t0 t : Itn} (h : Cj t0 t0.list.length t) : t.list = [] := by
  unfold Itn.list
  rw [List.filter_eq_nil_iff]
  intro r hr
  rw [h.2.2, List.take_length]
  by_cases hd : t0.dirty r = true
  · have : r ∈ t0.list := Itn.mem_list.2 ⟨List.mem_range.1 hr, hd⟩
    simp [this]
  · simp [hd]
theorem crash_list (t : Itn) : t.crash.list = t.list := rfl
set_option maxRecDepth 1000000 in
set_option maxHeartbeats 4000000 in
theorem clean_ok (wide : Nat) (h1 : 1 ≤ wide) (h2 : wide ≤ 40) (a1 : Option Addr) (n1 c1 : Nat) (f : Nat → Int) (w : World) (r1 : RdF w (.slice a1 n1 c1) n1 (fun i => .int .i64 (f i))) (_hn1 : n1 ≤ 17592186044416) :
    Calls Try.prog 3 #[.int .i64 wide, .slice a1 n1 c1] w fun e w' => e = .returned (.bool true) ∧ Below w.heap.size w w' := by
  have HR : Hid (RdF w (.slice a1 n1 c1) n1 (fun i => .int .i64 (f i))) := r1
  have Nw := inew_ok wide h1 h2 w
  clear r1
  go_enter Try.func3, Try.ntmps3
  go_wp2_with fail
  refine Nw.mono ?_
  rintro e w1 ⟨p, b, rfl, hI, hp, hb, hB⟩
  have HS : Hid (IL w p b (Itn.fresh wide) 0 w1) := ⟨hB, hI, hp, hb⟩
  clear Nw hI hB
  go_wp2
  go_loopw [7] (fun c wr => ∃ (k N : Nat) (t : Itn), k ≤ n1 ∧ k ≤ 60 ∧ c = .int .i64 k ∧ IL w p b t N wr ∧ Cz t ∧ N ≤ 2 * k) (fun c _ => n1 - (intOf c).toNat)
  case atStart => exact ⟨0, 0, _, Nat.zero_le _, Nat.zero_le _, rfl, HS.out, Cz.fresh h1 h2, Nat.le_refl _⟩
  case round =>
    obtain ⟨k, N, t, hk1, hk2, rfl, hS, hZ, hN⟩ := hrel
    have HS1 : Hid (IL w p b t N wr) := hS
    have HZ : Hid (Cz t) := hZ
    clear hS hZ HS
    by_cases hlt : k < n1
    · by_cases hlt2 : k < 60
      · have q1 : (k : Int) < (n1 : Int) := by omega
        have q2 : (k : Int) < 60 := by omega
        obtain ⟨ad, rfl, hc⟩ := (HR.out.old HS1.out.low).at k hlt
        by_cases hno : Itn.noC (f k)
        · have C := ibegin_no wr p t (f k) hno
          have e1 : Itn.beginE (f k) = 1 := if_pos hno
          have e2 : t.beginB (f k) = false := if_pos hno
          rw [e1, e2, errV, if_neg (by omega)] at C
          have hno' : f k < 0 ∨ 40 ≤ f k := hno
          clear e1 e2 hno
          generalize f k = z at *
          go_wp2_with fail
          refine C.mono ?_
          rintro e w2 ⟨rfl, hw⟩
          obtain rfl := hw.symm
          clear C hw
          have HE : Hid (∃ (k' N : Nat) (t : Itn), k' ≤ n1 ∧ k' ≤ 60 ∧ Value.int .i64 ((k : Int) + 1) = .int .i64 k' ∧ (∀ m, IL w p b t N (wr.drewN m)) ∧ Cz t ∧ N ≤ 2 * k' ∧ k' = k + 1) := ⟨k + 1, N, t, by omega, by omega, by go_num, fun m => HS1.out.drewN m, HZ.out, by omega, rfl⟩
          rcases hno' with h0 | h0
          · have d1 : decide (0 ≤ z) = false := decide_eq_false (by omega)
            go_upto_region 8 with fail
            refine region_tail 24 (by kernel_rfl) (by kernel_rfl) ?_
            simp only [List.take_succ_cons, List.take_zero, List.drop_succ_cons, List.drop_zero]
            repeat (go_big_quiet_step (fail))
            refine wpQuiet_nil ?_
            intro w9 hw9
            obtain ⟨nr, rfl⟩ := hw9
            go_wp2
            go_roundw
            case rel => obtain ⟨k', N', t', g1, g2, g3, g4, g5, g6, g7⟩ := HE.out; exact ⟨k', N', t', g1, g2, g3, g4 _, g5, g6⟩
            case measure => simp [intOf]; omega
          · have d1 : decide (0 ≤ z) = true := decide_eq_true (by omega)
            have d2 : decide (z < 40) = false := decide_eq_false (by omega)
            go_upto_region 8 with fail
            refine region_tail 24 (by kernel_rfl) (by kernel_rfl) ?_
            simp only [List.take_succ_cons, List.take_zero, List.drop_succ_cons, List.drop_zero]
            repeat (go_big_quiet_step (fail))
            refine wpQuiet_nil ?_
            intro w9 hw9
            obtain ⟨nr, rfl⟩ := hw9
            go_wp2
            go_roundw
            case rel => obtain ⟨k', N', t', g1, g2, g3, g4, g5, g6, g7⟩ := HE.out; exact ⟨k', N', t', g1, g2, g3, g4 _, g5, g6⟩
            case measure => simp [intOf]; omega
        · obtain ⟨m, hm, hm40⟩ := Itn.noC_nat hno
          rw [hm] at hc
          clear hno
          have C := ibegin_ok HS1.out.int (by omega) m hm40
          have e1 : Itn.beginE m = 0 := if_neg (noC_of hm40)
          rw [e1, errV, if_pos rfl] at C
          have hmz : (m : Int) < 40 := by omega
          have HQ : Hid (Cz ((t.begin' (m : Int)).end' (m : Int)) ∧ (t.begin' (m : Int)).endE (m : Int) = 0) := HZ.out.step hm40
          have HMf : Hid (f k = (m : Int)) := hm
          generalize t.beginB m = tb at *
          clear e1 hm
          go_wp2_with fail
          refine C.mono ?_
          rintro e w2 ⟨rfl, hI2, hb2⟩
          have S2 := HS1.out.on hI2 hb2
          obtain ⟨ad', had, hc2⟩ := (HR.out.old S2.low).at k hlt
          obtain rfl : ad = ad' := by injection had
          rw [HMf.out] at hc2
          have HS2 : Hid (IL w p b (t.begin' (m : Int)) (N + 1) w2) := S2
          have E := fun q : Nat => iend (S2.drewN q).int (by omega) (m : Int)
          rw [HQ.out.2, errV, if_pos rfl] at E
          clear C hI2 hb2 S2 had hc
          have d1 : decide (0 ≤ (m : Int)) = true := decide_eq_true (by omega)
          have d2 : decide ((m : Int) < 40) = true := decide_eq_true (by omega)
          have HE : Hid (∀ w3 (q : Nat), IsI w3 p b ((t.begin' (m : Int)).end' (m : Int)) (N + 1 + 1) → But (IF p b) (w2.drewN q) w3 → ∃ (k' N : Nat) (t : Itn), k' ≤ n1 ∧ k' ≤ 60 ∧ Value.int .i64 ((k : Int) + 1) = .int .i64 k' ∧ IL w p b t N w3 ∧ Cz t ∧ N ≤ 2 * k') :=
            fun w3 q g1 g2 => ⟨k + 1, N + 1 + 1, _, by omega, by omega, by go_num, (HS2.out.drewN q).on g1 g2, HQ.out.1, by omega⟩
          go_upto_region 8 with fail
          refine region_tail 24 (by kernel_rfl) (by kernel_rfl) ?_
          simp only [List.take_succ_cons, List.take_zero, List.drop_succ_cons, List.drop_zero]
          repeat (go_big_quiet_step (fail))
          refine wpQuiet_nil ?_
          intro w9 hw9
          obtain ⟨nr, rfl⟩ := hw9
          have E9 := E nr
          clear E
          go_wp2_with fail
          refine E9.mono ?_
          rintro e w3 ⟨rfl, hI3, hb3⟩
          have HN := HE.out w3 nr hI3 hb3
          have HN' : Hid _ := HN
          clear E9 hI3 hb3 HN
          go_wp2
          go_roundw
          case rel => exact HN'.out
          case measure => simp [intOf]; omega
      · have q1 : (k : Int) < (n1 : Int) := by omega
        have q2 : (60 : Int) ≤ (k : Int) := by omega
        have D0 := idirty HS1.out.int
        have hlen : t.list.length ≤ 40 := Itn.listTo_len t 40
        go_wp2_with fail
        refine D0.mono ?_
        rintro e w2 ⟨v, rfl, hO, hB2⟩
        obtain ⟨ao, co, rfl⟩ := OwN.len hO
        have HO : Hid (RdN w2 (.slice ao t.list.length co) t.list) := hO.rd
        have HS2 : Hid (IL w p b t N w2) := HS1.out.old hB2
        have hsz2 : Hid (w2.heap.size ≤ w2.heap.size) := Nat.le_refl _
        have hlo := hO
        clear D0 hO hB2
        have HL : Hid (∀ g, (Value.slice ao t.list.length co).ownBlock = some g → wr.heap.size ≤ g) := fun g hg => (World.ownsRow.lt hlo g hg).1
        have HPB : Hid (p < wr.heap.size ∧ b < wr.heap.size) := ⟨HS1.out.int.lt, HS1.out.int.ltb⟩
        clear hlo
        go_wp2
        go_loopw [11] (fun c w' => ∃ (j : Nat) (t' : Itn), j ≤ t.list.length ∧ c = .int .i64 j ∧ IL w p b t' N w' ∧ Cj t j t' ∧ RdN w' (.slice ao t.list.length co) t.list) (fun c _ => t.list.length - (intOf c).toNat)
        case atStart => exact ⟨0, t, Nat.zero_le _, rfl, HS2.out, Cj.start HZ.out, HO.out⟩
        case round =>
          obtain ⟨j, t', hj, rfl, hS3, hC3, hR3⟩ := hrel
          have HS3 : Hid (IL w p b t' N _) := hS3
          have HC3 : Hid (Cj t j t') := hC3
          have HR3 : Hid (RdN _ (.slice ao t.list.length co) t.list) := hR3
          clear hS3 hC3
          by_cases hjl : j < t.list.length
          · obtain ⟨rr, hrr, hcB, hcE, hcN⟩ := Cj.at HZ.out HC3.out hjl
            obtain ⟨ad2, rfl, hcell⟩ := hR3.at j hjl
            rw [hrr] at hcell
            have C := iclean HS3.out.int (rr : Int)
            rw [hcB, hcE, errV, if_pos rfl] at C
            have HN : Hid (Cj t (j + 1) (t'.clean (rr : Int))) := hcN
            clear hrr hcB hcE hcN hR3
            generalize hln : t.list.length = ln at *
            have q3 : (j : Int) < (ln : Int) := by omega
            unfold vi at hcell
            go_wp2_with fail
            refine C.mono ?_
            rintro e w4 ⟨rfl, hI4, hb4⟩
            have HS4 : Hid (IL w p b (t'.clean (rr : Int)) N w4) := HS3.out.on hI4 hb4
            have HR4 : Hid (RdN w4 (.slice (some ad2) ln co) t.list) := by
              refine RdF.but HR3.out hb4 (fun g hg q => ?_)
              have := HL.out g hg
              rcases q with rfl | rfl
              · have := HPB.out.1; omega
              · have := HPB.out.2; omega
            clear C hI4 hb4
            have hlnH : Hid (t.list.length = ln) := hln
            clear hln
            go_wp2
            go_roundw
            case rel => exact ⟨j + 1, _, by omega, by go_num, HS4.out, HN.out, HR4.out⟩
            case measure => simp [intOf]; omega
          · have hje : j = t.list.length := by omega
            have hC4 := HC3.out
            rw [hje] at hC4
            have hnil := hC4.all
            have D5 := idirty HS3.out.int
            rw [hnil] at D5
            have hje2 : (t.list.length : Int) ≤ (j : Int) := by omega
            have HNil : Hid (t'.list = []) := hnil
            clear hje hC4 hnil hR3
            generalize t.list.length = ln at *
            go_wp2_with fail
            refine D5.mono ?_
            rintro e w5 ⟨v5, rfl, hO5, hB5⟩
            obtain ⟨ao5, co5, rfl⟩ := OwN.len hO5
            have HS5 : Hid (IL w p b t' N w5) := HS3.out.old hB5
            have K5 := icrash HS5.out.int
            rw [HNil.out] at K5
            clear D5 hO5 hB5
            go_wp2_with fail
            refine K5.mono ?_
            rintro e w6 ⟨v6, rfl, hO6, hI6, hB6⟩
            obtain ⟨ao6, co6, rfl⟩ := OwN.len hO6
            have HS6 : Hid (Below w.heap.size w w6) := (HS5.out.on hI6 hB6).low
            clear K5 hO6 hB6 hI6
            go_wp2
            go_ret
            exact ⟨rfl, HS6.out⟩
    · have q1 : (n1 : Int) ≤ (k : Int) := by omega
      have D0 := idirty HS1.out.int
      have hlen : t.list.length ≤ 40 := Itn.listTo_len t 40
      go_wp2_with fail
      refine D0.mono ?_
      rintro e w2 ⟨v, rfl, hO, hB2⟩
      obtain ⟨ao, co, rfl⟩ := OwN.len hO
      have HO : Hid (RdN w2 (.slice ao t.list.length co) t.list) := hO.rd
      have HS2 : Hid (IL w p b t N w2) := HS1.out.old hB2
      have hsz2 : Hid (w2.heap.size ≤ w2.heap.size) := Nat.le_refl _
      have hlo := hO
      clear D0 hO hB2
      have HL : Hid (∀ g, (Value.slice ao t.list.length co).ownBlock = some g → wr.heap.size ≤ g) := fun g hg => (World.ownsRow.lt hlo g hg).1
      have HPB : Hid (p < wr.heap.size ∧ b < wr.heap.size) := ⟨HS1.out.int.lt, HS1.out.int.ltb⟩
      clear hlo
      go_wp2
      go_loopw [11] (fun c w' => ∃ (j : Nat) (t' : Itn), j ≤ t.list.length ∧ c = .int .i64 j ∧ IL w p b t' N w' ∧ Cj t j t' ∧ RdN w' (.slice ao t.list.length co) t.list) (fun c _ => t.list.length - (intOf c).toNat)
      case atStart => exact ⟨0, t, Nat.zero_le _, rfl, HS2.out, Cj.start HZ.out, HO.out⟩
      case round =>
        obtain ⟨j, t', hj, rfl, hS3, hC3, hR3⟩ := hrel
        have HS3 : Hid (IL w p b t' N _) := hS3
        have HC3 : Hid (Cj t j t') := hC3
        have HR3 : Hid (RdN _ (.slice ao t.list.length co) t.list) := hR3
        clear hS3 hC3
        by_cases hjl : j < t.list.length
        · obtain ⟨rr, hrr, hcB, hcE, hcN⟩ := Cj.at HZ.out HC3.out hjl
          obtain ⟨ad2, rfl, hcell⟩ := hR3.at j hjl
          rw [hrr] at hcell
          have C := iclean HS3.out.int (rr : Int)
          rw [hcB, hcE, errV, if_pos rfl] at C
          have HN : Hid (Cj t (j + 1) (t'.clean (rr : Int))) := hcN
          clear hrr hcB hcE hcN hR3
          generalize hln : t.list.length = ln at *
          have q3 : (j : Int) < (ln : Int) := by omega
          unfold vi at hcell
          go_wp2_with fail
          refine C.mono ?_
          rintro e w4 ⟨rfl, hI4, hb4⟩
          have HS4 : Hid (IL w p b (t'.clean (rr : Int)) N w4) := HS3.out.on hI4 hb4
          have HR4 : Hid (RdN w4 (.slice (some ad2) ln co) t.list) := by
            refine RdF.but HR3.out hb4 (fun g hg q => ?_)
            have := HL.out g hg
            rcases q with rfl | rfl
            · have := HPB.out.1; omega
            · have := HPB.out.2; omega
          clear C hI4 hb4
          have hlnH : Hid (t.list.length = ln) := hln
          clear hln
          go_wp2
          go_roundw
          case rel => exact ⟨j + 1, _, by omega, by go_num, HS4.out, HN.out, HR4.out⟩
          case measure => simp [intOf]; omega
        · have hje : j = t.list.length := by omega
          have hC4 := HC3.out
          rw [hje] at hC4
          have hnil := hC4.all
          have D5 := idirty HS3.out.int
          rw [hnil] at D5
          have hje2 : (t.list.length : Int) ≤ (j : Int) := by omega
          have HNil : Hid (t'.list = []) := hnil
          clear hje hC4 hnil hR3
          generalize t.list.length = ln at *
          go_wp2_with fail
          refine D5.mono ?_
          rintro e w5 ⟨v5, rfl, hO5, hB5⟩
          obtain ⟨ao5, co5, rfl⟩ := OwN.len hO5
          have HS5 : Hid (IL w p b t' N w5) := HS3.out.old hB5
          have K5 := icrash HS5.out.int
          rw [HNil.out] at K5
          clear D5 hO5 hB5
          go_wp2_with fail
          refine K5.mono ?_
          rintro e w6 ⟨v6, rfl, hO6, hI6, hB6⟩
          obtain ⟨ao6, co6, rfl⟩ := OwN.len hO6
          have HS6 : Hid (Below w.heap.size w w6) := (HS5.out.on hI6 hB6).low
          clear K5 hO6 hB6 hI6
          go_wp2
          go_ret
          exact ⟨rfl, HS6.out⟩
set_option maxRecDepth 100000 in
theorem clean_bad (wide : Int) (h : wide < 1 ∨ 40 < wide) (a1 : Option Addr) (n1 c1 : Nat) (w : World) :
    Calls Try.prog 3 #[.int .i64 wide, .slice a1 n1 c1] w fun e w' => e = .returned (.bool true) ∧ Below w.heap.size w w' := by
  have Nw := inew_bad wide h w
  rw [errV, if_neg (by omega)] at Nw
  by_cases h1 : wide < 1
  · go_enter Try.func3, Try.ntmps3
    go_wp2_with fail
    refine Nw.mono ?_
    rintro e w1 ⟨rfl, hw⟩
    obtain rfl := hw.symm
    clear Nw hw
    go_wp2
    go_ret
    exact ⟨rfl, Below.refl _ _⟩
  · have h2 : 40 < wide := by omega
    clear h
    go_enter Try.func3, Try.ntmps3
    go_wp2_with fail
    refine Nw.mono ?_
    rintro e w1 ⟨rfl, hw⟩
    obtain rfl := hw.symm
    clear Nw hw
    go_wp2
    go_ret
    exact ⟨rfl, Below.refl _ _⟩
theorem clean_any (wide : Int) (a1 : Option Addr) (n1 c1 : Nat) (f : Nat → Int) (w : World) (r1 : RdF w (.slice a1 n1 c1) n1 (fun i => .int .i64 (f i))) (_hn1 : n1 ≤ 17592186044416) :
    Calls Try.prog 3 #[.int .i64 wide, .slice a1 n1 c1] w fun e w' => e = .returned (.bool true) ∧ Below w.heap.size w w' := by
  by_cases h : wide < 1 ∨ 40 < wide
  · exact clean_bad wide h a1 n1 c1 w
  · obtain ⟨k, rfl⟩ : ∃ k : Nat, wide = k := ⟨wide.toNat, by omega⟩
    exact clean_ok k (by omega) (by omega) a1 n1 c1 f w r1 _hn1
end Go.Proofs.Ytacfafbnimhibaa
