/- Peers, and who is hurt: walks over the program. -/
import Derived.Test.YtdbanimlnjhhlaaDoorRow2
import Derived.Test.YtdbanimlnjhhlaaDoorPlAc
namespace Go.Proofs.YtdbanimlnjhhlaaDoor
open Go.RowKit
section
variable {w : World} {v : Value} {m : Nat} {L : Nat → Nat} {F : Nat → Nat → Int}
set_option maxRecDepth 100000 in
theorem peers_bad (n d : Int) (hr : RdII w v m L F) (he : stE n m L F ≠ 0) :
    Calls Tryd.prog 10 #[.int .i64 n, v, .int .i64 d] w fun e w' => e = .returned (.tuple #[.slice none 0 0, errV (stE n m L F)]) ∧ Below w.heap.size w w' := by
  have C := pcheck_any n v m L F w hr
  obtain ⟨c, hc⟩ : ∃ c, c = stE n m L F := ⟨_, rfl⟩
  rw [← hc] at C he ⊢
  rw [errV_ne he] at C ⊢
  obtain ⟨rv, hv, _⟩ := hr
  obtain ⟨ao, cap, rfl, _, _⟩ := hv.len
  clear hc hv he
  go_enter Tryd.func10, Tryd.ntmps10
  go_wp2_with fail
  refine C.mono ?_
  rintro e w1 ⟨rfl, hB⟩
  clear C
  go_wp2
  go_ret2
  exact ⟨rfl, hB⟩
set_option maxRecDepth 100000 in
theorem peers_no {n d : Int} (hr : RdII w v m L F) (he : stE n m L F = 0) (hd : noDk n d = true) :
    Calls Tryd.prog 10 #[.int .i64 n, v, .int .i64 d] w fun e w' => e = .returned (.tuple #[.slice none 0 0, errV 1]) ∧ Below w.heap.size w w' := by
  have C := pcheck_any n v m L F w hr
  have D := nodisk_any n d
  rw [hd] at D
  rw [he, errV, if_pos rfl] at C
  rw [errV_ne (by omega)]
  obtain ⟨rv, hv, _⟩ := hr
  obtain ⟨ao, cap, rfl, _, _⟩ := hv.len
  clear hd hv he
  go_enter Tryd.func10, Tryd.ntmps10
  go_wp2_with fail
  refine C.mono ?_
  rintro e w1 ⟨rfl, hB⟩
  clear C
  go_wp2_with fail
  refine (D _).mono ?_
  rintro e w2 ⟨rfl, hw⟩
  obtain rfl := hw.symm
  clear D hw
  go_wp2
  go_ret2
  exact ⟨rfl, hB⟩
set_option maxRecDepth 100000 in
set_option maxHeartbeats 1000000 in
theorem peers_ok {n d : Nat} (hr : RdII w v m L F) (ho : StOk (n : Int) m L F) (hd : d < n) :
    Calls Tryd.prog 10 #[.int .i64 (n : Int), v, .int .i64 (d : Int)] w fun e w' => ∃ g cap, e = .returned (.tuple #[.slice (some ⟨g, 0, none⟩) n cap, .nilIface]) ∧ OwC w.heap.size w' g n cap (prs (hsI L F) m d) ∧ Below w.heap.size w w' := by
  have C := pcheck_any (n : Int) v m L F w hr
  rw [stE_zero.2 ho, errV, if_pos rfl] at C
  have D := nodisk_any (n : Int) (d : Int)
  rw [noDk_false.2 (by omega)] at D
  obtain ⟨j0, hj, hy0, hy1, hy2⟩ := info_parts infoI
  have hn1 := ho.n1
  have hn2 := ho.n2
  have hm := ho.m1
  have HR : Hid (RdII w v m L F) := hr
  have HO : Hid (StOk (n : Int) m L F) := ho
  have hdz : (d : Int) < (n : Int) := by omega
  obtain ⟨ao, cap, rfl, _, _⟩ := hr.len
  clear hr ho
  go_enter Tryd.func10, Tryd.ntmps10
  go_wp2_with fail
  refine C.mono ?_
  rintro e w0 ⟨rfl, hB0⟩
  have hs0 := hB0.size
  clear C
  go_wp2_with fail
  refine (D _).mono ?_
  rintro e w2 ⟨rfl, hw⟩
  obtain rfl := hw.symm
  clear D hw
  go_wp2_with (first | (at_make; refine wpList_make_full _ rfl _ _ 27 rfl w.heap.size 3 j0 (.int .i64 0) 1 Tryd.underlying27 hj hy0 hy1 _ _ _ _ n rfl rfl rfl rfl (by rw [hy2]; omega) (by unfold maxLen; omega) hs0 ?_))
  intro w1 hown hgrow
  obtain ⟨g, hg⟩ : ∃ g, g = w0.heap.size := ⟨_, rfl⟩
  rw [← hg] at hown ⊢
  have HO1 : Hid (OwC w.heap.size w1 g n n (bth (hsI L F) 0 d)) := OwI.made hown
  have HB1 : Hid (Below w.heap.size w w1) := hB0.trans ((below_of_grown hgrow).mono hs0)
  have hgw : w.heap.size ≤ g := by omega
  clear hown hgrow hg hB0 hs0
  go_wp2
  go_loopw [26] (fun t wr => ∃ k : Nat, k ≤ m ∧ t = .int .i64 k ∧ OwC w.heap.size wr g n n (bth (hsI L F) k d) ∧ Below w.heap.size w wr) (fun t _ => m - (intOf t).toNat)
  case atStart => exact ⟨0, Nat.zero_le _, rfl, HO1.out, HB1.out⟩
  case round =>
    clear HO1 HB1
    obtain ⟨k, hk, rfl, hO, hB⟩ := hrel
    by_cases hlt : k < m
    · obtain ⟨ad, _, _, ar, cr, e0, hc, hrk, hap⟩ := row_at HR.out hB hlt
      cases e0
      have T := containsI_any _ _ _ (d : Int) wr hrk
      have A := addTo_any hO hrk (hap g hgw) (HO.out.row k hlt) (fun i => by have := bth_le (hsI L F) k d i; omega)
      have hsz := hB.size
      have HB : Hid (Below w.heap.size w wr) := hB
      have HOk : Hid (OwC w.heap.size wr g n n (bth (hsI L F) k d)) := hO
      have HQ : Hid (hsI L F k d = true → ∀ i, ctd (bth (hsI L F) k d) (L k) (F k) i = bth (hsI L F) (k + 1) d i) := fun e i => (bth_yes e i).symm
      obtain ⟨b, hb⟩ : ∃ b, b = hsI L F k d := ⟨_, rfl⟩
      have HK : Hid (b = hsI L F k d) := hb
      rw [show isIn (L k) (F k) (d : Int) = b from hb.symm] at T
      clear hO hrk hap hB hb
      generalize L k = lk at *
      cases b with
      | true =>
        go_wp2_with fail
        refine T.mono ?_
        rintro e w2 ⟨rfl, hw⟩
        obtain rfl := hw.symm
        clear T hw
        go_wp2_with fail
        refine A.mono ?_
        rintro e w2 ⟨rfl, hO2, hB2⟩
        have HO2 : Hid (OwC w.heap.size w2 g n n (bth (hsI L F) (k + 1) d)) := OwI.congr hO2 (fun i _ => by rw [HQ.out HK.out.symm i])
        have HB2 : Hid (Below w.heap.size w w2) := HB.out.trans (hB2.below hsz (fun q hq => by rw [hq]; exact hgw))
        clear A hO2 hB2 HB hc HK HQ HOk
        go_wp2
        go_roundw
        case rel => exact ⟨k + 1, by omega, by go_num, HO2.out, HB2.out⟩
        case measure => simp [intOf]; omega
      | false =>
        go_wp2_with fail
        refine T.mono ?_
        rintro e w2 ⟨rfl, hw⟩
        obtain rfl := hw.symm
        have HO2 : Hid (OwC w.heap.size wr g n n (bth (hsI L F) (k + 1) d)) := OwI.congr HOk.out (fun i _ => by rw [bth_no HK.out.symm i])
        clear T hw A hc HK HQ HOk
        go_wp2
        go_roundw
        case rel => exact ⟨k + 1, by omega, by go_num, HO2.out, HB.out⟩
        case measure => simp [intOf]; omega
    · obtain rfl : k = m := by omega
      have hc := OwI.cell hO d hd
      have hf := OwI.free hO d
      have hsz := hB.size
      have S := hO.up (d := d) 0 (f' := prs (hsI L F) k d) (prs_up _ _ _)
      have HS : Hid (OwC w.heap.size (wr.setCell ⟨g, d, none⟩ (.int .i64 0)) g n n (prs (hsI L F) k d)) := S.1
      have HB : Hid (Below w.heap.size w (wr.setCell ⟨g, d, none⟩ (.int .i64 0))) := hB.trans (below_of_grownAt S.2 hsz hgw)
      clear S hO hB
      generalize ((bth (hsI L F) k d d : Nat) : Int) = y at hc
      go_wp2
      generalize wr.setCell ⟨g, d, none⟩ (.int .i64 0) = w2 at *
      go_ret2
      exact ⟨g, n, rfl, HS.out, HB.out⟩
set_option maxRecDepth 100000 in
theorem hurt_no {d : Int} (hr : RdII w v m L F) (hd : noDk 10 d = true) :
    Calls Tryd.prog 8 #[v, .int .i64 d] w fun e w' => e = .returned (.tuple #[.slice none 0 0, errV 1]) ∧ Below w.heap.size w w' := by
  have D := nodisk_any 10 d w
  rw [hd] at D
  rw [errV_ne (by omega)]
  obtain ⟨rv, hv, _⟩ := hr
  obtain ⟨ao, cap, rfl, _, _⟩ := hv.len
  clear hd hv
  go_enter Tryd.func8, Tryd.ntmps8
  go_wp2_with fail
  refine D.mono ?_
  rintro e w2 ⟨rfl, hw⟩
  obtain rfl := hw.symm
  clear D hw
  go_wp2
  go_ret2
  exact ⟨rfl, Below.refl _ _⟩
set_option maxRecDepth 100000 in
theorem hurt_bad {d : Int} (hr : RdII w v m L F) (hd : noDk 10 d = false) (he : stE 10 m L F ≠ 0) :
    Calls Tryd.prog 8 #[v, .int .i64 d] w fun e w' => e = .returned (.tuple #[.slice none 0 0, errV (stE 10 m L F)]) ∧ Below w.heap.size w w' := by
  have C := pcheck_any 10 v m L F w hr
  obtain ⟨c, hc⟩ : ∃ c, c = stE 10 m L F := ⟨_, rfl⟩
  rw [← hc] at C he ⊢
  rw [errV_ne he] at C ⊢
  have D := nodisk_any 10 d w
  rw [hd] at D
  obtain ⟨rv, hv, _⟩ := hr
  obtain ⟨ao, cap, rfl, _, _⟩ := hv.len
  clear hd hc hv he
  go_enter Tryd.func8, Tryd.ntmps8
  go_wp2_with fail
  refine D.mono ?_
  rintro e w2 ⟨rfl, hw⟩
  obtain rfl := hw.symm
  clear D hw
  go_wp2_with fail
  refine C.mono ?_
  rintro e w1 ⟨rfl, hB⟩
  clear C
  go_wp2
  go_ret2
  exact ⟨rfl, hB⟩
set_option maxRecDepth 100000 in
set_option maxHeartbeats 1000000 in
theorem hurt_ok {d : Nat} (hr : RdII w v m L F) (ho : StOk 10 m L F) (hd : d < 10) :
    Calls Tryd.prog 8 #[v, .int .i64 (d : Int)] w fun e w' => ∃ r, e = .returned (.tuple #[r, .nilIface]) ∧ OwN w.heap.size w' r (hrt (hsI L F) m d) ∧ Below w.heap.size w w' := by
  have C := pcheck_any 10 v m L F w hr
  rw [stE_zero.2 ho, errV, if_pos rfl] at C
  have D := nodisk_any 10 (d : Int) w
  rw [noDk_false.2 (by omega)] at D
  obtain ⟨j0, hj, hy0, hy1, hy2⟩ := info_parts infoI
  have hm := ho.m1
  have HR : Hid (RdII w v m L F) := hr
  obtain ⟨ao, cap, rfl, _, _⟩ := hr.len
  clear hr ho
  go_enter Tryd.func8, Tryd.ntmps8
  go_wp2_with fail
  refine D.mono ?_
  rintro e w2 ⟨rfl, hw⟩
  obtain rfl := hw.symm
  clear D hw
  go_wp2_with fail
  refine C.mono ?_
  rintro e w0 ⟨rfl, hB0⟩
  clear C
  go_wp2
  go_loopw [7, 20] (fun o t wr => ∃ k : Nat, k ≤ m ∧ t = .int .i64 k ∧ OwN w.heap.size wr o (hrt (hsI L F) k d) ∧ Below w.heap.size w wr) (fun _ t _ => m - (intOf t).toNat)
  case atStart => exact ⟨0, Nat.zero_le _, rfl, World.ownsRow_nil _ _ _ _, hB0⟩
  case round =>
    clear hB0
    obtain ⟨k, hk, rfl, hO, hB⟩ := hrel
    obtain ⟨a1, c1, rfl⟩ := OwN.len hO
    by_cases hlt : k < m
    · obtain ⟨ad, _, _, ar, cr, e0, hc, hrk, _⟩ := row_at HR.out hB hlt
      cases e0
      have T := containsI_any _ _ _ (d : Int) wr hrk
      obtain ⟨b, hb⟩ : ∃ b, b = hsI L F k d := ⟨_, rfl⟩
      rw [show isIn (L k) (F k) (d : Int) = b from hb.symm] at T
      have hle : (hrt (hsI L F) k d).length ≤ k := by rw [hrt_len]; exact lds_le _ _ _
      have HK : Hid (b = hsI L F k d) := hb
      clear hrk hb
      have hsz := hB.size
      cases b with
      | true =>
        have HQ : Hid (hrt (hsI L F) (k + 1) d = hrt (hsI L F) k d ++ [k]) := by (show _ = _); rw [hrt_succ, ← HK.out, if_pos rfl]
        obtain ⟨l, hl⟩ : ∃ l, l = hrt (hsI L F) k d := ⟨_, rfl⟩
        rw [← hl] at hO HQ hle ⊢
        clear hl HK
        have hO : wr.ownsRow w.heap.size 3 1 (.slice a1 l.length c1) l.length (vn l) := hO
        have HQ2 : Hid (∀ (v' : Value) (w' : World), w'.ownsRow w.heap.size 3 1 v' (l.length + 1) (vn l ++ [.int .i64 (k : Int)]) → OwN w.heap.size w' v' (hrt (hsI L F) (k + 1) d)) := by
          intro v' w' h
          unfold OwN
          rw [HQ.out, List.length_append]
          have : vn (l ++ [k]) = vn l ++ [.int .i64 (k : Int)] := by simp [vn]
          rw [this]
          exact h
        have hvl := vn_len l
        clear HQ
        generalize vn l = xs at *
        generalize l.length = n0 at *
        go_wp2_with fail
        refine T.mono ?_
        rintro e w2 ⟨rfl, hw⟩
        obtain rfl := hw.symm
        clear T hw
        go_wp2_with (first | (at_builtin; refine wpList_append_own _ rfl _ _ 27 rfl w.heap.size 3 j0 (.int .i64 0) 1 8 Tryd.underlying27 hj hy0 hy1 hy2 rfl (by decide) _ _ _ rfl (World.ownsRow.alloc hO _) ⟨wr.heap.size, 0, none⟩ 1 1 [.int .i64 (k : Int)] rfl rfl (one_cell _) (by intro u hu; simp at hu; subst hu; rfl) (by unfold maxLen; omega) (by omega) (by simp; omega) ?_))
        intro v' w3 hown hgrow _
        have HO3 : Hid (OwN w.heap.size w3 v' (hrt (hsI L F) (k + 1) d)) := HQ2.out v' w3 hown
        have HB3 : Hid (Below w.heap.size w w3) := (hB.alloc hsz _).grown hgrow (by simp; omega) (fun g hg => (World.ownsRow.lt hO g hg).1)
        clear hown hgrow hO hB HQ2
        go_wp2
        go_roundw
        case rel => exact ⟨k + 1, by omega, by go_num, HO3.out, HB3.out⟩
        case measure => simp [intOf]; omega
      | false =>
        have HQ : Hid (hrt (hsI L F) (k + 1) d = hrt (hsI L F) k d) := by (show _ = _); rw [hrt_succ, ← HK.out, if_neg Bool.false_ne_true, List.append_nil]
        have HO : Hid (OwN w.heap.size wr (.slice a1 (hrt (hsI L F) k d).length c1) (hrt (hsI L F) (k + 1) d)) := by rw [HQ.out]; exact hO
        clear hO HK HQ
        go_wp2_with fail
        refine T.mono ?_
        rintro e w2 ⟨rfl, hw⟩
        obtain rfl := hw.symm
        clear T hw
        go_wp2
        go_roundw
        case rel => exact ⟨k + 1, by omega, by go_num, HO.out, hB⟩
        case measure => simp [intOf]; omega
    · obtain rfl : k = m := by omega
      have HO : Hid (OwN w.heap.size wr (.slice a1 (hrt (hsI L F) k d).length c1) (hrt (hsI L F) k d)) := hO
      clear hO
      generalize (hrt (hsI L F) k d).length = n0 at *
      go_wp2
      go_ret2
      exact ⟨_, rfl, HO.out, hB⟩
end
end Go.Proofs.YtdbanimlnjhhlaaDoor
