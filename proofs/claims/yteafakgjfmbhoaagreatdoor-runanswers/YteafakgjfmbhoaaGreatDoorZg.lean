/- Texts of plain mathematics, of memory and of walks, in one. -/
import Derived.Test.YteafakgjfmbhoaaGreatDoorZf
import Derived.Test.YteafakgjfmbhoaaGreatDoorRuj
import Derived.Test.YteafakgjfmbhoaaGreatDoorZe
/- The document's line that scrubs: a walk over it. -/
namespace Go.Proofs.YteafakgjfmbhoaaGreatDoor
open Go.RowKit El Pol Mx Lay
theorem cml_m (t : List El) : cml t = lnM (pcA 32 t 0) ((List.range (t.count 32)).map (fun j => pcA 32 t (j + 1))) := by
  unfold cml
  rw [ctL_pc, List.range_succ_eq_map, List.map_cons, List.map_map, lnM_cmd]
  rfl
/-- so far scrubbed -/
structure ScS (w : World) (x : RAd) (a : Arr) (k : Nat) (wr : World) : Prop where
  ra : RA wr x (a.all k)
  but : But (x.F a.n) w wr
theorem sc_len {a : Arr} (hM : Mill a) : ∀ k, k ≤ 4 → (scO (a.spots k)).length ≤ 4 * k
  | 0, _ => Nat.le_refl _
  | k + 1, h => by
    have ih := sc_len hM k (by omega)
    have hlow := spots_low hM.ok (k + 1)
    unfold Arr.spots at hlow ⊢
    split
    · rename_i q
      rw [if_pos q] at hlow
      have hp := hlow _ (List.mem_append_right _ (List.mem_singleton.2 rfl))
      have h1 := hM.n
      rw [scO_snoc]
      unfold scF
      rw [List.length_append, List.length_append, List.length_cons, dgs_len1 (by omega), dgs_len1 (by omega)]
      split
      · simp; omega
      · simp; omega
    · rw [List.append_nil]; omega
theorem sc_next {a : Arr} {k : Nat} (h : (a.all k).scrubE k = 0 ∧ 0 ≤ (a.all k).scrubD k) : scO (a.spots (k + 1)) = scF (scO (a.spots k)) (((a.all k).scrubD k).toNat, k) := by
  show scO (a.spots k ++ _) = _
  rw [if_pos h, scO_snoc]
theorem sc_stay {a : Arr} {k : Nat} (h : ¬ ((a.all k).scrubE k = 0 ∧ 0 ≤ (a.all k).scrubD k)) : scO (a.spots (k + 1)) = scO (a.spots k) := by
  show scO (a.spots k ++ _) = _
  rw [if_neg h, List.append_nil]
theorem sc_dlow {a : Arr} (hM : Mill a) {k : Nat} (h : (a.all k).scrubE k = 0 ∧ 0 ≤ (a.all k).scrubD k) : ((a.all k).scrubD k).toNat < 5 := by
  have hlow := spots_low hM.ok (k + 1)
  unfold Arr.spots at hlow
  rw [if_pos h] at hlow
  have := (hlow _ (List.mem_append_right _ (List.mem_singleton.2 rfl))).1
  rw [hM.n] at this
  exact this
theorem sb_empty (xs : List El) : ((sb xs).toList == ([] : List UInt8)) = decide (xs = []) := by
  have := sb_same xs []
  rw [show (sb []).toList = [] from sb_list []] at this
  exact this
set_option maxHeartbeats 8000000 in
set_option maxRecDepth 100000 in
theorem dline_scrub {w : World} {x : RAd} {a : Arr} (h : RA w x a) (hM : Mill a) (t : List El) (ht : t.length ≤ 9000) (h0 : pcA 32 t 0 = wScrub) (hc0 : t.count 32 = 0) :
    Calls Tryz.prog 9 #[.pointer (some ⟨x.p, 0, none⟩), st t] w (LnG w x a .scrub) := by
  have C := dcut_any t 32 w (by omega)
  rw [hc0] at C
  have HM : Hid (Mill a) := hM
  have HA : Hid (RA w x a) := h
  have HX : Hid (pcA 32 t 0 = wScrub) := h0
  clear h hM h0 hc0 ht
  unfold st at C ⊢
  generalize hs : sb t = s at *
  go_enter Tryz.func9, Tryz.ntmps9
  go_wp2_with fail
  refine C.mono ?_
  rintro e w1 ⟨u, rfl, hO, hB1⟩
  obtain ⟨g, cap, rfl, hg, hg2, hcap, _⟩ := hO.at (by omega)
  have hc : w1.cell? ⟨g, 0, none⟩ = some (.string ⟨#[115, 99, 114, 117, 98]⟩) := by
    have := OwT.cell hO 0 (by omega)
    rw [HX.out] at this
    exact this
  have HS0 : Hid (ScS w x a 0 w1) := ⟨HA.out.old hB1, Below.but hB1 _⟩
  clear C hO hB1 HA
  go_wp2
  go_loopw [6, 7] (fun o r wr => ∃ k : Nat, k ≤ 4 ∧ r = .int .i64 k ∧ o = .string (sb (scO (a.spots k))) ∧ Hid (ScS w x a k wr)) (fun _ r _ => 4 - (intOf r).toNat)
  case atStart => exact ⟨0, by omega, rfl, rfl, HS0⟩
  case round =>
    clear HS0 hc
    rename World => wr
    obtain ⟨k, hk, rfl, rfl, HS⟩ := hrel
    have hl : (sb (scO (a.spots k))).size ≤ 16 := by
      have := sc_len HM.out k hk
      rw [sb_size]; omega
    by_cases hlt : k < 4
    · have hki : (k : Int) < 4 := by omega
      have hsame := Arr.all_same a k
      have R := ra_scrub HS.out.ra (Arr.all_ok HM.out.ok k) k (by rw [hsame.2.1, HM.out.rows]; exact hlt)
      rw [hsame.1] at R
      have HE : Hid (∀ w2, RA w2 x ((a.all k).scrub k) → But (x.F a.n) wr w2 → ScS w x a (k + 1) w2) := fun w2 q1 q2 => ⟨q1, HS.out.but.trans q2 (Grows.refl _ _)⟩
      have hem := sb_empty (scO (a.spots k))
      by_cases hd : (a.all k).scrubE k = 0 ∧ 0 ≤ (a.all k).scrubD k
      · have HN : Hid (scO (a.spots (k + 1)) = scF (scO (a.spots k)) (((a.all k).scrubD k).toNat, k)) := sc_next hd
        have hlow := sc_dlow HM.out hd
        obtain ⟨d, hdd⟩ : ∃ d : Nat, (a.all k).scrubD k = (d : Int) := ⟨((a.all k).scrubD k).toNat, by omega⟩
        rw [hdd, Int.toNat_natCast] at HN hlow
        rw [hdd, hd.1] at R
        have D1 : Hid (∀ W, Calls Tryz.prog 12 #[.int .i64 (d : Int)] W fun e w' => e = .returned (.string (sb (dgs d))) ∧ w' = W) := fun W => ddig_any d (by omega) W
        have D2 : Hid (∀ W, Calls Tryz.prog 12 #[.int .i64 (k : Int)] W fun e w' => e = .returned (.string (sb (dgs k))) ∧ w' = W) := fun W => ddig_any k (by omega) W
        have z1 : (sb (dgs d)).size = 1 := by rw [sb_size, dgs_len1 (by omega)]
        have z2 : (sb (dgs k)).size = 1 := by rw [sb_size, dgs_len1 (by omega)]
        have HT : Hid (sb (scF (scO (a.spots k)) (d, k)) = (if scO (a.spots k) = [] then sb [] else sb (scO (a.spots k)) ++ (⟨#[32]⟩ : ByteArray)) ++ sb (dgs d) ++ (⟨#[46]⟩ : ByteArray) ++ sb (dgs k)) := by
          (show _ = _)
          unfold scF
          rw [show (⟨#[32]⟩ : ByteArray) = sb [32] from rfl, show (⟨#[46]⟩ : ByteArray) = sb [46] from rfl]
          split
          · rw [sb_append, sb_append, sb_append]; simp
          · rw [sb_append, sb_append, sb_append, sb_append]; simp
        clear hd hdd hlow HS hsame
        generalize sb (dgs d) = s1 at *
        generalize sb (dgs k) = s2 at *
        go_wp2_with fail
        refine R.mono ?_
        rintro e w2 ⟨rfl, hA2, hb2⟩
        have HS2 : Hid (ScS w x a (k + 1) w2) := HE.out w2 hA2 hb2
        clear R hA2 hb2 HE
        by_cases hn : scO (a.spots k) = []
        · rw [decide_eq_true hn] at hem
          have HT2 : Hid (sb (scO (a.spots (k + 1))) = sb (scO (a.spots k)) ++ s1 ++ (⟨#[46]⟩ : ByteArray) ++ s2) := by
            (show _ = _)
            rw [HN.out, HT.out, if_pos hn, hn]
          have E1 := D1.out w2
          have E2 := D2.out w2
          clear HT HN hn D1 D2
          generalize sb (scO (a.spots k)) = s0 at *
          go_wp2_with fail
          refine E1.mono ?_
          rintro e w3 ⟨rfl, rfl⟩
          clear E1
          go_wp2_with fail
          refine E2.mono ?_
          rintro e w3 ⟨rfl, rfl⟩
          clear E2
          go_wp2
          go_roundw
          case rel => exact ⟨k + 1, by omega, by go_num, by rw [HT2.out], HS2⟩
          case measure => simp [intOf]; omega
        · rw [decide_eq_false hn] at hem
          have HT2 : Hid (sb (scO (a.spots (k + 1))) = sb (scO (a.spots k)) ++ (⟨#[32]⟩ : ByteArray) ++ s1 ++ (⟨#[46]⟩ : ByteArray) ++ s2) := by
            (show _ = _)
            rw [HN.out, HT.out, if_neg hn]
          have E1 := D1.out w2
          have E2 := D2.out w2
          clear HT HN hn D1 D2
          generalize sb (scO (a.spots k)) = s0 at *
          go_wp2_with fail
          refine E1.mono ?_
          rintro e w3 ⟨rfl, rfl⟩
          clear E1
          go_wp2_with fail
          refine E2.mono ?_
          rintro e w3 ⟨rfl, rfl⟩
          clear E2
          go_wp2
          go_roundw
          case rel => exact ⟨k + 1, by omega, by go_num, by rw [HT2.out], HS2⟩
          case measure => simp [intOf]; omega
      · have HN : Hid (scO (a.spots (k + 1)) = scO (a.spots k)) := sc_stay hd
        have he2 : ¬ ((a.all k).scrubE k = 0) ∨ (((a.all k).scrubE k = 0) ∧ (a.all k).scrubD k < 0) := by omega
        clear hd HS hsame hem
        generalize (a.all k).scrubE k = E at *
        generalize (a.all k).scrubD k = D at *
        have HSN : Hid (sb (scO (a.spots (k + 1))) = sb (scO (a.spots k))) := congrArg sb HN.out
        clear HN
        generalize sb (scO (a.spots k)) = s0 at *
        rcases he2 with e1 | ⟨e1, e2⟩
        · have ei : ((E : Int) == 0) = false := by rw [beq_eq_false_iff_ne]; omega
          go_wp2_with fail
          refine R.mono ?_
          rintro e w2 ⟨rfl, hA2, hb2⟩
          have HS2 : Hid (ScS w x a (k + 1) w2) := HE.out w2 hA2 hb2
          clear R hA2 hb2 HE
          go_wp2
          go_roundw
          case rel => exact ⟨k + 1, by omega, by go_num, by rw [HSN.out], HS2⟩
          case measure => simp [intOf]; omega
        · subst e1
          go_wp2_with fail
          refine R.mono ?_
          rintro e w2 ⟨rfl, hA2, hb2⟩
          have HS2 : Hid (ScS w x a (k + 1) w2) := HE.out w2 hA2 hb2
          clear R hA2 hb2 HE
          go_wp2
          go_roundw
          case rel => exact ⟨k + 1, by omega, by go_num, by rw [HSN.out], HS2⟩
          case measure => simp [intOf]; omega
    · obtain rfl : k = 4 := by omega
      have hem := sb_empty (scO (a.spots 4))
      by_cases hn : scO (a.spots 4) = []
      · rw [decide_eq_true hn] at hem
        have HV : Hid (st (ans a .scrub) = .string ⟨#[45]⟩) := by
          (show st (scT _) = _)
          unfold scT
          rw [if_pos hn]
          rfl
        clear hn
        generalize sb (scO (a.spots 4)) = s0 at *
        go_wp2
        go_ret
        exact ⟨by rw [HV.out]; rfl, HS.out.ra, HS.out.but⟩
      · rw [decide_eq_false hn] at hem
        have HV : Hid (st (ans a .scrub) = .string (sb (scO (a.spots 4)))) := by
          (show st (scT _) = _)
          unfold scT
          rw [if_neg hn]
        clear hn
        generalize sb (scO (a.spots 4)) = s0 at *
        go_wp2
        go_ret
        exact ⟨by rw [HV.out]; rfl, HS.out.ra, HS.out.but⟩
end Go.Proofs.YteafakgjfmbhoaaGreatDoor

/- Line, a part of it: walks over the program. -/
namespace Go.Proofs.YteafakgjfmbhoaaGreatDoor
open Go.ChangeShapes Go.WideShapes Go.ChangeAt Go.RowKit El Pol Mx Lay
set_option linter.unusedVariables false in
set_option maxRecDepth 1000000 in
set_option maxHeartbeats 8000000 in
theorem dline_rest {w : World} {x : RAd} {a : Arr} (h : RA w x a) (hM : Mill a) (t : List El) (ht : t.length ≤ 9000) (hn : ¬ (pcA 32 t 0 = wScrub ∧ t.count 32 = 0)) :
    Calls Tryz.prog 9 #[.pointer (some ⟨x.p, 0, none⟩), st t] w (LnG w x a (cml t)) := by
  have C := dcut_any t 32 w (by omega)
  have hct := count_le 32 t
  have HX : Hid (cml t = lnM (pcA 32 t 0) ((List.range (t.count 32)).map (fun j => pcA 32 t (j + 1)))) := cml_m t
  have HU : Hid (∀ j w1, Calls Tryz.prog 22 #[.string (sb (pcA 32 t (j + 1)))] w1 fun e w' => e = .returned (.tuple #[.string (sb (uhb (pcA 32 t (j + 1)))), .bool (uhB (pcA 32 t (j + 1)))]) ∧ Below w1.heap.size w1 w') := fun j w1 => dunh_any _ w1
  have HM : Hid (Mill a) := hM
  have HA : Hid (RA w x a) := h
  obtain ⟨W, hW⟩ : ∃ W : Nat → List El, W = fun j => pcA 32 t (j + 1) := ⟨_, rfl⟩
  have HWW : Hid (∀ j, W j = pcA 32 t (j + 1)) := fun j => by rw [hW]
  rw [← hW] at HX
  have HU : Hid (∀ j w1, Calls Tryz.prog 22 #[.string (sb (W j))] w1 fun e w' => e = .returned (.tuple #[.string (sb (uhb (W j))), .bool (uhB (W j))]) ∧ Below w1.heap.size w1 w') := fun j w1 => by
    rw [HWW.out]
    exact HU.out j w1
  obtain ⟨w0, hw0⟩ : ∃ w0, w0 = pcA 32 t 0 := ⟨_, rfl⟩
  have HW0 : Hid (w0 = pcA 32 t 0) := hw0
  rw [← hw0] at hn HX
  obtain ⟨c, hcc⟩ : ∃ c, c = t.count 32 := ⟨_, rfl⟩
  rw [← hcc] at hn HX C hct
  have hc9 : c ≤ 9000 := by omega
  rw [HX.out]
  clear h hM ht hw0 hW hct HX
  unfold st at C ⊢
  generalize hs : sb t = s at *
  clear hs hcc
  go_enter Tryz.func9, Tryz.ntmps9
  refine wp_seq_k fun K hK => ?_
  have HK : Hid _ := hK
  clear hK
  go_wp2
  refine HK.out _ _ ?_
  clear HK K
  refine wp_seq_k fun K hK => ?_
  have HK : Hid _ := hK
  clear hK
  go_wp2_with fail
  refine C.mono ?_
  rintro e w1 ⟨u, rfl, hO, hB1⟩
  obtain ⟨g, cap, rfl, hg, hg2, hcap, hcap2⟩ := hO.at (by omega)
  have HC : Hid (w1.cell? ⟨g, 0, none⟩ = some (.string (sb w0))) := by
    have := OwT.cell hO 0 (by omega)
    rw [HW0.out]
    exact this
  have HWS : Hid (∀ i, i < c → w1.cell? ⟨g, 1 + i, none⟩ = some (.string (sb (W i)))) := fun i hi => by
    have := OwT.cell hO (1 + i) (by omega)
    rw [HWW.out, Nat.add_comm i 1]
    exact this
  have HB1 : Hid (Below w.heap.size w w1) := hB1
  have HA1 : Hid (RA w1 x a) := HA.out.old hB1
  have HG : Hid (g < w1.heap.size) := hg2
  clear C hO hB1 HA hg hg2 HWW HW0
  go_wp2
  refine HK.out _ _ ?_
  clear HK K
  have hc := HC.out
  obtain ⟨cp, rfl⟩ : ∃ cp, cap = cp + 1 := ⟨cap - 1, by omega⟩
  have eS : w0 = wScrub → ¬ c = 0 := fun q1 q2 => hn ⟨q1, q2⟩
  have HNL : Hid (lnM w0 ((List.range c).map W) = if w0 = wWrite ∨ w0 = wPoke then (match ((List.range c).map W).getLast? with | none => .bad | some t => lnQ w0 (uhB t) (uhb t) (nuL ((List.range c).map W).dropLast)) else lnQ w0 true [] (nuL ((List.range c).map W))) := by
    (show _ = _)
    unfold lnM
    rw [if_neg (fun q => eS q.1 (by have := congrArg List.length q.2; simpa using this))]
    rfl
  rw [HNL.out]
  clear HNL hn
  by_cases hwp : w0 = wWrite ∨ w0 = wPoke
  · rw [if_pos hwp]
    have hsc : ((sb w0).toList == ([115, 99, 114, 117, 98] : List UInt8)) = false := wd_ne (v := wScrub) (by rcases hwp with rfl | rfl <;> decide) rfl
    by_cases c0 : c = 0
    · subst c0
      rw [show ((List.range 0).map W).getLast? = none from rfl]
      show Code.wp _ _ (bodyPost _ _ (LnG w x a .bad)) _ _
      have HZ : Hid (st (ans a .bad) = .string ⟨#[98, 97, 100]⟩) := rfl
      clear HU HWS eS
      rcases hwp with q | q
      · subst q
        replace hc : w1.cell? ⟨g, 0, none⟩ = some (.string ⟨#[119, 114, 105, 116, 101]⟩) := hc
        by_cases hcp : cp = 0
        · subst hcp
          go_wp2
          go_ret
          exact ⟨by rw [HZ.out]; rfl, HA1.out, Below.but HB1.out _⟩
        · have hcp1 : 1 < cp + 1 := by omega
          go_wp2
          go_ret
          exact ⟨by rw [HZ.out]; rfl, HA1.out, Below.but HB1.out _⟩
      · subst q
        replace hc : w1.cell? ⟨g, 0, none⟩ = some (.string ⟨#[112, 111, 107, 101]⟩) := hc
        by_cases hcp : cp = 0
        · subst hcp
          go_wp2
          go_ret
          exact ⟨by rw [HZ.out]; rfl, HA1.out, Below.but HB1.out _⟩
        · have hcp1 : 1 < cp + 1 := by omega
          go_wp2
          go_ret
          exact ⟨by rw [HZ.out]; rfl, HA1.out, Below.but HB1.out _⟩
    · obtain ⟨q, rfl⟩ : ∃ q, c = q + 1 := ⟨c - 1, by omega⟩
      have hcp1 : 1 < cp + 1 := by omega
      have hcp2 : q + 1 ≤ cp := by omega
      rw [show ((List.range (q + 1)).map W).getLast? = some (W q) by rw [List.range_succ, List.map_append]; simp]
      rw [show ((List.range (q + 1)).map W).dropLast = (List.range q).map W by rw [List.range_succ, List.map_append]; simp]
      show Code.wp _ _ (bodyPost _ _ (LnG w x a (lnQ w0 (uhB (W q)) (uhb (W q)) (nuL ((List.range q).map W))))) _ _
      have hq1 : w1.cell? ⟨g, 1 + q, none⟩ = some (.string (sb (W q))) := HWS.out q (by omega)
      have HU1 := HU.out q w1
      have HWS2 : Hid (∀ i, i < q → w1.cell? ⟨g, 1 + i, none⟩ = some (.string (sb (W i)))) := fun i hi => HWS.out i (by omega)
      have hwpp : ((sb w0).toList == ([119, 114, 105, 116, 101] : List UInt8)) = true ∨ (((sb w0).toList == ([119, 114, 105, 116, 101] : List UInt8)) = false ∧ ((sb w0).toList == ([112, 111, 107, 101] : List UInt8)) = true) := by
        rcases hwp with rfl | rfl
        · left; rw [sb_list]; decide
        · right; rw [sb_list]; decide
      clear HU HWS eS hwp c0
      generalize hz : sb (W q) = tq at *
      clear hz
      obtain ⟨is, his⟩ : ∃ is, is = uhB (W q) := ⟨_, rfl⟩
      rw [← his] at HU1 ⊢
      clear his
      obtain ⟨b, hb⟩ : ∃ b, b = uhb (W q) := ⟨_, rfl⟩
      rw [← hb] at HU1 ⊢
      clear hb
      obtain ⟨t0, ht0⟩ : ∃ t0, t0 = sb w0 := ⟨_, rfl⟩
      have HT0 : Hid (t0 = sb w0) := ht0
      rw [← ht0] at hsc hwpp hc
      clear ht0
      refine wp_seq_k fun K hK => ?_
      have HK : Hid _ := hK
      clear hK
      go_wp2
      refine HK.out _ _ ?_
      clear HK K
      refine wp_seq_k fun K hK => ?_
      have HK : Hid _ := hK
      clear hK
      go_wp2
      refine HK.out _ _ ?_
      clear HK K
      refine wp_seq_k fun K hK => ?_
      have HK : Hid _ := hK
      clear hK
      go_wp2
      refine HK.out _ _ ?_
      clear HK K
      refine wp_seq_k fun K hK => ?_
      have HK : Hid _ := hK
      clear hK
      go_wp2
      refine HK.out _ _ ?_
      clear HK K
      rcases hwpp with e1 | ⟨e1, e2⟩
      · refine wp_seq_k fun K hK => ?_
        have HK : Hid _ := hK
        clear hK
        go_wp2_with fail
        refine HU1.mono ?_
        rintro e w2 ⟨rfl, hB2⟩
        have HB2 : Hid (Below w.heap.size w w2) := HB1.out.trans (hB2.mono HB1.out.size)
        have HA2 : Hid (RA w2 x a) := HA1.out.old hB2
        have HC2 : Hid (w2.cell? ⟨g, 0, none⟩ = some (.string (sb w0))) := (hB2.cell HG.out).trans HC.out
        have HWS3 : Hid (∀ i, i < q → w2.cell? ⟨g, 1 + i, none⟩ = some (.string (sb (W i)))) := fun i hi => (hB2.cell HG.out).trans (HWS2.out i hi)
        have HG2 : Hid (g < w2.heap.size) := Nat.lt_of_lt_of_le HG.out hB2.size
        clear HU1 hB2 HWS2 HC HA1 HB1 HG hc hq1
        go_wp2
        refine HK.out _ _ ?_
        exact lnB x a g (q + 1 + 1) (cp + 1) s w0 w W q cp 1 b is _ _ _ _ _ _ _ _ _ _ _ _ _ _ _ _ _ _ _ _ _ _ _ _ _ _ _ _ _ _ _ _ _ _ _ _ _ _ _ _ _ _ _ _ _ _ _ _ _ _ _ _ _ _ _ _ _ _ _ _ _ _ _ _ _ _ _ _ _ _ _ _ _ _ _ _ _ _ _ _ _ _ _ _ _ _ _ _ _ _ _ _ _ _ _ _ _ _ _ _ _ _ _ _ _ _ _ _ _ _ _ _ _ _ _ _ _ _ _ _ _ _ _ _ _ _ _ _ _ _ _ _ _ _ _ _ _ _ _ _ _ _ _ _ _ _ _ _ _ _ _ _ _ _ _ _ _ _ _ _ _ _ _ _ _ _ _ _ _ _ _ _ _ _ _ _ _ _ _ _ _ _ _ _ _ _ _ _ _ _ _ _ _ _ _ _ _ _ _ _ _ _ _ _ _ _ _ HA2 HM HB2 (by omega) HC2 HG2 HWS3 (by omega) (by omega) hcap
      · refine wp_seq_k fun K hK => ?_
        have HK : Hid _ := hK
        clear hK
        go_wp2_with fail
        refine HU1.mono ?_
        rintro e w2 ⟨rfl, hB2⟩
        have HB2 : Hid (Below w.heap.size w w2) := HB1.out.trans (hB2.mono HB1.out.size)
        have HA2 : Hid (RA w2 x a) := HA1.out.old hB2
        have HC2 : Hid (w2.cell? ⟨g, 0, none⟩ = some (.string (sb w0))) := (hB2.cell HG.out).trans HC.out
        have HWS3 : Hid (∀ i, i < q → w2.cell? ⟨g, 1 + i, none⟩ = some (.string (sb (W i)))) := fun i hi => (hB2.cell HG.out).trans (HWS2.out i hi)
        have HG2 : Hid (g < w2.heap.size) := Nat.lt_of_lt_of_le HG.out hB2.size
        clear HU1 hB2 HWS2 HC HA1 HB1 HG hc hq1
        go_wp2
        refine HK.out _ _ ?_
        exact lnB x a g (q + 1 + 1) (cp + 1) s w0 w W q cp 1 b is _ _ _ _ _ _ _ _ _ _ _ _ _ _ _ _ _ _ _ _ _ _ _ _ _ _ _ _ _ _ _ _ _ _ _ _ _ _ _ _ _ _ _ _ _ _ _ _ _ _ _ _ _ _ _ _ _ _ _ _ _ _ _ _ _ _ _ _ _ _ _ _ _ _ _ _ _ _ _ _ _ _ _ _ _ _ _ _ _ _ _ _ _ _ _ _ _ _ _ _ _ _ _ _ _ _ _ _ _ _ _ _ _ _ _ _ _ _ _ _ _ _ _ _ _ _ _ _ _ _ _ _ _ _ _ _ _ _ _ _ _ _ _ _ _ _ _ _ _ _ _ _ _ _ _ _ _ _ _ _ _ _ _ _ _ _ _ _ _ _ _ _ _ _ _ _ _ _ _ _ _ _ _ _ _ _ _ _ _ _ _ _ _ _ _ _ _ _ _ _ _ _ _ _ _ _ _ HA2 HM HB2 (by omega) HC2 HG2 HWS3 (by omega) (by omega) hcap
  · rw [if_neg hwp]
    have eW : ((sb w0).toList == ([119, 114, 105, 116, 101] : List UInt8)) = false := wd_ne (v := wWrite) (fun e => hwp (.inl e)) rfl
    have eP : ((sb w0).toList == ([112, 111, 107, 101] : List UInt8)) = false := wd_ne (v := wPoke) (fun e => hwp (.inr e)) rfl
    clear HU
    have hsc : (((sb w0).toList == ([115, 99, 114, 117, 98] : List UInt8)) = false) ∨ (((sb w0).toList == ([115, 99, 114, 117, 98] : List UInt8)) = true ∧ ((c : Int) == 0) = false ∧ (((c : Int) + 1) == 1) = false) := by
      by_cases e : w0 = wScrub
      · refine .inr ⟨by rw [e, sb_list]; decide, by have := eS e; rw [beq_eq_false_iff_ne]; omega, by have := eS e; rw [beq_eq_false_iff_ne]; omega⟩
      · exact .inl (wd_ne (v := wScrub) e rfl)
    clear eS hwp
    obtain ⟨t0, ht0⟩ : ∃ t0, t0 = sb w0 := ⟨_, rfl⟩
    have HT0 : Hid (t0 = sb w0) := ht0
    rw [← ht0] at eW eP hsc hc
    clear ht0
    by_cases hcp : cp = 0
    · obtain rfl : c = 0 := by omega
      subst hcp
      rcases hsc with e1 | ⟨e1, e2, e3⟩
      · refine wp_seq_k fun K hK => ?_
        have HK : Hid _ := hK
        clear hK
        go_wp2
        refine HK.out _ _ ?_
        clear HK K
        refine wp_seq_k fun K hK => ?_
        have HK : Hid _ := hK
        clear hK
        go_wp2
        refine HK.out _ _ ?_
        clear HK K
        refine wp_seq_k fun K hK => ?_
        have HK : Hid _ := hK
        clear hK
        go_wp2
        refine HK.out _ _ ?_
        clear HK K
        refine wp_seq_k fun K hK => ?_
        have HK : Hid _ := hK
        clear hK
        go_wp2
        refine HK.out _ _ ?_
        clear HK K
        refine wp_seq_k fun K hK => ?_
        have HK : Hid _ := hK
        clear hK
        go_wp2
        refine HK.out _ _ ?_
        clear HK K
        exact lnB x a g (0 + 1) (0 + 1) s w0 w W 0 0 0 [] true _ _ _ _ _ _ _ _ _ _ _ _ _ _ _ _ _ _ _ _ _ _ _ _ _ _ _ _ _ _ _ _ _ _ _ _ _ _ _ _ _ _ _ _ _ _ _ _ _ _ _ _ _ _ _ _ _ _ _ _ _ _ _ _ _ _ _ _ _ _ _ _ _ _ _ _ _ _ _ _ _ _ _ _ _ _ _ _ _ _ _ _ _ _ _ _ _ _ _ _ _ _ _ _ _ _ _ _ _ _ _ _ _ _ _ _ _ _ _ _ _ _ _ _ _ _ _ _ _ _ _ _ _ _ _ _ _ _ _ _ _ _ _ _ _ _ _ _ _ _ _ _ _ _ _ _ _ _ _ _ _ _ _ _ _ _ _ _ _ _ _ _ _ _ _ _ _ _ _ _ _ _ _ _ _ _ _ _ _ _ _ _ _ _ _ _ _ _ _ _ _ _ _ _ _ _ _ HA1 HM HB1 (by omega) HC HG (fun i hi => absurd hi (Nat.not_lt_zero _)) (by omega) (by omega) hcap
      · exact absurd e2 (by decide)
    · have hcp1 : 1 < cp + 1 := by omega
      rcases hsc with e1 | ⟨e1, e2, e3⟩
      · refine wp_seq_k fun K hK => ?_
        have HK : Hid _ := hK
        clear hK
        go_wp2
        refine HK.out _ _ ?_
        clear HK K
        refine wp_seq_k fun K hK => ?_
        have HK : Hid _ := hK
        clear hK
        go_wp2
        refine HK.out _ _ ?_
        clear HK K
        refine wp_seq_k fun K hK => ?_
        have HK : Hid _ := hK
        clear hK
        go_wp2
        refine HK.out _ _ ?_
        clear HK K
        refine wp_seq_k fun K hK => ?_
        have HK : Hid _ := hK
        clear hK
        go_wp2
        refine HK.out _ _ ?_
        clear HK K
        refine wp_seq_k fun K hK => ?_
        have HK : Hid _ := hK
        clear hK
        go_wp2
        refine HK.out _ _ ?_
        clear HK K
        exact lnB x a g (c + 1) (cp + 1) s w0 w W c cp 1 [] true _ _ _ _ _ _ _ _ _ _ _ _ _ _ _ _ _ _ _ _ _ _ _ _ _ _ _ _ _ _ _ _ _ _ _ _ _ _ _ _ _ _ _ _ _ _ _ _ _ _ _ _ _ _ _ _ _ _ _ _ _ _ _ _ _ _ _ _ _ _ _ _ _ _ _ _ _ _ _ _ _ _ _ _ _ _ _ _ _ _ _ _ _ _ _ _ _ _ _ _ _ _ _ _ _ _ _ _ _ _ _ _ _ _ _ _ _ _ _ _ _ _ _ _ _ _ _ _ _ _ _ _ _ _ _ _ _ _ _ _ _ _ _ _ _ _ _ _ _ _ _ _ _ _ _ _ _ _ _ _ _ _ _ _ _ _ _ _ _ _ _ _ _ _ _ _ _ _ _ _ _ _ _ _ _ _ _ _ _ _ _ _ _ _ _ _ _ _ _ _ _ _ _ _ _ _ _ HA1 HM HB1 (by omega) HC HG HWS (by omega) (by omega) hcap
      · refine wp_seq_k fun K hK => ?_
        have HK : Hid _ := hK
        clear hK
        go_wp2
        refine HK.out _ _ ?_
        clear HK K
        refine wp_seq_k fun K hK => ?_
        have HK : Hid _ := hK
        clear hK
        go_wp2
        refine HK.out _ _ ?_
        clear HK K
        refine wp_seq_k fun K hK => ?_
        have HK : Hid _ := hK
        clear hK
        go_wp2
        refine HK.out _ _ ?_
        clear HK K
        refine wp_seq_k fun K hK => ?_
        have HK : Hid _ := hK
        clear hK
        go_wp2
        refine HK.out _ _ ?_
        clear HK K
        refine wp_seq_k fun K hK => ?_
        have HK : Hid _ := hK
        clear hK
        go_wp2
        refine HK.out _ _ ?_
        clear HK K
        exact lnB x a g (c + 1) (cp + 1) s w0 w W c cp 1 [] true _ _ _ _ _ _ _ _ _ _ _ _ _ _ _ _ _ _ _ _ _ _ _ _ _ _ _ _ _ _ _ _ _ _ _ _ _ _ _ _ _ _ _ _ _ _ _ _ _ _ _ _ _ _ _ _ _ _ _ _ _ _ _ _ _ _ _ _ _ _ _ _ _ _ _ _ _ _ _ _ _ _ _ _ _ _ _ _ _ _ _ _ _ _ _ _ _ _ _ _ _ _ _ _ _ _ _ _ _ _ _ _ _ _ _ _ _ _ _ _ _ _ _ _ _ _ _ _ _ _ _ _ _ _ _ _ _ _ _ _ _ _ _ _ _ _ _ _ _ _ _ _ _ _ _ _ _ _ _ _ _ _ _ _ _ _ _ _ _ _ _ _ _ _ _ _ _ _ _ _ _ _ _ _ _ _ _ _ _ _ _ _ _ _ _ _ _ _ _ _ _ _ _ _ _ _ _ HA1 HM HB1 (by omega) HC HG HWS (by omega) (by omega) hcap
theorem dline_any {w : World} {x : RAd} {a : Arr} (h : RA w x a) (hM : Mill a) (t : List El) (ht : t.length ≤ 9000) :
    Calls Tryz.prog 9 #[.pointer (some ⟨x.p, 0, none⟩), st t] w (LnG w x a (cml t)) := by
  by_cases hn : pcA 32 t 0 = wScrub ∧ t.count 32 = 0
  · have e : cml t = .scrub := by
      rw [cml_m, hn.2]
      exact if_pos ⟨hn.1, rfl⟩
    rw [e]
    exact dline_scrub h hM t ht hn.1 hn.2
  · exact dline_rest h hM t ht hn
end Go.Proofs.YteafakgjfmbhoaaGreatDoor

/- Any session is answered as the document says: a walk over the law. -/
namespace Go.Proofs.YteafakgjfmbhoaaGreatDoor
open Go.RowKit El Pol Mx Lay
theorem ctN_rest (c : El) (xs : List El) : ∀ i, (ctN c xs i).2.length ≤ xs.length
  | 0 => Nat.le_refl _
  | i + 1 => by
    have := ctN_rest c xs i
    show ((ctN c xs i).2.drop _).length ≤ _
    rw [List.length_drop]
    omega
theorem pcA_len (c : El) (xs : List El) (j : Nat) : (pcA c xs j).length ≤ xs.length := by
  unfold pcA
  split
  · exact ctN_rest c xs _
  · have := ctN_rest c xs j
    unfold pcT cutA
    rw [List.length_take]
    omega
theorem lnL_pc (t : List El) : lnL t = (List.range (if pcA 10 t (t.count 10) = [] then t.count 10 else t.count 10 + 1)).map (pcA 10 t) := by
  unfold lnL
  rw [ctL_pc, List.range_succ, List.map_append, List.map_singleton, List.getLast?_concat, List.dropLast_concat]
  by_cases h : pcA 10 t (t.count 10) = []
  · rw [if_pos (by rw [h]), if_pos h]
  · rw [if_neg (fun q => h (Option.some.inj q)), if_neg h, List.range_succ, List.map_append, List.map_singleton]
/-- so far answered -/
structure AwS (w w2 : World) (x : RAd) (W : Nat → List El) (k : Nat) (wr : World) : Prop where
  ra : RA wr x (nxs (Arr.fresh 5 4 2) ((List.range k).map W))
  but : But (x.F 5) w2 wr
theorem nxs_mill : ∀ (l : List (List El)) {a : Arr}, Mill a → Mill (nxs a l)
  | [], _, h => h
  | _ :: l, _, h => nxs_mill l (h.nxt _)
set_option maxHeartbeats 8000000 in
set_option maxRecDepth 100000 in
theorem ranswers_any (t : List El) (w : World) (HG : Hid (Handle w)) (hm : t.length ≤ 9223372036854775807) :
    Calls Tryz.prog 3 #[st t] w fun e w' => e = .returned (.bool true) ∧ Below w.heap.size w w' := by
  have R := run_any t w HG
  have hs := sb_size t
  obtain ⟨so, hso⟩ : ∃ so, so = sb (rn t) := ⟨_, rfl⟩
  by_cases h : 3000 < t.length
  · have hi : (3000 : Int) < (t.length : Int) := by omega
    have hz : (so.toList == ([116, 111, 111, 32, 108, 111, 110, 103, 10] : List UInt8)) = true := by
      rw [hso]
      unfold rn
      rw [if_pos h, sb_list]
      decide
    unfold st at *
    rw [← hso] at R
    clear hso h
    generalize t.length = n at *
    generalize sb t = s at *
    go_enter Tryz.func3, Tryz.ntmps3
    go_wp2_with fail
    refine R.mono ?_
    rintro e w1 ⟨rfl, hB1⟩
    have HB1 : Hid (Below w.heap.size w w1) := hB1
    clear R hB1
    go_wp2
    go_ret
    exact ⟨rfl, HB1.out⟩
  · have hi : ¬ (3000 : Int) < (t.length : Int) := by omega
    have HSO : Hid (so = sb (ansL (Arr.fresh 5 4 2) (lnL t))) := by
      (show _ = _)
      rw [hso]
      unfold rn
      rw [if_neg h]
    have HC : Hid (∀ w1, Calls Tryz.prog 7 #[.string (sb t), .int .u8 10] w1 fun e w' => ∃ u, e = .returned u ∧ OwT w1.heap.size w' u (t.count 10 + 1) (pcA 10 t) ∧ Below w1.heap.size w1 w') := fun w1 => dcut_any t 10 w1 (by omega)
    have HWL : Hid (∀ k, (pcA 10 t k).length ≤ 3000) := fun k => by have := pcA_len 10 t k; omega
    have hct := count_le 10 t
    have hLN := lnL_pc t
    have hem := sb_same (pcA 10 t (t.count 10)) []
    rw [show (sb []).toList = [] from sb_list []] at hem
    unfold st at *
    rw [← hso] at R
    clear hso
    obtain ⟨W, hW⟩ : ∃ W, W = pcA 10 t := ⟨_, rfl⟩
    rw [← hW] at hLN hem HC HWL
    clear hW
    obtain ⟨c, hcc⟩ : ∃ c, c = t.count 10 := ⟨_, rfl⟩
    rw [← hcc] at hLN hem HC hct
    have hc3 : c ≤ 3000 := by omega
    clear hcc hct
    have hlen : t.length ≤ 3000 := by omega
    generalize hn : t.length = n at *
    clear hn
    generalize sb t = s at *
    go_enter Tryz.func3, Tryz.ntmps3
    go_wp2_with fail
    refine R.mono ?_
    rintro e w1 ⟨rfl, hB1⟩
    have C := HC.out w1
    have HB1 : Hid (Below w.heap.size w w1) := hB1
    clear R hB1 HC
    go_wp2_with fail
    refine C.mono ?_
    rintro e w2 ⟨u, rfl, hO, hB2⟩
    obtain ⟨g, cap, rfl, hg, hg2, hcap, hcap2⟩ := hO.at (by omega)
    have hcl : w2.cell? ⟨g, c, none⟩ = some (.string (sb (W c))) := OwT.cell hO c (by omega)
    have HWS0 : Hid (∀ i, i < c + 1 → w2.cell? ⟨g, i, none⟩ = some (.string (sb (W i)))) := fun i hi => OwT.cell hO i hi
    have HB2 : Hid (Below w.heap.size w w2) := HB1.out.trans (hB2.mono HB1.out.size)
    have N : Calls Tryz.prog 8 #[.int .i64 5, .int .i64 4, .int .i64 2] w2 fun e w' => ∃ x : RAd, e = .returned (.pointer (some ⟨x.p, 0, none⟩)) ∧ RA w' x (Arr.fresh 5 4 2) ∧ (∀ k, x.F 5 k → w2.heap.size ≤ k) ∧ Below w2.heap.size w2 w' := ra_new 5 4 2 (by omega) (by omega) (by omega) w2
    clear C hO hB2 HB1
    by_cases he : W c = []
    · rw [decide_eq_true he] at hem
      rw [if_pos he] at hLN
      obtain ⟨m, hm2⟩ : ∃ m, m = c := ⟨_, rfl⟩
      have HLN : Hid (lnL t = (List.range m).map W) := by (show _ = _); rw [hm2]; exact hLN
      have HWS : Hid (∀ i, i < m → w2.cell? ⟨g, i, none⟩ = some (.string (sb (W i)))) := fun i hi => HWS0.out i (by omega)
      have hm3 : m ≤ 3001 := by omega
      subst hm2
      clear hLN HWS0 he
      generalize sb (W m) = sl at *
      go_wp2_with fail
      refine N.mono ?_
      rintro e w3 ⟨x, rfl, hA3, hF3, hB3⟩
      have hF : ∀ k, x.F 5 k → w2.heap.size ≤ k := hF3
      have HB3 : Hid (Below w.heap.size w w3) := HB2.out.trans (hB3.mono HB2.out.size)
      have hgF : ¬ x.F 5 g := fun q => by have := hF g q; omega
      have HF : Hid (∀ k, x.F 5 k → w.heap.size ≤ k) := fun k q => Nat.le_trans HB2.out.size (hF k q)
      have hg3 : g < w3.heap.size := Nat.lt_of_lt_of_le hg2 hB3.size
      have HWS3 : Hid (∀ i, i < m → w3.cell? ⟨g, i, none⟩ = some (.string (sb (W i)))) := fun i hi => (hB3.cell hg2).trans (HWS.out i hi)
      have HS0 : Hid (AwS w w3 x W 0 w3) := ⟨hA3, But.refl _ _⟩
      clear N hB3 HWS HB2 hA3 hF3 hF hg hg2
      go_wp2
      go_loopw [6, 7] (fun o i wr => ∃ k : Nat, k ≤ m ∧ i = .int .i64 k ∧ o = .string (sb (ansL (Arr.fresh 5 4 2) ((List.range k).map W))) ∧ Hid (AwS w w3 x W k wr)) (fun _ i _ => m - (intOf i).toNat)
      case atStart => exact ⟨0, Nat.zero_le _, rfl, rfl, HS0⟩
      case round =>
        clear HS0
        rename World => wr
        obtain ⟨k, hk, rfl, rfl, HS⟩ := hrel
        have hMl := nxs_mill ((List.range k).map W) Mill.fresh
        have hal : (sb (ansL (Arr.fresh 5 4 2) ((List.range k).map W))).size ≤ 124000 := by
          have := ansL_long Mill.fresh ((List.range k).map W)
          rw [List.length_map, List.length_range] at this
          rw [sb_size]; omega
        by_cases hlt : k < m
        · have hki : (k : Int) < (m : Int) := by omega
          have hc : wr.cell? ⟨g, k, none⟩ = some (.string (sb (W k))) := (HS.out.but.cell (p := ⟨g, k, none⟩) hg3 hgF).trans (HWS3.out k hlt)
          have C := dline_any HS.out.ra hMl (W k) (by have := HWL.out k; omega)
          have hn5 := hMl.n
          have hans := ans_len hMl (cml (W k))
          have HN : Hid (sb (ansL (Arr.fresh 5 4 2) ((List.range (k + 1)).map W)) = sb (ansL (Arr.fresh 5 4 2) ((List.range k).map W)) ++ sb (ans (nxs (Arr.fresh 5 4 2) ((List.range k).map W)) (cml (W k))) ++ (⟨#[10]⟩ : ByteArray)) := by
            (show _ = _)
            rw [List.range_succ, List.map_append, List.map_singleton, ansL_snoc, ← sb_append, ← sb_append]
            rfl
          have HE : Hid (∀ w5, RA w5 x (nxt (nxs (Arr.fresh 5 4 2) ((List.range k).map W)) (cml (W k))) → But (x.F (nxs (Arr.fresh 5 4 2) ((List.range k).map W)).n) wr w5 → AwS w w3 x W (k + 1) w5) := fun w5 q1 q2 => by
            refine ⟨?_, ?_⟩
            · rw [List.range_succ, List.map_append, List.map_singleton, nxs_snoc]
              exact q1
            · rw [hn5] at q2
              exact HS.out.but.trans q2 (Grows.refl _ _)
          have hsz : (sb (ans (nxs (Arr.fresh 5 4 2) ((List.range k).map W)) (cml (W k)))).size ≤ 40 := by rw [sb_size]; exact hans
          clear HS hMl hans hn5
          unfold LnG st at C
          generalize sb (ansL (Arr.fresh 5 4 2) ((List.range k).map W)) = s0 at *
          generalize sb (ans (nxs (Arr.fresh 5 4 2) ((List.range k).map W)) (cml (W k))) = s1 at *
          generalize sb (W k) = s2 at *
          go_wp2_with fail
          refine C.mono ?_
          rintro e w5 ⟨rfl, q1, q2⟩
          have HS5 : Hid (AwS w w3 x W (k + 1) w5) := HE.out w5 q1 q2
          clear C q1 q2 HE hc
          go_wp2
          go_roundw
          case rel => exact ⟨k + 1, by omega, by go_num, by rw [HN.out], HS5⟩
          case measure => simp [intOf]; omega
        · have hki : ¬ (k : Int) < (m : Int) := by omega
          obtain rfl : k = m := by omega
          have HB : Hid (Below w.heap.size w wr) := HB3.out.trans (HS.out.but.below HB3.out.size HF.out)
          have hq : (so.toList == (sb (ansL (Arr.fresh 5 4 2) ((List.range k).map W))).toList) = true := by
            rw [← HLN.out, ← HSO.out]
            exact beq_self_eq_true _
          clear HS hMl
          generalize sb (ansL (Arr.fresh 5 4 2) ((List.range k).map W)) = s0 at *
          go_wp2
          go_ret
          exact ⟨rfl, HB.out⟩
    · rw [decide_eq_false he] at hem
      rw [if_neg he] at hLN
      have HLN0 : Hid (lnL t = (List.range (c + 1)).map W) := hLN
      clear hLN he
      generalize sb (W c) = sl at *
      obtain ⟨m, hm2⟩ : ∃ m, m = c + 1 := ⟨_, rfl⟩
      have HLN : Hid (lnL t = (List.range m).map W) := by (show _ = _); rw [hm2]; exact HLN0.out
      have HWS : Hid (∀ i, i < m → w2.cell? ⟨g, i, none⟩ = some (.string (sb (W i)))) := fun i hi => HWS0.out i (by omega)
      have hm3 : m ≤ 3001 := by omega
      have hmc : ((c : Int) + 1) = (m : Int) := by omega
      clear HLN0 HWS0
      rw [← hm2] at hcap ⊢
      have hmc2 : (m : Int) - 1 = (c : Int) := by omega
      have hcm : c < m := by omega
      clear hm2 hmc
      go_wp2_with fail
      refine N.mono ?_
      rintro e w3 ⟨x, rfl, hA3, hF3, hB3⟩
      have hF : ∀ k, x.F 5 k → w2.heap.size ≤ k := hF3
      have HB3 : Hid (Below w.heap.size w w3) := HB2.out.trans (hB3.mono HB2.out.size)
      have hgF : ¬ x.F 5 g := fun q => by have := hF g q; omega
      have HF : Hid (∀ k, x.F 5 k → w.heap.size ≤ k) := fun k q => Nat.le_trans HB2.out.size (hF k q)
      have hg3 : g < w3.heap.size := Nat.lt_of_lt_of_le hg2 hB3.size
      have HWS3 : Hid (∀ i, i < m → w3.cell? ⟨g, i, none⟩ = some (.string (sb (W i)))) := fun i hi => (hB3.cell hg2).trans (HWS.out i hi)
      have HS0 : Hid (AwS w w3 x W 0 w3) := ⟨hA3, But.refl _ _⟩
      clear N hB3 HWS HB2 hA3 hF3 hF hg hg2
      go_wp2
      go_loopw [6, 7] (fun o i wr => ∃ k : Nat, k ≤ m ∧ i = .int .i64 k ∧ o = .string (sb (ansL (Arr.fresh 5 4 2) ((List.range k).map W))) ∧ Hid (AwS w w3 x W k wr)) (fun _ i _ => m - (intOf i).toNat)
      case atStart => exact ⟨0, Nat.zero_le _, rfl, rfl, HS0⟩
      case round =>
        clear HS0
        rename World => wr
        obtain ⟨k, hk, rfl, rfl, HS⟩ := hrel
        have hMl := nxs_mill ((List.range k).map W) Mill.fresh
        have hal : (sb (ansL (Arr.fresh 5 4 2) ((List.range k).map W))).size ≤ 124000 := by
          have := ansL_long Mill.fresh ((List.range k).map W)
          rw [List.length_map, List.length_range] at this
          rw [sb_size]; omega
        by_cases hlt : k < m
        · have hki : (k : Int) < (m : Int) := by omega
          have hc : wr.cell? ⟨g, k, none⟩ = some (.string (sb (W k))) := (HS.out.but.cell (p := ⟨g, k, none⟩) hg3 hgF).trans (HWS3.out k hlt)
          have C := dline_any HS.out.ra hMl (W k) (by have := HWL.out k; omega)
          have hn5 := hMl.n
          have hans := ans_len hMl (cml (W k))
          have HN : Hid (sb (ansL (Arr.fresh 5 4 2) ((List.range (k + 1)).map W)) = sb (ansL (Arr.fresh 5 4 2) ((List.range k).map W)) ++ sb (ans (nxs (Arr.fresh 5 4 2) ((List.range k).map W)) (cml (W k))) ++ (⟨#[10]⟩ : ByteArray)) := by
            (show _ = _)
            rw [List.range_succ, List.map_append, List.map_singleton, ansL_snoc, ← sb_append, ← sb_append]
            rfl
          have HE : Hid (∀ w5, RA w5 x (nxt (nxs (Arr.fresh 5 4 2) ((List.range k).map W)) (cml (W k))) → But (x.F (nxs (Arr.fresh 5 4 2) ((List.range k).map W)).n) wr w5 → AwS w w3 x W (k + 1) w5) := fun w5 q1 q2 => by
            refine ⟨?_, ?_⟩
            · rw [List.range_succ, List.map_append, List.map_singleton, nxs_snoc]
              exact q1
            · rw [hn5] at q2
              exact HS.out.but.trans q2 (Grows.refl _ _)
          have hsz : (sb (ans (nxs (Arr.fresh 5 4 2) ((List.range k).map W)) (cml (W k)))).size ≤ 40 := by rw [sb_size]; exact hans
          clear HS hMl hans hn5
          unfold LnG st at C
          generalize sb (ansL (Arr.fresh 5 4 2) ((List.range k).map W)) = s0 at *
          generalize sb (ans (nxs (Arr.fresh 5 4 2) ((List.range k).map W)) (cml (W k))) = s1 at *
          generalize sb (W k) = s2 at *
          go_wp2_with fail
          refine C.mono ?_
          rintro e w5 ⟨rfl, q1, q2⟩
          have HS5 : Hid (AwS w w3 x W (k + 1) w5) := HE.out w5 q1 q2
          clear C q1 q2 HE hc
          go_wp2
          go_roundw
          case rel => exact ⟨k + 1, by omega, by go_num, by rw [HN.out], HS5⟩
          case measure => simp [intOf]; omega
        · have hki : ¬ (k : Int) < (m : Int) := by omega
          obtain rfl : k = m := by omega
          have HB : Hid (Below w.heap.size w wr) := HB3.out.trans (HS.out.but.below HB3.out.size HF.out)
          have hq : (so.toList == (sb (ansL (Arr.fresh 5 4 2) ((List.range k).map W))).toList) = true := by
            rw [← HLN.out, ← HSO.out]
            exact beq_self_eq_true _
          clear HS hMl
          generalize sb (ansL (Arr.fresh 5 4 2) ((List.range k).map W)) = s0 at *
          go_wp2
          go_ret
          exact ⟨rfl, HB.out⟩
end Go.Proofs.YteafakgjfmbhoaaGreatDoor
