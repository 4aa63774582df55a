/- The law's fair, of locks that are: a walk over the program. -/
import Derived.Test.YtagindfgfamacaaLdO
import Derived.Deep.RegionHeld3
namespace Go.Proofs.Ytagindfgfamacaa
open Go.RowKit
theorem anyB_next (p : Nat → Bool) (k : Nat) : anyB p (k + 1) = (anyB p k || p k) := by
  unfold anyB
  rw [List.range_succ, List.any_append]
  simp
set_option maxRecDepth 1000000 in
set_option maxHeartbeats 4000000 in
theorem fair_any {t : Lks} (hf : t.fair) (hm : t.many ≤ 30) (u v : Value) (w : World) (hu : RdLk w u t.h) (hv : RdLk w v t.w) :
    Calls Try.prog 15 #[u, v] w fun e w' => e = .returned (.bool true) ∧ Below w.heap.size w w' := by
  obtain ⟨a1, c1, rfl, hc1, hc2⟩ := hu.len
  obtain ⟨a2, c2, rfl, hc3, hc4⟩ := hv.len
  clear hc1 hc2 hc3 hc4
  have HU : Hid (RdLk w (.slice a1 t.h.length c1) t.h) := hu
  have HV : Hid (RdLk w (.slice a2 t.w.length c2) t.w) := hv
  have HF1 : Hid (∀ i, i < t.h.length → ∀ j, j < i → odd (lka t.h i) (lka t.h j) = false) := fun i hi j hj => by
    rw [lka_get _ _ hi, lka_get _ _ (by omega)]
    exact hf.held i hi j hj
  have HF2 : Hid (∀ i, i < t.w.length → (anyB (fun j => odd (lka t.w i) (lka t.h j)) t.h.length || anyB (fun j => odd (lka t.w i) (lka t.w j)) i) = true) := fun i hi => by
    rw [Bool.or_eq_true]
    rcases hf.waits i hi with ⟨y, hy, q⟩ | ⟨j, hj, q⟩
    · obtain ⟨j, hj, rfl⟩ := List.getElem_of_mem hy
      refine .inl (anyB_true.2 ⟨j, hj, ?_⟩)
      rw [lka_get _ _ hi, lka_get _ _ hj, odd_comm]
      exact q
    · refine .inr (anyB_true.2 ⟨j, hj, ?_⟩)
      rw [lka_get _ _ hi, lka_get _ _ (by omega), odd_comm]
      exact q
  have hm' : t.h.length + t.w.length ≤ 30 := hm
  clear hf hm hu hv
  obtain ⟨hl, hhl⟩ : ∃ l, t.h = l := ⟨_, rfl⟩
  obtain ⟨wl, hwl⟩ : ∃ l, t.w = l := ⟨_, rfl⟩
  rw [hhl] at HU HF1 HF2 hm' ⊢
  rw [hwl] at HV HF2 hm' ⊢
  clear hhl hwl t
  obtain ⟨n, hn⟩ : ∃ n, hl.length = n := ⟨_, rfl⟩
  obtain ⟨m, hmm⟩ : ∃ m, wl.length = m := ⟨_, rfl⟩
  have HN : Hid (hl.length = n) := hn
  have HM : Hid (wl.length = m) := hmm
  rw [hn] at HU HF1 HF2 hm' ⊢
  rw [hmm] at HV HF2 hm' ⊢
  clear hn hmm
  go_enter Try.func15, Try.ntmps15
  go_wp2
  go_loopw [5] (fun t wr => ∃ i : Nat, i ≤ n ∧ t = .int .i64 i ∧ Below w.heap.size w wr) (fun t _ => n - (intOf t).toNat)
  case atStart => exact ⟨0, Nat.zero_le _, rfl, Below.refl _ _⟩
  case round =>
    obtain ⟨i, hi, rfl, hB⟩ := hrel
    by_cases hlt : i < n
    · have HB0 : Hid (Below w.heap.size w wr) := hB
      go_wp2
      go_loopw [6] (fun t wr => ∃ j : Nat, j ≤ i ∧ t = .int .i64 j ∧ Below w.heap.size w wr) (fun t _ => i - (intOf t).toNat)
      case atStart => exact ⟨0, Nat.zero_le _, rfl, HB0.out⟩
      case round =>
        obtain ⟨j, hj, rfl, hB⟩ := hrel
        by_cases hlt2 : j < i
        · obtain ⟨ad, hao, hx⟩ := (HU.out.old hB).at i (by rw [HN.out]; exact hlt)
          obtain ⟨ad', hao', hy⟩ := (HU.out.old hB).at j (by rw [HN.out]; omega)
          have hO := HF1.out i hlt j hlt2
          have hin : (i : Int) < (n : Int) := by omega
          have hjn : (j : Int) < (n : Int) := by omega
          obtain rfl : ad = ad' := by rw [hao] at hao'; exact Option.some.inj hao'
          subst hao
          clear hao'
          have C := fun W => dodds_any (lka hl i) (lka hl j) W
          unfold alk at C
          have hw0 : Below wr.heap.size wr wr.drew := ⟨rfl, rfl, rfl, Nat.le_refl _, fun _ _ => rfl⟩
          have HX : Hid (∀ W, Below wr.heap.size wr W → LkAt W (ad.add (i * 4)) (lka hl i) ∧ LkAt W (ad.add (j * 4)) (lka hl j)) := fun W hW => ⟨hx.old hW, hy.old hW⟩
          have S0 := HX.out _ hw0
          unfold LkAt at S0 HX
          clear hx hy
          generalize (lka hl i) = xx at *
          generalize (lka hl j) = yy at *
          rw [hO] at C
          go_wp2
          go_region_held3 (fun W => (W.cell? (ad.add (i * 4)) = some (.int .i64 xx.who) ∧ W.cell? ⟨(ad.add (i * 4)).block, (ad.add (i * 4)).off + 1, none⟩ = some (.int .i64 xx.fr) ∧ W.cell? ⟨(ad.add (i * 4)).block, (ad.add (i * 4)).off + 2, none⟩ = some (.int .i64 xx.to) ∧ W.cell? ⟨(ad.add (i * 4)).block, (ad.add (i * 4)).off + 3, none⟩ = some (.bool xx.al)) ∧ W.cell? (ad.add (j * 4)) = some (.int .i64 yy.who) ∧ W.cell? ⟨(ad.add (j * 4)).block, (ad.add (j * 4)).off + 1, none⟩ = some (.int .i64 yy.fr) ∧ W.cell? ⟨(ad.add (j * 4)).block, (ad.add (j * 4)).off + 2, none⟩ = some (.int .i64 yy.to) ∧ W.cell? ⟨(ad.add (j * 4)).block, (ad.add (j * 4)).off + 3, none⟩ = some (.bool yy.al)) (first | exact S2 | exact S0) ((first
            | (go_at_call 36; refine (C _).mono ?_; rintro e w2 ⟨rfl, hB2⟩; have hB3 := hw0.trans (hB2.mono hw0.size); have S2 := HX.out w2 hB3)))
          have HB2 : Hid (Below w.heap.size w w2) := hB.trans (hB3.mono hB.size)
          clear C HX S0 S2 hB2 hB3 hw0 hB
          go_wp2
          go_roundw
          case rel => exact ⟨j + 1, by omega, by go_num, HB2.out⟩
          case measure => simp [intOf]; omega
        · obtain rfl : j = i := by omega
          go_wp2
          go_roundw
          case rel => exact ⟨j + 1, by omega, by go_num, hB⟩
          case measure => simp [intOf]; omega
    · have HB0 : Hid (Below w.heap.size w wr) := hB
      clear hB
      go_wp2
      go_loopw [8] (fun t wr => ∃ i : Nat, i ≤ m ∧ t = .int .i64 i ∧ Below w.heap.size w wr) (fun t _ => m - (intOf t).toNat)
      case atStart => exact ⟨0, Nat.zero_le _, rfl, HB0.out⟩
      case round =>
        obtain ⟨i, hi, rfl, hB⟩ := hrel
        by_cases hltm : i < m
        · have HB1 : Hid (Below w.heap.size w wr) := hB
          clear hB
          obtain ⟨p, hp⟩ : ∃ p : Nat → Bool, (fun j => odd (lka wl i) (lka hl j)) = p := ⟨_, rfl⟩
          obtain ⟨p2, hp2⟩ : ∃ p : Nat → Bool, (fun j => odd (lka wl i) (lka wl j)) = p := ⟨_, rfl⟩
          have HP : Hid (∀ j, odd (lka wl i) (lka hl j) = p j) := fun j => congrFun hp j
          have HP2 : Hid (∀ j, odd (lka wl i) (lka wl j) = p2 j) := fun j => congrFun hp2 j
          have HE : Hid ((anyB p n || anyB p2 i) = true) := by
            have := HF2.out i hltm
            rw [hp, hp2] at this
            exact this
          clear hp hp2
          go_wp2
          go_loopw [9, 10] (fun s t wr => ∃ j : Nat, j ≤ n ∧ t = .int .i64 j ∧ s = .bool (anyB p j) ∧ Below w.heap.size w wr) (fun _ t _ => n - (intOf t).toNat)
          case atStart => exact ⟨0, Nat.zero_le _, rfl, rfl, HB1.out⟩
          case round =>
            obtain ⟨j, hj, rfl, rfl, hB⟩ := hrel
            have HA : Hid (anyB p (j + 1) = (anyB p j || p j)) := anyB_next p j
            obtain ⟨r, hr⟩ : ∃ r, anyB p j = r := ⟨_, rfl⟩
            by_cases hlt2 : j < n
            · rw [hr] at HA ⊢
              clear hr
              obtain ⟨ad, hao, hx⟩ := (HV.out.old hB).at i (by rw [HM.out]; exact hltm)
              obtain ⟨ad', hao', hy⟩ := (HU.out.old hB).at j (by rw [HN.out]; exact hlt2)
              have hO := HP.out j
              obtain ⟨q, hq⟩ : ∃ q, p j = q := ⟨_, rfl⟩
              rw [hq] at hO HA
              clear hq
              have hin : (i : Int) < (m : Int) := by omega
              have hjn : (j : Int) < (n : Int) := by omega
              subst hao
              subst hao'
              have C := fun W => dodds_any (lka wl i) (lka hl j) W
              unfold alk at C
              have hw0 : Below wr.heap.size wr wr.drew := ⟨rfl, rfl, rfl, Nat.le_refl _, fun _ _ => rfl⟩
              have HX : Hid (∀ W, Below wr.heap.size wr W → LkAt W (ad.add (i * 4)) (lka wl i) ∧ LkAt W (ad'.add (j * 4)) (lka hl j)) := fun W hW => ⟨hx.old hW, hy.old hW⟩
              have S0 := HX.out _ hw0
              unfold LkAt at S0 HX
              clear hx hy
              generalize (lka wl i) = xx at *
              generalize (lka hl j) = yy at *
              rw [hO] at C
              go_wp2
              go_region_held3 (fun W => (W.cell? (ad.add (i * 4)) = some (.int .i64 xx.who) ∧ W.cell? ⟨(ad.add (i * 4)).block, (ad.add (i * 4)).off + 1, none⟩ = some (.int .i64 xx.fr) ∧ W.cell? ⟨(ad.add (i * 4)).block, (ad.add (i * 4)).off + 2, none⟩ = some (.int .i64 xx.to) ∧ W.cell? ⟨(ad.add (i * 4)).block, (ad.add (i * 4)).off + 3, none⟩ = some (.bool xx.al)) ∧ W.cell? (ad'.add (j * 4)) = some (.int .i64 yy.who) ∧ W.cell? ⟨(ad'.add (j * 4)).block, (ad'.add (j * 4)).off + 1, none⟩ = some (.int .i64 yy.fr) ∧ W.cell? ⟨(ad'.add (j * 4)).block, (ad'.add (j * 4)).off + 2, none⟩ = some (.int .i64 yy.to) ∧ W.cell? ⟨(ad'.add (j * 4)).block, (ad'.add (j * 4)).off + 3, none⟩ = some (.bool yy.al)) (first | exact S2 | exact S0) ((first
                | (go_at_call 36; refine (C _).mono ?_; rintro e w2 ⟨rfl, hB2⟩; have hB3 := hw0.trans (hB2.mono hw0.size); have S2 := HX.out w2 hB3)))
              have HB2 : Hid (Below w.heap.size w w2) := hB.trans (hB3.mono hB.size)
              clear C HX S0 S2 hB2 hB3 hw0 hB
              cases r
              all_goals
                go_wp2
                go_roundw
                case rel => exact ⟨j + 1, by omega, by go_num, by rw [HA.out]; rfl, HB2.out⟩
                case measure => simp [intOf]; omega
            · obtain rfl : j = n := by omega
              have HB2 : Hid (Below w.heap.size w wr) := hB
              rw [hr] at HE ⊢
              clear hB HA hr
              go_wp2
              go_loopw [9, 12] (fun s t wr => ∃ k : Nat, k ≤ i ∧ t = .int .i64 k ∧ s = .bool (r || anyB p2 k) ∧ Below w.heap.size w wr) (fun _ t _ => i - (intOf t).toNat)
              case atStart => exact ⟨0, Nat.zero_le _, rfl, by rw [show anyB p2 0 = false from rfl, Bool.or_false], HB2.out⟩
              case round =>
                obtain ⟨k, hk, rfl, rfl, hB⟩ := hrel
                have HA : Hid ((r || anyB p2 (k + 1)) = ((r || anyB p2 k) || p2 k)) := by (show _ = _); rw [anyB_next, Bool.or_assoc]
                obtain ⟨rr, hr⟩ : ∃ rr, (r || anyB p2 k) = rr := ⟨_, rfl⟩
                by_cases hlt3 : k < i
                · rw [hr] at HA ⊢
                  clear hr
                  obtain ⟨ad, hao, hx⟩ := (HV.out.old hB).at i (by rw [HM.out]; exact hltm)
                  obtain ⟨ad', hao', hy⟩ := (HV.out.old hB).at k (by rw [HM.out]; omega)
                  obtain rfl : ad = ad' := by rw [hao] at hao'; exact Option.some.inj hao'
                  have hO := HP2.out k
                  obtain ⟨q, hq⟩ : ∃ q, p2 k = q := ⟨_, rfl⟩
                  rw [hq] at hO HA
                  clear hq
                  have hin : (i : Int) < (m : Int) := by omega
                  have hkn : (k : Int) < (m : Int) := by omega
                  subst hao
                  clear hao'
                  have C := fun W => dodds_any (lka wl i) (lka wl k) W
                  unfold alk at C
                  have hw0 : Below wr.heap.size wr wr.drew := ⟨rfl, rfl, rfl, Nat.le_refl _, fun _ _ => rfl⟩
                  have HX : Hid (∀ W, Below wr.heap.size wr W → LkAt W (ad.add (i * 4)) (lka wl i) ∧ LkAt W (ad.add (k * 4)) (lka wl k)) := fun W hW => ⟨hx.old hW, hy.old hW⟩
                  have S0 := HX.out _ hw0
                  unfold LkAt at S0 HX
                  clear hx hy
                  generalize (lka wl i) = xx at *
                  generalize (lka wl k) = yy at *
                  rw [hO] at C
                  go_wp2
                  go_region_held3 (fun W => (W.cell? (ad.add (i * 4)) = some (.int .i64 xx.who) ∧ W.cell? ⟨(ad.add (i * 4)).block, (ad.add (i * 4)).off + 1, none⟩ = some (.int .i64 xx.fr) ∧ W.cell? ⟨(ad.add (i * 4)).block, (ad.add (i * 4)).off + 2, none⟩ = some (.int .i64 xx.to) ∧ W.cell? ⟨(ad.add (i * 4)).block, (ad.add (i * 4)).off + 3, none⟩ = some (.bool xx.al)) ∧ W.cell? (ad.add (k * 4)) = some (.int .i64 yy.who) ∧ W.cell? ⟨(ad.add (k * 4)).block, (ad.add (k * 4)).off + 1, none⟩ = some (.int .i64 yy.fr) ∧ W.cell? ⟨(ad.add (k * 4)).block, (ad.add (k * 4)).off + 2, none⟩ = some (.int .i64 yy.to) ∧ W.cell? ⟨(ad.add (k * 4)).block, (ad.add (k * 4)).off + 3, none⟩ = some (.bool yy.al)) (first | exact S2 | exact S0) ((first
                    | (go_at_call 36; refine (C _).mono ?_; rintro e w2 ⟨rfl, hB2⟩; have hB4 := hw0.trans (hB2.mono hw0.size); have S2 := HX.out w2 hB4)))
                  have HB3 : Hid (Below w.heap.size w w2) := hB.trans (hB4.mono hB.size)
                  clear C HX S0 S2 hB2 hB4 hw0 hB
                  cases rr
                  all_goals
                    go_wp2
                    go_roundw
                    case rel => exact ⟨k + 1, by omega, by go_num, by rw [HA.out]; rfl, HB3.out⟩
                    case measure => simp [intOf]; omega
                · obtain rfl : k = i := by omega
                  obtain rfl : true = rr := by rw [← hr]; exact HE.out.symm
                  rw [hr]
                  clear HA hr
                  go_wp2
                  go_roundw
                  case rel => exact ⟨k + 1, by omega, by go_num, hB⟩
                  case measure => simp [intOf]; omega
        · go_wp2
          go_ret
          exact ⟨rfl, hB⟩
end Go.Proofs.Ytagindfgfamacaa
