/- LocksHold: a walk over the program. -/
import Derived.Test.YtagindfgfamacaaKLa
import Derived.Test.YtagindfgfamacaaLkS
import Derived.Test.YtagindfgfamacaaLFair
namespace Go.Proofs.Ytagindfgfamacaa
open Go.RowKit
set_option maxRecDepth 1000000 in
set_option maxHeartbeats 8000000 in
theorem lhold_any (a0 : Option Addr) (c0 : Nat) (l : List Lk) (a1 : Option Addr) (n1 c1 : Nat) (f : Nat → Int) (w : World) (r0 : RdLk w (.slice a0 l.length c0) l) (r1 : RdF w (.slice a1 n1 c1) n1 (fun i => .int .i64 (f i))) (z0 : l.length ≤ 9223372036854775807) :
    Calls Try.prog 4 #[.slice a0 l.length c0, .slice a1 n1 c1] w fun e w' => e = .returned (.bool true) ∧ Below w.heap.size w w' := by
  have HR0 : Hid (RdLk w (.slice a0 l.length c0) l) := r0
  have HR1 : Hid (RdF w (.slice a1 n1 c1) n1 (fun i => .int .i64 (f i))) := r1
  obtain ⟨hf1, hf2, hf3, hf4, hf5, hf6⟩ := fact_lk
  have N := lnew_any w
  obtain ⟨nl, hnl⟩ : ∃ n, l.length = n := ⟨_, rfl⟩
  have HN : Hid (l.length = nl) := hnl
  rw [hnl] at HR0 z0 ⊢
  clear r0 r1 hnl
  go_enter Try.func4, Try.ntmps4
  go_wp2_with fail
  refine N.mono ?_
  rintro e w1 ⟨x, rfl, hI, hb⟩
  have HK : Hid (KL w x.p Lks.none w1) := KL.new (Below.refl _ _) hI hb
  clear N hI hb
  obtain ⟨p0, hp⟩ : ∃ p, x.p = p := ⟨_, rfl⟩
  rw [hp] at HK ⊢
  clear hp
  have A1 := kl_ask HK.out faA
  rw [hf1, hf2, errV, if_pos rfl] at A1
  unfold alk at A1
  clear hf1 hf2
  go_wp2_with fail
  refine A1.mono ?_
  rintro e w2 ⟨rfl, hK2⟩
  have A2 := kl_ask hK2 faB
  rw [hf3, hf4, errV, if_pos rfl] at A2
  unfold alk at A2
  clear hf3 hf4 hK2 A1 HK
  go_wp2_with fail
  refine A2.mono ?_
  rintro e w3 ⟨rfl, hK3⟩
  have A3 := kl_free hK3 1
  rw [hf5, hf6, errV, if_pos rfl] at A3
  clear hf5 hf6 hK3 A2
  go_wp2_with fail
  refine A3.mono ?_
  rintro e w4 ⟨u, rfl, hR, hK4⟩
  obtain ⟨au, cu, rfl, _, _⟩ := hR.len
  obtain ⟨ad, rfl, hc⟩ := hR.at 0 (by simp)
  rw [add_zero] at hc
  have HL4 : Hid (Below w.heap.size w w4) := hK4.low
  have M := lnew_any w4
  clear A3 hR hK4
  go_wp2_with fail
  refine M.mono ?_
  rintro e w5 ⟨x5, rfl, hI, hb⟩
  have HK : Hid (KL w x5.p Lks.none w5) := KL.new HL4.out hI hb
  clear M hI hb hc HL4
  obtain ⟨p, hp⟩ : ∃ p, x5.p = p := ⟨_, rfl⟩
  rw [hp] at HK ⊢
  clear hp
  go_wp2
  go_loopw [13, 14] (fun s13 s14 wr => ∃ (i at' : Nat) (t : Lks), i ≤ n1 ∧ i ≤ 80 ∧ at' ≤ nl ∧ s13 = .int .i64 at' ∧ s14 = .int .i64 i ∧ Hid (KL w p t wr) ∧ Hid t.fair) (fun _ s14 _ => n1 - (intOf s14).toNat)
  case atStart => exact ⟨0, 0, _, Nat.zero_le _, Nat.zero_le _, Nat.zero_le _, rfl, rfl, HK.out, Lks.fair_none⟩
  case round =>
    obtain ⟨i, at', t, hi1, hi2, hat, rfl, rfl, HK1, HF⟩ := hrel
    by_cases hlt : i < n1
    · by_cases hlt2 : i < 80
      · obtain ⟨ad1, had, hc⟩ := (HR1.out.old HK1.out.low).at i hlt
        subst had
        have hiz : (i : Int) < (n1 : Int) := by omega
        by_cases hs : 0 < f i
        · have C := kl_free HK1.out (f i)
          obtain ⟨t2, ht2⟩ : ∃ t2, t.free (f i) = t2 := ⟨_, rfl⟩
          have HF2 : Hid t2.fair := by rw [← ht2]; exact HF.out.free (f i)
          rw [ht2] at C
          clear ht2
          generalize t.freeE (f i) = ee at *
          generalize t.freeW (f i) = zs at *
          generalize f i = z at *
          generalize errV ee = ev at *
          go_wp2_with fail
          refine C.mono ?_
          rintro e w3 ⟨u, rfl, hR, hK2⟩
          have HK2 : Hid (KL w p t2 w3) := hK2
          clear C hR hK2 hc HF HK1 HK
          have D := kl_held HK2.out
          go_wp2_with fail
          refine D.mono ?_
          rintro e w4 ⟨u, rfl, hR, hB⟩
          have HK4 : Hid (KL w p t2 w4) := HK2.out.old hB
          have HR4 : Hid (RdLk w4 u t2.h) := hR
          have E := kl_waits HK4.out
          clear D hR hB HK2
          go_wp2_with fail
          refine E.mono ?_
          rintro e w5 ⟨v, rfl, hR, hB⟩
          have HK5 : Hid (KL w p t2 w5) := HK4.out.old hB
          have G := fair_any HF2.out HK5.out.few u v w5 (HR4.out.old hB) hR
          clear E hR hB HK4 HR4
          go_wp2_with fail
          refine G.mono ?_
          rintro e w6 ⟨rfl, hB⟩
          have HK6 : Hid (KL w p t2 w6) := HK5.out.old hB
          clear G hB HK5
          go_wp2
          go_roundw
          case rel => exact ⟨i + 1, at', t2, by omega, by omega, hat, rfl, by go_num, HK6.out, HF2.out⟩
          case measure => simp [intOf]; omega
        · by_cases hla : at' < nl
          · obtain ⟨ad0, had0, hd⟩ := (HR0.out.old HK1.out.low).at at' (by rw [HN.out]; exact hla)
            subst had0
            have haz : (at' : Int) < (nl : Int) := by omega
            have C := kl_ask HK1.out (lka l at')
            obtain ⟨t2, ht2⟩ : ∃ t2, t.ask (lka l at') = t2 := ⟨_, rfl⟩
            have HF2 : Hid t2.fair := by rw [← ht2]; exact HF.out.ask _
            rw [ht2] at C
            clear ht2
            obtain ⟨d0, d1, d2, d3⟩ := hd
            unfold alk at C
            generalize t.askE (lka l at') = ee at *
            generalize t.askB (lka l at') = bb at *
            generalize lka l at' = y at *
            generalize f i = z at *
            generalize errV ee = ev at *
            go_wp2_with fail
            refine C.mono ?_
            rintro e w3 ⟨rfl, hK2⟩
            have HK2 : Hid (KL w p t2 w3) := hK2
            clear C hK2 hc HF HK1 HK d0 d1 d2 d3
            have D := kl_held HK2.out
            go_wp2_with fail
            refine D.mono ?_
            rintro e w4 ⟨u, rfl, hR, hB⟩
            have HK4 : Hid (KL w p t2 w4) := HK2.out.old hB
            have HR4 : Hid (RdLk w4 u t2.h) := hR
            have E := kl_waits HK4.out
            clear D hR hB HK2
            go_wp2_with fail
            refine E.mono ?_
            rintro e w5 ⟨v, rfl, hR, hB⟩
            have HK5 : Hid (KL w p t2 w5) := HK4.out.old hB
            have G := fair_any HF2.out HK5.out.few u v w5 (HR4.out.old hB) hR
            clear E hR hB HK4 HR4
            go_wp2_with fail
            refine G.mono ?_
            rintro e w6 ⟨rfl, hB⟩
            have HK6 : Hid (KL w p t2 w6) := HK5.out.old hB
            clear G hB HK5
            go_wp2
            go_roundw
            case rel => exact ⟨i + 1, at' + 1, t2, by omega, by omega, by omega, by go_num, by go_num, HK6.out, HF2.out⟩
            case measure => simp [intOf]; omega
          · have haz : (nl : Int) ≤ (at' : Int) := by omega
            have HK2 : Hid (KL w p t wr) := HK1.out
            have HF2 : Hid t.fair := HF.out
            obtain ⟨t2, ht2⟩ : ∃ t2, t = t2 := ⟨_, rfl⟩
            rw [ht2] at HK2 HF2
            generalize f i = z at *
            clear HF HK1 HK ht2
            have D := kl_held HK2.out
            go_wp2_with fail
            refine D.mono ?_
            rintro e w4 ⟨u, rfl, hR, hB⟩
            have HK4 : Hid (KL w p t2 w4) := HK2.out.old hB
            have HR4 : Hid (RdLk w4 u t2.h) := hR
            have E := kl_waits HK4.out
            clear D hR hB HK2
            go_wp2_with fail
            refine E.mono ?_
            rintro e w5 ⟨v, rfl, hR, hB⟩
            have HK5 : Hid (KL w p t2 w5) := HK4.out.old hB
            have G := fair_any HF2.out HK5.out.few u v w5 (HR4.out.old hB) hR
            clear E hR hB HK4 HR4
            go_wp2_with fail
            refine G.mono ?_
            rintro e w6 ⟨rfl, hB⟩
            have HK6 : Hid (KL w p t2 w6) := HK5.out.old hB
            clear G hB HK5
            go_wp2
            go_roundw
            case rel => exact ⟨i + 1, at', t2, by omega, by omega, hat, rfl, by go_num, HK6.out, HF2.out⟩
            case measure => simp [intOf]; omega
      · have hiz : (i : Int) < (n1 : Int) := by omega
        have hi80 : (80 : Int) ≤ (i : Int) := by omega
        have HKa : Hid (KL w p t wr) := HK1.out
        have HFa : Hid t.fair := HF.out
        clear HK1 HF HK
        go_wp2
        go_loopw [16] (fun s wr => ∃ (k : Nat) (t : Lks), k ≤ 30 ∧ s = .int .i64 k ∧ Hid (KL w p t wr) ∧ Hid t.fair ∧ t.many ≤ 30 - k) (fun s _ => 30 - (intOf s).toNat)
        case atStart => exact ⟨0, t, Nat.zero_le _, rfl, HKa.out, HFa.out, HKa.out.few⟩
        case round =>
          clear HKa HFa t
          obtain ⟨k, t, hk, rfl, HK1, HF, hmy⟩ := hrel
          by_cases hlt30 : k < 30
          · have hkz : (k : Int) < 30 := by omega
            have D := kl_held HK1.out
            go_wp2_with fail
            refine D.mono ?_
            rintro e w4 ⟨u, rfl, hR, hB⟩
            have HK4 : Hid (KL w p t w4) := HK1.out.old hB
            clear D hB HK1
            cases hh : t.h with
            | nil =>
              rw [hh] at hR
              obtain ⟨au, cu, rfl, _, _⟩ := hR.len
              have HW : Hid (t.h = [] ∧ t.w = []) := ⟨hh, HF.out.last hh⟩
              clear hR hh
              have D := kl_held HK4.out
              rw [HW.out.1] at D
              go_wp2_with fail
              refine D.mono ?_
              rintro e w8 ⟨v, rfl, hR, hB⟩
              have HK8 : Hid (KL w p t w8) := HK4.out.old hB
              obtain ⟨av, cv, rfl, _, _⟩ := hR.len
              have E := kl_waits HK8.out
              rw [HW.out.2] at E
              clear D hR hB HK4
              go_wp2_with fail
              refine E.mono ?_
              rintro e w9 ⟨v2, rfl, hR, hB⟩
              have HK9 : Hid (KL w p t w9) := HK8.out.old hB
              obtain ⟨av2, cv2, rfl, _, _⟩ := hR.len
              have HL : Hid (Below w.heap.size w w9) := HK9.out.low
              clear E hR hB HK8 HK9
              go_wp2
              go_ret
              exact ⟨rfl, HL.out⟩
            | cons y rest =>
              have C := kl_free HK4.out y.who
              rw [free_head hh, errV, if_pos rfl] at C
              have HMY : Hid ((t.free y.who).many < t.many) := Lks.free_fewer (free_head hh)
              have HF2 : Hid (t.free y.who).fair := HF.out.free _
              rw [hh] at hR
              obtain ⟨au, cu, rfl, _, _⟩ := hR.len
              obtain ⟨ad2, hau, hd⟩ := hR.at 0 (by simp)
              subst hau
              obtain ⟨d0, _, _, _⟩ := hd
              rw [Nat.zero_mul, add_zero, show lka (y :: rest) 0 = y from rfl] at d0
              obtain ⟨t2, ht2⟩ : ∃ t2, t.free y.who = t2 := ⟨_, rfl⟩
              rw [ht2] at C HMY HF2
              generalize t.freeW y.who = zs at *
              have hln : (y :: rest).length = rest.length + 1 := rfl
              rw [hln]
              generalize rest.length = rl at *
              have hl0 : (0 : Int) < ((rl + 1 : Nat) : Int) := by omega
              have hne : (((rl + 1 : Nat) : Int) == 0) = false := beq_eq_false_iff_ne.2 (by omega)
              generalize rl + 1 = rl1 at *
              have HMM : Hid (t2.many ≤ 30 - (k + 1)) := by have := HMY.out; (show _ ≤ _); omega
              clear hR hh ht2 HF HMY hln hmy
              go_wp2_with fail
              refine C.mono ?_
              rintro e w3 ⟨v, rfl, hRv, hK2⟩
              have HK2 : Hid (KL w p t2 w3) := hK2
              clear C hRv hK2 d0 HK4
              have D := kl_held HK2.out
              go_wp2_with fail
              refine D.mono ?_
              rintro e w4 ⟨u, rfl, hR, hB⟩
              have HK4 : Hid (KL w p t2 w4) := HK2.out.old hB
              have HR4 : Hid (RdLk w4 u t2.h) := hR
              have E := kl_waits HK4.out
              clear D hR hB HK2
              go_wp2_with fail
              refine E.mono ?_
              rintro e w5 ⟨v, rfl, hR, hB⟩
              have HK5 : Hid (KL w p t2 w5) := HK4.out.old hB
              have G := fair_any HF2.out HK5.out.few u v w5 (HR4.out.old hB) hR
              clear E hR hB HK4 HR4
              go_wp2_with fail
              refine G.mono ?_
              rintro e w6 ⟨rfl, hB⟩
              have HK6 : Hid (KL w p t2 w6) := HK5.out.old hB
              clear G hB HK5
              go_wp2
              go_roundw
              case rel => exact ⟨k + 1, t2, by omega, by go_num, HK6.out, HF2.out, HMM.out⟩
              case measure => simp [intOf]; omega
          · have hkz : (30 : Int) ≤ (k : Int) := by omega
            have HW : Hid (t.h = [] ∧ t.w = []) := by
              have : t.h.length + t.w.length ≤ 30 - k := hmy
              exact ⟨List.length_eq_zero_iff.1 (by omega), List.length_eq_zero_iff.1 (by omega)⟩
            have HK4 : Hid (KL w p t wr) := HK1.out
            clear HK1 hmy
            have D := kl_held HK4.out
            rw [HW.out.1] at D
            go_wp2_with fail
            refine D.mono ?_
            rintro e w8 ⟨v, rfl, hR, hB⟩
            have HK8 : Hid (KL w p t w8) := HK4.out.old hB
            obtain ⟨av, cv, rfl, _, _⟩ := hR.len
            have E := kl_waits HK8.out
            rw [HW.out.2] at E
            clear D hR hB HK4
            go_wp2_with fail
            refine E.mono ?_
            rintro e w9 ⟨v2, rfl, hR, hB⟩
            have HK9 : Hid (KL w p t w9) := HK8.out.old hB
            obtain ⟨av2, cv2, rfl, _, _⟩ := hR.len
            have HL : Hid (Below w.heap.size w w9) := HK9.out.low
            clear E hR hB HK8 HK9
            go_wp2
            go_ret
            exact ⟨rfl, HL.out⟩
    · have hiz : (n1 : Int) ≤ (i : Int) := by omega
      have HKa : Hid (KL w p t wr) := HK1.out
      have HFa : Hid t.fair := HF.out
      clear HK1 HF HK
      go_wp2
      go_loopw [16] (fun s wr => ∃ (k : Nat) (t : Lks), k ≤ 30 ∧ s = .int .i64 k ∧ Hid (KL w p t wr) ∧ Hid t.fair ∧ t.many ≤ 30 - k) (fun s _ => 30 - (intOf s).toNat)
      case atStart => exact ⟨0, t, Nat.zero_le _, rfl, HKa.out, HFa.out, HKa.out.few⟩
      case round =>
        clear HKa HFa t
        obtain ⟨k, t, hk, rfl, HK1, HF, hmy⟩ := hrel
        by_cases hlt30 : k < 30
        · have hkz : (k : Int) < 30 := by omega
          have D := kl_held HK1.out
          go_wp2_with fail
          refine D.mono ?_
          rintro e w4 ⟨u, rfl, hR, hB⟩
          have HK4 : Hid (KL w p t w4) := HK1.out.old hB
          clear D hB HK1
          cases hh : t.h with
          | nil =>
            rw [hh] at hR
            obtain ⟨au, cu, rfl, _, _⟩ := hR.len
            have HW : Hid (t.h = [] ∧ t.w = []) := ⟨hh, HF.out.last hh⟩
            clear hR hh
            have D := kl_held HK4.out
            rw [HW.out.1] at D
            go_wp2_with fail
            refine D.mono ?_
            rintro e w8 ⟨v, rfl, hR, hB⟩
            have HK8 : Hid (KL w p t w8) := HK4.out.old hB
            obtain ⟨av, cv, rfl, _, _⟩ := hR.len
            have E := kl_waits HK8.out
            rw [HW.out.2] at E
            clear D hR hB HK4
            go_wp2_with fail
            refine E.mono ?_
            rintro e w9 ⟨v2, rfl, hR, hB⟩
            have HK9 : Hid (KL w p t w9) := HK8.out.old hB
            obtain ⟨av2, cv2, rfl, _, _⟩ := hR.len
            have HL : Hid (Below w.heap.size w w9) := HK9.out.low
            clear E hR hB HK8 HK9
            go_wp2
            go_ret
            exact ⟨rfl, HL.out⟩
          | cons y rest =>
            have C := kl_free HK4.out y.who
            rw [free_head hh, errV, if_pos rfl] at C
            have HMY : Hid ((t.free y.who).many < t.many) := Lks.free_fewer (free_head hh)
            have HF2 : Hid (t.free y.who).fair := HF.out.free _
            rw [hh] at hR
            obtain ⟨au, cu, rfl, _, _⟩ := hR.len
            obtain ⟨ad2, hau, hd⟩ := hR.at 0 (by simp)
            subst hau
            obtain ⟨d0, _, _, _⟩ := hd
            rw [Nat.zero_mul, add_zero, show lka (y :: rest) 0 = y from rfl] at d0
            obtain ⟨t2, ht2⟩ : ∃ t2, t.free y.who = t2 := ⟨_, rfl⟩
            rw [ht2] at C HMY HF2
            generalize t.freeW y.who = zs at *
            have hln : (y :: rest).length = rest.length + 1 := rfl
            rw [hln]
            generalize rest.length = rl at *
            have hl0 : (0 : Int) < ((rl + 1 : Nat) : Int) := by omega
            have hne : (((rl + 1 : Nat) : Int) == 0) = false := beq_eq_false_iff_ne.2 (by omega)
            generalize rl + 1 = rl1 at *
            have HMM : Hid (t2.many ≤ 30 - (k + 1)) := by have := HMY.out; (show _ ≤ _); omega
            clear hR hh ht2 HF HMY hln hmy
            go_wp2_with fail
            refine C.mono ?_
            rintro e w3 ⟨v, rfl, hRv, hK2⟩
            have HK2 : Hid (KL w p t2 w3) := hK2
            clear C hRv hK2 d0 HK4
            have D := kl_held HK2.out
            go_wp2_with fail
            refine D.mono ?_
            rintro e w4 ⟨u, rfl, hR, hB⟩
            have HK4 : Hid (KL w p t2 w4) := HK2.out.old hB
            have HR4 : Hid (RdLk w4 u t2.h) := hR
            have E := kl_waits HK4.out
            clear D hR hB HK2
            go_wp2_with fail
            refine E.mono ?_
            rintro e w5 ⟨v, rfl, hR, hB⟩
            have HK5 : Hid (KL w p t2 w5) := HK4.out.old hB
            have G := fair_any HF2.out HK5.out.few u v w5 (HR4.out.old hB) hR
            clear E hR hB HK4 HR4
            go_wp2_with fail
            refine G.mono ?_
            rintro e w6 ⟨rfl, hB⟩
            have HK6 : Hid (KL w p t2 w6) := HK5.out.old hB
            clear G hB HK5
            go_wp2
            go_roundw
            case rel => exact ⟨k + 1, t2, by omega, by go_num, HK6.out, HF2.out, HMM.out⟩
            case measure => simp [intOf]; omega
        · have hkz : (30 : Int) ≤ (k : Int) := by omega
          have HW : Hid (t.h = [] ∧ t.w = []) := by
            have : t.h.length + t.w.length ≤ 30 - k := hmy
            exact ⟨List.length_eq_zero_iff.1 (by omega), List.length_eq_zero_iff.1 (by omega)⟩
          have HK4 : Hid (KL w p t wr) := HK1.out
          clear HK1 hmy
          have D := kl_held HK4.out
          rw [HW.out.1] at D
          go_wp2_with fail
          refine D.mono ?_
          rintro e w8 ⟨v, rfl, hR, hB⟩
          have HK8 : Hid (KL w p t w8) := HK4.out.old hB
          obtain ⟨av, cv, rfl, _, _⟩ := hR.len
          have E := kl_waits HK8.out
          rw [HW.out.2] at E
          clear D hR hB HK4
          go_wp2_with fail
          refine E.mono ?_
          rintro e w9 ⟨v2, rfl, hR, hB⟩
          have HK9 : Hid (KL w p t w9) := HK8.out.old hB
          obtain ⟨av2, cv2, rfl, _, _⟩ := hR.len
          have HL : Hid (Below w.heap.size w w9) := HK9.out.low
          clear E hR hB HK8 HK9
          go_wp2
          go_ret
          exact ⟨rfl, HL.out⟩
end Go.Proofs.Ytagindfgfamacaa
