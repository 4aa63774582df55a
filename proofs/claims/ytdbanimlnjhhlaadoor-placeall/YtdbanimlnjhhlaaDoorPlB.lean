/- Whether a disk is in a stripe twice; what is wrong with stripes: walks over the program. -/
import Derived.Test.YtdbanimlnjhhlaaDoorPlA
import Derived.Test.YtdbanimlnjhhlaaDoorViewII
import Derived.Test.YtdbanimlnjhhlaaDoorErrv
namespace Go.Proofs.YtdbanimlnjhhlaaDoor
open Go.RowKit
def seen10 : Array Value := Array.replicate 10 (.bool false)
theorem zero_seen10 (w : World) : (zeroValue 114).run Tryd.prog w = .ok (.agg seen10) w := by kernel_rfl
theorem mark10_any (h x : Nat) (b : Bool) (w : World) (hx : x < 10) (hc : w.cell? ⟨h, x, none⟩ = some (.bool b)) (hf : w.frozen? ⟨h, x, none⟩ = false) :
    Calls Tryd.prog 70 #[.int .i64 (x : Int), .pointer (some ⟨h, 0, none⟩)] w fun e w' => e = .returned (.bool b) ∧ w' = w.setCell ⟨h, x, none⟩ (.bool true) := by
  have hz : (x : Int) < 10 := by omega
  go_enter Tryd.func70, Tryd.ntmps70
  go_wp2
  go_ret
  exact ⟨rfl, rfl⟩
theorem seen_put {w : World} {h k x : Nat} {f : Nat → Int} (hr : RowAt w h 10 (fun y => .bool (isIn k f (y : Int)))) (hx : f k = (x : Int)) :
    RowAt (w.setCell ⟨h, x, none⟩ (.bool true)) h 10 (fun y => .bool (isIn (k + 1) f (y : Int))) ∧ Below h w (w.setCell ⟨h, x, none⟩ (.bool true)) := by
  have h1 := hr.put x (.bool true)
  refine ⟨h1.1.congr (fun i _ => ?_), h1.2⟩
  rw [isIn_succ]
  unfold up
  by_cases e : i = x
  · rw [if_pos e, decide_eq_true (show f k = (i : Int) by omega), Bool.or_true]
  · rw [if_neg e, decide_eq_false (show ¬ f k = (i : Int) by omega), Bool.or_false]
set_option maxRecDepth 100000 in
set_option maxHeartbeats 1000000 in
theorem twIndex_any (ao : Option Addr) (n cap h : Nat) (f : Nat → Int) (w : World) (hp : RdF w (.slice ao n cap) n (fun i => vi (f i))) (hf : ∀ j, j < n → 0 ≤ f j ∧ f j < 10) (hm : RowAt w h 10 (fun _ => .bool false)) (hlt : n ≠ 0 → ∀ k, (Value.slice ao n cap).ownBlock = some k → k < h) :
    Calls Tryd.prog 91 #[.slice ao n cap, .func (.func 70) #[] #[.pointer (some ⟨h, 0, none⟩)]] w fun e w' => ∃ z : Int, e = .returned (.int .i64 z) ∧ decide (0 ≤ z) = badT n f ∧ Below h w w' := by
  obtain ⟨_, _, e0, hn1, hn2⟩ := hp.len
  cases e0
  have HP : Hid (RdF w (.slice ao n cap) n (fun i => vi (f i))) := hp
  have HL : Hid (n ≠ 0 → ∀ k, (Value.slice ao n cap).ownBlock = some k → k < h) := hlt
  have HF : Hid (∀ j, j < n → 0 ≤ f j ∧ f j < 10) := hf
  clear hp hlt hf
  go_enter Tryd.func91, Tryd.ntmps91
  go_wp2
  go_loopw [8] (fun t wr => ∃ k : Nat, k ≤ n ∧ t = .int .i64 k ∧ RowAt wr h 10 (fun y => .bool (isIn k f (y : Int))) ∧ Hid (∀ i, i < k → isIn i f (f i) = false) ∧ Below h w wr) (fun t _ => n - (intOf t).toNat)
  case atStart => exact ⟨0, Nat.zero_le _, rfl, hm.congr (fun i _ => by rw [isIn_false.2 (fun j hj => absurd hj (Nat.not_lt_zero _))]), fun i hi => absurd hi (Nat.not_lt_zero _), Below.refl _ _⟩
  case round =>
    clear hm
    obtain ⟨k, hk, rfl, hm, HT, hB⟩ := hrel
    by_cases hkn : k < n
    · obtain ⟨ad, rfl, hc0⟩ := HP.out.at k hkn
      have hbl : ad.block < h := HL.out (by omega) ad.block rfl
      have d0 : wr.cell? (ad.add k) = some (.int .i64 (f k)) := by rw [hB.cell (by rw [add_block]; exact hbl)]; exact hc0
      clear hc0
      have hfk := HF.out k hkn
      obtain ⟨x, hx⟩ : ∃ x : Nat, f k = (x : Int) := ⟨(f k).toNat, by omega⟩
      have hx10 : x < 10 := by omega
      obtain ⟨b, hb⟩ : ∃ b, b = isIn k f (x : Int) := ⟨_, rfl⟩
      have hmx := hm.2 x hx10
      dsimp only at hmx
      rw [← hb] at hmx
      have HB : Hid (b = isIn k f (f k)) := by (show _ = _); rw [hb, hx]
      have C := mark10_any h x b wr hx10 hmx.1 hmx.2
      have S := seen_put hm hx
      have HM2 : Hid (RowAt (wr.setCell ⟨h, x, none⟩ (.bool true)) h 10 (fun y => .bool (isIn (k + 1) f (y : Int)))) := S.1
      have HB2 : Hid (Below h w (wr.setCell ⟨h, x, none⟩ (.bool true))) := hB.trans S.2
      rw [hx] at d0
      clear hb hmx S hm hB hfk hx
      go_wp2_with fail
      refine C.mono ?_
      rintro e w2 ⟨rfl, hw⟩
      rw [← hw] at HB2 HM2
      clear hw C d0
      cases b with
      | true =>
        go_wp2
        go_ret
        refine ⟨_, rfl, ?_, HB2.out⟩
        rw [show badT n f = true from anyB_true.2 ⟨k, hkn, HB.out.symm⟩]
        simp
      | false =>
        go_wp2
        go_roundw
        case rel => exact ⟨k + 1, by omega, by go_num, HM2.out, fun i hi => by
          by_cases e : i = k
          · rw [e]; exact HB.out.symm
          · exact HT.out i (by omega), HB2.out⟩
        case measure => simp [intOf]; omega
    · go_wp2
      go_ret
      refine ⟨_, rfl, ?_, hB⟩
      rw [show badT n f = false from anyB_false.2 (fun i hi => HT.out i (by omega))]
      rfl
set_option maxRecDepth 100000 in
set_option maxHeartbeats 400000 in
theorem twContains_any (ao : Option Addr) (n cap h : Nat) (f : Nat → Int) (w : World) (hp : RdF w (.slice ao n cap) n (fun i => vi (f i))) (hf : ∀ j, j < n → 0 ≤ f j ∧ f j < 10) (hm : RowAt w h 10 (fun _ => .bool false)) (hlt : n ≠ 0 → ∀ k, (Value.slice ao n cap).ownBlock = some k → k < h) :
    Calls Tryd.prog 68 #[.slice ao n cap, .func (.func 70) #[] #[.pointer (some ⟨h, 0, none⟩)]] w fun e w' => e = .returned (.bool (badT n f)) ∧ Below h w w' := by
  have C := twIndex_any ao n cap h f w hp hf hm hlt
  clear hp hf hm hlt
  go_enter Tryd.func68, Tryd.ntmps68
  go_wp2_with fail
  refine C.mono ?_
  rintro e w1 ⟨z, rfl, hz, hB⟩
  have HZ : Hid (decide (0 ≤ z) = badT n f) := hz
  clear C hz
  go_wp2
  go_ret
  exact ⟨by rw [← HZ.out]; rfl, hB⟩
set_option maxRecDepth 100000 in
set_option maxHeartbeats 400000 in
theorem tw_any (v : Value) (n : Nat) (f : Nat → Int) (w : World) (hp : RdF w v n (fun i => vi (f i))) (hf : ∀ j, j < n → 0 ≤ f j ∧ f j < 10) :
    Calls Tryd.prog 52 #[v] w fun e w' => e = .returned (.bool (badT n f)) ∧ Below w.heap.size w w' := by
  obtain ⟨ao, cap, rfl, _, _⟩ := hp.len
  have C := twContains_any ao n cap w.heap.size f _ (hp.old (al_below w (.cells seen10 114))) hf (RowAt.new w 10 (.bool false) 114) (by
    intro h0 k hk
    rcases hp with ⟨_, e⟩ | ⟨ad, cp, e, _, _, h3⟩
    · exact absurd e h0
    · rw [e] at hk
      simp only [Value.ownBlock, Option.some.injEq] at hk
      have := World.block_lt_of_cell? w _ (h3 0 (by omega))
      rw [add_block] at this
      omega)
  have HB : Hid (Below w.heap.size w (w.alloc (.cells seen10 114))) := al_below _ _
  clear hp hf
  generalize badT n f = b at *
  have hz := zero_seen10
  go_enter Tryd.func52, Tryd.ntmps52
  go_wp2_with (first | (go_at_call 68; refine C.mono ?_; rintro e w1 ⟨rfl, hB⟩) | go_in)
  go_ret
  exact ⟨rfl, HB.out.trans hB⟩
set_option maxRecDepth 100000 in
set_option maxHeartbeats 2000000 in
theorem pcheck_any (n : Int) (v : Value) (m : Nat) (L : Nat → Nat) (F : Nat → Nat → Int) (w : World) (hr : RdII w v m L F) :
    Calls Tryd.prog 32 #[.int .i64 n, v] w fun e w' => e = .returned (errV (stE n m L F)) ∧ Below w.heap.size w w' := by
  have A := noarray_any n w
  by_cases h1 : n < 1 ∨ 10 < n
  · rw [show stE n m L F = 1 from if_pos h1, errV_ne (by omega)]
    rw [noAr_true.2 h1] at A
    clear h1
    obtain ⟨rv, hv, _⟩ := hr
    obtain ⟨ao, cap, rfl, _, _⟩ := hv.len
    clear hv
    go_enter Tryd.func32, Tryd.ntmps32
    go_wp2_with fail
    refine A.mono ?_
    rintro e w1 ⟨rfl, hw⟩
    obtain rfl := hw.symm
    clear A hw
    go_wp2
    go_ret
    exact ⟨rfl, Below.refl _ _⟩
  · rw [noAr_false.2 (by omega)] at A
    have hn10 : n ≤ 10 := by omega
    by_cases h2 : 40 < m
    · have hm : decide ((40 : Int) < (m : Int)) = true := decide_eq_true (by omega)
      rw [show stE n m L F = 4 by unfold stE; rw [if_neg h1, if_pos h2], errV_ne (by omega)]
      obtain ⟨rv, hv, _⟩ := hr
      obtain ⟨ao, cap, rfl, _, _⟩ := hv.len
      clear hv h1 h2
      go_enter Tryd.func32, Tryd.ntmps32
      go_wp2_with fail
      refine A.mono ?_
      rintro e w1 ⟨rfl, hw⟩
      obtain rfl := hw.symm
      clear A hw
      go_wp2
      go_ret
      exact ⟨rfl, Below.refl _ _⟩
    · have hm : decide ((40 : Int) < (m : Int)) = false := decide_eq_false (by omega)
      have hm40 : m ≤ 40 := by omega
      have HE : Hid (stE n m L F = fstE (fun i => rowE n (L i) (F i)) m) := by (show _ = _); unfold stE; rw [if_neg h1, if_neg h2]
      have HR : Hid (RdII w v m L F) := hr
      obtain ⟨rv, hv, _⟩ := hr
      obtain ⟨ao, cap, rfl, _, _⟩ := hv.len
      clear hv h1 h2
      go_enter Tryd.func32, Tryd.ntmps32
      go_wp2_with fail
      refine A.mono ?_
      rintro e w1 ⟨rfl, hw⟩
      obtain rfl := hw.symm
      clear A hw
      go_wp2
      go_loopw [16] (fun t wr => ∃ k : Nat, k ≤ m ∧ t = .int .i64 k ∧ Hid (∀ i, i < k → rowE n (L i) (F i) = 0) ∧ Below w.heap.size w wr) (fun t _ => m - (intOf t).toNat)
      case atStart => exact ⟨0, Nat.zero_le _, rfl, fun i hi => absurd hi (Nat.not_lt_zero _), Below.refl _ _⟩
      case round =>
        obtain ⟨k, hk, rfl, HF, hB⟩ := hrel
        by_cases hlt : k < m
        · obtain ⟨rv', hv', hrow⟩ := HR.out.old hB
          obtain ⟨ad, rfl, hc⟩ := hv'.at k hlt
          have hrk := hrow k hlt
          obtain ⟨ar, cr, er, _, _⟩ := hrk.len
          rw [er] at hc hrk
          have D := nod_any _ _ _ n wr hrk
          have hsz := hB.size
          have HRK : Hid (RdF wr (.slice ar (L k) cr) (L k) (fun i => vi (F k i))) := hrk
          have HB : Hid (Below w.heap.size w wr) := hB
          clear hv' hrow hrk er hB
          cases hbr : badR n (L k) (F k) with
          | true =>
            have HZ : Hid (stE n m L F = 1) := by
              (show _ = _)
              rw [HE.out, fstE_at HF.out (by rw [rowE_range hbr]; omega) m hlt, rowE_range hbr]
            rw [hbr] at D
            clear hbr HF
            generalize L k = lk at *
            go_wp2_with fail
            refine D.mono ?_
            rintro e w2 ⟨rfl, hB2⟩
            have HB2 : Hid (Below w.heap.size w w2) := HB.out.trans (hB2.mono hsz)
            clear D hc hB2 HB HRK
            go_wp2
            go_ret
            exact ⟨by rw [HZ.out, errV_ne (by omega)]; rfl, HB2.out⟩
          | false =>
            rw [hbr] at D
            have HBR : Hid (badR n (L k) (F k) = false) := hbr
            clear hbr
            obtain ⟨lk, hlk⟩ : ∃ lk, lk = L k := ⟨_, rfl⟩
            have HLK : Hid (lk = L k) := hlk
            rw [← hlk] at D hc HRK
            clear hlk
            go_wp2_with fail
            refine D.mono ?_
            rintro e w2 ⟨rfl, hB2⟩
            have T := tw_any _ lk (F k) w2 (HRK.out.old hB2) (fun j hj => by have := badR_false.1 HBR.out j (by rw [← HLK.out]; exact hj); omega)
            have HB2 : Hid (Below w.heap.size w w2) := HB.out.trans (hB2.mono hsz)
            have hsz2 := HB2.out.size
            clear D hc hB2 HB HRK
            cases hbt : badT lk (F k) with
            | true =>
              have HZ : Hid (stE n m L F = 7) := by
                (show _ = _)
                have e7 : rowE n (L k) (F k) = 7 := rowE_clash HBR.out (by rw [← HLK.out]; exact hbt)
                rw [HE.out, fstE_at HF.out (by rw [e7]; omega) m hlt, e7]
              rw [hbt] at T
              clear hbt HF HBR HLK
              go_wp2_with fail
              refine T.mono ?_
              rintro e w3 ⟨rfl, hB3⟩
              have HB3 : Hid (Below w.heap.size w w3) := HB2.out.trans (hB3.mono hsz2)
              clear T hB3 HB2
              go_wp2
              go_ret
              exact ⟨by rw [HZ.out, errV_ne (by omega)]; rfl, HB3.out⟩
            | false =>
              have HF2 : Hid (∀ i, i < k + 1 → rowE n (L i) (F i) = 0) := fun i hi => by
                by_cases e : i = k
                · rw [e]
                  unfold rowE
                  rw [HBR.out, ← HLK.out, hbt, if_neg Bool.false_ne_true, if_neg Bool.false_ne_true]
                · exact HF.out i (by omega)
              rw [hbt] at T
              clear hbt HF HBR HLK
              go_wp2_with fail
              refine T.mono ?_
              rintro e w3 ⟨rfl, hB3⟩
              have HB3 : Hid (Below w.heap.size w w3) := HB2.out.trans (hB3.mono hsz2)
              clear T hB3 HB2
              go_wp2
              go_roundw
              case rel => exact ⟨k + 1, by omega, by go_num, HF2, HB3.out⟩
              case measure => simp [intOf]; omega
        · have HZ : Hid (stE n m L F = 0) := by
            (show _ = _)
            rw [HE.out, fstE_zero]
            exact fun i hi => HF.out i (by omega)
          go_wp2
          go_ret
          exact ⟨by rw [HZ.out]; rfl, hB⟩
end Go.Proofs.YtdbanimlnjhhlaaDoor
