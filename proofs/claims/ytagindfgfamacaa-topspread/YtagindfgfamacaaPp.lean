/- Texts of plain mathematics, of memory and of walks, in one. -/
import Derived.Test.YtagindfgfamacaaOwIs
import Derived.Test.YtagindfgfamacaaGe
import Derived.Test.YtagindfgfamacaaPc
import Derived.BigQuiet
import Derived.Test.YtagindfgfamacaaVw
import Derived.Test.YtagindfgfamacaaOwNs
/- Whether there is such a disk, such an array; whether a stripe has a disk that is none: walks over the program. -/
namespace Go.Proofs.Ytagindfgfamacaa
open Go.RowKit
/-- there is no such array -/
def noAr (n : Int) : Bool := decide (n < 1) || decide (10 < n)
theorem noAr_false {n : Int} : noAr n = false ↔ 1 ≤ n ∧ n ≤ 10 := by
  unfold noAr
  rw [Bool.or_eq_false_iff, decide_eq_false_iff_not, decide_eq_false_iff_not]
  omega
theorem noAr_true {n : Int} : noAr n = true ↔ n < 1 ∨ 10 < n := by
  unfold noAr
  rw [Bool.or_eq_true, decide_eq_true_iff, decide_eq_true_iff]
theorem noarray_any (n : Int) (w : World) : Calls Try.prog 19 #[.int .i64 n] w fun e w' => e = .returned (.bool (noAr n)) ∧ w' = w := by
  by_cases h1 : n < 1
  · rw [noAr_true.2 (.inl h1)]
    go_enter Try.func19, Try.ntmps19
    go_wp2
    go_ret
    exact ⟨rfl, rfl⟩
  · by_cases h2 : 10 < n
    · rw [noAr_true.2 (.inr h2)]
      go_enter Try.func19, Try.ntmps19
      go_wp2
      go_ret
      exact ⟨by simp <;> omega, rfl⟩
    · rw [noAr_false.2 (by omega)]
      go_enter Try.func19, Try.ntmps19
      go_wp2
      go_ret
      exact ⟨by simp <;> omega, rfl⟩
theorem nodisk_any (n d : Int) (w : World) : Calls Try.prog 91 #[.int .i64 n, .int .i64 d] w fun e w' => e = .returned (.bool (noDk n d)) ∧ w' = w := by
  by_cases h1 : d < 0
  · rw [noDk_true.2 (.inl h1)]
    go_enter Try.func91, Try.ntmps91
    go_wp2
    go_ret
    exact ⟨rfl, rfl⟩
  · by_cases h2 : n ≤ d
    · rw [noDk_true.2 (.inr h2)]
      go_enter Try.func91, Try.ntmps91
      go_wp2
      go_ret
      exact ⟨by simp <;> omega, rfl⟩
    · rw [noDk_false.2 (by omega)]
      go_enter Try.func91, Try.ntmps91
      go_wp2
      go_ret
      exact ⟨by simp <;> omega, rfl⟩
/-- a stripe has a disk that is none -/
theorem nod1_any (n d : Int) (h : Nat) (w : World) (hc : w.cell? ⟨h, 0, none⟩ = some (.int .i64 n)) :
    Calls Try.prog 90 #[.int .i64 d, .pointer (some ⟨h, 0, none⟩)] w fun e w' => e = .returned (.bool (noDk n d)) ∧ w' = w := by
  have C := nodisk_any n d w
  generalize noDk n d = b at *
  go_enter Try.func90, Try.ntmps90
  go_wp2_with fail
  refine C.mono ?_
  rintro e w1 ⟨rfl, hw⟩
  obtain rfl := hw.symm
  clear C hw
  go_wp2
  go_ret
  exact ⟨rfl, rfl⟩
set_option maxHeartbeats 400000 in
theorem nodIndex_any (ao : Option Addr) (n cap h : Nat) (f : Nat → Int) (m : Int) (w : World) (hr : RdF w (.slice ao n cap) n (fun i => vi (f i))) (hh : w.cell? ⟨h, 0, none⟩ = some (.int .i64 m)) :
    Calls Try.prog 102 #[.slice ao n cap, .func (.func 90) #[] #[.pointer (some ⟨h, 0, none⟩)]] w fun e w' => ∃ z, e = .returned (.int .i64 z) ∧ Fst (fun i => noDk m (f i)) n z ∧ w' = w := by
  obtain ⟨_, _, e0, hn1, hn2⟩ := hr.len
  cases e0
  have HR : Hid (RdF w (.slice ao n cap) n (fun i => vi (f i))) := hr
  have HH : Hid (w.cell? ⟨h, 0, none⟩ = some (.int .i64 m)) := hh
  clear hr hh
  go_enter Try.func102, Try.ntmps102
  go_wp2
  go_loop [8] (fun t => ∃ k : Nat, k ≤ n ∧ t = .int .i64 k ∧ Hid (∀ i, i < k → noDk m (f i) = false)) (fun t => n - (intOf t).toNat)
  case atStart => exact ⟨0, Nat.zero_le _, rfl, fun i hi => absurd hi (Nat.not_lt_zero _)⟩
  case round =>
    obtain ⟨k, hk, rfl, HF⟩ := hrel
    by_cases hlt : k < n
    · obtain ⟨ad, rfl, hck⟩ := HR.out.at k hlt
      unfold vi at hck
      have C := nod1_any m (f k) h w HH.out
      obtain ⟨b, hb⟩ : ∃ b, b = noDk m (f k) := ⟨_, rfl⟩
      rw [← hb] at C
      have HB : Hid (b = noDk m (f k)) := hb
      obtain ⟨y, hy⟩ : ∃ y, y = f k := ⟨_, rfl⟩
      rw [← hy] at C hck
      clear hb hy
      cases b
      all_goals
        go_wp2_with fail
        refine C.mono ?_
        rintro e w1 ⟨rfl, hw⟩
        obtain rfl := hw.symm
        clear C
        go_wp2
      · go_round
        case rel => exact ⟨k + 1, by omega, by go_num, fun i hi => by
          by_cases e : i = k
          · rw [e]; exact HB.out.symm
          · exact HF.out i (by omega)⟩
        case measure => simp [intOf]; omega
      · go_ret
        exact ⟨_, rfl, .inr ⟨k, hlt, rfl, HB.out.symm⟩, rfl⟩
    · go_wp2
      go_ret
      exact ⟨_, rfl, .inl ⟨rfl, fun i hi => HF.out i (by omega)⟩, rfl⟩
theorem nodContains_any (ao : Option Addr) (n cap h : Nat) (f : Nat → Int) (m : Int) (w : World) (hr : RdF w (.slice ao n cap) n (fun i => vi (f i))) (hh : w.cell? ⟨h, 0, none⟩ = some (.int .i64 m)) :
    Calls Try.prog 89 #[.slice ao n cap, .func (.func 90) #[] #[.pointer (some ⟨h, 0, none⟩)]] w fun e w' => e = .returned (.bool (badR m n f)) ∧ w' = w := by
  have C := nodIndex_any ao n cap h f m w hr hh
  clear hr hh
  go_enter Try.func89, Try.ntmps89
  go_wp2_with fail
  refine C.mono ?_
  rintro e w1 ⟨z, rfl, hz, hw⟩
  obtain rfl := hw.symm
  have HZ : Hid (decide (0 ≤ z) = badR m n f) := hz.any
  clear C hz
  go_wp2
  go_ret
  exact ⟨by rw [← HZ.out]; rfl, rfl⟩
theorem nod_any (v : Value) (n : Nat) (f : Nat → Int) (m : Int) (w : World) (hr : RdF w v n (fun i => vi (f i))) :
    Calls Try.prog 68 #[.int .i64 m, v] w fun e w' => e = .returned (.bool (badR m n f)) ∧ Below w.heap.size w w' := by
  obtain ⟨ao, cap, rfl, _, _⟩ := hr.len
  have C := nodContains_any ao n cap w.heap.size f m _ (hr.old (al_below w (.cells #[.int .i64 m] 3))) (cell_new w (.int .i64 m) 3)
  have HB : Hid (Below w.heap.size w (w.alloc (.cells #[.int .i64 m] 3))) := al_below _ _
  clear hr
  generalize badR m n f = b at *
  go_enter Try.func68, Try.ntmps68
  go_wp2_with fail
  refine C.mono ?_
  rintro e w1 ⟨rfl, hw⟩
  rw [← hw] at HB
  clear C hw
  go_wp2
  go_ret
  exact ⟨rfl, HB.out⟩
end Go.Proofs.Ytagindfgfamacaa

/- Whether a disk is in a stripe twice; what is wrong with stripes: walks over the program. -/
namespace Go.Proofs.Ytagindfgfamacaa
open Go.RowKit
def seen10 : Array Value := Array.replicate 10 (.bool false)
theorem zero_seen10 (w : World) : (zeroValue 117).run Try.prog w = .ok (.agg seen10) w := by kernel_rfl
theorem mark10_any (h x : Nat) (b : Bool) (w : World) (hx : x < 10) (hc : w.cell? ⟨h, x, none⟩ = some (.bool b)) (hf : w.frozen? ⟨h, x, none⟩ = false) :
    Calls Try.prog 92 #[.int .i64 (x : Int), .pointer (some ⟨h, 0, none⟩)] w fun e w' => e = .returned (.bool b) ∧ w' = w.setCell ⟨h, x, none⟩ (.bool true) := by
  have hz : (x : Int) < 10 := by omega
  go_enter Try.func92, Try.ntmps92
  go_wp2
  go_ret
  exact ⟨rfl, rfl⟩
theorem seen_put {w : World} {h k x : Nat} {f : Nat → Int} (hr : RowAt w h 10 (fun y => .bool (isIn k f (y : Int)))) (hx : f k = (x : Int)) :
    RowAt (w.setCell ⟨h, x, none⟩ (.bool true)) h 10 (fun y => .bool (isIn (k + 1) f (y : Int))) ∧ Below h w (w.setCell ⟨h, x, none⟩ (.bool true)) := by
  have h1 := hr.put x (.bool true)
  refine ⟨h1.1.congr (fun i _ => ?_), h1.2⟩
  rw [isIn_succ]
  unfold up
  by_cases e : i = x
  · rw [if_pos e, decide_eq_true (show f k = (i : Int) by omega), Bool.or_true]
  · rw [if_neg e, decide_eq_false (show ¬ f k = (i : Int) by omega), Bool.or_false]
set_option maxRecDepth 100000 in
set_option maxHeartbeats 1000000 in
theorem twIndex_any (ao : Option Addr) (n cap h : Nat) (f : Nat → Int) (w : World) (hp : RdF w (.slice ao n cap) n (fun i => vi (f i))) (hf : ∀ j, j < n → 0 ≤ f j ∧ f j < 10) (hm : RowAt w h 10 (fun _ => .bool false)) (hlt : n ≠ 0 → ∀ k, (Value.slice ao n cap).ownBlock = some k → k < h) :
    Calls Try.prog 102 #[.slice ao n cap, .func (.func 92) #[] #[.pointer (some ⟨h, 0, none⟩)]] w fun e w' => ∃ z : Int, e = .returned (.int .i64 z) ∧ decide (0 ≤ z) = badT n f ∧ Below h w w' := by
  obtain ⟨_, _, e0, hn1, hn2⟩ := hp.len
  cases e0
  have HP : Hid (RdF w (.slice ao n cap) n (fun i => vi (f i))) := hp
  have HL : Hid (n ≠ 0 → ∀ k, (Value.slice ao n cap).ownBlock = some k → k < h) := hlt
  have HF : Hid (∀ j, j < n → 0 ≤ f j ∧ f j < 10) := hf
  clear hp hlt hf
  go_enter Try.func102, Try.ntmps102
  go_wp2
  go_loopw [8] (fun t wr => ∃ k : Nat, k ≤ n ∧ t = .int .i64 k ∧ RowAt wr h 10 (fun y => .bool (isIn k f (y : Int))) ∧ Hid (∀ i, i < k → isIn i f (f i) = false) ∧ Below h w wr) (fun t _ => n - (intOf t).toNat)
  case atStart => exact ⟨0, Nat.zero_le _, rfl, hm.congr (fun i _ => by rw [isIn_false.2 (fun j hj => absurd hj (Nat.not_lt_zero _))]), fun i hi => absurd hi (Nat.not_lt_zero _), Below.refl _ _⟩
  case round =>
    clear hm
    obtain ⟨k, hk, rfl, hm, HT, hB⟩ := hrel
    by_cases hkn : k < n
    · obtain ⟨ad, rfl, hc0⟩ := HP.out.at k hkn
      have hbl : ad.block < h := HL.out (by omega) ad.block rfl
      have d0 : wr.cell? (ad.add k) = some (.int .i64 (f k)) := by rw [hB.cell (by rw [add_block]; exact hbl)]; exact hc0
      clear hc0
      have hfk := HF.out k hkn
      obtain ⟨x, hx⟩ : ∃ x : Nat, f k = (x : Int) := ⟨(f k).toNat, by omega⟩
      have hx10 : x < 10 := by omega
      obtain ⟨b, hb⟩ : ∃ b, b = isIn k f (x : Int) := ⟨_, rfl⟩
      have hmx := hm.2 x hx10
      dsimp only at hmx
      rw [← hb] at hmx
      have HB : Hid (b = isIn k f (f k)) := by (show _ = _); rw [hb, hx]
      have C := mark10_any h x b wr hx10 hmx.1 hmx.2
      have S := seen_put hm hx
      have HM2 : Hid (RowAt (wr.setCell ⟨h, x, none⟩ (.bool true)) h 10 (fun y => .bool (isIn (k + 1) f (y : Int)))) := S.1
      have HB2 : Hid (Below h w (wr.setCell ⟨h, x, none⟩ (.bool true))) := hB.trans S.2
      rw [hx] at d0
      clear hb hmx S hm hB hfk hx
      go_wp2_with fail
      refine C.mono ?_
      rintro e w2 ⟨rfl, hw⟩
      rw [← hw] at HB2 HM2
      clear hw C d0
      cases b with
      | true =>
        go_wp2
        go_ret
        refine ⟨_, rfl, ?_, HB2.out⟩
        rw [show badT n f = true from anyB_true.2 ⟨k, hkn, HB.out.symm⟩]
        simp
      | false =>
        go_wp2
        go_roundw
        case rel => exact ⟨k + 1, by omega, by go_num, HM2.out, fun i hi => by
          by_cases e : i = k
          · rw [e]; exact HB.out.symm
          · exact HT.out i (by omega), HB2.out⟩
        case measure => simp [intOf]; omega
    · go_wp2
      go_ret
      refine ⟨_, rfl, ?_, hB⟩
      rw [show badT n f = false from anyB_false.2 (fun i hi => HT.out i (by omega))]
      rfl
set_option maxRecDepth 100000 in
set_option maxHeartbeats 400000 in
theorem twContains_any (ao : Option Addr) (n cap h : Nat) (f : Nat → Int) (w : World) (hp : RdF w (.slice ao n cap) n (fun i => vi (f i))) (hf : ∀ j, j < n → 0 ≤ f j ∧ f j < 10) (hm : RowAt w h 10 (fun _ => .bool false)) (hlt : n ≠ 0 → ∀ k, (Value.slice ao n cap).ownBlock = some k → k < h) :
    Calls Try.prog 89 #[.slice ao n cap, .func (.func 92) #[] #[.pointer (some ⟨h, 0, none⟩)]] w fun e w' => e = .returned (.bool (badT n f)) ∧ Below h w w' := by
  have C := twIndex_any ao n cap h f w hp hf hm hlt
  clear hp hf hm hlt
  go_enter Try.func89, Try.ntmps89
  go_wp2_with fail
  refine C.mono ?_
  rintro e w1 ⟨z, rfl, hz, hB⟩
  have HZ : Hid (decide (0 ≤ z) = badT n f) := hz
  clear C hz
  go_wp2
  go_ret
  exact ⟨by rw [← HZ.out]; rfl, hB⟩
set_option maxRecDepth 100000 in
set_option maxHeartbeats 400000 in
theorem tw_any (v : Value) (n : Nat) (f : Nat → Int) (w : World) (hp : RdF w v n (fun i => vi (f i))) (hf : ∀ j, j < n → 0 ≤ f j ∧ f j < 10) :
    Calls Try.prog 69 #[v] w fun e w' => e = .returned (.bool (badT n f)) ∧ Below w.heap.size w w' := by
  obtain ⟨ao, cap, rfl, _, _⟩ := hp.len
  have C := twContains_any ao n cap w.heap.size f _ (hp.old (al_below w (.cells seen10 117))) hf (RowAt.new w 10 (.bool false) 117) (by
    intro h0 k hk
    rcases hp with ⟨_, e⟩ | ⟨ad, cp, e, _, _, h3⟩
    · exact absurd e h0
    · rw [e] at hk
      simp only [Value.ownBlock, Option.some.injEq] at hk
      have := World.block_lt_of_cell? w _ (h3 0 (by omega))
      rw [add_block] at this
      omega)
  have HB : Hid (Below w.heap.size w (w.alloc (.cells seen10 117))) := al_below _ _
  clear hp hf
  generalize badT n f = b at *
  have hz := zero_seen10
  go_enter Try.func69, Try.ntmps69
  go_wp2_with (first | (go_at_call 89; refine C.mono ?_; rintro e w1 ⟨rfl, hB⟩) | go_in)
  go_ret
  exact ⟨rfl, HB.out.trans hB⟩
set_option maxRecDepth 100000 in
set_option maxHeartbeats 2000000 in
theorem pcheck_any (n : Int) (v : Value) (m : Nat) (L : Nat → Nat) (F : Nat → Nat → Int) (w : World) (hr : RdII w v m L F) :
    Calls Try.prog 47 #[.int .i64 n, v] w fun e w' => e = .returned (errV (stE n m L F)) ∧ Below w.heap.size w w' := by
  have A := noarray_any n w
  by_cases h1 : n < 1 ∨ 10 < n
  · rw [show stE n m L F = 1 from if_pos h1, errV_ne (by omega)]
    rw [noAr_true.2 h1] at A
    clear h1
    obtain ⟨rv, hv, _⟩ := hr
    obtain ⟨ao, cap, rfl, _, _⟩ := hv.len
    clear hv
    go_enter Try.func47, Try.ntmps47
    go_wp2_with fail
    refine A.mono ?_
    rintro e w1 ⟨rfl, hw⟩
    obtain rfl := hw.symm
    clear A hw
    go_wp2
    go_ret
    exact ⟨rfl, Below.refl _ _⟩
  · rw [noAr_false.2 (by omega)] at A
    have hn10 : n ≤ 10 := by omega
    by_cases h2 : 40 < m
    · have hm : decide ((40 : Int) < (m : Int)) = true := decide_eq_true (by omega)
      rw [show stE n m L F = 4 by unfold stE; rw [if_neg h1, if_pos h2], errV_ne (by omega)]
      obtain ⟨rv, hv, _⟩ := hr
      obtain ⟨ao, cap, rfl, _, _⟩ := hv.len
      clear hv h1 h2
      go_enter Try.func47, Try.ntmps47
      go_wp2_with fail
      refine A.mono ?_
      rintro e w1 ⟨rfl, hw⟩
      obtain rfl := hw.symm
      clear A hw
      go_wp2
      go_ret
      exact ⟨rfl, Below.refl _ _⟩
    · have hm : decide ((40 : Int) < (m : Int)) = false := decide_eq_false (by omega)
      have hm40 : m ≤ 40 := by omega
      have HE : Hid (stE n m L F = fstE (fun i => rowE n (L i) (F i)) m) := by (show _ = _); unfold stE; rw [if_neg h1, if_neg h2]
      have HR : Hid (RdII w v m L F) := hr
      obtain ⟨rv, hv, _⟩ := hr
      obtain ⟨ao, cap, rfl, _, _⟩ := hv.len
      clear hv h1 h2
      go_enter Try.func47, Try.ntmps47
      go_wp2_with fail
      refine A.mono ?_
      rintro e w1 ⟨rfl, hw⟩
      obtain rfl := hw.symm
      clear A hw
      go_wp2
      go_loopw [16] (fun t wr => ∃ k : Nat, k ≤ m ∧ t = .int .i64 k ∧ Hid (∀ i, i < k → rowE n (L i) (F i) = 0) ∧ Below w.heap.size w wr) (fun t _ => m - (intOf t).toNat)
      case atStart => exact ⟨0, Nat.zero_le _, rfl, fun i hi => absurd hi (Nat.not_lt_zero _), Below.refl _ _⟩
      case round =>
        obtain ⟨k, hk, rfl, HF, hB⟩ := hrel
        by_cases hlt : k < m
        · obtain ⟨rv', hv', hrow⟩ := HR.out.old hB
          obtain ⟨ad, rfl, hc⟩ := hv'.at k hlt
          have hrk := hrow k hlt
          obtain ⟨ar, cr, er, _, _⟩ := hrk.len
          rw [er] at hc hrk
          have D := nod_any _ _ _ n wr hrk
          have hsz := hB.size
          have HRK : Hid (RdF wr (.slice ar (L k) cr) (L k) (fun i => vi (F k i))) := hrk
          have HB : Hid (Below w.heap.size w wr) := hB
          clear hv' hrow hrk er hB
          cases hbr : badR n (L k) (F k) with
          | true =>
            have HZ : Hid (stE n m L F = 1) := by
              (show _ = _)
              rw [HE.out, fstE_at HF.out (by rw [rowE_range hbr]; omega) m hlt, rowE_range hbr]
            rw [hbr] at D
            clear hbr HF
            generalize L k = lk at *
            go_wp2_with fail
            refine D.mono ?_
            rintro e w2 ⟨rfl, hB2⟩
            have HB2 : Hid (Below w.heap.size w w2) := HB.out.trans (hB2.mono hsz)
            clear D hc hB2 HB HRK
            go_wp2
            go_ret
            exact ⟨by rw [HZ.out, errV_ne (by omega)]; rfl, HB2.out⟩
          | false =>
            rw [hbr] at D
            have HBR : Hid (badR n (L k) (F k) = false) := hbr
            clear hbr
            obtain ⟨lk, hlk⟩ : ∃ lk, lk = L k := ⟨_, rfl⟩
            have HLK : Hid (lk = L k) := hlk
            rw [← hlk] at D hc HRK
            clear hlk
            go_wp2_with fail
            refine D.mono ?_
            rintro e w2 ⟨rfl, hB2⟩
            have T := tw_any _ lk (F k) w2 (HRK.out.old hB2) (fun j hj => by have := badR_false.1 HBR.out j (by rw [← HLK.out]; exact hj); omega)
            have HB2 : Hid (Below w.heap.size w w2) := HB.out.trans (hB2.mono hsz)
            have hsz2 := HB2.out.size
            clear D hc hB2 HB HRK
            cases hbt : badT lk (F k) with
            | true =>
              have HZ : Hid (stE n m L F = 7) := by
                (show _ = _)
                have e7 : rowE n (L k) (F k) = 7 := rowE_clash HBR.out (by rw [← HLK.out]; exact hbt)
                rw [HE.out, fstE_at HF.out (by rw [e7]; omega) m hlt, e7]
              rw [hbt] at T
              clear hbt HF HBR HLK
              go_wp2_with fail
              refine T.mono ?_
              rintro e w3 ⟨rfl, hB3⟩
              have HB3 : Hid (Below w.heap.size w w3) := HB2.out.trans (hB3.mono hsz2)
              clear T hB3 HB2
              go_wp2
              go_ret
              exact ⟨by rw [HZ.out, errV_ne (by omega)]; rfl, HB3.out⟩
            | false =>
              have HF2 : Hid (∀ i, i < k + 1 → rowE n (L i) (F i) = 0) := fun i hi => by
                by_cases e : i = k
                · rw [e]
                  unfold rowE
                  rw [HBR.out, ← HLK.out, hbt, if_neg Bool.false_ne_true, if_neg Bool.false_ne_true]
                · exact HF.out i (by omega)
              rw [hbt] at T
              clear hbt HF HBR HLK
              go_wp2_with fail
              refine T.mono ?_
              rintro e w3 ⟨rfl, hB3⟩
              have HB3 : Hid (Below w.heap.size w w3) := HB2.out.trans (hB3.mono hsz2)
              clear T hB3 HB2
              go_wp2
              go_roundw
              case rel => exact ⟨k + 1, by omega, by go_num, HF2, HB3.out⟩
              case measure => simp [intOf]; omega
        · have HZ : Hid (stE n m L F = 0) := by
            (show _ = _)
            rw [HE.out, fstE_zero]
            exact fun i hi => HF.out i (by omega)
          go_wp2
          go_ret
          exact ⟨by rw [HZ.out]; rfl, hB⟩
end Go.Proofs.Ytagindfgfamacaa

/- Blocks counted on disks; loads, peers, who is hurt: walks over the program. -/
namespace Go.Proofs.Ytagindfgfamacaa
open Go.RowKit
/-- numbers of the call's own, by their places, in one block -/
abbrev OwC (B : Nat) (w : World) (g n cap : Nat) (f : Nat → Nat) : Prop := OwI B w (.slice (some ⟨g, 0, none⟩) n cap) n (fun i => ((f i : Nat) : Int))
theorem OwC.up {B g n cap d : Nat} {w : World} {f f' : Nat → Nat} (h : OwC B w g n cap f) (x : Nat) (e : ∀ i, up f d x i = f' i) :
    OwC B (w.setCell ⟨g, d, none⟩ (.int .i64 (x : Int))) g n cap f' ∧ w.grownBy (w.setCell ⟨g, d, none⟩ (.int .i64 (x : Int))) (some g) := by
  have h1 := OwI.stored h d (x : Int)
  refine ⟨OwI.congr h1.1 (fun i _ => ?_), h1.2⟩
  rw [← e i]
  unfold Go.Proofs.Ytagindfgfamacaa.up
  split <;> rfl
theorem OwI.hd {B n : Nat} {w : World} {v : Value} {f : Nat → Int} (h : OwI B w v n f) (hn : 1 ≤ n) : ∃ g cap, v = .slice (some ⟨g, 0, none⟩) n cap ∧ B ≤ g := by
  rcases h.2 with ⟨rfl, e⟩ | ⟨g, cap, cur, rfl, hB, _⟩
  · omega
  · exact ⟨g, cap, rfl, hB⟩
set_option maxRecDepth 100000 in
set_option maxHeartbeats 1000000 in
theorem addTo_any {B g n cap l : Nat} {f : Nat → Nat} {v : Value} {r : Nat → Int} {w : World} (h : OwC B w g n cap f) (hr : RdF w v l (fun i => vi (r i))) (hne : l ≠ 0 → v.ownBlock ≠ some g) (hok : RowOk (n : Int) l r) (hf : ∀ i, f i ≤ 1000) :
    Calls Try.prog 21 #[.slice (some ⟨g, 0, none⟩) n cap, v] w fun e w' => e = .returned (.tuple #[]) ∧ OwC B w' g n cap (ctd f l r) ∧ But (· = g) w w' := by
  obtain ⟨ao, c1, rfl, hn1, hn2⟩ := hr.len
  have HR : Hid (RdF w (.slice ao l c1) l (fun i => vi (r i))) := hr
  have HO : Hid (RowOk (n : Int) l r) := hok
  have HF : Hid (∀ i, f i ≤ 1000) := hf
  have HN : Hid (l ≠ 0 → (Value.slice ao l c1).ownBlock ≠ some g) := hne
  have H0 : Hid (OwC B w g n cap f) := h
  clear hr hok hf hne h
  go_enter Try.func21, Try.ntmps21
  go_wp2
  go_loopw [8] (fun t wr => ∃ k : Nat, k ≤ l ∧ t = .int .i64 k ∧ OwC B wr g n cap (ctd f k r) ∧ But (· = g) w wr) (fun t _ => l - (intOf t).toNat)
  case atStart => exact ⟨0, Nat.zero_le _, rfl, H0.out.congr (fun i _ => by rw [ctd_zero]), But.refl _ _⟩
  case round =>
    clear H0
    obtain ⟨k, hk, rfl, hO, hB⟩ := hrel
    by_cases hlt : k < l
    · obtain ⟨ad, rfl, hc⟩ := (HR.out.but hB (fun q hq => by rw [← Option.some.injEq]; intro z; exact HN.out (by omega) (hq.trans z))).at k hlt
      unfold vi at hc
      obtain ⟨x, hx⟩ : ∃ x : Nat, r k = (x : Int) := ⟨(r k).toNat, by have := HO.out.lo k hlt; omega⟩
      have hxn : x < n := by have := HO.out.hi k hlt; omega
      have hc2 := OwI.cell hO x hxn
      have hfr := OwI.free hO x
      obtain ⟨y, hy⟩ : ∃ y, y = ctd f k r x := ⟨_, rfl⟩
      have hyl : y ≤ 1001 := by rw [hy]; have := ctd_le f k r x; have := HF.out x; omega
      have T := hO.up (d := x) (y + 1) (f' := ctd f (k + 1) r) (fun i => by rw [ctd_succ HO.out hlt hx i, hy])
      have HT : Hid (OwC B (wr.setCell ⟨g, x, none⟩ (.int .i64 ((y : Int) + 1))) g n cap (ctd f (k + 1) r)) := T.1
      have HB2 : Hid (But (· = g) w (wr.setCell ⟨g, x, none⟩ (.int .i64 ((y : Int) + 1)))) := hB.setCell (p := ⟨g, x, none⟩) rfl _
      unfold vi at hc2
      rw [← hy] at hc2
      rw [hx] at hc
      have hxz : (x : Int) < (n : Int) := by omega
      clear T hO hB hy hx
      go_wp2
      generalize wr.setCell ⟨g, x, none⟩ (.int .i64 ((y : Int) + 1)) = w2 at *
      go_roundw
      case rel => exact ⟨k + 1, by omega, by go_num, HT.out, HB2.out⟩
      case measure => simp [intOf]; omega
    · obtain rfl : k = l := by omega
      go_wp2
      go_end0
      exact ⟨rfl, hO, hB⟩
/-- the rows of a list of lists that was there lie elsewhere -/
theorem RdF.apart {w : World} {v : Value} {n g : Nat} {f : Nat → Value} (h : RdF w v n f) (h0 : n ≠ 0) (hg : w.heap.size ≤ g) : v.ownBlock ≠ some g := by
  rcases h with ⟨_, e⟩ | ⟨ad, cap, rfl, h1, h2, h3⟩
  · exact absurd e h0
  · intro e
    simp only [Value.ownBlock, Option.some.injEq] at e
    have := World.block_lt_of_cell? w _ (h3 0 (by omega))
    rw [add_block] at this
    omega
end Go.Proofs.Ytagindfgfamacaa

/- A list of lists, read row by row. -/
namespace Go.Proofs.Ytagindfgfamacaa
open Go.RowKit
section
variable {w : World} {v : Value} {m : Nat} {L : Nat → Nat} {F : Nat → Nat → Int}
theorem row_at (hr : RdII w v m L F) {wr : World} (hB : Below w.heap.size w wr) {k : Nat} (hk : k < m) : ∃ ad n' cap ar cr, v = .slice (some ad) n' cap ∧ wr.cell? (ad.add k) = some (.slice ar (L k) cr) ∧ RdF wr (.slice ar (L k) cr) (L k) (fun i => vi (F k i)) ∧ ∀ g, w.heap.size ≤ g → L k ≠ 0 → (Value.slice ar (L k) cr).ownBlock ≠ some g := by
  obtain ⟨rv, hv, hrow⟩ := hr
  have h1 := hrow k hk
  obtain ⟨ar, cr, er, _, _⟩ := h1.len
  obtain ⟨ao, cap, rfl, _, _⟩ := hv.len
  obtain ⟨ad, rfl, hc⟩ := (hv.old hB).at k hk
  rw [er] at h1 hc
  exact ⟨ad, m, cap, ar, cr, rfl, hc, h1.old hB, fun g hg h0 => h1.apart h0 hg⟩
theorem RdII.len (hr : RdII w v m L F) : ∃ ao cap, v = .slice ao m cap ∧ m ≤ cap ∧ cap ≤ 9223372036854775807 := by
  obtain ⟨rv, hv, _⟩ := hr
  exact hv.len
end
end Go.Proofs.Ytagindfgfamacaa

/- Loads, peers, who is hurt: walks over the program. -/
namespace Go.Proofs.Ytagindfgfamacaa
open Go.RowKit
section
variable {w : World} {v : Value} {m : Nat} {L : Nat → Nat} {F : Nat → Nat → Int}
set_option maxRecDepth 100000 in
theorem loads_bad (n : Int) (hr : RdII w v m L F) (he : stE n m L F ≠ 0) :
    Calls Try.prog 22 #[.int .i64 n, v] w fun e w' => e = .returned (.tuple #[.slice none 0 0, errV (stE n m L F)]) ∧ Below w.heap.size w w' := by
  have C := pcheck_any n v m L F w hr
  obtain ⟨c, hc⟩ : ∃ c, c = stE n m L F := ⟨_, rfl⟩
  rw [← hc] at C he ⊢
  rw [errV_ne he] at C ⊢
  obtain ⟨rv, hv, _⟩ := hr
  obtain ⟨ao, cap, rfl, _, _⟩ := hv.len
  clear hc hv he
  go_enter Try.func22, Try.ntmps22
  go_wp2_with fail
  refine C.mono ?_
  rintro e w1 ⟨rfl, hB⟩
  clear C
  go_wp2
  go_ret2
  exact ⟨rfl, hB⟩
set_option maxRecDepth 100000 in
set_option maxHeartbeats 1000000 in
theorem loads_ok {n : Nat} (hr : RdII w v m L F) (ho : StOk (n : Int) m L F) :
    Calls Try.prog 22 #[.int .i64 (n : Int), v] w fun e w' => ∃ g cap, e = .returned (.tuple #[.slice (some ⟨g, 0, none⟩) n cap, .nilIface]) ∧ OwC w.heap.size w' g n cap (lds (hsI L F) m) ∧ Below w.heap.size w w' := by
  have C := pcheck_any (n : Int) v m L F w hr
  rw [stE_zero.2 ho, errV, if_pos rfl] at C
  obtain ⟨j0, hj, hy0, hy1, hy2⟩ := info_parts infoI
  have hn1 := ho.n1
  have hn2 := ho.n2
  have hm := ho.m1
  have HR : Hid (RdII w v m L F) := hr
  have HO : Hid (StOk (n : Int) m L F) := ho
  obtain ⟨ao, cap, rfl, _, _⟩ := hr.len
  clear hr ho
  go_enter Try.func22, Try.ntmps22
  go_wp2_with fail
  refine C.mono ?_
  rintro e w0 ⟨rfl, hB0⟩
  have hs0 := hB0.size
  clear C
  go_wp2_with (first | (at_make; refine wpList_make_full _ rfl _ _ 30 rfl w.heap.size 3 j0 (.int .i64 0) 1 Try.underlying30 hj hy0 hy1 _ _ _ _ n rfl rfl rfl rfl (by rw [hy2]; omega) (by unfold maxLen; omega) hs0 ?_))
  intro w1 hown hgrow
  obtain ⟨g, hg⟩ : ∃ g, g = w0.heap.size := ⟨_, rfl⟩
  rw [← hg] at hown ⊢
  have HO1 : Hid (OwC w.heap.size w1 g n n (lds (hsI L F) 0)) := OwI.made hown
  have HB1 : Hid (Below w.heap.size w w1) := hB0.trans ((below_of_grown hgrow).mono hs0)
  have hgw : w.heap.size ≤ g := by omega
  clear hown hgrow hg hB0 hs0
  go_wp2
  go_loopw [20] (fun t wr => ∃ k : Nat, k ≤ m ∧ t = .int .i64 k ∧ OwC w.heap.size wr g n n (lds (hsI L F) k) ∧ Below w.heap.size w wr) (fun t _ => m - (intOf t).toNat)
  case atStart => exact ⟨0, Nat.zero_le _, rfl, HO1.out, HB1.out⟩
  case round =>
    clear HO1 HB1
    obtain ⟨k, hk, rfl, hO, hB⟩ := hrel
    by_cases hlt : k < m
    · obtain ⟨ad, _, _, ar, cr, e0, hc, hrk, hap⟩ := row_at HR.out hB hlt
      cases e0
      have A := addTo_any hO hrk (hap g hgw) (HO.out.row k hlt) (fun i => by have := lds_le (hsI L F) k i; omega)
      have hsz := hB.size
      have HB : Hid (Below w.heap.size w wr) := hB
      have HQ : Hid (ctd (lds (hsI L F) k) (L k) (F k) = lds (hsI L F) (k + 1)) := rfl
      clear hO hrk hap hB
      generalize L k = lk at *
      go_wp2_with fail
      refine A.mono ?_
      rintro e w2 ⟨rfl, hO2, hB2⟩
      have HO2 : Hid (OwC w.heap.size w2 g n n (lds (hsI L F) (k + 1))) := by rw [← HQ.out]; exact hO2
      have HB2 : Hid (Below w.heap.size w w2) := HB.out.trans (hB2.below hsz (fun q hq => by rw [hq]; exact hgw))
      clear A hO2 hB2 HB hc
      go_wp2
      go_roundw
      case rel => exact ⟨k + 1, by omega, by go_num, HO2.out, HB2.out⟩
      case measure => simp [intOf]; omega
    · obtain rfl : k = m := by omega
      have HOk : Hid (OwC w.heap.size wr g n n (lds (hsI L F) k)) := hO
      clear hO
      go_wp2
      go_ret2
      exact ⟨g, n, rfl, HOk.out, hB⟩
end
end Go.Proofs.Ytagindfgfamacaa
