/- The worst number: walks over the program. -/
import Derived.Test.YtfnbpljgmchhbaaOdO
import Derived.Test.YtfnbpljgmchhbaaPlD
namespace Go.Proofs.Ytfnbpljgmchhbaa
open Go.RowKit
section
variable {w : World} {m : Nat} {L : Nat → Nat} {F : Nat → Nat → Int}
abbrev wideF (h : Nat) : Value := .func (.func 37) #[] #[.pointer (some ⟨h, 0, none⟩)]
theorem wide1_any (ao : Option Addr) (l c h par : Nat) (w : World) (hc : w.cell? ⟨h, 0, none⟩ = some (.int .i64 (par : Int))) :
    Calls Try.prog 37 #[.slice ao l c, .pointer (some ⟨h, 0, none⟩)] w fun e w' => e = .returned (.bool (decide (par < l))) ∧ w' = w := by
  go_enter Try.func37, Try.ntmps37
  go_wp2
  go_ret
  exact ⟨rfl, rfl⟩
set_option maxRecDepth 100000 in
set_option maxHeartbeats 1000000 in
theorem wideIndex_any {v : Value} (hr : RdII w v m L F) {h par : Nat} (hh : w.cell? ⟨h, 0, none⟩ = some (.int .i64 (par : Int))) :
    Calls Try.prog 58 #[v, wideF h] w fun e w' => ∃ z, e = .returned (.int .i64 z) ∧ Fst (fun i => decide (par < L i)) m z ∧ w' = w := by
  have HR : Hid (RdII w v m L F) := hr
  have HH : Hid (w.cell? ⟨h, 0, none⟩ = some (.int .i64 (par : Int))) := hh
  obtain ⟨ao, cap, rfl, _, _⟩ := hr.len
  clear hr hh
  go_enter Try.func58, Try.ntmps58
  go_wp2
  go_loop [8] (fun t => ∃ k : Nat, k ≤ m ∧ t = .int .i64 k ∧ Hid (∀ i, i < k → decide (par < L i) = false)) (fun t => m - (intOf t).toNat)
  case atStart => exact ⟨0, Nat.zero_le _, rfl, fun i hi => absurd hi (Nat.not_lt_zero _)⟩
  case round =>
    obtain ⟨k, hk, rfl, HF⟩ := hrel
    by_cases hlt : k < m
    · obtain ⟨ad, _, _, ar, cr, e0, hck, _, _⟩ := row_at HR.out (Below.refl _ _) hlt
      cases e0
      have C := wide1_any ar (L k) cr h par w HH.out
      obtain ⟨b, hb⟩ : ∃ b, b = decide (par < L k) := ⟨_, rfl⟩
      rw [← hb] at C
      have HB : Hid (b = decide (par < L k)) := hb
      obtain ⟨y, hy⟩ : ∃ y, y = L k := ⟨_, rfl⟩
      rw [← hy] at C hck
      clear hb hy
      cases b
      all_goals
        go_wp2_with fail
        refine C.mono ?_
        rintro e w1 ⟨rfl, hw⟩
        obtain rfl := hw.symm
        clear C
        go_wp2
      · go_round
        case rel => exact ⟨k + 1, by omega, by go_num, fun i hi => by
          by_cases e : i = k
          · rw [e]; exact HB.out.symm
          · exact HF.out i (by omega)⟩
        case measure => simp [intOf]; omega
      · go_ret
        exact ⟨_, rfl, .inr ⟨k, hlt, rfl, HB.out.symm⟩, rfl⟩
    · go_wp2
      go_ret
      exact ⟨_, rfl, .inl ⟨rfl, fun i hi => HF.out i (by omega)⟩, rfl⟩
theorem wideContains_any {v : Value} (hr : RdII w v m L F) {h par : Nat} (hh : w.cell? ⟨h, 0, none⟩ = some (.int .i64 (par : Int))) :
    Calls Try.prog 36 #[v, wideF h] w fun e w' => e = .returned (.bool (anyB (fun i => decide (par < L i)) m)) ∧ w' = w := by
  have C := wideIndex_any hr hh
  obtain ⟨ao, cap, rfl, _, _⟩ := hr.len
  clear hr hh
  go_enter Try.func36, Try.ntmps36
  go_wp2_with fail
  refine C.mono ?_
  rintro e w1 ⟨z, rfl, hz, hw⟩
  obtain rfl := hw.symm
  have HZ : Hid (decide (0 ≤ z) = anyB (fun i => decide (par < L i)) m) := hz.any
  clear C hz
  go_wp2
  go_ret
  exact ⟨by rw [← HZ.out]; rfl, rfl⟩
set_option maxRecDepth 100000 in
set_option maxHeartbeats 1000000 in
theorem worst_st {v : Value} (n par : Int) (hr : RdII w v m L F) (he : stE n m L F ≠ 0) :
    Calls Try.prog 18 #[.int .i64 n, v, .int .i64 par] w fun e w' => e = .returned (.tuple #[.int .i64 0, errV (stE n m L F)]) ∧ Below w.heap.size w w' := by
  have a1 : Below w.heap.size w (w.alloc (.cells #[.int .i64 par] 3)) := al_below _ _
  have C := loads_bad n (hr.old a1) he
  obtain ⟨ao, cap, rfl, _, _⟩ := hr.len
  have hs1 := a1.size
  have HA : Hid (Below w.heap.size w (w.alloc (.cells #[.int .i64 par] 3))) := a1
  obtain ⟨c, hc⟩ : ∃ c, c = stE n m L F := ⟨_, rfl⟩
  rw [← hc] at C he ⊢
  rw [errV_ne he] at C ⊢
  clear hc he a1 hr
  go_enter Try.func18, Try.ntmps18
  go_wp2_with fail
  refine C.mono ?_
  rintro e w1 ⟨rfl, hB⟩
  have HB : Hid (Below w.heap.size w w1) := HA.out.trans (hB.mono hs1)
  clear C hB HA
  go_wp2
  go_ret2
  exact ⟨rfl, HB.out⟩
set_option maxRecDepth 100000 in
set_option maxHeartbeats 1000000 in
theorem worst_par {n : Nat} {v : Value} {par : Int} (hr : RdII w v m L F) (ho : StOk (n : Int) m L F) (hp : par < 0 ∨ 10 < par) :
    Calls Try.prog 18 #[.int .i64 (n : Int), v, .int .i64 par] w fun e w' => e = .returned (.tuple #[.int .i64 0, errV 1]) ∧ Below w.heap.size w w' := by
  rw [errV_ne (by omega)]
  have hp2 : (decide (par < 0) || decide (10 < par)) = true := by rw [Bool.or_eq_true, decide_eq_true_iff, decide_eq_true_iff]; exact hp
  have HP2 : Hid ((decide (par < 0) || decide (10 < par)) = true) := hp2
  clear hp hp2
  have a1 : Below w.heap.size w (w.alloc (.cells #[.int .i64 par] 3)) := al_below _ _
  have C := loads_ok (hr.old a1) ho
  have hcp : (w.alloc (.cells #[.int .i64 par] 3)).cell? ⟨w.heap.size, 0, none⟩ = some (.int .i64 par) := cell_new _ _ _
  have hsz : (w.alloc (.cells #[.int .i64 par] 3)).heap.size = w.heap.size + 1 := alloc_more _ _
  have HR : Hid (RdII w v m L F) := hr
  have HO : Hid (StOk (n : Int) m L F) := ho
  obtain ⟨ao, cap, rfl, _, _⟩ := hr.len
  have HA : Hid (Below w.heap.size w (w.alloc (.cells #[.int .i64 par] 3))) := a1
  have HCP : Hid ((w.alloc (.cells #[.int .i64 par] 3)).cell? ⟨w.heap.size, 0, none⟩ = some (.int .i64 par)) := hcp
  have HSZ : Hid ((w.alloc (.cells #[.int .i64 par] 3)).heap.size = w.heap.size + 1) := hsz
  clear a1 hr ho hcp hsz
  go_enter Try.func18, Try.ntmps18
  go_wp2_with fail
  refine C.mono ?_
  rintro e w1 ⟨g, cp, rfl, _, hB⟩
  have HB : Hid (Below w.heap.size w w1) := HA.out.trans (hB.mono HA.out.size)
  have c1 : w1.cell? ⟨w.heap.size, 0, none⟩ = some (.int .i64 par) := by
    rw [hB.cell (p := ⟨w.heap.size, 0, none⟩) (by (show w.heap.size < _); rw [HSZ.out]; omega)]
    exact HCP.out
  have N := nopar_any par w1
  clear C hB HA HSZ HCP
  rw [HP2.out] at N
  clear HP2 HR HO
  go_wp2_with fail
  refine N.mono ?_
  rintro e w2 ⟨rfl, hw⟩
  obtain rfl := hw.symm
  clear N hw
  go_wp2
  go_ret2
  exact ⟨rfl, HB.out⟩
set_option maxRecDepth 100000 in
set_option maxHeartbeats 1000000 in
theorem worst_ok {n p : Nat} {v : Value} (hr : RdII w v m L F) (ho : StOk (n : Int) m L F) (hp : p ≤ 10) :
    Calls Try.prog 18 #[.int .i64 (n : Int), v, .int .i64 (p : Int)] w fun e w' => e = .returned (.tuple #[.int .i64 (wst (hsI L F) m n p), .nilIface]) ∧ Below w.heap.size w w' := by
  obtain ⟨par, hpar⟩ : ∃ par : Int, par = (p : Int) := ⟨_, rfl⟩
  rw [← hpar]
  have HPA : Hid (par = (p : Int)) := hpar
  clear hpar
  have a1 : Below w.heap.size w (w.alloc (.cells #[.int .i64 par] 3)) := al_below _ _
  have C := loads_ok (hr.old a1) ho
  have hcp : (w.alloc (.cells #[.int .i64 par] 3)).cell? ⟨w.heap.size, 0, none⟩ = some (.int .i64 par) := cell_new _ _ _
  have hsz : (w.alloc (.cells #[.int .i64 par] 3)).heap.size = w.heap.size + 1 := alloc_more _ _
  have HR : Hid (RdII w v m L F) := hr
  have HO : Hid (StOk (n : Int) m L F) := ho
  obtain ⟨ao, cap, rfl, _, _⟩ := hr.len
  have HA : Hid (Below w.heap.size w (w.alloc (.cells #[.int .i64 par] 3))) := a1
  have HCP : Hid ((w.alloc (.cells #[.int .i64 par] 3)).cell? ⟨w.heap.size, 0, none⟩ = some (.int .i64 par)) := hcp
  have HSZ : Hid ((w.alloc (.cells #[.int .i64 par] 3)).heap.size = w.heap.size + 1) := hsz
  clear a1 hr ho hcp hsz
  go_enter Try.func18, Try.ntmps18
  go_wp2_with fail
  refine C.mono ?_
  rintro e w1 ⟨g, cp, rfl, _, hB⟩
  have HB : Hid (Below w.heap.size w w1) := HA.out.trans (hB.mono HA.out.size)
  have c1 : w1.cell? ⟨w.heap.size, 0, none⟩ = some (.int .i64 par) := by
    rw [hB.cell (p := ⟨w.heap.size, 0, none⟩) (by (show w.heap.size < _); rw [HSZ.out]; omega)]
    exact HCP.out
  have N := nopar_any par w1
  clear C hB HA HSZ HCP
  rw [show (decide (par < 0) || decide (10 < par)) = false by rw [HPA.out, Bool.or_eq_false_iff, decide_eq_false_iff_not, decide_eq_false_iff_not]; omega] at N
  have W := wideContains_any (HR.out.old HB.out) (by rw [← HPA.out]; exact c1)
  have HW : Hid (wst (hsI L F) m n p = if anyB (fun i => decide (p < L i)) m = true then ((p + 1 : Nat) : Int) else -1) := wst_prog HO.out
  generalize anyB (fun i => decide (p < L i)) m = b at *
  clear HR HO
  go_wp2_with fail
  refine N.mono ?_
  rintro e w2 ⟨rfl, hw⟩
  obtain rfl := hw.symm
  clear N hw
  go_wp2_with fail
  refine W.mono ?_
  rintro e w3 ⟨rfl, hw⟩
  obtain rfl := hw.symm
  clear W hw
  cases b with
  | true =>
    have y1 : IntKind.i64.wrap (par + 1) = par + 1 := wrap_small _ (by rw [HPA.out]; omega) (by rw [HPA.out]; omega)
    go_wp2
    go_ret2
    refine ⟨ret_int2 ?_, HB.out⟩
    rw [HW.out, if_pos trivial, HPA.out]
    rfl
  | false =>
    go_wp2
    go_ret2
    refine ⟨ret_int2 ?_, HB.out⟩
    rw [HW.out, if_neg (by simp)]
theorem worst_any {v : Value} (n par : Int) (hr : RdII w v m L F) :
    Calls Try.prog 18 #[.int .i64 n, v, .int .i64 par] w fun e w' => e = .returned (.tuple #[.int .i64 (wsV n m L F par), errV (wsE n m L F par)]) ∧ Below w.heap.size w w' := by
  by_cases he : stE n m L F = 0
  · have ho := stE_zero.1 he
    obtain ⟨a, rfl⟩ : ∃ a : Nat, n = (a : Int) := ⟨n.toNat, by have := ho.n1; omega⟩
    by_cases q : par < 0 ∨ 10 < par
    · rw [wsV_bad (by rw [wsE_bad ho q]; omega), wsE_bad ho q]
      exact worst_par hr ho q
    · obtain ⟨b, rfl⟩ : ∃ b : Nat, par = (b : Int) := ⟨par.toNat, by omega⟩
      rw [wsV_ok (wsE_ok ho q), wsE_ok ho q, Int.toNat_natCast, Int.toNat_natCast]
      exact worst_ok hr ho (by omega)
  · rw [wsV_bad (by rw [wsE_st he]; exact he), wsE_st he]
    exact worst_st n par hr he
end
end Go.Proofs.Ytfnbpljgmchhbaa
