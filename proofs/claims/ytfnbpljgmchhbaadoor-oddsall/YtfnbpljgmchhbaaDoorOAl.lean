/- OddsAll: walks over the program. -/
import Derived.Test.YtfnbpljgmchhbaaDoorOdF
import Derived.Test.YtfnbpljgmchhbaaDoorOdK
import Derived.Test.YtfnbpljgmchhbaaDoorPlF
import Derived.Test.YtfnbpljgmchhbaaDoorErrw
namespace Go.Proofs.YtfnbpljgmchhbaaDoor
open Go.RowKit
theorem cn_full {p : Nat → Bool} : ∀ {n : Nat}, cn p n = n → ∀ d, d < n → p d = true
  | n + 1, h, d, hd => by
    rw [cn_succ] at h
    have h1 := cn_le p n
    by_cases q : p n = true
    · rw [if_pos q] at h
      by_cases e : d = n
      · rw [e]; exact q
      · exact cn_full (n := n) (by omega) d (by omega)
    · rw [if_neg q] at h; omega
set_option maxRecDepth 100000 in
set_option maxHeartbeats 1000000 in
theorem oall_bad {n f p : Int} (h : n < 1 ∨ 10 < n ∨ f < 0 ∨ n < f ∨ p < 0 ∨ 10 < p) (w : World) (hg : Handle w) :
    Calls Tryd.prog 4 #[.int .i64 n, .int .i64 f, .int .i64 p] w fun e w' => e = .returned (.bool true) ∧ Below w.heap.size w w' := by
  have HG : Hid (Handle w) := hg
  have C := choose_bad (n := -1) (k := 0) (.inl (by omega)) w
  rw [errV_ne (by omega)] at C
  clear hg
  by_cases h1 : n < 1
  · have d1 : decide (n < 1) = true := decide_eq_true h1
    clear h
    go_enter Tryd.func4, Tryd.ntmps4
    go_wp2_with fail
    refine C.mono ?_
    rintro e w2 ⟨rfl, hw⟩
    obtain rfl := hw.symm
    clear C hw
    have E := err_same 1 w HG.out
    go_wp2_with fail
    refine E.mono ?_
    rintro e w3 ⟨rfl, hB3⟩
    have HB3 : Hid (Below w.heap.size w w3) := hB3
    clear E hB3
    go_wp2
    go_ret
    exact ⟨rfl, HB3.out⟩
  · have d1 : decide (n < 1) = false := decide_eq_false h1
    by_cases h2 : 10 < n
    · have d2 : decide (10 < n) = true := decide_eq_true h2
      clear h
      go_enter Tryd.func4, Tryd.ntmps4
      go_wp2_with fail
      refine C.mono ?_
      rintro e w2 ⟨rfl, hw⟩
      obtain rfl := hw.symm
      clear C hw
      have E := err_same 1 w HG.out
      go_wp2_with fail
      refine E.mono ?_
      rintro e w3 ⟨rfl, hB3⟩
      have HB3 : Hid (Below w.heap.size w w3) := hB3
      clear E hB3
      go_wp2
      go_ret
      exact ⟨rfl, HB3.out⟩
    · have d2 : decide (10 < n) = false := decide_eq_false h2
      by_cases h3 : f < 0
      · have d3 : decide (f < 0) = true := decide_eq_true h3
        clear h
        go_enter Tryd.func4, Tryd.ntmps4
        go_wp2_with fail
        refine C.mono ?_
        rintro e w2 ⟨rfl, hw⟩
        obtain rfl := hw.symm
        clear C hw
        have E := err_same 1 w HG.out
        go_wp2_with fail
        refine E.mono ?_
        rintro e w3 ⟨rfl, hB3⟩
        have HB3 : Hid (Below w.heap.size w w3) := hB3
        clear E hB3
        go_wp2
        go_ret
        exact ⟨rfl, HB3.out⟩
      · have d3 : decide (f < 0) = false := decide_eq_false h3
        by_cases h4 : n < f
        · have d4 : decide (n < f) = true := decide_eq_true h4
          clear h
          go_enter Tryd.func4, Tryd.ntmps4
          go_wp2_with fail
          refine C.mono ?_
          rintro e w2 ⟨rfl, hw⟩
          obtain rfl := hw.symm
          clear C hw
          have E := err_same 1 w HG.out
          go_wp2_with fail
          refine E.mono ?_
          rintro e w3 ⟨rfl, hB3⟩
          have HB3 : Hid (Below w.heap.size w w3) := hB3
          clear E hB3
          go_wp2
          go_ret
          exact ⟨rfl, HB3.out⟩
        · have d4 : decide (n < f) = false := decide_eq_false h4
          by_cases h5 : p < 0
          · have d5 : decide (p < 0) = true := decide_eq_true h5
            clear h
            go_enter Tryd.func4, Tryd.ntmps4
            go_wp2_with fail
            refine C.mono ?_
            rintro e w2 ⟨rfl, hw⟩
            obtain rfl := hw.symm
            clear C hw
            have E := err_same 1 w HG.out
            go_wp2_with fail
            refine E.mono ?_
            rintro e w3 ⟨rfl, hB3⟩
            have HB3 : Hid (Below w.heap.size w w3) := hB3
            clear E hB3
            go_wp2
            go_ret
            exact ⟨rfl, HB3.out⟩
          · have d5 : decide (p < 0) = false := decide_eq_false h5
            have h6 : 10 < p := by omega
            have d6 : decide (10 < p) = true := decide_eq_true h6
            clear h
            go_enter Tryd.func4, Tryd.ntmps4
            go_wp2_with fail
            refine C.mono ?_
            rintro e w2 ⟨rfl, hw⟩
            obtain rfl := hw.symm
            clear C hw
            have E := err_same 1 w HG.out
            go_wp2_with fail
            refine E.mono ?_
            rintro e w3 ⟨rfl, hB3⟩
            have HB3 : Hid (Below w.heap.size w w3) := hB3
            clear E hB3
            go_wp2
            go_ret
            exact ⟨rfl, HB3.out⟩
set_option maxRecDepth 100000 in
set_option maxHeartbeats 1000000 in
theorem oall_ok {n f p : Nat} (h1 : 1 ≤ n) (h2 : n ≤ 10) (hf : f ≤ n) (hp : p ≤ 10) (w : World) :
    Calls Tryd.prog 4 #[.int .i64 (n : Int), .int .i64 (f : Int), .int .i64 (p : Int)] w fun e w' => e = .returned (.bool true) ∧ Below w.heap.size w w' := by
  have d1 : decide ((n : Int) < 1) = false := decide_eq_false (by omega)
  have d2 : decide ((10 : Int) < (n : Int)) = false := decide_eq_false (by omega)
  have d4 : decide ((n : Int) < (f : Int)) = false := decide_eq_false (by omega)
  have d6 : decide ((10 : Int) < (p : Int)) = false := decide_eq_false (by omega)
  have HH : Hid (∀ i, i < 3 → ∀ d, d < n → hsI (fun _ => n) (plF n n) i d = true) := fun i _ => cn_full (placed_cn (Nat.le_refl _) i)
  have P := place_ok (m := 3) h1 h2 h1 (Nat.le_refl _) (by omega) w
  go_enter Tryd.func4, Tryd.ntmps4
  go_wp2_with fail
  refine P.mono ?_
  rintro e w1 ⟨g, cap, rfl, hR, hB1⟩
  have HB1 : Hid (Below w.heap.size w w1) := hB1
  have hs1 := hB1.size
  have T := fatal_ok hR (placed_ok h1 h2 (Nat.le_refl _) (by omega) (Int.le_refl _) (by omega)) hf hp
  have HT : Hid (p < f → ftn (hsI (fun _ => n) (plF n n)) 3 n f p = chs n f) := fun q => ftn_all (by omega) HH.out q
  have HT2 : Hid (f ≤ p → ftn (hsI (fun _ => n) (plF n n)) 3 n f p = 0) := fun q => ftn_few _ q
  clear P hR hB1 HH
  generalize ftn (hsI (fun _ => n) (plF n n)) 3 n f p = z at *
  go_wp2_with fail
  refine T.mono ?_
  rintro e w2 ⟨rfl, hB2⟩
  have HB2 : Hid (Below w.heap.size w w2) := HB1.out.trans (hB2.mono hs1)
  have C := choose_ok (n := n) (k := f) (by omega) hf w2
  clear T hB2 HB1
  go_wp2_with fail
  refine C.mono ?_
  rintro e w3 ⟨rfl, hw⟩
  obtain rfl := hw.symm
  clear C hw
  by_cases q : p < f
  · have hz := HT.out q
    rw [← hz]
    have dz : decide ((p : Int) < (f : Int)) = true := decide_eq_true (by omega)
    clear hz HT HT2
    go_wp2
    go_ret
    exact ⟨rfl, HB2.out⟩
  · have hz := HT2.out (by omega)
    subst hz
    have dz : decide ((p : Int) < (f : Int)) = false := decide_eq_false (by omega)
    generalize chs n f = c at *
    clear HT HT2
    go_wp2
    go_ret
    exact ⟨rfl, HB2.out⟩
theorem oall_any (n f p : Int) (w : World) (hg : Handle w) : Calls Tryd.prog 4 #[.int .i64 n, .int .i64 f, .int .i64 p] w fun e w' => e = .returned (.bool true) ∧ Below w.heap.size w w' := by
  by_cases h : n < 1 ∨ 10 < n ∨ f < 0 ∨ n < f ∨ p < 0 ∨ 10 < p
  · exact oall_bad h w hg
  · obtain ⟨a, rfl⟩ : ∃ a : Nat, n = (a : Int) := ⟨n.toNat, by omega⟩
    obtain ⟨b, rfl⟩ : ∃ b : Nat, f = (b : Int) := ⟨f.toNat, by omega⟩
    obtain ⟨c, rfl⟩ : ∃ c : Nat, p = (c : Int) := ⟨p.toNat, by omega⟩
    exact oall_ok (by omega) (by omega) (by omega) (by omega) w
end Go.Proofs.YtfnbpljgmchhbaaDoor
