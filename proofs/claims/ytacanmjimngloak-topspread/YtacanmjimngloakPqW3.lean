/- What pq.Encode answers, of anything at all: by walks over the program. -/
import Derived.Test.YtacanmjimngloakPqW2
import Derived.Test.YtacanmjimngloakBlkC
namespace Go.Proofs.Ytacanmjimngloak
open Go.ChangeShapes Go.WideShapes Go.ChangeAt Go.RowKit El Pol Mx
theorem errV_bad {c : Nat} (h : c ≠ 0) : errV c = .iface 40 (.int .i64 c) := if_neg h
/-- the fault of Encode -/
def pqf (n : Nat) (a : Nat → List El) : Nat := if n < 1 ∨ 10 < n then 1 else bbad n a
theorem pqf_ok {n : Nat} {a : Nat → List El} (h : pqf n a = 0) : 1 ≤ n ∧ n ≤ 10 ∧ bbad n a = 0 := by
  unfold pqf at h
  by_cases q : n < 1 ∨ 10 < n
  · rw [if_pos q] at h; omega
  · rw [if_neg q] at h; exact ⟨by omega, by omega, h⟩
set_option maxRecDepth 100000 in
set_option maxHeartbeats 400000 in
theorem pencode_bad (v : Value) (n c : Nat) (a : Nat → List El) (w : World) (h : RdF w v n (fun i => st (a i))) (hn : n ≤ 8796093021952) (hc : pqf n a = c) (h0 : c ≠ 0) :
    Calls Try.prog 10 #[v] w fun e w' => e = .returned (.tuple #[.string ⟨#[]⟩, .string ⟨#[]⟩, .iface 40 (.int .i64 c)]) ∧ Below w.heap.size w w' := by
  obtain ⟨ao, cap, rfl, _, _⟩ := h.len
  unfold pqf at hc
  have C := few_any (n : Int) w
  by_cases q : n < 1 ∨ 10 < n
  · rw [if_pos q] at hc
    subst hc
    rw [decide_eq_true (by omega)] at C
    clear h q
    go_enter Try.func10, Try.ntmps10
    go_wp2_with fail
    refine C.mono ?_
    rintro e w1 ⟨rfl, hw⟩
    obtain rfl := hw.symm
    clear C
    go_wp2
    go_ret3
    exact ⟨rfl, Below.refl _ _⟩
  · rw [if_neg q] at hc
    rw [decide_eq_false (by omega)] at C
    have D := blocks_bad (.slice ao n cap) n c a w h hn (by omega) hc h0
    clear h hc q
    go_enter Try.func10, Try.ntmps10
    go_wp2_with fail
    refine C.mono ?_
    rintro e w1 ⟨rfl, hw⟩
    obtain rfl := hw.symm
    clear C
    go_wp2_with fail
    refine D.mono ?_
    rintro e w2 ⟨rfl, hB⟩
    clear D
    go_wp2
    go_ret3
    exact ⟨rfl, hB⟩
theorem rows_p (n L : Nat) (D : M) : row (mm n pqr D 0) L = row (pp n D) L := row_congr (fun l _ => mm_pqr0 n D l)
theorem rows_q (n L : Nat) (D : M) : row (mm n pqr D 1) L = row (qq n D) L := row_congr (fun l _ => mm_pqr1 n D l)
set_option maxRecDepth 100000 in
set_option maxHeartbeats 400000 in
theorem pencode_ok (n L : Nat) (h1 : 1 ≤ n) (h2 : n ≤ 10) (v : Value) (a : Nat → List El) (w : World) (h : RdF w v n (fun i => st (a i))) (hl : ∀ i, i < n → (a i).length = L) (hL : L ≤ 16) :
    Calls Try.prog 10 #[v] w fun e w' => e = .returned (.tuple #[st (row (pp n (mx a)) L), st (row (qq n (mx a)) L), .nilIface]) ∧ Below w.heap.size w w' := by
  have C := few_any (n : Int) w
  rw [decide_eq_false (by omega)] at C
  have D := blocks_ok v n a w h (by omega) h1 (bbad_of (fun i hi => by rw [hl i hi, hl 0 (by omega)]) (by rw [hl 0 (by omega)]; exact hL))
  have HR : Hid (RdF w v n (fun i => st (row (mx a i) L))) := blocks_rows h hl
  obtain ⟨ao, cap, rfl, _, _⟩ := h.len
  clear h hl
  go_enter Try.func10, Try.ntmps10
  go_wp2_with fail
  refine C.mono ?_
  rintro e w1 ⟨rfl, hw⟩
  obtain rfl := hw.symm
  clear C
  go_wp2_with fail
  refine D.mono ?_
  rintro e w2 ⟨rfl, hB2⟩
  clear D
  go_wp2_with fail
  refine (pqrows_any n h1 h2 w2).mono ?_
  rintro e w3 ⟨v3, rv, rfl, hO, hB3⟩
  have hB4 := hB2.trans (hB3.mono hB2.size)
  have T := sums_any v3 (.slice ao n cap) n n L pqr (mx a) w3 hO.rd (HR.out.old hB4) (Nat.le_refl _) (by omega) hL
  rw [rows_p, rows_q] at T
  obtain ⟨a3, c3, rfl, _, _⟩ := hO.rd.len
  obtain ⟨s0, hs0⟩ : ∃ s, s = st (row (pp n (mx a)) L) := ⟨_, rfl⟩
  obtain ⟨s1, hs1⟩ : ∃ s, s = st (row (qq n (mx a)) L) := ⟨_, rfl⟩
  have HS0 : Hid (s0 = st (row (pp n (mx a)) L)) := hs0
  have HS1 : Hid (s1 = st (row (qq n (mx a)) L)) := hs1
  rw [← hs0, ← hs1] at T
  clear hO hB2 hB3 hs0 hs1
  go_wp2_with fail
  refine T.mono ?_
  rintro e w5 ⟨rfl, hB5⟩
  have hB6 := hB4.trans (hB5.mono hB4.size)
  clear T hB5 hB4
  go_wp2
  go_ret3
  exact ⟨by rw [HS0.out, HS1.out]; rfl, hB6⟩
end Go.Proofs.Ytacanmjimngloak
