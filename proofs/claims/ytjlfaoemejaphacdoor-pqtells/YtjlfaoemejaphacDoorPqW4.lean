/- What pq.Heal answers, of anything at all: by walks over the program. -/
import Derived.Test.YtjlfaoemejaphacDoorPqW3
import Derived.Test.YtjlfaoemejaphacDoorTextsW
namespace Go.Proofs.YtjlfaoemejaphacDoor
open Go.ChangeShapes Go.WideShapes Go.ChangeAt Go.RowKit El Pol Mx
/-- the fault of Heal -/
def phf (np nl : Nat) (a : Nat → List El) (lost : Nat → Bool) : Nat := if np < 3 ∨ 12 < np then 1 else if nl ≠ np then 3 else df (np - 2) np a lost
theorem phf_ok {np nl : Nat} {a : Nat → List El} {lost : Nat → Bool} (h : phf np nl a lost = 0) : 3 ≤ np ∧ np ≤ 12 ∧ nl = np ∧ np - 2 ≤ (ix lost np).length ∧ bbad (ix lost np).length (fun i => a (at' lost np i)) = 0 := by
  unfold phf at h
  by_cases q : np < 3 ∨ 12 < np
  · rw [if_pos q] at h; omega
  · rw [if_neg q] at h
    by_cases q2 : nl ≠ np
    · rw [if_pos q2] at h; omega
    · rw [if_neg q2] at h
      unfold df at h
      by_cases q3 : (ix lost np).length < np - 2
      · rw [if_pos q3] at h; omega
      · rw [if_neg q3] at h
        exact ⟨by omega, by omega, by omega, by omega, h⟩
set_option maxRecDepth 100000 in
set_option maxHeartbeats 1000000 in
theorem pheal_bad (v lv : Value) (np nl c : Nat) (a : Nat → List El) (lost : Nat → Bool) (w : World) (h : RdF w v np (fun i => st (a i))) (hl : RdF w lv nl (fun i => .bool (lost i))) (hn : np ≤ 8796093021952) (hnl : nl ≤ 140737488351232)
    (hc : phf np nl a lost = c) (h0 : c ≠ 0) :
    Calls Tryd.prog 15 #[v, lv] w fun e w' => e = .returned (.tuple #[.slice none 0 0, .iface 63 (.int .i64 c)]) ∧ Below w.heap.size w w' := by
  obtain ⟨ao, cap, rfl, _, _⟩ := h.len
  obtain ⟨al, cl, rfl, _, _⟩ := hl.len
  unfold phf at hc
  by_cases q : np < 3 ∨ 12 < np
  · rw [if_pos q] at hc
    subst hc
    have C := few_any ((np : Int) - 2) w
    rw [decide_eq_true (by omega)] at C
    clear h hl q
    go_enter Tryd.func15, Tryd.ntmps15
    go_wp2_with fail
    refine C.mono ?_
    rintro e w1 ⟨rfl, hw⟩
    obtain rfl := hw.symm
    clear C
    go_wp2
    go_ret2
    exact ⟨rfl, Below.refl _ _⟩
  · rw [if_neg q] at hc
    obtain ⟨k, rfl⟩ : ∃ k, np = k + 2 := ⟨np - 2, by omega⟩
    have C := few_any (k : Int) w
    rw [decide_eq_false (by omega)] at C
    by_cases q2 : nl ≠ k + 2
    · rw [if_pos q2] at hc
      subst hc
      have hne : ((nl : Int) != (k : Int) + 2) = true := by rw [bne_iff_ne]; omega
      clear h hl q q2
      go_enter Tryd.func15, Tryd.ntmps15
      go_wp2_with fail
      refine C.mono ?_
      rintro e w1 ⟨rfl, hw⟩
      obtain rfl := hw.symm
      clear C
      go_wp2
      go_ret2
      exact ⟨rfl, Below.refl _ _⟩
    · rw [if_neg q2] at hc
      obtain rfl : nl = k + 2 := by omega
      rw [show k + 2 - 2 = k by omega] at hc
      have HD : Hid (∀ (w1 : World), Below w.heap.size w w1 → ∀ (u : Value) (R : Nat → List El), RdM w1 u 2 R → Calls Tryd.prog 33 #[u, .slice ao (k + 2) cap, .slice al (k + 2) cl] w1 fun e w' => e = .returned (.tuple #[.slice none 0 0, .iface 63 (.int .i64 c)]) ∧ Below w1.heap.size w1 w') := fun w1 hB u R hu =>
        regain_bad k 2 (by omega) (by omega) u _ _ R a lost c w1 hu (h.old hB) (hl.old hB) hc h0
      have hk1 : 1 ≤ k := by omega
      have hk2 : k ≤ 10 := by omega
      clear h hl q q2 hc
      go_enter Tryd.func15, Tryd.ntmps15
      go_wp2_with fail
      refine C.mono ?_
      rintro e w1 ⟨rfl, hw⟩
      obtain rfl := hw.symm
      clear C
      go_wp2_with fail
      refine (pqrows_any k hk1 hk2 _).mono ?_
      rintro e w2 ⟨v2, rv2, rfl, hO2, hB2⟩
      have E := HD.out w2 hB2 v2 _ hO2.rd
      obtain ⟨a2, c2, rfl, _, _⟩ := hO2.rd.len
      clear hO2 HD
      go_wp2_with fail
      refine E.mono ?_
      rintro e w3 ⟨rfl, hB3⟩
      have hB4 := hB2.trans (hB3.mono hB2.size)
      clear E hB2 hB3
      go_wp2
      go_ret2
      exact ⟨rfl, hB4⟩
theorem two_cells {w : World} {x y : Value} (t : TypeId) : ∀ j u, [x, y][j]? = some u → (w.alloc (.cells #[x, y] t)).cell? ((⟨w.heap.size, 0, none⟩ : Addr).add j) = some u := by
  intro j u hj
  have h := heap_alloc_new w (.cells #[x, y] t)
  match j, hj with
  | 0, hj => simp at hj; subst hj; rw [show (⟨w.heap.size, 0, none⟩ : Addr).add 0 = ⟨w.heap.size, 0, none⟩ from rfl, cell_of_row _ _ 0 _ _ _ h]; rfl
  | 1, hj => simp at hj; subst hj; rw [show (⟨w.heap.size, 0, none⟩ : Addr).add 1 = ⟨w.heap.size, 1, none⟩ from by unfold Addr.add; simp, cell_of_row _ _ 1 _ _ _ h]; rfl
theorem pqp_texts (k L : Nat) (D : M) : (List.range k).map (fun i => st (row (D i) L)) ++ [st (row (pp k D) L), st (row (qq k D) L)] = (List.range (k + 2)).map (fun i => st (row (pqp k D i) L)) := by
  rw [List.range_succ, List.range_succ, List.map_append, List.map_append, List.append_assoc]
  congr 1
  · exact List.map_congr_left (fun i hi => by rw [pqp_data (List.mem_range.1 hi)])
  · rw [List.map_cons, List.map_nil, List.map_cons, List.map_nil, pqp_p, pqp_q]
    rfl
set_option maxRecDepth 100000 in
set_option maxHeartbeats 1000000 in
theorem pheal_ok (k L : Nat) (h1 : 1 ≤ k) (h2 : k ≤ 10) (v lv : Value) (a : Nat → List El) (lost : Nat → Bool) (w : World) (h : RdF w v (k + 2) (fun i => st (a i))) (hl : RdF w lv (k + 2) (fun i => .bool (lost i)))
    (hk : k ≤ (ix lost (k + 2)).length) (hL : ∀ i, i < (ix lost (k + 2)).length → (a (at' lost (k + 2) i)).length = L) (hL16 : L ≤ 16) :
    Calls Tryd.prog 15 #[v, lv] w fun e w' => ∃ (v' : Value) (D : M), e = .returned (.tuple #[v', .nilIface]) ∧ Healed k L (mx a) lost D ∧
      w'.ownsRow w.heap.size 9 1 v' (k + 2) ((List.range (k + 2)).map (fun i => st (row (pqp k D i) L))) ∧ Below w.heap.size w w' := by
  obtain ⟨j0, hj, hy0, hy1, hy2⟩ := info_parts infoT
  have HD : Hid (∀ (w1 : World), Below w.heap.size w w1 → ∀ (u : Value), RdM w1 u 2 (rws pqr k) → Calls Tryd.prog 33 #[u, v, lv] w1 fun e w' => ∃ (v' : Value) (D : M), e = .returned (.tuple #[v', .nilIface]) ∧ Healed k L (mx a) lost D ∧
      w'.ownsRow w1.heap.size 9 1 v' k ((List.range k).map (fun i => st (row (D i) L))) ∧ Below w1.heap.size w1 w') := fun w1 hB u hu =>
    (regain_ok k 2 L h1 (by omega) u v lv pqr a lost w1 hu (h.old hB) (hl.old hB) hk hL hL16 (pq_not h2 hk)).mono fun e w' ⟨v', T, he, hI, ho, hb⟩ => ⟨v', _, he, healed_inv hk hI (fun i l _ _ => rfl), ho, hb⟩
  obtain ⟨ao, cap, rfl, _, _⟩ := h.len
  obtain ⟨al, cl, rfl, _, _⟩ := hl.len
  have C := few_any (k : Int) w
  rw [decide_eq_false (by omega)] at C
  clear h hl hL hk
  go_enter Tryd.func15, Tryd.ntmps15
  go_wp2_with fail
  refine C.mono ?_
  rintro e w1 ⟨rfl, hw⟩
  obtain rfl := hw.symm
  clear C
  go_wp2_with fail
  refine (pqrows_any k h1 h2 _).mono ?_
  rintro e w2 ⟨v2, rv2, rfl, hO2, hB2⟩
  have E := HD.out w2 hB2 v2 hO2.rd
  have HO2 : Hid (OwM w.heap.size w2 v2 2 (rws pqr k) rv2) := hO2
  obtain ⟨a2, c2, rfl, _, _⟩ := hO2.rd.len
  clear hO2 HD
  go_wp2_with fail
  refine E.mono ?_
  rintro e w3 ⟨v3, D, rfl, hH, hO3, hB3⟩
  have HH : Hid (Healed k L (mx a) lost D) := hH
  have hB03 := hB2.trans (hB3.mono hB2.size)
  have T := sums_any (.slice a2 2 c2) v3 k k L pqr D w3 (HO2.out.old hB3).rd (OwL.rdM hO3) (Nat.le_refl _) (by omega) hL16
  rw [rows_p, rows_q] at T
  have HO3 : Hid (w3.ownsRow w2.heap.size 9 1 v3 k ((List.range k).map (fun i => st (row (D i) L)))) := hO3
  have hs2 := hB2.size
  obtain ⟨a3, c3, rfl, _, _⟩ := (OwL.rdM hO3).len
  obtain ⟨s0, hs0⟩ : ∃ s, s = sb (row (pp k D) L) := ⟨_, rfl⟩
  obtain ⟨s1, hs1⟩ : ∃ s, s = sb (row (qq k D) L) := ⟨_, rfl⟩
  have HS0 : Hid (s0 = sb (row (pp k D) L)) := hs0
  have HS1 : Hid (s1 = sb (row (qq k D) L)) := hs1
  unfold st at T
  rw [← hs0, ← hs1] at T
  clear E hH hB2 hB3 hO3 HO2 hs0 hs1
  go_wp2_with fail
  refine T.mono ?_
  rintro e w4 ⟨rfl, hB4⟩
  have hB04 := hB03.trans (hB4.mono hB03.size)
  have hO4 := ownsRow_mono (ownsRow_old HO3.out hB4) hs2
  have HF : Hid (∀ (v' : Value) (w' : World), w'.ownsRow w.heap.size 9 1 v' (k + 2) ((List.range k).map (fun i => st (row (D i) L)) ++ [.string s0, .string s1]) → w'.ownsRow w.heap.size 9 1 v' (k + 2) ((List.range (k + 2)).map (fun i => st (row (pqp k D i) L)))) := fun v' w' ho => by
    rw [HS0.out, HS1.out, pqp_texts] at ho
    exact ho
  have hs4 := hB04.size
  clear T hB4 hB03 HO3 HS0 HS1
  generalize (List.range k).map (fun i => st (row (D i) L)) = xs at *
  go_wp2_with (first | (at_builtin; refine wpList_append_own _ rfl _ _ 22 rfl w.heap.size 9 j0 (.string ⟨#[]⟩) 1 16 Tryd.underlying22 hj hy0 hy1 hy2 rfl (by decide) _ _ _ rfl (World.ownsRow.alloc hO4 _) ⟨w4.heap.size, 0, none⟩ 2 2 [.string s0, .string s1] rfl rfl (two_cells _) (by intro u hu; simp at hu; rcases hu with rfl | rfl <;> rfl) (by unfold maxLen; omega) (by omega) (by simp; omega) ?_))
  intro v5 w5 hown hgrow _
  have hO5 := HF.out v5 w5 hown
  have hB5 : Below w.heap.size w w5 := (hB04.alloc hs4 _).grown hgrow (by simp; omega) (fun g hg => (World.ownsRow.lt hO4 g hg).1)
  clear hown hgrow hO4 hB04 HF
  go_wp2
  go_ret2
  exact ⟨_, D, rfl, HH.out, hO5, hB5⟩
end Go.Proofs.YtjlfaoemejaphacDoor
