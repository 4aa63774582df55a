/- TopPool, a piece: walks over the program. -/
import Derived.Test.YticgapgggoklfaaTPf
import Derived.Test.YticgapgggoklfaaTPg
import Derived.Test.YticgapgggoklfaaOne
namespace Go.Proofs.Yticgapgggoklfaa
open Go.RowKit El Pol Mx Lay
/-- there can be none -/
def tbad (n rows sp : Int) : Prop := n < 3 ∨ 10 < n ∨ rows < 1 ∨ 20 < rows ∨ sp < 0 ∨ 10 < sp
theorem tbad_arr {n rows : Int} (sp : Int) (h : abad n rows 2 ≠ 0) : tbad n rows sp := by
  by_cases q : tbad n rows sp
  · exact q
  · refine absurd ?_ h
    unfold tbad at q
    unfold abad
    rw [if_neg]
    rintro (z | z)
    · rw [lbad_of (by omega) (by omega)] at z
      omega
    · unfold newE at z
      rw [if_neg (by omega)] at z
      omega
set_option maxRecDepth 1000000 in
set_option maxHeartbeats 8000000 in
theorem tpool_bad1 (n rows sp : Int) (v3 v4 : Value) (w : World) (ha : abad n rows 2 ≠ 0) :
    Calls Try.prog 5 #[.int .i64 n, .int .i64 rows, .int .i64 sp, v3, v4] w fun e w' => e = .returned (.bool true) ∧ Below w.heap.size w w' := by
  have C0 := one_any w
  have HN : Hid (∀ W : World, Calls Try.prog 14 #[.int .i64 n, .int .i64 rows, .int .i64 2] W fun e w' => e = .returned (.tuple #[.pointer none, errV 1]) ∧ Below W.heap.size W w') := fun W => pa_new_bad n rows 2 ha W
  have hbad := tbad_arr sp ha
  clear ha
  by_cases h0 : n < 3
  · have d0 : decide (n < 3) = true := decide_eq_true h0
    clear hbad
    go_enter Try.func5, Try.ntmps5
    go_wp2_with fail
    refine C0.mono ?_
    rintro e w1 ⟨rfl, hB1⟩
    have HB1 : Hid (Below w.heap.size w w1) := hB1
    have C := HN.out w1
    rw [errV, if_neg (by omega)] at C
    clear C0 hB1 HN
    go_wp2_with fail
    refine C.mono ?_
    rintro e w2 ⟨rfl, hB2⟩
    have HB2 : Hid (Below w.heap.size w w2) := HB1.out.trans (hB2.mono HB1.out.size)
    have C := pnew_some n sp w2
    clear hB2 HB1
    go_wp2_with fail
    refine C.mono ?_
    rintro e w3 ⟨p1, p2, rfl, hB3⟩
    have HB3 : Hid (Below w.heap.size w w3) := HB2.out.trans (hB3.mono HB2.out.size)
    clear C hB3 HB2
    go_wp2
    go_ret
    exact ⟨rfl, HB3.out⟩
  · have d0 : decide (n < 3) = false := decide_eq_false h0
    by_cases h1 : 10 < n
    · have d1 : decide (10 < n) = true := decide_eq_true h1
      clear hbad
      go_enter Try.func5, Try.ntmps5
      go_wp2_with fail
      refine C0.mono ?_
      rintro e w1 ⟨rfl, hB1⟩
      have HB1 : Hid (Below w.heap.size w w1) := hB1
      have C := HN.out w1
      rw [errV, if_neg (by omega)] at C
      clear C0 hB1 HN
      go_wp2_with fail
      refine C.mono ?_
      rintro e w2 ⟨rfl, hB2⟩
      have HB2 : Hid (Below w.heap.size w w2) := HB1.out.trans (hB2.mono HB1.out.size)
      have C := pnew_some n sp w2
      clear hB2 HB1
      go_wp2_with fail
      refine C.mono ?_
      rintro e w3 ⟨p1, p2, rfl, hB3⟩
      have HB3 : Hid (Below w.heap.size w w3) := HB2.out.trans (hB3.mono HB2.out.size)
      clear C hB3 HB2
      go_wp2
      go_ret
      exact ⟨rfl, HB3.out⟩
    · have d1 : decide (10 < n) = false := decide_eq_false h1
      by_cases h2 : rows < 1
      · have d2 : decide (rows < 1) = true := decide_eq_true h2
        clear hbad
        go_enter Try.func5, Try.ntmps5
        go_wp2_with fail
        refine C0.mono ?_
        rintro e w1 ⟨rfl, hB1⟩
        have HB1 : Hid (Below w.heap.size w w1) := hB1
        have C := HN.out w1
        rw [errV, if_neg (by omega)] at C
        clear C0 hB1 HN
        go_wp2_with fail
        refine C.mono ?_
        rintro e w2 ⟨rfl, hB2⟩
        have HB2 : Hid (Below w.heap.size w w2) := HB1.out.trans (hB2.mono HB1.out.size)
        have C := pnew_some n sp w2
        clear hB2 HB1
        go_wp2_with fail
        refine C.mono ?_
        rintro e w3 ⟨p1, p2, rfl, hB3⟩
        have HB3 : Hid (Below w.heap.size w w3) := HB2.out.trans (hB3.mono HB2.out.size)
        clear C hB3 HB2
        go_wp2
        go_ret
        exact ⟨rfl, HB3.out⟩
      · have d2 : decide (rows < 1) = false := decide_eq_false h2
        by_cases h3 : 20 < rows
        · have d3 : decide (20 < rows) = true := decide_eq_true h3
          clear hbad
          go_enter Try.func5, Try.ntmps5
          go_wp2_with fail
          refine C0.mono ?_
          rintro e w1 ⟨rfl, hB1⟩
          have HB1 : Hid (Below w.heap.size w w1) := hB1
          have C := HN.out w1
          rw [errV, if_neg (by omega)] at C
          clear C0 hB1 HN
          go_wp2_with fail
          refine C.mono ?_
          rintro e w2 ⟨rfl, hB2⟩
          have HB2 : Hid (Below w.heap.size w w2) := HB1.out.trans (hB2.mono HB1.out.size)
          have C := pnew_some n sp w2
          clear hB2 HB1
          go_wp2_with fail
          refine C.mono ?_
          rintro e w3 ⟨p1, p2, rfl, hB3⟩
          have HB3 : Hid (Below w.heap.size w w3) := HB2.out.trans (hB3.mono HB2.out.size)
          clear C hB3 HB2
          go_wp2
          go_ret
          exact ⟨rfl, HB3.out⟩
        · have d3 : decide (20 < rows) = false := decide_eq_false h3
          by_cases h4 : sp < 0
          · have d4 : decide (sp < 0) = true := decide_eq_true h4
            clear hbad
            go_enter Try.func5, Try.ntmps5
            go_wp2_with fail
            refine C0.mono ?_
            rintro e w1 ⟨rfl, hB1⟩
            have HB1 : Hid (Below w.heap.size w w1) := hB1
            have C := HN.out w1
            rw [errV, if_neg (by omega)] at C
            clear C0 hB1 HN
            go_wp2_with fail
            refine C.mono ?_
            rintro e w2 ⟨rfl, hB2⟩
            have HB2 : Hid (Below w.heap.size w w2) := HB1.out.trans (hB2.mono HB1.out.size)
            have C := pnew_some n sp w2
            clear hB2 HB1
            go_wp2_with fail
            refine C.mono ?_
            rintro e w3 ⟨p1, p2, rfl, hB3⟩
            have HB3 : Hid (Below w.heap.size w w3) := HB2.out.trans (hB3.mono HB2.out.size)
            clear C hB3 HB2
            go_wp2
            go_ret
            exact ⟨rfl, HB3.out⟩
          · have d4 : decide (sp < 0) = false := decide_eq_false h4
            have h5 : 10 < sp := by unfold tbad at hbad; omega
            have d5 : decide (10 < sp) = true := decide_eq_true h5
            clear hbad
            go_enter Try.func5, Try.ntmps5
            go_wp2_with fail
            refine C0.mono ?_
            rintro e w1 ⟨rfl, hB1⟩
            have HB1 : Hid (Below w.heap.size w w1) := hB1
            have C := HN.out w1
            rw [errV, if_neg (by omega)] at C
            clear C0 hB1 HN
            go_wp2_with fail
            refine C.mono ?_
            rintro e w2 ⟨rfl, hB2⟩
            have HB2 : Hid (Below w.heap.size w w2) := HB1.out.trans (hB2.mono HB1.out.size)
            have C := pnew_some n sp w2
            clear hB2 HB1
            go_wp2_with fail
            refine C.mono ?_
            rintro e w3 ⟨p1, p2, rfl, hB3⟩
            have HB3 : Hid (Below w.heap.size w w3) := HB2.out.trans (hB3.mono HB2.out.size)
            clear C hB3 HB2
            go_wp2
            go_ret
            exact ⟨rfl, HB3.out⟩
set_option maxRecDepth 1000000 in
set_option maxHeartbeats 8000000 in
theorem tpool_bad2 (n rows : Nat) (sp : Int) (v3 v4 : Value) (w : World) (hn : 3 ≤ n ∧ n ≤ 10) (hr : 1 ≤ rows ∧ rows ≤ 20) (hs : sp < 0 ∨ 10 < sp) :
    Calls Try.prog 5 #[.int .i64 (n : Int), .int .i64 (rows : Int), .int .i64 sp, v3, v4] w fun e w' => e = .returned (.bool true) ∧ Below w.heap.size w w' := by
  have C0 := one_any w
  have HN : Hid (∀ W : World, Calls Try.prog 14 #[.int .i64 (n : Int), .int .i64 (rows : Int), .int .i64 2] W fun e w' => ∃ p, e = .returned (.tuple #[.pointer (some ⟨p, 0, none⟩), .nilIface]) ∧ Below W.heap.size W w') := fun W => (pa_new_ok n rows 2 hn hr (by omega) W).mono fun e w1 ⟨he, _, hb⟩ => ⟨_, he, hb⟩
  have HP : Hid (∀ W : World, Calls Try.prog 7 #[.int .i64 (n : Int), .int .i64 sp] W fun e w' => e = .returned (.tuple #[.pointer none, errV 1]) ∧ w' = W) := fun W => pnew_no (by unfold Plo.bad; omega) W
  have d0 : decide ((n : Int) < 3) = false := decide_eq_false (by omega)
  have d1 : decide (10 < (n : Int)) = false := decide_eq_false (by omega)
  have d2 : decide ((rows : Int) < 1) = false := decide_eq_false (by omega)
  have d3 : decide (20 < (rows : Int)) = false := decide_eq_false (by omega)
  by_cases h4 : sp < 0
  · have d4 : decide (sp < 0) = true := decide_eq_true h4
    clear hs
    go_enter Try.func5, Try.ntmps5
    go_wp2_with fail
    refine C0.mono ?_
    rintro e w1 ⟨rfl, hB1⟩
    have HB1 : Hid (Below w.heap.size w w1) := hB1
    have C := HN.out w1
    clear C0 hB1 HN
    go_wp2_with fail
    refine C.mono ?_
    rintro e w2 ⟨p, rfl, hB2⟩
    have HB2 : Hid (Below w.heap.size w w2) := HB1.out.trans (hB2.mono HB1.out.size)
    have C := HP.out w2
    rw [errV, if_neg (by omega)] at C
    clear hB2 HB1 HP
    go_wp2_with fail
    refine C.mono ?_
    rintro e w3 ⟨rfl, hw3⟩
    obtain rfl := hw3.symm
    clear C hw3
    go_wp2
    go_ret
    exact ⟨rfl, HB2.out⟩
  · have d4 : decide (sp < 0) = false := decide_eq_false h4
    have h5 : 10 < sp := by omega
    have d5 : decide (10 < sp) = true := decide_eq_true h5
    clear hs
    go_enter Try.func5, Try.ntmps5
    go_wp2_with fail
    refine C0.mono ?_
    rintro e w1 ⟨rfl, hB1⟩
    have HB1 : Hid (Below w.heap.size w w1) := hB1
    have C := HN.out w1
    clear C0 hB1 HN
    go_wp2_with fail
    refine C.mono ?_
    rintro e w2 ⟨p, rfl, hB2⟩
    have HB2 : Hid (Below w.heap.size w w2) := HB1.out.trans (hB2.mono HB1.out.size)
    have C := HP.out w2
    rw [errV, if_neg (by omega)] at C
    clear hB2 HB1 HP
    go_wp2_with fail
    refine C.mono ?_
    rintro e w3 ⟨rfl, hw3⟩
    obtain rfl := hw3.symm
    clear C hw3
    go_wp2
    go_ret
    exact ⟨rfl, HB2.out⟩
theorem row_made (w : World) (m : Nat) (z : Value) (t : TypeId) : RowAt (w.alloc (.cells (List.replicate m z).toArray t)) w.heap.size m (fun _ => z) := by
  rw [List.toArray_replicate]
  exact RowAt.new w m z t
theorem st_two : st (List.replicate 2 (0 : El)) = .string ⟨#[0, 0]⟩ := rfl
set_option linter.unusedVariables false in
set_option maxRecDepth 1000000 in
set_option maxHeartbeats 16000000 in
theorem tpool_ok (n rows sp : Nat) (hn : 3 ≤ n ∧ n ≤ 10) (hr : 1 ≤ rows ∧ rows ≤ 20) (hsp : sp ≤ 10) (a3 a4 : Option Addr) (n3 c3 n4 c4 : Nat) (f3 f4 : Nat → Int) (w : World) (r3 : RdF w (.slice a3 n3 c3) n3 (fun i => .int .i64 (f3 i))) (q3 : ∀ i, i < n3 → (Lit.int .i64 (f3 i)).wf = true) (hn3 : n3 ≤ 17592186044416) (r4 : RdF w (.slice a4 n4 c4) n4 (fun i => .int .i64 (f4 i))) :
    Calls Try.prog 5 #[.int .i64 (n : Int), .int .i64 (rows : Int), .int .i64 (sp : Int), .slice a3 n3 c3, .slice a4 n4 c4] w fun e w' => e = .returned (.bool true) ∧ Below w.heap.size w w' := by
  have HR3 : Hid _ := r3
  have HR4 : Hid _ := r4
  have HQ3 : Hid _ := q3
  clear r3 r4 q3
  have C0 := one_any w
  have hbig : rows * (n - 2) ≤ 20 * 8 := Nat.mul_le_mul hr.2 (by omega)
  have hone : 1 * 1 ≤ rows * (n - 2) := Nat.mul_le_mul hr.1 (by omega)
  obtain ⟨cc, hcc⟩ : ∃ c, n - 2 = c := ⟨_, rfl⟩
  obtain ⟨m, hm⟩ : ∃ m, m = rows * (n - 2) := ⟨_, rfl⟩
  have hs : (n : Int) - 2 = (cc : Int) := by omega
  have hmul : (rows : Int) * (cc : Int) = (m : Int) := by rw [hm, ← hcc, Int.natCast_mul]
  have HM : Hid (m = rows * (n - 2)) := hm
  have hm1 : 1 ≤ m := by omega
  have hm160 : m ≤ 160 := by omega
  have n10 : (n : Int) ≤ 10 := by omega
  have r20 : (rows : Int) ≤ 20 := by omega
  have m160 : (m : Int) ≤ 160 := by omega
  have d0 : decide ((n : Int) < 3) = false := decide_eq_false (by omega)
  have d1 : decide (10 < (n : Int)) = false := decide_eq_false (by omega)
  have d2 : decide ((rows : Int) < 1) = false := decide_eq_false (by omega)
  have d3 : decide (20 < (rows : Int)) = false := decide_eq_false (by omega)
  have d4 : decide ((sp : Int) < 0) = false := decide_eq_false (by omega)
  have d5 : decide (10 < (sp : Int)) = false := decide_eq_false (by omega)
  clear hcc hm hbig hone
  go_enter Try.func5, Try.ntmps5
  go_wp2_with fail
  refine C0.mono ?_
  rintro e w1 ⟨rfl, hB1⟩
  have HL : Hid (Below w.heap.size w w1) := hB1
  clear C0 hB1
  have C := pa_new_ok n rows 2 hn hr (by omega) w1
  generalize hx : newAt w1.heap.size n = x at C
  have HX : Hid (∀ w2, PA w2 x (Arr.fresh n rows 2) 0 → Below w1.heap.size w1 w2 → AL w x (Arr.fresh n rows 2) 0 w2) := fun w2 hp hb => by rw [← hx] at hp ⊢; exact AL.newIn HL.out hp hb
  clear hx
  go_wp2_with fail
  refine C.mono ?_
  rintro e w2 ⟨rfl, hp, hb⟩
  have HA : Hid (AL w x (Arr.fresh n rows 2) 0 w2) := HX.out w2 hp hb
  clear C hp hb HX
  have P := pl_new (a := n) (b := sp) (by omega) hn.2 hsp HA.out.low
  rw [errV, if_pos rfl] at P
  go_wp2_with fail
  refine P.mono ?_
  rintro e w3 ⟨y, rfl, hP3, hB3, hF3⟩
  have HY : Hid ((AL w x (Arr.fresh n rows 2) 0 w3 ∧ PL w y (Plo.fresh n sp) w3) ∧ ∀ k, x.F n k → ¬ y.F k) := ⟨⟨HA.out.old hB3, hP3⟩, fun k hx hy => by have := HA.out.pa.lt k hx; have := hF3 k hy; omega⟩
  have hmk := makeT m (by omega) w3
  clear P hP3 hB3 hF3 HA HL
  go_upto_region 10 with fail
  rename ∀ (a : Act) (w : World), Code.wp _ _ _ a w → _ => hK
  have HK : Hid _ := hK
  clear hK
  go_wp2
  refine HK.out _ _ ?_
  clear HK hmk
  refine wp_seq_k fun K hK => ?_
  refine t_cells n rows sp m w3.heap.size n3 c3 n4 c4 a3 a4 x y w _ _ _ _ _ _ _ _ _ _ _ _ _ _ _ _ _ _ _ _ _ _ _ _ _ _ _ _ _ _ _ _ _ _ _ _ _ _ _ _ _ _ _ _ _ _ _ _ _ _ _ _ _ _ _ _ _ _ _ _ _ _ _ _ _ _ _ _ _ _ _ _ _ _ _ _ _ _ _ _ _ _ _ _ _ _ _ _ _ _ _ _ _ _ _ _ _ _ _ _ _ _ _ _ _ _ _ _ _ _ _ _ _ _ _ _ _ _ _ _ _ _ _ _ _ _ _ _ _ _ _ _ _ _ _ _ _ _ _ _ _ _ _ _ _ _ _ _ _ _ _ _ _ _ _ _ _ _ _ _ _ _ _ _ _ _ _ _ _ _ _ _ _ _ _ _ _ _ _ _ _ _ _ _ _ _ _ _ _ _ _ _ _ _ _ _ _ _ _ _ _ _ _ _ _ _ _ _ _ _ _ _ _ _ _ _ _ _ _ _ _ _ _ _ _ _ _ _ _ _ _ _ _ _ _ _ _ _ _ _ _ _ _ _ _ _ _ _ _ _ _ _ _ hm160 (row_made w3 m _ _) ?_
  intro y17 y101 y102 y103 y104 y105 y106 y107 y108 y109 w5 hR5 hB5
  refine then_k (hK _ _ ?_)
  clear hK K
  have HS5 : Hid (TW w x y w3.heap.size n rows (Arr.fresh n rows 2) (Plo.fresh n sp) (fun _ => List.replicate 2 0) 0 w5) := by
    obtain ⟨⟨hA, hP⟩, hap⟩ := HY.out
    have hA4 := hA.old (al_below w3 (.cells (List.replicate m (.string ⟨#[]⟩)).toArray 9))
    have hP4 := hP.old (al_below w3 (.cells (List.replicate m (.string ⟨#[]⟩)).toArray 9))
    have hgx : ¬ x.F n w3.heap.size := fun h => by have := hA.pa.lt _ h; omega
    have hgy : ¬ y.F w3.heap.size := fun h => by have := hP.isp.lt _ h; omega
    have hg : w.heap.size ≤ w3.heap.size := hA.low.size
    exact ⟨⟨hA4.low.trans (hB5.below hA4.low.size (fun k hk => by rw [hk]; exact hg)), hA4.pa.but hB5 (fun k hk e => hgx (by rw [← e]; exact hk)), hA4.out⟩, ⟨rfl, rfl, rfl⟩, by rw [← HM.out]; exact hR5, hg, hgx, hP4.elsewhere hB5 (fun k hk => by rw [hk]; exact hg) (fun k hk e => hgy (by rw [← e]; exact hk)), hap, hgy⟩
  clear hR5 hB5 HY
  generalize w3.heap.size = g at *
  refine wp_seq_k fun K1 hK1 => ?_
  have HK1 : Hid _ := hK1
  clear hK1
  go_wp2
  refine HK1.out _ _ ?_
  clear HK1
  refine wp_seq_k fun K hK => ?_
  have HKK : Hid _ := hK
  clear hK
  refine wp_seq_k fun K2 hK => ?_
  have HK : Hid _ := hK
  clear hK
  go_wp2
  refine HK.out _ _ ?_
  clear HK
  refine wp_block ?_
  refine tloop n rows sp m g n3 c3 n4 c4 a3 a4 x y w _ _ _ _ _ _ _ _ _ _ _ _ _ _ _ _ _ _ _ _ _ _ _ _ _ _ _ _ _ _ _ _ _ _ _ _ _ _ _ _ _ _ _ _ _ _ _ _ _ _ _ _ _ _ _ _ _ _ _ _ _ _ _ _ _ _ _ _ _ _ _ _ _ _ _ _ _ _ _ _ _ _ _ _ _ _ _ _ _ _ _ _ _ _ _ _ _ _ _ _ _ _ _ _ _ _ _ _ _ _ _ _ _ f3 f4 HM hm1 hm160 hn hr HR3.out HQ3.out HR4.out hn3 _ 0 0 0 (Arr.fresh n rows 2) (Plo.fresh n sp) (fun _ => List.replicate 2 0) _ _ _ _ _ _ _ _ _ _ _ _ _ _ _ _ _ _ _ _ _ _ _ _ _ _ _ _ _ _ _ _ _ _ _ _ _ _ _ _ _ _ _ _ _ _ _ _ _ _ _ _ _ _ _ _ _ _ _ _ _ _ _ _ _ _ _ _ _ _ _ _ _ _ _ _ _ _ _ _ _ _ _ _ _ _ _ _ _ _ _ _ _ _ _ _ _ _ _ _ _ _ _ _ _ _ _ _ _ _ _ _ _ _ _ _ _ _ _ _ _ _ _ _ _ _ _ _ _ _ _ _ _ _ _ _ _ ⟨Nat.zero_le _, Nat.zero_le _⟩ ⟨HS5.out, TP.fresh hn hr hsp, Nat.zero_le _, Nat.zero_le _⟩ ?_
  intro ac w' hI
  refine (show K ac w' from HKK.out _ _ ?_)
  unfold tWI tWK at hI
  obtain ⟨k, _, hI⟩ := hI
  obtain ⟨u10, hI⟩ := hI
  obtain ⟨u20, hI⟩ := hI
  obtain ⟨u21, hI⟩ := hI
  obtain ⟨u22, hI⟩ := hI
  obtain ⟨u23, hI⟩ := hI
  obtain ⟨u24, hI⟩ := hI
  obtain ⟨u25, hI⟩ := hI
  obtain ⟨u26, hI⟩ := hI
  obtain ⟨u27, hI⟩ := hI
  obtain ⟨u110, hI⟩ := hI
  obtain ⟨u111, hI⟩ := hI
  obtain ⟨u112, hI⟩ := hI
  obtain ⟨u113, hI⟩ := hI
  obtain ⟨u114, hI⟩ := hI
  obtain ⟨u115, hI⟩ := hI
  obtain ⟨u116, hI⟩ := hI
  obtain ⟨u117, hI⟩ := hI
  obtain ⟨u118, hI⟩ := hI
  obtain ⟨u119, hI⟩ := hI
  obtain ⟨u120, hI⟩ := hI
  obtain ⟨u121, hI⟩ := hI
  obtain ⟨u122, hI⟩ := hI
  obtain ⟨u123, hI⟩ := hI
  obtain ⟨u124, hI⟩ := hI
  obtain ⟨u125, hI⟩ := hI
  obtain ⟨u126, hI⟩ := hI
  obtain ⟨u127, hI⟩ := hI
  obtain ⟨u128, hI⟩ := hI
  obtain ⟨u129, hI⟩ := hI
  obtain ⟨u130, hI⟩ := hI
  obtain ⟨u131, hI⟩ := hI
  obtain ⟨u132, hI⟩ := hI
  obtain ⟨u133, hI⟩ := hI
  obtain ⟨u134, hI⟩ := hI
  obtain ⟨u135, hI⟩ := hI
  obtain ⟨u136, hI⟩ := hI
  obtain ⟨u137, hI⟩ := hI
  obtain ⟨u138, hI⟩ := hI
  obtain ⟨u139, hI⟩ := hI
  obtain ⟨u140, hI⟩ := hI
  obtain ⟨u141, hI⟩ := hI
  obtain ⟨u142, hI⟩ := hI
  obtain ⟨u143, hI⟩ := hI
  obtain ⟨u144, hI⟩ := hI
  obtain ⟨u145, hI⟩ := hI
  obtain ⟨u146, hI⟩ := hI
  obtain ⟨u147, hI⟩ := hI
  obtain ⟨u148, hI⟩ := hI
  obtain ⟨u149, hI⟩ := hI
  obtain ⟨u150, hI⟩ := hI
  obtain ⟨u151, hI⟩ := hI
  obtain ⟨u152, hI⟩ := hI
  obtain ⟨u153, hI⟩ := hI
  obtain ⟨u154, hI⟩ := hI
  obtain ⟨u155, hI⟩ := hI
  obtain ⟨u156, hI⟩ := hI
  obtain ⟨u157, hI⟩ := hI
  obtain ⟨u158, hI⟩ := hI
  obtain ⟨u159, hI⟩ := hI
  obtain ⟨u160, hI⟩ := hI
  obtain ⟨u161, hI⟩ := hI
  obtain ⟨u162, hI⟩ := hI
  obtain ⟨u163, hI⟩ := hI
  obtain ⟨u164, hI⟩ := hI
  obtain ⟨u165, hI⟩ := hI
  obtain ⟨u166, hI⟩ := hI
  obtain ⟨u167, hI⟩ := hI
  obtain ⟨u168, hI⟩ := hI
  obtain ⟨u169, hI⟩ := hI
  obtain ⟨u170, hI⟩ := hI
  obtain ⟨u171, hI⟩ := hI
  obtain ⟨u172, hI⟩ := hI
  obtain ⟨u173, hI⟩ := hI
  obtain ⟨u174, hI⟩ := hI
  obtain ⟨u175, hI⟩ := hI
  obtain ⟨u176, hI⟩ := hI
  obtain ⟨u177, hI⟩ := hI
  obtain ⟨u178, hI⟩ := hI
  obtain ⟨u179, hI⟩ := hI
  obtain ⟨u180, hI⟩ := hI
  obtain ⟨u181, hI⟩ := hI
  obtain ⟨u182, hI⟩ := hI
  obtain ⟨u183, hI⟩ := hI
  obtain ⟨u184, hI⟩ := hI
  obtain ⟨u185, hI⟩ := hI
  obtain ⟨u186, hI⟩ := hI
  obtain ⟨u187, hI⟩ := hI
  obtain ⟨u188, hI⟩ := hI
  obtain ⟨u189, hI⟩ := hI
  obtain ⟨u190, hI⟩ := hI
  obtain ⟨u191, hI⟩ := hI
  obtain ⟨u192, hI⟩ := hI
  obtain ⟨u193, hI⟩ := hI
  obtain ⟨u194, hI⟩ := hI
  obtain ⟨u195, hI⟩ := hI
  obtain ⟨u196, hI⟩ := hI
  obtain ⟨u197, hI⟩ := hI
  obtain ⟨u198, hI⟩ := hI
  obtain ⟨u199, hI⟩ := hI
  obtain ⟨u200, hI⟩ := hI
  obtain ⟨u201, hI⟩ := hI
  obtain ⟨u202, hI⟩ := hI
  obtain ⟨u203, hI⟩ := hI
  obtain ⟨u204, hI⟩ := hI
  obtain ⟨u205, hI⟩ := hI
  obtain ⟨u206, hI⟩ := hI
  obtain ⟨u207, hI⟩ := hI
  obtain ⟨u208, hI⟩ := hI
  obtain ⟨u209, hI⟩ := hI
  obtain ⟨u210, hI⟩ := hI
  obtain ⟨u211, hI⟩ := hI
  obtain ⟨u212, hI⟩ := hI
  obtain ⟨u213, hI⟩ := hI
  obtain ⟨u214, hI⟩ := hI
  obtain ⟨u215, hI⟩ := hI
  obtain ⟨u216, hI⟩ := hI
  obtain ⟨u217, hI⟩ := hI
  obtain ⟨u218, hI⟩ := hI
  obtain ⟨u219, hI⟩ := hI
  obtain ⟨u220, hI⟩ := hI
  obtain ⟨u221, hI⟩ := hI
  obtain ⟨u222, hI⟩ := hI
  obtain ⟨u223, hI⟩ := hI
  obtain ⟨u224, hI⟩ := hI
  obtain ⟨u225, hI⟩ := hI
  obtain ⟨u226, hI⟩ := hI
  obtain ⟨u227, hI⟩ := hI
  obtain ⟨u228, hI⟩ := hI
  obtain ⟨u229, hI⟩ := hI
  obtain ⟨u230, hI⟩ := hI
  obtain ⟨u231, hI⟩ := hI
  obtain ⟨u232, hI⟩ := hI
  obtain ⟨u233, hI⟩ := hI
  obtain ⟨u234, hI⟩ := hI
  obtain ⟨u235, hI⟩ := hI
  obtain ⟨u236, hI⟩ := hI
  obtain ⟨A, t, c, op, N, ⟨hS, hT, _, _⟩, rfl⟩ := hI
  exact t_last n rows sp m g n3 c3 n4 c4 a3 a4 x y w k op N A t c _ _ _ _ _ _ _ _ _ _ _ _ _ _ _ _ _ _ _ _ _ _ _ _ _ _ _ _ _ _ _ _ _ _ _ _ _ _ _ _ _ _ _ _ _ _ _ _ _ _ _ _ _ _ _ _ _ _ _ _ _ _ _ _ _ _ _ _ _ _ _ _ _ _ _ _ _ _ _ _ _ _ _ _ _ _ _ _ _ _ _ _ _ _ _ _ _ _ _ _ _ _ _ _ _ _ _ _ _ _ _ _ _ _ _ _ _ _ _ _ _ _ _ _ _ _ _ _ _ _ _ _ _ _ _ _ _ _ _ _ _ _ _ _ _ _ _ _ _ _ _ _ _ _ _ _ _ _ _ _ _ _ _ _ _ _ _ _ _ _ _ _ _ _ _ _ _ _ _ _ _ _ _ _ _ _ _ _ _ _ _ _ _ _ _ _ _ _ _ _ _ _ _ _ _ _ _ _ _ _ _ _ _ _ _ _ _ _ _ _ _ _ _ _ _ _ _ _ _ _ _ _ _ _ _ _ _ _ _ _ _ _ _ _ _ _ _ _ _ _ HM hm1 hm160 hn hr hS hT
theorem tpool_any (n rows sp : Int) (a3 a4 : Option Addr) (n3 c3 n4 c4 : Nat) (f3 f4 : Nat → Int) (w : World) (r3 : RdF w (.slice a3 n3 c3) n3 (fun i => .int .i64 (f3 i))) (q3 : ∀ i, i < n3 → (Lit.int .i64 (f3 i)).wf = true) (hn3 : n3 ≤ 17592186044416) (r4 : RdF w (.slice a4 n4 c4) n4 (fun i => .int .i64 (f4 i))) :
    Calls Try.prog 5 #[.int .i64 n, .int .i64 rows, .int .i64 sp, .slice a3 n3 c3, .slice a4 n4 c4] w fun e w' => e = .returned (.bool true) ∧ Below w.heap.size w w' := by
  by_cases ha : abad n rows 2 = 0
  · obtain ⟨h1, h2, _⟩ := abad_ok ha
    obtain ⟨n, rfl⟩ : ∃ m : Nat, n = m := ⟨n.toNat, by omega⟩
    obtain ⟨rows, rfl⟩ : ∃ m : Nat, rows = m := ⟨rows.toNat, by omega⟩
    by_cases hs : sp < 0 ∨ 10 < sp
    · exact tpool_bad2 n rows sp _ _ w (by omega) (by omega) hs
    · obtain ⟨sp, rfl⟩ : ∃ m : Nat, sp = m := ⟨sp.toNat, by omega⟩
      exact tpool_ok n rows sp (by omega) (by omega) (by omega) a3 a4 n3 c3 n4 c4 f3 f4 w r3 q3 hn3 r4
  · exact tpool_bad1 n rows sp _ _ w ha
end Go.Proofs.Yticgapgggoklfaa
