/- GrowPlays, a piece: walks over the program. -/
import Derived.Test.YtdbanimlnjhhlaaDoorGPp
import Derived.Test.YtdbanimlnjhhlaaDoorGrN
import Derived.Test.YtdbanimlnjhhlaaDoorTxW
import Derived.Test.YtdbanimlnjhhlaaDoorRfA0
import Derived.BigCall
import Derived.BigGuard
namespace Go.Proofs.YtdbanimlnjhhlaaDoor
open Go.RowKit El Pol
set_option linter.unusedVariables false in
set_option maxRecDepth 1000000 in
set_option maxHeartbeats 8000000 in
theorem gplays_bad (a0 a2 a3 : Option Addr) (m c0 n2 c2 n3 c3 : Nat) (n : Int) (S0 : Nat → List El) (w : World) (hg : Handle w) (r0 : RdT w (.slice a0 m c0) m S0) (he : growE m S0 n ≠ 0) :
    Calls Tryd.prog 5 #[.slice a0 m c0, .int .i64 n, .slice a2 n2 c2, .slice a3 n3 c3] w fun e w' => e = .returned (.bool true) ∧ Below w.heap.size w w' := by
  have RC := rcells_any (.slice a0 m c0) m S0 w r0
  have HR0 : Hid (RdT w (.slice a0 m c0) m S0) := r0
  clear r0
  have HN : Hid (∀ W, Below w.heap.size w W → Calls Tryd.prog 11 #[.slice a0 m c0, .int .i64 n] W fun e w' => e = .returned (.tuple #[.pointer none, errV (growE m S0 n)]) ∧ Below W.heap.size W w') := fun W hb => gnew_bad _ m S0 n W (HR0.out.old hb) he
  have HE : Hid (∀ W, Below w.heap.size w W → Calls Tryd.prog 9 #[errV (growE m S0 n), .int .i64 ((growE m S0 n : Nat) : Int)] W fun e w' => e = .returned (.bool true) ∧ Below W.heap.size W w') := fun W hb => err_v _ W (hg.old hb)
  clear hg HR0
  by_cases h1 : cellsE m S0 = 0
  · have e0 : growE m S0 n = 1 := by
      have e0 : growE m S0 n = if noN n then 1 else 0 := if_neg (fun z => z h1)
      rw [e0] at he ⊢
      split at he
      · rename_i h2; rw [if_pos h2]
      · exact absurd rfl he
    have h2 : noN n := by
      have e1 : growE m S0 n = if noN n then 1 else 0 := if_neg (fun z => z h1)
      rw [e1] at he
      split at he
      · assumption
      · exact absurd rfl he
    rw [e0] at HN HE
    rw [h1] at RC
    rw [show ((1 : Nat) : Int) = 1 from rfl] at HE
    rw [show ((0 : Nat) : Int) = 0 from rfl] at RC
    generalize errV 1 = ev at *
    unfold noN at h2
    clear he e0 h1
    by_cases h3 : n < 1
    · have d3 : decide (n < 1) = true := decide_eq_true h3
      clear h2
      go_enter Tryd.func5, Tryd.ntmps5
      go_wp2_with fail
      refine RC.mono ?_
      rintro e w1 ⟨rfl, hw1⟩
      have HB1 : Hid (Below w.heap.size w w1) := by (show Below w.heap.size w w1); rw [hw1]; exact Below.refl _ _
      have N := HN.out w1 HB1.out
      clear RC hw1 HN
      go_wp2_with fail
      refine N.mono ?_
      rintro e w2 ⟨rfl, hB2⟩
      have HB2 : Hid (Below w.heap.size w w2) := HB1.out.trans (hB2.mono HB1.out.size)
      have E := HE.out w2 HB2.out
      clear N hB2 HB1 HE
      go_wp2_with fail
      refine E.mono ?_
      rintro e w3 ⟨rfl, hB3⟩
      have HB3 : Hid (Below w.heap.size w w3) := HB2.out.trans (hB3.mono HB2.out.size)
      clear E hB3 HB2
      go_wp2
      go_ret
      exact ⟨rfl, HB3.out⟩
    · have d3 : decide (n < 1) = false := decide_eq_false h3
      have d4 : decide (9 < n) = true := decide_eq_true (by omega)
      clear h2
      go_enter Tryd.func5, Tryd.ntmps5
      go_wp2_with fail
      refine RC.mono ?_
      rintro e w1 ⟨rfl, hw1⟩
      have HB1 : Hid (Below w.heap.size w w1) := by (show Below w.heap.size w w1); rw [hw1]; exact Below.refl _ _
      have N := HN.out w1 HB1.out
      clear RC hw1 HN
      go_wp2_with fail
      refine N.mono ?_
      rintro e w2 ⟨rfl, hB2⟩
      have HB2 : Hid (Below w.heap.size w w2) := HB1.out.trans (hB2.mono HB1.out.size)
      have E := HE.out w2 HB2.out
      clear N hB2 HB1 HE
      go_wp2_with fail
      refine E.mono ?_
      rintro e w3 ⟨rfl, hB3⟩
      have HB3 : Hid (Below w.heap.size w w3) := HB2.out.trans (hB3.mono HB2.out.size)
      clear E hB3 HB2
      go_wp2
      go_ret
      exact ⟨rfl, HB3.out⟩
  · have e0 : growE m S0 n = cellsE m S0 := if_pos h1
    rw [e0] at HN HE
    have hz : ((cellsE m S0 : Int) == 0) = false := by rw [beq_eq_false_iff_ne]; omega
    have hz2 : ((cellsE m S0 : Int) != 0) = true := by rw [bne, hz]; rfl
    have hz3 : ¬ cellsE m S0 = 0 := h1
    generalize errV (cellsE m S0) = ev at *
    generalize cellsE m S0 = f at *
    clear he e0 h1
    go_enter Tryd.func5, Tryd.ntmps5
    go_wp2_with fail
    refine RC.mono ?_
    rintro e w1 ⟨rfl, hw1⟩
    have HB1 : Hid (Below w.heap.size w w1) := by (show Below w.heap.size w w1); rw [hw1]; exact Below.refl _ _
    have N := HN.out w1 HB1.out
    clear RC hw1 HN
    go_wp2_with fail
    refine N.mono ?_
    rintro e w2 ⟨rfl, hB2⟩
    have HB2 : Hid (Below w.heap.size w w2) := HB1.out.trans (hB2.mono HB1.out.size)
    have E := HE.out w2 HB2.out
    clear N hB2 HB1 HE
    go_wp2_with fail
    refine E.mono ?_
    rintro e w3 ⟨rfl, hB3⟩
    have HB3 : Hid (Below w.heap.size w w3) := HB2.out.trans (hB3.mono HB2.out.size)
    clear E hB3 HB2
    go_wp2
    go_ret
    exact ⟨rfl, HB3.out⟩
set_option linter.unusedVariables false in
set_option maxRecDepth 1000000 in
set_option maxHeartbeats 8000000 in
theorem gplays_ok (a0 a2 a3 : Option Addr) (m c0 n n2 c2 n3 c3 : Nat) (S0 S3 : Nat → List El) (LL : Nat → Nat) (F : Nat → Nat → Int) (w : World) (HG : Hid (Handle w)) (r0 : RdT w (.slice a0 m c0) m S0) (r3 : RdII w (.slice a2 n2 c2) n2 LL F) (r4 : RdT w (.slice a3 n3 c3) n3 S3) (hn3 : n2 ≤ 5864062014634) (he : cellsE m S0 = 0) (h1 : 1 ≤ n) (h9 : n ≤ 9) :
    Calls Tryd.prog 5 #[.slice a0 m c0, .int .i64 ((n : Nat) : Int), .slice a2 n2 c2, .slice a3 n3 c3] w fun e w' => e = .returned (.bool true) ∧ Below w.heap.size w w' := by
  have RC := rcells_any (.slice a0 m c0) m S0 w r0
  have HR0 : Hid (RdT w (.slice a0 m c0) m S0) := r0
  clear r0
  rw [he, show ((0 : Nat) : Int) = 0 from rfl] at RC
  have HR3 : Hid (RdII w (.slice a2 n2 c2) n2 LL F) := r3
  have HR4 : Hid (RdT w (.slice a3 n3 c3) n3 S3) := r4
  have hm40 := (cellsE_ok he).1
  have HOK : Hid (Grw.fresh n m S0).ok := Grw.ok.fresh h1 h9 hm40 (cellsE_ok he).2
  have HCE : Hid (cellsE m S0 = 0) := he
  have d3 : decide ((n : Int) < 1) = false := decide_eq_false (by omega)
  have d4 : decide (9 < (n : Int)) = false := decide_eq_false (by omega)
  have HE : Hid (∀ (w2 : World), Below w.heap.size w w2 → Calls Tryd.prog 9 #[.nilIface, .int .i64 0] w2 fun e w' => e = .returned (.bool true) ∧ Below w2.heap.size w2 w') := fun w2 h => err_v 0 w2 (HG.out.old h)
  clear r3 r4 he
  go_enter Tryd.func5, Tryd.ntmps5
  go_wp2_with fail
  refine RC.mono ?_
  rintro e w4 ⟨rfl, hw4⟩
  have HB4 : Hid (Below w.heap.size w w4) := by (show Below w.heap.size w w4); rw [hw4]; exact Below.refl _ _
  have N := gnew_ok (.slice a0 m c0) m S0 n w4 (HR0.out.old HB4.out) HCE.out h1 h9
  clear RC hw4 HCE
  go_wp2_with fail
  refine N.mono ?_
  rintro e w5 ⟨x, rfl, hG5, hB5⟩
  have HB5 : Hid (Below w.heap.size w w5) := HB4.out.trans (hB5.mono HB4.out.size)
  have HG5 : Hid (IsG w.heap.size w5 x (Grw.fresh n m S0)) := hG5.base HB4.out.size
  have E := HE.out w5 HB5.out
  clear N hG5 hB5 HB4 HE
  go_wp2_with fail
  refine E.mono ?_
  rintro e w6 ⟨rfl, hB6⟩
  have HB6 : Hid (Below w.heap.size w w6) := HB5.out.trans (hB6.mono HB5.out.size)
  have HG6 : Hid (IsG w.heap.size w6 x (Grw.fresh n m S0)) := HG5.out.old hB6
  have HR6 : Hid (RdT w6 (.slice a0 m c0) m S0) := HR0.out.old HB6.out
  clear E hB6 HB5 HG5
  go_wp2_with (first | (at_builtin; refine wpList_append_texts rfl _ _ rfl w6.heap.size (.slice none 0 0) (.slice a0 m c0) [] m S0 rfl (World.ownsRow_nil _ _ _ _) rfl HR6.out (by simp) (by omega) (Nat.le_refl _) ?_))
  intro v7 w7 hO7 hg7
  have hB7 : Below w6.heap.size w6 w7 := below_of_grown hg7
  have hO7' : OwT w6.heap.size w7 v7 m S0 := by
    have := hO7
    unfold OwL at this
    rw [List.length_map, List.length_range] at this
    exact this
  obtain ⟨an, cn, rfl⟩ := OwT.len hO7'
  have HX7 : Hid (GK w x (.slice an m cn) n m (Grw.fresh n m S0) (Grw.fresh n m S0).c w7) := ⟨HB6.out.trans (hB7.mono HB6.out.size), HG6.out.old hB7, HOK.out, OwT.base hO7' HB6.out.size, fun k hk e => by
    have q1 := (World.ownsRow.lt hO7' k hk).1
    have q2 := HG6.out.lt k e
    omega, rfl, rfl⟩
  clear hO7 hg7 hB7 hO7' HG6 HB6 HR6 HR0
  go_upto_region 11 with fail
  rename ∀ (a : Act) (w : World), Code.wp _ _ _ a w → _ => hK
  have HK : Hid _ := hK
  clear hK
  go_wp2
  refine HK.out _ _ ?_
  clear HK
  refine wp_block ?_
  refine ploop m c0 n n2 c2 n3 c3 cn a0 a2 a3 an x w _ _ _ _ _ _ _ _ _ _ _ _ _ _ _ _ _ _ _ _ _ _ _ _ _ _ _ _ _ _ _ _ _ _ _ _ LL F S3 HG HR4 HR3.out hn3 _ 0 (Grw.fresh n m S0) _ _ _ _ _ _ _ _ _ _ _ _ _ _ _ _ _ _ _ _ _ _ _ _ _ _ _ _ _ _ _ _ _ _ _ _ _ _ _ _ _ _ _ _ _ _ _ _ _ _ _ _ _ _ _ _ _ _ _ _ _ _ _ _ _ _ _ _ _ _ _ _ _ _ _ _ _ _ _ _ _ _ _ _ _ _ _ _ _ _ _ _ _ _ _ _ _ _ _ _ _ _ _ _ _ _ _ _ _ _ _ _ _ _ _ _ _ _ _ _ _ _ _ _ _ _ _ _ _ _ _ _ _ _ _ _ _ _ _ _ _ _ _ _ _ _ _ _ _ _ _ _ _ _ _ _ _ _ _ _ _ _ _ _ _ _ _ _ _ _ _ _ _ _ _ _ _ _ _ _ _ _ _ _ _ _ _ _ _ _ _ _ _ _ _ _ _ _ _ _ _ _ _ _ _ _ _ _ _ _ _ _ ⟨Nat.zero_le _, Nat.zero_le _⟩ ⟨HX7.out, Nat.zero_le _⟩ ?_
  intro a' w' hI
  unfold pWI at hI
  obtain ⟨k, _, hI⟩ := hI
  unfold pWK at hI
  obtain ⟨u8, hI⟩ := hI
  obtain ⟨u9, hI⟩ := hI
  obtain ⟨u12, hI⟩ := hI
  obtain ⟨u16, hI⟩ := hI
  obtain ⟨u17, hI⟩ := hI
  obtain ⟨u18, hI⟩ := hI
  obtain ⟨u19, hI⟩ := hI
  obtain ⟨u20, hI⟩ := hI
  obtain ⟨u21, hI⟩ := hI
  obtain ⟨u22, hI⟩ := hI
  obtain ⟨u23, hI⟩ := hI
  obtain ⟨u24, hI⟩ := hI
  obtain ⟨u25, hI⟩ := hI
  obtain ⟨u26, hI⟩ := hI
  obtain ⟨u27, hI⟩ := hI
  obtain ⟨u28, hI⟩ := hI
  obtain ⟨u29, hI⟩ := hI
  obtain ⟨u61, hI⟩ := hI
  obtain ⟨u62, hI⟩ := hI
  obtain ⟨u63, hI⟩ := hI
  obtain ⟨u64, hI⟩ := hI
  obtain ⟨u65, hI⟩ := hI
  obtain ⟨u66, hI⟩ := hI
  obtain ⟨u67, hI⟩ := hI
  obtain ⟨u68, hI⟩ := hI
  obtain ⟨u69, hI⟩ := hI
  obtain ⟨u70, hI⟩ := hI
  obtain ⟨u71, hI⟩ := hI
  obtain ⟨u72, hI⟩ := hI
  obtain ⟨u73, hI⟩ := hI
  obtain ⟨u74, hI⟩ := hI
  obtain ⟨u75, hI⟩ := hI
  obtain ⟨u76, hI⟩ := hI
  obtain ⟨u77, hI⟩ := hI
  obtain ⟨u78, hI⟩ := hI
  obtain ⟨u79, hI⟩ := hI
  obtain ⟨u80, hI⟩ := hI
  obtain ⟨u81, hI⟩ := hI
  obtain ⟨u82, hI⟩ := hI
  obtain ⟨u83, hI⟩ := hI
  obtain ⟨u84, hI⟩ := hI
  obtain ⟨u85, hI⟩ := hI
  obtain ⟨u86, hI⟩ := hI
  obtain ⟨u87, hI⟩ := hI
  obtain ⟨u88, hI⟩ := hI
  obtain ⟨u89, hI⟩ := hI
  obtain ⟨u90, hI⟩ := hI
  obtain ⟨u91, hI⟩ := hI
  obtain ⟨u92, hI⟩ := hI
  obtain ⟨u93, hI⟩ := hI
  obtain ⟨u94, hI⟩ := hI
  obtain ⟨u95, hI⟩ := hI
  obtain ⟨u96, hI⟩ := hI
  obtain ⟨u97, hI⟩ := hI
  obtain ⟨u98, hI⟩ := hI
  obtain ⟨u99, hI⟩ := hI
  obtain ⟨u100, hI⟩ := hI
  obtain ⟨u101, hI⟩ := hI
  obtain ⟨u102, hI⟩ := hI
  obtain ⟨u103, hI⟩ := hI
  obtain ⟨u104, hI⟩ := hI
  obtain ⟨u105, hI⟩ := hI
  obtain ⟨u106, hI⟩ := hI
  obtain ⟨u107, hI⟩ := hI
  obtain ⟨u108, hI⟩ := hI
  obtain ⟨u109, hI⟩ := hI
  obtain ⟨u110, hI⟩ := hI
  obtain ⟨u111, hI⟩ := hI
  obtain ⟨u112, hI⟩ := hI
  obtain ⟨u113, hI⟩ := hI
  obtain ⟨u114, hI⟩ := hI
  obtain ⟨u115, hI⟩ := hI
  obtain ⟨u116, hI⟩ := hI
  obtain ⟨u117, hI⟩ := hI
  obtain ⟨u118, hI⟩ := hI
  obtain ⟨u119, hI⟩ := hI
  obtain ⟨u120, hI⟩ := hI
  obtain ⟨u121, hI⟩ := hI
  obtain ⟨u122, hI⟩ := hI
  obtain ⟨u123, hI⟩ := hI
  obtain ⟨u124, hI⟩ := hI
  obtain ⟨u125, hI⟩ := hI
  obtain ⟨u126, hI⟩ := hI
  obtain ⟨u127, hI⟩ := hI
  obtain ⟨u128, hI⟩ := hI
  obtain ⟨u129, hI⟩ := hI
  obtain ⟨u130, hI⟩ := hI
  obtain ⟨u131, hI⟩ := hI
  obtain ⟨u132, hI⟩ := hI
  obtain ⟨u133, hI⟩ := hI
  obtain ⟨u134, hI⟩ := hI
  obtain ⟨u135, hI⟩ := hI
  obtain ⟨u136, hI⟩ := hI
  obtain ⟨u137, hI⟩ := hI
  obtain ⟨u138, hI⟩ := hI
  obtain ⟨u139, hI⟩ := hI
  obtain ⟨u140, hI⟩ := hI
  obtain ⟨u141, hI⟩ := hI
  obtain ⟨u142, hI⟩ := hI
  obtain ⟨u143, hI⟩ := hI
  obtain ⟨u144, hI⟩ := hI
  obtain ⟨u145, hI⟩ := hI
  obtain ⟨u146, hI⟩ := hI
  obtain ⟨u147, hI⟩ := hI
  obtain ⟨u148, hI⟩ := hI
  obtain ⟨u149, hI⟩ := hI
  obtain ⟨u150, hI⟩ := hI
  obtain ⟨u151, hI⟩ := hI
  obtain ⟨u152, hI⟩ := hI
  obtain ⟨u153, hI⟩ := hI
  obtain ⟨u154, hI⟩ := hI
  obtain ⟨u155, hI⟩ := hI
  obtain ⟨u156, hI⟩ := hI
  obtain ⟨u157, hI⟩ := hI
  obtain ⟨u158, hI⟩ := hI
  obtain ⟨u159, hI⟩ := hI
  obtain ⟨u160, hI⟩ := hI
  obtain ⟨u161, hI⟩ := hI
  obtain ⟨u162, hI⟩ := hI
  obtain ⟨u163, hI⟩ := hI
  obtain ⟨u164, hI⟩ := hI
  obtain ⟨u165, hI⟩ := hI
  obtain ⟨u166, hI⟩ := hI
  obtain ⟨u167, hI⟩ := hI
  obtain ⟨u168, hI⟩ := hI
  obtain ⟨u169, hI⟩ := hI
  obtain ⟨u170, hI⟩ := hI
  obtain ⟨u171, hI⟩ := hI
  obtain ⟨u172, hI⟩ := hI
  obtain ⟨u173, hI⟩ := hI
  obtain ⟨u174, hI⟩ := hI
  obtain ⟨u175, hI⟩ := hI
  obtain ⟨u176, hI⟩ := hI
  obtain ⟨u177, hI⟩ := hI
  obtain ⟨u178, hI⟩ := hI
  obtain ⟨u179, hI⟩ := hI
  obtain ⟨u180, hI⟩ := hI
  obtain ⟨u181, hI⟩ := hI
  obtain ⟨u182, hI⟩ := hI
  obtain ⟨u183, hI⟩ := hI
  obtain ⟨u184, hI⟩ := hI
  obtain ⟨u185, hI⟩ := hI
  obtain ⟨u186, hI⟩ := hI
  obtain ⟨u187, hI⟩ := hI
  obtain ⟨u188, hI⟩ := hI
  obtain ⟨u189, hI⟩ := hI
  obtain ⟨u190, hI⟩ := hI
  obtain ⟨u191, hI⟩ := hI
  obtain ⟨u192, hI⟩ := hI
  obtain ⟨u193, hI⟩ := hI
  obtain ⟨u194, hI⟩ := hI
  obtain ⟨u195, hI⟩ := hI
  obtain ⟨u196, hI⟩ := hI
  obtain ⟨u197, hI⟩ := hI
  obtain ⟨u198, hI⟩ := hI
  obtain ⟨u199, hI⟩ := hI
  obtain ⟨u200, hI⟩ := hI
  obtain ⟨u201, hI⟩ := hI
  obtain ⟨u202, hI⟩ := hI
  obtain ⟨u203, hI⟩ := hI
  obtain ⟨u204, hI⟩ := hI
  obtain ⟨u205, hI⟩ := hI
  obtain ⟨u206, hI⟩ := hI
  obtain ⟨u207, hI⟩ := hI
  obtain ⟨u208, hI⟩ := hI
  obtain ⟨u209, hI⟩ := hI
  obtain ⟨u210, hI⟩ := hI
  obtain ⟨u211, hI⟩ := hI
  obtain ⟨u212, hI⟩ := hI
  obtain ⟨u213, hI⟩ := hI
  obtain ⟨u214, hI⟩ := hI
  obtain ⟨u215, hI⟩ := hI
  obtain ⟨u216, hI⟩ := hI
  obtain ⟨u217, hI⟩ := hI
  obtain ⟨u218, hI⟩ := hI
  obtain ⟨u219, hI⟩ := hI
  obtain ⟨u220, hI⟩ := hI
  obtain ⟨u221, hI⟩ := hI
  obtain ⟨u222, hI⟩ := hI
  obtain ⟨u223, hI⟩ := hI
  obtain ⟨u224, hI⟩ := hI
  obtain ⟨u225, hI⟩ := hI
  obtain ⟨u226, hI⟩ := hI
  obtain ⟨u227, hI⟩ := hI
  obtain ⟨u228, hI⟩ := hI
  obtain ⟨u229, hI⟩ := hI
  obtain ⟨u230, hI⟩ := hI
  obtain ⟨u231, hI⟩ := hI
  obtain ⟨u232, hI⟩ := hI
  obtain ⟨u233, hI⟩ := hI
  obtain ⟨u234, hI⟩ := hI
  obtain ⟨u235, hI⟩ := hI
  obtain ⟨u236, hI⟩ := hI
  obtain ⟨u237, hI⟩ := hI
  obtain ⟨u238, hI⟩ := hI
  obtain ⟨u239, hI⟩ := hI
  obtain ⟨u240, hI⟩ := hI
  obtain ⟨u241, hI⟩ := hI
  obtain ⟨u242, hI⟩ := hI
  obtain ⟨u243, hI⟩ := hI
  obtain ⟨u244, hI⟩ := hI
  obtain ⟨u245, hI⟩ := hI
  obtain ⟨u246, hI⟩ := hI
  obtain ⟨u247, hI⟩ := hI
  obtain ⟨u248, hI⟩ := hI
  obtain ⟨u249, hI⟩ := hI
  obtain ⟨u250, hI⟩ := hI
  obtain ⟨u251, hI⟩ := hI
  obtain ⟨u252, hI⟩ := hI
  obtain ⟨u253, hI⟩ := hI
  obtain ⟨u254, hI⟩ := hI
  obtain ⟨g, ⟨hX, _⟩, rfl⟩ := hI
  have HL : Hid (Below w.heap.size w w') := hX.low
  clear hX HX7
  go_wp2
  go_ret
  exact ⟨rfl, HL.out⟩
theorem gplays_any (a0 a2 a3 : Option Addr) (m c0 n2 c2 n3 c3 : Nat) (n : Int) (S0 S3 : Nat → List El) (LL : Nat → Nat) (F : Nat → Nat → Int) (w : World) (hg : Handle w) (r0 : RdT w (.slice a0 m c0) m S0) (r3 : RdII w (.slice a2 n2 c2) n2 LL F) (r4 : RdT w (.slice a3 n3 c3) n3 S3) (hn3 : n2 ≤ 5864062014634) :
    Calls Tryd.prog 5 #[.slice a0 m c0, .int .i64 n, .slice a2 n2 c2, .slice a3 n3 c3] w fun e w' => e = .returned (.bool true) ∧ Below w.heap.size w w' := by
  by_cases he : growE m S0 n = 0
  · obtain ⟨h1, k, rfl, h2, h3⟩ := growE_ok he
    exact gplays_ok a0 a2 a3 m c0 k n2 c2 n3 c3 S0 S3 LL F w hg r0 r3 r4 hn3 h1 h2 h3
  · exact gplays_bad a0 a2 a3 m c0 n2 c2 n3 c3 n S0 w hg r0 he
end Go.Proofs.YtdbanimlnjhhlaaDoor
