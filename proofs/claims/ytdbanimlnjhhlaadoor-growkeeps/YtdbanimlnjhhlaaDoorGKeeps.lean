/- GrowKeeps, a piece: walks over the program. -/
import Derived.Test.YtdbanimlnjhhlaaDoorGKi
import Derived.Test.YtdbanimlnjhhlaaDoorGKj
import Derived.Test.YtdbanimlnjhhlaaDoorGrN
import Derived.Test.YtdbanimlnjhhlaaDoorTxW
import Derived.BigCall
import Derived.BigGuard
namespace Go.Proofs.YtdbanimlnjhhlaaDoor
open Go.RowKit El Pol
/-- the cells a, b, c -/
def abc3 (i : Nat) : List El := if i = 0 then [97] else if i = 1 then [98] else [99]
theorem lit3 (w : World) : RdT (w.alloc (.cells #[.string ⟨#[97]⟩, .string ⟨#[98]⟩, .string ⟨#[99]⟩] 9)) (.slice (some ⟨w.heap.size, 0, none⟩) 3 3) 3 abc3 := by
  refine OwL.rdF (own_lit (B := 0) [.string ⟨#[97]⟩, .string ⟨#[98]⟩, .string ⟨#[99]⟩] (Nat.zero_le _) (by simp)) (fun i hi => ?_)
  match i, hi with
  | 0, _ => rfl
  | 1, _ => rfl
  | 2, _ => rfl
theorem abc3_ok : cellsE 3 abc3 = 0 := by decide
theorem abc3_k (k : Nat) (h : k ≤ 3) : (Grw.mk 1 3 k abc3).ok := ⟨by (show 1 ≤ 1); omega, by (show 1 ≤ 9); omega, by (show 3 ≤ 40); omega, h, fun i _ => by
  show (abc3 i).length ≤ 16
  unfold abc3
  split
  · decide
  · split <;> decide⟩
set_option linter.unusedVariables false in
set_option maxRecDepth 1000000 in
set_option maxHeartbeats 8000000 in
theorem gkeeps_bad (a0 a2 : Option Addr) (m c0 n2 c2 : Nat) (n : Int) (S0 : Nat → List El) (w : World) (r0 : RdT w (.slice a0 m c0) m S0) (he : growE m S0 n ≠ 0) :
    Calls Tryd.prog 4 #[.slice a0 m c0, .int .i64 n, .slice a2 n2 c2] w fun e w' => e = .returned (.bool true) ∧ Below w.heap.size w w' := by
  have HR0 : Hid (RdT w (.slice a0 m c0) m S0) := r0
  clear r0
  have C := gnew_ok _ 3 abc3 1 _ (lit3 w) abc3_ok (by omega) (by omega)
  rw [show ((1 : Nat) : Int) = 1 from rfl] at C
  have HB0 : Hid (Below w.heap.size w (w.alloc (.cells #[.string ⟨#[97]⟩, .string ⟨#[98]⟩, .string ⟨#[99]⟩] 9))) := al_below _ _
  go_enter Tryd.func4, Tryd.ntmps4
  go_wp2_with fail
  refine C.mono ?_
  rintro e w1 ⟨y, rfl, hG1, hB1⟩
  have HG1 : Hid (IsG w.heap.size w1 y ⟨1, 3, 0, abc3⟩) := hG1.base HB0.out.size
  have HB1 : Hid (Below w.heap.size w w1) := HB0.out.trans (hB1.mono HB0.out.size)
  have A := gstep_any HG1.out (abc3_k 0 (by omega))
  rw [Grw.step_more (show 0 < 3 by omega), Grw.stepE_more (show 0 < 3 by omega), errV, if_pos rfl] at A
  clear C hG1 hB1 HB0
  go_wp2_with fail
  refine A.mono ?_
  rintro e w2 ⟨rfl, hG2, hb2⟩
  have HG2 : Hid (IsG w.heap.size w2 y ⟨1, 3, 1, abc3⟩) := hG2
  have HB2 : Hid (Below w.heap.size w w2) := HB1.out.trans (hb2.below HB1.out.size HG1.out.low)
  have A2 := gstep_any HG2.out (abc3_k 1 (by omega))
  rw [Grw.step_more (show 1 < 3 by omega), Grw.stepE_more (show 1 < 3 by omega), errV, if_pos rfl] at A2
  clear A hG2 hb2 HG1 HB1
  go_wp2_with fail
  refine A2.mono ?_
  rintro e w3 ⟨rfl, hG3, hb3⟩
  have HG3 : Hid (IsG w.heap.size w3 y ⟨1, 3, 2, abc3⟩) := hG3
  have HB3 : Hid (Below w.heap.size w w3) := HB2.out.trans (hb3.below HB2.out.size HG2.out.low)
  have R := gread_any HG3.out (abc3_k 2 (by omega)) 2
  rw [show (Grw.mk 1 3 2 abc3).readE 2 = 0 from rfl, show st ((Grw.mk 1 3 2 abc3).readT 2) = .string ⟨#[99]⟩ from rfl, errV, if_pos rfl] at R
  clear A2 hG3 hb3 HG2 HB2
  go_wp2_with fail
  refine R.mono ?_
  rintro e w4 ⟨rfl, hB4⟩
  have HB4 : Hid (Below w.heap.size w w4) := HB3.out.trans (hB4.mono HB3.out.size)
  have D := gdisks_any (HG3.out.old hB4) (abc3_k 2 (by omega))
  dsimp only at D
  clear R hB4 HG3 HB3
  go_wp2_with fail
  refine D.mono ?_
  rintro e w5 ⟨q, rfl, hD, hB5⟩
  have HB5 : Hid (Below w.heap.size w w5) := HB4.out.trans (hB5.mono HB4.out.size)
  obtain ⟨ad, cp, ar, cr, ee, m1, m2⟩ := RdTT.at hD (Below.refl _ _) (k := 1) (by omega)
  cases ee
  rw [show (Grw.mk 1 3 2 abc3).ht 1 = 1 from rfl] at m1 m2
  obtain ⟨af, rfl, m3⟩ := m2.at 0 (by omega)
  rw [add_zero, show st ((Grw.mk 1 3 2 abc3).row 1 0) = .string ⟨#[98]⟩ from rfl] at m3
  have m1' : w5.cell? ⟨q, 1, none⟩ = some (.slice (some af) 1 cr) := m1
  clear D hD hB5 HB4 m2 m1
  have N := gnew_bad (.slice a0 m c0) m S0 n w5 (HR0.out.old HB5.out) he
  rw [errV, if_neg he] at N
  generalize growE m S0 n = ke at *
  go_wp2_with fail
  refine N.mono ?_
  rintro e w6 ⟨rfl, hB6⟩
  have HB6 : Hid (Below w.heap.size w w6) := HB5.out.trans (hB6.mono HB5.out.size)
  clear N hB6 HB5 m3 m1'
  go_wp2
  go_ret
  exact ⟨rfl, HB6.out⟩
set_option linter.unusedVariables false in
set_option maxRecDepth 1000000 in
set_option maxHeartbeats 8000000 in
theorem gkeeps_ok (a0 a2 : Option Addr) (m c0 n n2 c2 : Nat) (S0 : Nat → List El) (l : List Wr) (w : World) (HG : Hid (Handle w)) (r0 : RdT w (.slice a0 m c0) m S0) (r2 : RdW w (.slice a2 n2 c2) l) (e2 : n2 = l.length) (he : cellsE m S0 = 0) (h1 : 1 ≤ n) (h9 : n ≤ 9) :
    Calls Tryd.prog 4 #[.slice a0 m c0, .int .i64 ((n : Nat) : Int), .slice a2 n2 c2] w fun e w' => e = .returned (.bool true) ∧ Below w.heap.size w w' := by
  have HR0 : Hid (RdT w (.slice a0 m c0) m S0) := r0
  have HR2 : Hid (RdW w (.slice a2 n2 c2) l) := r2
  have HE2 : Hid (n2 = l.length) := e2
  have hm40 := (cellsE_ok he).1
  clear r0 r2 e2
  have C := gnew_ok _ 3 abc3 1 _ (lit3 w) abc3_ok (by omega) (by omega)
  rw [show ((1 : Nat) : Int) = 1 from rfl] at C
  have HB0 : Hid (Below w.heap.size w (w.alloc (.cells #[.string ⟨#[97]⟩, .string ⟨#[98]⟩, .string ⟨#[99]⟩] 9))) := al_below _ _
  go_enter Tryd.func4, Tryd.ntmps4
  go_wp2_with fail
  refine C.mono ?_
  rintro e w1 ⟨y, rfl, hG1, hB1⟩
  have HG1 : Hid (IsG w.heap.size w1 y ⟨1, 3, 0, abc3⟩) := hG1.base HB0.out.size
  have HB1 : Hid (Below w.heap.size w w1) := HB0.out.trans (hB1.mono HB0.out.size)
  have A := gstep_any HG1.out (abc3_k 0 (by omega))
  rw [Grw.step_more (show 0 < 3 by omega), Grw.stepE_more (show 0 < 3 by omega), errV, if_pos rfl] at A
  clear C hG1 hB1 HB0
  go_wp2_with fail
  refine A.mono ?_
  rintro e w2 ⟨rfl, hG2, hb2⟩
  have HG2 : Hid (IsG w.heap.size w2 y ⟨1, 3, 1, abc3⟩) := hG2
  have HB2 : Hid (Below w.heap.size w w2) := HB1.out.trans (hb2.below HB1.out.size HG1.out.low)
  have A2 := gstep_any HG2.out (abc3_k 1 (by omega))
  rw [Grw.step_more (show 1 < 3 by omega), Grw.stepE_more (show 1 < 3 by omega), errV, if_pos rfl] at A2
  clear A hG2 hb2 HG1 HB1
  go_wp2_with fail
  refine A2.mono ?_
  rintro e w3 ⟨rfl, hG3, hb3⟩
  have HG3 : Hid (IsG w.heap.size w3 y ⟨1, 3, 2, abc3⟩) := hG3
  have HB3 : Hid (Below w.heap.size w w3) := HB2.out.trans (hb3.below HB2.out.size HG2.out.low)
  have R := gread_any HG3.out (abc3_k 2 (by omega)) 2
  rw [show (Grw.mk 1 3 2 abc3).readE 2 = 0 from rfl, show st ((Grw.mk 1 3 2 abc3).readT 2) = .string ⟨#[99]⟩ from rfl, errV, if_pos rfl] at R
  clear A2 hG3 hb3 HG2 HB2
  go_wp2_with fail
  refine R.mono ?_
  rintro e w4 ⟨rfl, hB4⟩
  have HB4 : Hid (Below w.heap.size w w4) := HB3.out.trans (hB4.mono HB3.out.size)
  have D := gdisks_any (HG3.out.old hB4) (abc3_k 2 (by omega))
  dsimp only at D
  clear R hB4 HG3 HB3
  go_wp2_with fail
  refine D.mono ?_
  rintro e w5 ⟨q, rfl, hD, hB5⟩
  have HB5 : Hid (Below w.heap.size w w5) := HB4.out.trans (hB5.mono HB4.out.size)
  obtain ⟨ad, cp, ar, cr, ee, m1, m2⟩ := RdTT.at hD (Below.refl _ _) (k := 1) (by omega)
  cases ee
  rw [show (Grw.mk 1 3 2 abc3).ht 1 = 1 from rfl] at m1 m2
  obtain ⟨af, rfl, m3⟩ := m2.at 0 (by omega)
  rw [add_zero, show st ((Grw.mk 1 3 2 abc3).row 1 0) = .string ⟨#[98]⟩ from rfl] at m3
  have m1' : w5.cell? ⟨q, 1, none⟩ = some (.slice (some af) 1 cr) := m1
  clear D hD hB5 HB4 m2 m1
  have N := gnew_ok (.slice a0 m c0) m S0 n w5 (HR0.out.old HB5.out) he h1 h9
  have HOK : Hid (Grw.fresh n m S0).ok := Grw.ok.fresh h1 h9 hm40 (cellsE_ok he).2
  go_wp2_with fail
  refine N.mono ?_
  rintro e w6 ⟨x, rfl, hG6, hB6⟩
  have HB6 : Hid (Below w.heap.size w w6) := HB5.out.trans (hB6.mono HB5.out.size)
  have HG6 : Hid (IsG w.heap.size w6 x (Grw.fresh n m S0)) := hG6.base HB5.out.size
  have HR6 : Hid (RdT w6 (.slice a0 m c0) m S0) := HR0.out.old HB6.out
  clear N hG6 hB6 HB5 m3 m1'
  go_wp2_with (first | (at_builtin; refine wpList_append_texts rfl _ _ rfl w6.heap.size (.slice none 0 0) (.slice a0 m c0) [] m S0 rfl (World.ownsRow_nil _ _ _ _) rfl HR6.out (by simp) (by omega) (Nat.le_refl _) ?_))
  intro v7 w7 hO7 hg7
  have hB7 : Below w6.heap.size w6 w7 := below_of_grown hg7
  have hO7' : OwT w6.heap.size w7 v7 m S0 := by
    have := hO7
    unfold OwL at this
    rw [List.length_map, List.length_range] at this
    exact this
  obtain ⟨an, cn, rfl⟩ := OwT.len hO7'
  have HX7 : Hid (GK w x (.slice an m cn) n m (Grw.fresh n m S0) (Grw.fresh n m S0).c w7) := ⟨HB6.out.trans (hB7.mono HB6.out.size), HG6.out.old hB7, HOK.out, OwT.base hO7' HB6.out.size, fun k hk e => by
    have q1 := (World.ownsRow.lt hO7' k hk).1
    have q2 := HG6.out.lt k e
    omega, rfl, rfl⟩
  clear hO7 hg7 hB7 hO7' HG6 HB6 HR6 HR0
  go_upto_region 15 with fail
  rename ∀ (a : Act) (w : World), Code.wp _ _ _ a w → _ => hK
  revert hK
  rename ∀ (a : Act) (w : World), Code.wp _ _ _ a w → _ => hK2
  intro hK
  have HK : Hid _ := hK
  have HK2 : Hid _ := hK2
  clear hK hK2
  go_wp2
  refine HK.out _ _ ?_
  clear HK
  refine wp_block ?_
  refine gloop m c0 n n2 c2 cn a0 a2 an x w _ _ _ _ _ _ _ _ _ _ _ _ _ _ _ _ _ _ _ _ _ _ _ _ _ _ _ _ _ _ _ _ _ _ _ _ _ _ _ _ _ _ _ _ _ _ _ _ _ _ _ _ _ _ _ _ _ _ _ _ _ _ _ _ _ _ _ _ _ _ _ _ _ _ _ _ _ _ _ _ _ _ _ _ _ _ _ _ _ _ _ _ _ _ _ _ _ _ _ _ _ _ _ _ _ _ _ _ _ _ _ _ _ _ _ _ _ _ _ _ _ _ _ _ _ _ _ _ _ _ _ _ _ _ _ _ _ _ _ _ _ _ l HE2.out HR2.out hm40 _ (Grw.fresh n m S0) _ _ _ _ _ _ _ _ _ _ _ _ _ _ _ _ _ _ _ _ _ _ _ _ _ _ _ _ _ _ _ _ _ _ _ _ _ _ _ _ _ _ _ _ _ _ _ _ _ _ _ _ _ _ _ _ _ _ _ _ _ _ _ _ _ _ _ _ _ _ _ _ _ _ _ _ _ _ _ _ _ _ _ _ _ _ _ _ _ _ _ _ _ _ _ _ _ _ _ _ _ _ _ _ _ ⟨HX7.out, rfl⟩ ?_
  intro ac w' hI
  unfold gWK at hI
  obtain ⟨u6, hI⟩ := hI
  obtain ⟨u18, hI⟩ := hI
  obtain ⟨u19, hI⟩ := hI
  obtain ⟨u20, hI⟩ := hI
  obtain ⟨u21, hI⟩ := hI
  obtain ⟨u22, hI⟩ := hI
  obtain ⟨u97, hI⟩ := hI
  obtain ⟨u98, hI⟩ := hI
  obtain ⟨u99, hI⟩ := hI
  obtain ⟨u100, hI⟩ := hI
  obtain ⟨u101, hI⟩ := hI
  obtain ⟨u102, hI⟩ := hI
  obtain ⟨u103, hI⟩ := hI
  obtain ⟨u104, hI⟩ := hI
  obtain ⟨u105, hI⟩ := hI
  obtain ⟨u106, hI⟩ := hI
  obtain ⟨u107, hI⟩ := hI
  obtain ⟨u108, hI⟩ := hI
  obtain ⟨u109, hI⟩ := hI
  obtain ⟨u110, hI⟩ := hI
  obtain ⟨u111, hI⟩ := hI
  obtain ⟨u112, hI⟩ := hI
  obtain ⟨u113, hI⟩ := hI
  obtain ⟨u114, hI⟩ := hI
  obtain ⟨u115, hI⟩ := hI
  obtain ⟨u116, hI⟩ := hI
  obtain ⟨u117, hI⟩ := hI
  obtain ⟨u118, hI⟩ := hI
  obtain ⟨u119, hI⟩ := hI
  obtain ⟨u120, hI⟩ := hI
  obtain ⟨u121, hI⟩ := hI
  obtain ⟨u122, hI⟩ := hI
  obtain ⟨u123, hI⟩ := hI
  obtain ⟨u124, hI⟩ := hI
  obtain ⟨u125, hI⟩ := hI
  obtain ⟨u126, hI⟩ := hI
  obtain ⟨u127, hI⟩ := hI
  obtain ⟨u128, hI⟩ := hI
  obtain ⟨u129, hI⟩ := hI
  obtain ⟨u130, hI⟩ := hI
  obtain ⟨u131, hI⟩ := hI
  obtain ⟨u132, hI⟩ := hI
  obtain ⟨u133, hI⟩ := hI
  obtain ⟨u134, hI⟩ := hI
  obtain ⟨u135, hI⟩ := hI
  obtain ⟨u136, hI⟩ := hI
  obtain ⟨u137, hI⟩ := hI
  obtain ⟨u138, hI⟩ := hI
  obtain ⟨u139, hI⟩ := hI
  obtain ⟨u140, hI⟩ := hI
  obtain ⟨u141, hI⟩ := hI
  obtain ⟨u142, hI⟩ := hI
  obtain ⟨u143, hI⟩ := hI
  obtain ⟨u144, hI⟩ := hI
  obtain ⟨u145, hI⟩ := hI
  obtain ⟨u146, hI⟩ := hI
  obtain ⟨u147, hI⟩ := hI
  obtain ⟨u148, hI⟩ := hI
  obtain ⟨u149, hI⟩ := hI
  obtain ⟨u150, hI⟩ := hI
  obtain ⟨u151, hI⟩ := hI
  obtain ⟨u152, hI⟩ := hI
  obtain ⟨u153, hI⟩ := hI
  obtain ⟨u154, hI⟩ := hI
  obtain ⟨u155, hI⟩ := hI
  obtain ⟨u156, hI⟩ := hI
  obtain ⟨u157, hI⟩ := hI
  obtain ⟨u158, hI⟩ := hI
  obtain ⟨u159, hI⟩ := hI
  obtain ⟨u160, hI⟩ := hI
  obtain ⟨u161, hI⟩ := hI
  obtain ⟨u162, hI⟩ := hI
  obtain ⟨u163, hI⟩ := hI
  obtain ⟨u164, hI⟩ := hI
  obtain ⟨u165, hI⟩ := hI
  obtain ⟨u166, hI⟩ := hI
  obtain ⟨u167, hI⟩ := hI
  obtain ⟨u168, hI⟩ := hI
  obtain ⟨u169, hI⟩ := hI
  obtain ⟨u170, hI⟩ := hI
  obtain ⟨u171, hI⟩ := hI
  obtain ⟨u172, hI⟩ := hI
  obtain ⟨u173, hI⟩ := hI
  obtain ⟨u174, hI⟩ := hI
  obtain ⟨u175, hI⟩ := hI
  obtain ⟨u176, hI⟩ := hI
  obtain ⟨u177, hI⟩ := hI
  obtain ⟨u178, hI⟩ := hI
  obtain ⟨u179, hI⟩ := hI
  obtain ⟨u180, hI⟩ := hI
  obtain ⟨u181, hI⟩ := hI
  obtain ⟨u182, hI⟩ := hI
  obtain ⟨u183, hI⟩ := hI
  obtain ⟨u184, hI⟩ := hI
  obtain ⟨u185, hI⟩ := hI
  obtain ⟨u186, hI⟩ := hI
  obtain ⟨u187, hI⟩ := hI
  obtain ⟨u188, hI⟩ := hI
  obtain ⟨u189, hI⟩ := hI
  obtain ⟨u190, hI⟩ := hI
  obtain ⟨u191, hI⟩ := hI
  obtain ⟨u192, hI⟩ := hI
  obtain ⟨u193, hI⟩ := hI
  obtain ⟨u194, hI⟩ := hI
  obtain ⟨g, ⟨hS, ht⟩, rfl⟩ := hI
  refine HK2.out _ _ ?_
  exact g_last m c0 n n2 c2 cn a0 a2 an x w m g _ _ _ _ _ _ _ _ _ _ _ _ _ _ _ _ _ _ _ _ _ _ _ _ _ _ _ _ _ _ _ _ _ _ _ _ _ _ _ _ _ _ _ _ _ _ _ _ _ _ _ _ _ _ _ _ _ _ _ _ _ _ _ _ _ _ _ _ _ _ _ _ _ _ _ _ _ _ _ _ _ _ _ _ _ _ _ _ _ _ _ _ _ _ _ _ _ _ _ _ _ _ _ _ _ _ _ _ _ _ _ _ _ _ _ _ _ _ _ _ _ _ _ _ _ _ _ _ _ _ _ _ _ _ _ _ _ _ _ _ _ _ _ _ _ _ _ _ _ _ _ _ _ _ _ _ _ _ _ _ _ _ _ _ _ _ _ _ _ _ _ _ _ _ _ _ _ _ _ _ _ _ _ _ _ _ _ _ _ _ _ _ _ _ _ _ _ _ _ _ _ _ _ _ _ _ _ _ _ _ _ _ _ _ _ _ _ _ _ _ _ _ _ _ _ _ _ _ _ _ _ _ _ _ _ _ _ _ _ _ _ _ _ _ _ _ _ HG hS ht
theorem gkeeps_any (a0 a2 : Option Addr) (m c0 n2 c2 : Nat) (n : Int) (S0 : Nat → List El) (l : List Wr) (w : World) (hg : Handle w) (r0 : RdT w (.slice a0 m c0) m S0) (r2 : RdW w (.slice a2 n2 c2) l) (e2 : n2 = l.length) :
    Calls Tryd.prog 4 #[.slice a0 m c0, .int .i64 n, .slice a2 n2 c2] w fun e w' => e = .returned (.bool true) ∧ Below w.heap.size w w' := by
  by_cases he : growE m S0 n = 0
  · obtain ⟨h1, k, rfl, h2, h3⟩ := growE_ok he
    exact gkeeps_ok a0 a2 m c0 k n2 c2 S0 l w hg r0 r2 e2 h1 h2 h3
  · exact gkeeps_bad a0 a2 m c0 n2 c2 n S0 w r0 he
end Go.Proofs.YtdbanimlnjhhlaaDoor
