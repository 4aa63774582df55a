/- CachePlays, a piece: walks over the program. -/
import Derived.Test.YtfeikmmojilmbaaDoorCPh
namespace Go.Proofs.YtfeikmmojilmbaaDoor
open Go.RowKit Go.Maps El Pol
theorem DC.base {B B' : Nat} {w : World} {y : DP} {c : Che} (h : DC B w y c) (hB : B' ≤ B) : DC B' w y c :=
  ⟨h.row, OwT.base h.bl hB, OwN.base h.rw' hB, OwT.base h.vl hB, OwN.base h.dt hB, h.bv, h.rd', Nat.le_trans hB h.hp⟩
set_option linter.unusedVariables false in
set_option maxRecDepth 1000000 in
set_option maxHeartbeats 8000000 in
theorem plays_bad (a0 a2 a3 : Option Addr) (n0 c0 n2 c2 n3 c3 : Nat) (room : Int) (S0 : Nat → List El) (w : World) (hG : Handle w) (r0 : RdT w (.slice a0 n0 c0) n0 S0) (he : chE n0 S0 room ≠ 0) :
    Calls Tryd.prog 3 #[.slice a0 n0 c0, .int .i64 room, .slice a2 n2 c2, .slice a3 n3 c3] w fun e w' => e = .returned (.bool true) ∧ Below w.heap.size w w' := by
  have C0 := rcells_any (.slice a0 n0 c0) n0 S0 w r0
  have N1 := cnew_bad (.slice a0 n0 c0) n0 S0 room w r0 he
  have HG : Hid (Handle w) := hG
  clear hG r0
  go_enter Tryd.func3, Tryd.ntmps3
  by_cases hc : cellsE n0 S0 = 0
  · have hr : room < 1 ∨ 12 < room := by
      unfold chE at he
      rw [if_neg (by omega)] at he
      by_cases q : room < 1 ∨ 12 < room
      · exact q
      · rw [if_neg q] at he; omega
    have hE : chE n0 S0 room = 1 := by
      unfold chE
      rw [if_neg (by omega), if_pos hr]
    rw [hE] at N1
    rw [hc] at C0
    have HE : Hid (∀ w2, Below w.heap.size w w2 → Calls Tryd.prog 7 #[errV 1, .int .i64 1] w2 fun e w' => e = .returned (.bool true) ∧ Below w2.heap.size w2 w') := fun w2 hb => err_v 1 w2 (HG.out.old hb)
    generalize errV 1 = ev at *
    clear hE he hc HG
    by_cases h1 : room < 1
    · clear hr
      go_wp2_with fail
      refine C0.mono ?_
      rintro e w1 ⟨rfl, hw1⟩
      obtain rfl := hw1.symm
      clear C0 hw1
      go_wp2_with fail
      refine N1.mono ?_
      rintro e w2 ⟨rfl, hB2⟩
      have HB2 : Hid (Below w.heap.size w w2) := hB2
      have E2 := HE.out w2 hB2
      clear N1 hB2 HE
      go_wp2_with fail
      refine E2.mono ?_
      rintro e w3 ⟨rfl, hB3⟩
      have HB3 : Hid (Below w.heap.size w w3) := HB2.out.trans (hB3.mono HB2.out.size)
      clear E2 hB3 HB2
      go_wp2
      go_ret
      exact ⟨rfl, HB3.out⟩
    · have h2 : 12 < room := by omega
      clear hr
      go_wp2_with fail
      refine C0.mono ?_
      rintro e w1 ⟨rfl, hw1⟩
      obtain rfl := hw1.symm
      clear C0 hw1
      go_wp2_with fail
      refine N1.mono ?_
      rintro e w2 ⟨rfl, hB2⟩
      have HB2 : Hid (Below w.heap.size w w2) := hB2
      have E2 := HE.out w2 hB2
      clear N1 hB2 HE
      go_wp2_with fail
      refine E2.mono ?_
      rintro e w3 ⟨rfl, hB3⟩
      have HB3 : Hid (Below w.heap.size w w3) := HB2.out.trans (hB3.mono HB2.out.size)
      clear E2 hB3 HB2
      go_wp2
      go_ret
      exact ⟨rfl, HB3.out⟩
  · have hE : chE n0 S0 room = cellsE n0 S0 := by
      unfold chE
      rw [if_pos hc]
    rw [hE] at N1
    have HE : Hid (∀ w2, Below w.heap.size w w2 → Calls Tryd.prog 7 #[errV (cellsE n0 S0), .int .i64 ((cellsE n0 S0 : Nat) : Int)] w2 fun e w' => e = .returned (.bool true) ∧ Below w2.heap.size w2 w') := fun w2 hb => err_v _ w2 (HG.out.old hb)
    clear hE he HG
    generalize cellsE n0 S0 = ke at *
    generalize errV ke = ev at *
    have hz1 : ((ke : Int) == 0) = false := by rw [beq_eq_false_iff_ne]; omega
    have hz2 : ¬ (ke : Int) = 0 := by omega
    go_wp2_with fail
    refine C0.mono ?_
    rintro e w1 ⟨rfl, hw1⟩
    obtain rfl := hw1.symm
    clear C0 hw1
    go_wp2_with fail
    refine N1.mono ?_
    rintro e w2 ⟨rfl, hB2⟩
    have HB2 : Hid (Below w.heap.size w w2) := hB2
    have E2 := HE.out w2 hB2
    clear N1 hB2 HE
    go_wp2_with fail
    refine E2.mono ?_
    rintro e w3 ⟨rfl, hB3⟩
    have HB3 : Hid (Below w.heap.size w w3) := HB2.out.trans (hB3.mono HB2.out.size)
    clear E2 hB3 HB2
    go_wp2
    go_ret
    exact ⟨rfl, HB3.out⟩
set_option linter.unusedVariables false in
set_option maxRecDepth 1000000 in
set_option maxHeartbeats 8000000 in
theorem plays_ok (a0 a2 a3 : Option Addr) (n0 c0 R n2 c2 n3 c3 : Nat) (S0 S3 : Nat → List El) (LL : Nat → Nat) (F : Nat → Nat → Int) (w : World) (hG : Handle w) (r0 : RdT w (.slice a0 n0 c0) n0 S0) (r3 : RdII w (.slice a2 n2 c2) n2 LL F) (r4 : RdT w (.slice a3 n3 c3) n3 S3) (hn3 : n2 ≤ 5864062014634) (he : cellsE n0 S0 = 0) (h1 : 1 ≤ R) (h12 : R ≤ 12) :
    Calls Tryd.prog 3 #[.slice a0 n0 c0, .int .i64 ((R : Nat) : Int), .slice a2 n2 c2, .slice a3 n3 c3] w fun e w' => e = .returned (.bool true) ∧ Below w.heap.size w w' := by
  have HG : Hid (Handle w) := hG
  have HR0 : Hid (RdT w (.slice a0 n0 c0) n0 S0) := r0
  have HR3 : Hid (RdII w (.slice a2 n2 c2) n2 LL F) := r3
  have HR4 : Hid (RdT w (.slice a3 n3 c3) n3 S3) := r4
  have hn40 := (cellsE_ok he).1
  have C0 := rcells_any (.slice a0 n0 c0) n0 S0 w r0
  rw [he] at C0
  have N1 := cnew_ok (.slice a0 n0 c0) n0 S0 R w r0 he h1 h12
  have hr1 : ¬ (R : Int) < 1 := by omega
  have hr2 : ¬ 12 < (R : Int) := by omega
  clear r0 r3 r4 hG he
  go_enter Tryd.func3, Tryd.ntmps3
  go_wp2_with fail
  refine C0.mono ?_
  rintro e w1 ⟨rfl, hw1⟩
  obtain rfl := hw1.symm
  clear C0 hw1
  go_wp2_with fail
  refine N1.mono ?_
  rintro e w2 ⟨x, rfl, hM2, hB2⟩
  have HB2 : Hid (Below w.heap.size w w2) := hB2
  have HM2 : Hid (MC w.heap.size w2 x (Che.fresh n0 S0 R) 0) := hM2
  have E2 : Calls Tryd.prog 7 #[.nilIface, .int .i64 0] w2 fun e w' => e = .returned (.bool true) ∧ Below w2.heap.size w2 w' := err_v 0 w2 (HG.out.old hB2)
  clear N1 hM2 hB2
  go_wp2_with fail
  refine E2.mono ?_
  rintro e w3 ⟨rfl, hB3⟩
  have HB3 : Hid (Below w.heap.size w w3) := HB2.out.trans (hB3.mono HB2.out.size)
  have HM3 : Hid (MC w.heap.size w3 x (Che.fresh n0 S0 R) 0) := HM2.out.old hB3
  have D3 := dnew_any (.slice a0 n0 c0) n0 S0 R w3 (HR0.out.old HB3.out) hn40
  clear E2 hB3 HB2 HM2
  go_wp2_with fail
  refine D3.mono ?_
  rintro e w4 ⟨y, rfl, hD4, hB4⟩
  have HX4 : Hid (QS w x y.p n0 R (fun _ => False) (Che.fresh n0 S0 R) (Che.fresh n0 S0 R) 0 w4) := ⟨HB3.out.trans (hB4.mono HB3.out.size), HM3.out.old hB4, ⟨y, rfl, hD4.base HB3.out.size, fun k hk e => by
    have q1 := hD4.low k e
    rcases hk with q | q
    · have q2 := HM3.out.lt k q
      omega
    · exact q⟩, fun _ q => q.elim, rfl, rfl⟩
  clear D3 hD4 hB4 HM3 HB3
  generalize y.p = p at *
  go_upto_region 9 with fail
  rename ∀ (a : Act) (w : World), Code.wp _ _ _ a w → _ => hK
  revert hK
  rename ∀ (a : Act) (w : World), Code.wp _ _ _ a w → _ => hK2
  intro hK
  have HK : Hid _ := hK
  have HK2 : Hid _ := hK2
  clear hK hK2
  go_wp2
  refine HK.out _ _ ?_
  clear HK
  refine wp_block ?_
  refine qloop n0 c0 R n2 c2 n3 c3 p a0 a2 a3 x w _ _ _ _ _ _ _ _ _ _ _ _ _ _ _ _ _ _ _ _ _ _ _ _ _ _ _ _ _ _ _ _ _ _ _ _ LL F HG S3 HR4.out HR3.out hn3 _ 0 (Che.fresh n0 S0 R) 0 _ _ _ _ _ _ _ _ _ _ _ _ _ _ _ _ _ _ _ _ _ _ _ _ _ _ _ _ _ _ _ _ _ _ _ _ _ _ _ _ _ _ _ _ _ _ _ _ _ _ _ _ _ _ _ _ _ _ _ _ _ _ _ _ _ _ _ _ _ _ _ _ _ _ _ _ _ _ _ _ _ _ _ _ _ _ _ _ _ _ _ _ _ _ _ _ _ _ _ _ _ _ _ _ _ _ _ _ _ _ _ _ _ _ _ _ _ _ _ _ _ _ _ _ _ _ _ _ _ _ _ _ _ _ _ _ _ _ _ _ _ _ _ _ _ _ _ _ _ _ _ _ _ _ _ _ _ _ _ _ _ _ _ _ _ _ _ _ _ _ _ _ _ _ _ _ _ _ _ _ _ _ _ _ ⟨Nat.zero_le _, Nat.zero_le _⟩ ⟨HX4.out, Nat.le_refl _⟩ ?_
  intro a w' hI
  unfold qWI at hI
  obtain ⟨k, hk, hI⟩ := hI
  unfold qWK at hI
  obtain ⟨u8, hI⟩ := hI
  obtain ⟨u9, hI⟩ := hI
  obtain ⟨u12, hI⟩ := hI
  obtain ⟨u15, hI⟩ := hI
  obtain ⟨u16, hI⟩ := hI
  obtain ⟨u17, hI⟩ := hI
  obtain ⟨u18, hI⟩ := hI
  obtain ⟨u19, hI⟩ := hI
  obtain ⟨u20, hI⟩ := hI
  obtain ⟨u21, hI⟩ := hI
  obtain ⟨u22, hI⟩ := hI
  obtain ⟨u23, hI⟩ := hI
  obtain ⟨u55, hI⟩ := hI
  obtain ⟨u56, hI⟩ := hI
  obtain ⟨u57, hI⟩ := hI
  obtain ⟨u58, hI⟩ := hI
  obtain ⟨u59, hI⟩ := hI
  obtain ⟨u60, hI⟩ := hI
  obtain ⟨u61, hI⟩ := hI
  obtain ⟨u62, hI⟩ := hI
  obtain ⟨u63, hI⟩ := hI
  obtain ⟨u64, hI⟩ := hI
  obtain ⟨u65, hI⟩ := hI
  obtain ⟨u66, hI⟩ := hI
  obtain ⟨u67, hI⟩ := hI
  obtain ⟨u68, hI⟩ := hI
  obtain ⟨u69, hI⟩ := hI
  obtain ⟨u70, hI⟩ := hI
  obtain ⟨u71, hI⟩ := hI
  obtain ⟨u72, hI⟩ := hI
  obtain ⟨u73, hI⟩ := hI
  obtain ⟨u74, hI⟩ := hI
  obtain ⟨u75, hI⟩ := hI
  obtain ⟨u76, hI⟩ := hI
  obtain ⟨u77, hI⟩ := hI
  obtain ⟨u78, hI⟩ := hI
  obtain ⟨u79, hI⟩ := hI
  obtain ⟨u80, hI⟩ := hI
  obtain ⟨u81, hI⟩ := hI
  obtain ⟨u82, hI⟩ := hI
  obtain ⟨u83, hI⟩ := hI
  obtain ⟨u84, hI⟩ := hI
  obtain ⟨u85, hI⟩ := hI
  obtain ⟨u86, hI⟩ := hI
  obtain ⟨u87, hI⟩ := hI
  obtain ⟨u88, hI⟩ := hI
  obtain ⟨u89, hI⟩ := hI
  obtain ⟨u90, hI⟩ := hI
  obtain ⟨u91, hI⟩ := hI
  obtain ⟨u92, hI⟩ := hI
  obtain ⟨u93, hI⟩ := hI
  obtain ⟨u94, hI⟩ := hI
  obtain ⟨u95, hI⟩ := hI
  obtain ⟨u96, hI⟩ := hI
  obtain ⟨u97, hI⟩ := hI
  obtain ⟨u98, hI⟩ := hI
  obtain ⟨u99, hI⟩ := hI
  obtain ⟨u100, hI⟩ := hI
  obtain ⟨u101, hI⟩ := hI
  obtain ⟨u102, hI⟩ := hI
  obtain ⟨u103, hI⟩ := hI
  obtain ⟨u104, hI⟩ := hI
  obtain ⟨u105, hI⟩ := hI
  obtain ⟨u106, hI⟩ := hI
  obtain ⟨u107, hI⟩ := hI
  obtain ⟨u108, hI⟩ := hI
  obtain ⟨u109, hI⟩ := hI
  obtain ⟨u110, hI⟩ := hI
  obtain ⟨u111, hI⟩ := hI
  obtain ⟨u112, hI⟩ := hI
  obtain ⟨u113, hI⟩ := hI
  obtain ⟨u114, hI⟩ := hI
  obtain ⟨u115, hI⟩ := hI
  obtain ⟨u116, hI⟩ := hI
  obtain ⟨u117, hI⟩ := hI
  obtain ⟨u118, hI⟩ := hI
  obtain ⟨u119, hI⟩ := hI
  obtain ⟨u120, hI⟩ := hI
  obtain ⟨u121, hI⟩ := hI
  obtain ⟨u122, hI⟩ := hI
  obtain ⟨u123, hI⟩ := hI
  obtain ⟨u124, hI⟩ := hI
  obtain ⟨u125, hI⟩ := hI
  obtain ⟨u126, hI⟩ := hI
  obtain ⟨u127, hI⟩ := hI
  obtain ⟨u128, hI⟩ := hI
  obtain ⟨u129, hI⟩ := hI
  obtain ⟨u130, hI⟩ := hI
  obtain ⟨u131, hI⟩ := hI
  obtain ⟨u132, hI⟩ := hI
  obtain ⟨u133, hI⟩ := hI
  obtain ⟨u134, hI⟩ := hI
  obtain ⟨u135, hI⟩ := hI
  obtain ⟨u136, hI⟩ := hI
  obtain ⟨u137, hI⟩ := hI
  obtain ⟨u138, hI⟩ := hI
  obtain ⟨u139, hI⟩ := hI
  obtain ⟨u140, hI⟩ := hI
  obtain ⟨u141, hI⟩ := hI
  obtain ⟨u142, hI⟩ := hI
  obtain ⟨u143, hI⟩ := hI
  obtain ⟨u144, hI⟩ := hI
  obtain ⟨u145, hI⟩ := hI
  obtain ⟨u146, hI⟩ := hI
  obtain ⟨u147, hI⟩ := hI
  obtain ⟨u148, hI⟩ := hI
  obtain ⟨u149, hI⟩ := hI
  obtain ⟨u150, hI⟩ := hI
  obtain ⟨u151, hI⟩ := hI
  obtain ⟨u152, hI⟩ := hI
  obtain ⟨u153, hI⟩ := hI
  obtain ⟨u154, hI⟩ := hI
  obtain ⟨u155, hI⟩ := hI
  obtain ⟨u156, hI⟩ := hI
  obtain ⟨u157, hI⟩ := hI
  obtain ⟨u158, hI⟩ := hI
  obtain ⟨u159, hI⟩ := hI
  obtain ⟨u160, hI⟩ := hI
  obtain ⟨u161, hI⟩ := hI
  obtain ⟨u162, hI⟩ := hI
  obtain ⟨u163, hI⟩ := hI
  obtain ⟨u164, hI⟩ := hI
  obtain ⟨u165, hI⟩ := hI
  obtain ⟨u166, hI⟩ := hI
  obtain ⟨u167, hI⟩ := hI
  obtain ⟨u168, hI⟩ := hI
  obtain ⟨u169, hI⟩ := hI
  obtain ⟨u170, hI⟩ := hI
  obtain ⟨u171, hI⟩ := hI
  obtain ⟨u172, hI⟩ := hI
  obtain ⟨u173, hI⟩ := hI
  obtain ⟨u174, hI⟩ := hI
  obtain ⟨u175, hI⟩ := hI
  obtain ⟨u176, hI⟩ := hI
  obtain ⟨u177, hI⟩ := hI
  obtain ⟨u178, hI⟩ := hI
  obtain ⟨u179, hI⟩ := hI
  obtain ⟨u180, hI⟩ := hI
  obtain ⟨u181, hI⟩ := hI
  obtain ⟨u182, hI⟩ := hI
  obtain ⟨u183, hI⟩ := hI
  obtain ⟨u184, hI⟩ := hI
  obtain ⟨u185, hI⟩ := hI
  obtain ⟨u186, hI⟩ := hI
  obtain ⟨u187, hI⟩ := hI
  obtain ⟨u188, hI⟩ := hI
  obtain ⟨u189, hI⟩ := hI
  obtain ⟨u190, hI⟩ := hI
  obtain ⟨u191, hI⟩ := hI
  obtain ⟨u192, hI⟩ := hI
  obtain ⟨u193, hI⟩ := hI
  obtain ⟨u194, hI⟩ := hI
  obtain ⟨u195, hI⟩ := hI
  obtain ⟨u196, hI⟩ := hI
  obtain ⟨u197, hI⟩ := hI
  obtain ⟨u198, hI⟩ := hI
  obtain ⟨u199, hI⟩ := hI
  obtain ⟨u200, hI⟩ := hI
  obtain ⟨u201, hI⟩ := hI
  obtain ⟨u202, hI⟩ := hI
  obtain ⟨u203, hI⟩ := hI
  obtain ⟨u204, hI⟩ := hI
  obtain ⟨u205, hI⟩ := hI
  obtain ⟨u206, hI⟩ := hI
  obtain ⟨u207, hI⟩ := hI
  obtain ⟨u208, hI⟩ := hI
  obtain ⟨u209, hI⟩ := hI
  obtain ⟨u210, hI⟩ := hI
  obtain ⟨u211, hI⟩ := hI
  obtain ⟨u212, hI⟩ := hI
  obtain ⟨u213, hI⟩ := hI
  obtain ⟨u214, hI⟩ := hI
  obtain ⟨u215, hI⟩ := hI
  obtain ⟨u216, hI⟩ := hI
  obtain ⟨u217, hI⟩ := hI
  obtain ⟨u218, hI⟩ := hI
  obtain ⟨u219, hI⟩ := hI
  obtain ⟨u220, hI⟩ := hI
  obtain ⟨u221, hI⟩ := hI
  obtain ⟨u222, hI⟩ := hI
  obtain ⟨u223, hI⟩ := hI
  obtain ⟨u224, hI⟩ := hI
  obtain ⟨u225, hI⟩ := hI
  obtain ⟨c, N, ⟨hX, hNk⟩, rfl⟩ := hI
  have HX : Hid (QS w x p n0 R (fun _ => False) c c N w') := hX
  clear hX HX4 hk hNk
  refine HK2.out _ _ ?_
  clear HK2 HR0 HR3 HR4 hn3
  go_wp2
  go_ret
  exact ⟨rfl, HX.out.low⟩
theorem plays_any (a0 a2 a3 : Option Addr) (n0 c0 n2 c2 n3 c3 : Nat) (room : Int) (S0 S3 : Nat → List El) (LL : Nat → Nat) (F : Nat → Nat → Int) (w : World) (hG : Handle w) (r0 : RdT w (.slice a0 n0 c0) n0 S0) (r3 : RdII w (.slice a2 n2 c2) n2 LL F) (r4 : RdT w (.slice a3 n3 c3) n3 S3) (hn3 : n2 ≤ 5864062014634) :
    Calls Tryd.prog 3 #[.slice a0 n0 c0, .int .i64 room, .slice a2 n2 c2, .slice a3 n3 c3] w fun e w' => e = .returned (.bool true) ∧ Below w.heap.size w w' := by
  by_cases he : chE n0 S0 room = 0
  · obtain ⟨h1, R, rfl, h2, h3⟩ := chE_ok he
    exact plays_ok a0 a2 a3 n0 c0 R n2 c2 n3 c3 S0 S3 LL F w hG r0 r3 r4 hn3 h1 h2 h3
  · exact plays_bad a0 a2 a3 n0 c0 n2 c2 n3 c3 room S0 w hG r0 he
end Go.Proofs.YtfeikmmojilmbaaDoor
