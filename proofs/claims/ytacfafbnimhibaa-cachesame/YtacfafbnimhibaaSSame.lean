/- CacheSame, a piece: walks over the program. -/
import Derived.Test.YtacfafbnimhibaaSCg
namespace Go.Proofs.Ytacfafbnimhibaa
open Go.RowKit Go.Maps El Pol
def ab2 (i : Nat) : List El := if i = 0 then [97] else [98]
theorem lit2 (w : World) : RdT (w.alloc (.cells #[.string ⟨#[97]⟩, .string ⟨#[98]⟩] 9)) (.slice (some ⟨w.heap.size, 0, none⟩) 2 2) 2 ab2 := by
  refine OwL.rdF (own_lit (B := 0) [.string ⟨#[97]⟩, .string ⟨#[98]⟩] (Nat.zero_le _) (by simp)) (fun i hi => ?_)
  match i, hi with
  | 0, _ => rfl
  | 1, _ => rfl
theorem ab2_ok : cellsE 2 ab2 = 0 := by decide
theorem fresh_now (n : Nat) (f : Nat → List El) (R : Nat) : (Che.fresh n f R).now = f := by
  funext k
  show (if k ∈ ([] : List Nat) then _ else f k) = _
  rw [if_neg (by simp)]
theorem one_ok : (Che.fresh 2 ab2 1).ok := Che.fresh_ok (by omega) (cellsE_ok ab2_ok).2 (by omega) (by omega)
theorem one_now : ((Che.fresh 2 ab2 1).write 0 [120]).now 0 = [120] := by rw [Che.now_write one_ok, up_at]
theorem one_below : (((Che.fresh 2 ab2 1).write 0 [120]).read 0).below 0 = [97] := by
  have h1 := Che.write_ok one_ok (i := 0) (b := [120]) (by decide) (by decide)
  have h2 := (Che.use_in (Che.hits_ok h1 (((Che.fresh 2 ab2 1).write 0 [120]).hits + if 0 ∈ ((Che.fresh 2 ab2 1).write 0 [120]).row then 1 else 0)) 0 (((Che.fresh 2 ab2 1).write 0 [120]).now 0)).2.2.2.2.1
  have h3 := (Che.use_in one_ok 0 [120]).2.2.2.2.1
  exact h2.trans h3
theorem one_n : (((Che.fresh 2 ab2 1).write 0 [120]).read 0).n = 2 := by
  have h1 := Che.write_ok one_ok (i := 0) (b := [120]) (by decide) (by decide)
  exact (read_nr h1 0).1.trans (write_nr one_ok 0 [120]).1
set_option linter.unusedVariables false in
set_option maxRecDepth 1000000 in
set_option maxHeartbeats 8000000 in
theorem same_bad (a0 a2 a3 : Option Addr) (n0 c0 n2 c2 n3 c3 : Nat) (room : Int) (S0 : Nat → List El) (w : World) (r0 : RdT w (.slice a0 n0 c0) n0 S0) (he : chE n0 S0 room ≠ 0) :
    Calls Try.prog 4 #[.slice a0 n0 c0, .int .i64 room, .slice a2 n2 c2, .slice a3 n3 c3] w fun e w' => e = .returned (.bool true) ∧ Below w.heap.size w w' := by
  have HR0 : Hid (RdT w (.slice a0 n0 c0) n0 S0) := r0
  clear r0
  have N0 := cnew_ok _ 2 ab2 1 _ (lit2 w) ab2_ok (Nat.le_refl _) (by omega)
  have HB0 : Hid (Below w.heap.size w (w.alloc (.cells #[.string ⟨#[97]⟩, .string ⟨#[98]⟩] 9))) := al_below _ _
  go_enter Try.func4, Try.ntmps4
  go_wp2_with fail
  refine (show Calls Try.prog 11 #[.slice (some ⟨w.heap.size, 0, none⟩) 2 2, .int .i64 1] (w.alloc (.cells #[.string ⟨#[97]⟩, .string ⟨#[98]⟩] 9)) _ from N0).mono ?_
  rintro e w1 ⟨x0, rfl, hM1, hB1⟩
  have HB1 : Hid (Below w.heap.size w w1) := HB0.out.trans (hB1.mono HB0.out.size)
  have HM1 : Hid (MC w.heap.size w1 x0 (Che.fresh 2 ab2 1) 0) := hM1.base HB0.out.size
  have G1 := cwrite_ok HM1.out (by omega) (i := 0) (by decide) [120] (by decide)
  rw [errV, if_pos rfl] at G1
  clear N0 hM1 hB1 HB0
  go_wp2_with fail
  refine (show Calls Try.prog 12 #[.pointer (some ⟨x0.p, 0, none⟩), .int .i64 0, .string ⟨#[120]⟩] w1 _ from G1).mono ?_
  rintro e w2 ⟨rfl, hM2, hb2⟩
  have HB2 : Hid (Below w.heap.size w w2) := HB1.out.trans (hb2.below HB1.out.size HM1.out.low)
  have HM2 : Hid (MC w.heap.size w2 x0 ((Che.fresh 2 ab2 1).write 0 [120]) 2) := hM2
  have G2 := cread_ok HM2.out (by omega) (i := 0) (by rw [(write_nr one_ok 0 [120]).1]; decide)
  rw [errV, if_pos rfl, one_now] at G2
  clear G1 hM2 hb2 HM1 HB1
  go_wp2_with fail
  refine (show Calls Try.prog 13 #[.pointer (some ⟨x0.p, 0, none⟩), .int .i64 0] w2 (fun e w' => e = .returned (.tuple #[.string ⟨#[120]⟩, .nilIface]) ∧ _) from G2).mono ?_
  rintro e w3 ⟨rfl, hM3, hb3⟩
  have HB3 : Hid (Below w.heap.size w w3) := HB2.out.trans (hb3.below HB2.out.size HM2.out.low)
  have G3 := cbelows_any hM3
  rw [one_n] at G3
  clear G2 hM3 hb3 HM2 HB2
  go_wp2_with fail
  refine G3.mono ?_
  rintro e w4 ⟨u4, rfl, hO4, hB4⟩
  have HB4 : Hid (Below w.heap.size w w4) := HB3.out.trans (hB4.mono HB3.out.size)
  obtain ⟨ao4, co4, rfl⟩ := OwT.len hO4
  obtain ⟨ad4, rfl, hc4⟩ := (OwT.rd hO4).at 0 (by omega)
  rw [one_below, add_zero] at hc4
  have hc4' : w4.cell? ad4 = some (.string ⟨#[97]⟩) := hc4
  have hcl4 : (List.range 2).length = 2 := rfl
  clear G3 hO4 hB4 HB3 hc4 hcl4
  have N1 := cnew_bad (.slice a0 n0 c0) n0 S0 room w4 (HR0.out.old HB4.out) he
  rw [errV, if_neg he] at N1
  generalize chE n0 S0 room = ke at *
  go_wp2_with fail
  refine N1.mono ?_
  rintro e w5 ⟨rfl, hB5⟩
  have HB5 : Hid (Below w.heap.size w w5) := HB4.out.trans (hB5.mono HB4.out.size)
  clear N1 hB5 HB4
  go_wp2
  go_ret
  exact ⟨rfl, HB5.out⟩
set_option linter.unusedVariables false in
set_option maxRecDepth 1000000 in
set_option maxHeartbeats 8000000 in
theorem same_ok (a0 a2 a3 : Option Addr) (n0 c0 R n2 c2 n3 c3 : Nat) (S0 S3 : Nat → List El) (LL : Nat → Nat) (F : Nat → Nat → Int) (w : World) (r0 : RdT w (.slice a0 n0 c0) n0 S0) (r3 : RdII w (.slice a2 n2 c2) n2 LL F) (r4 : RdT w (.slice a3 n3 c3) n3 S3) (hn3 : n2 ≤ 5864062014634) (he : cellsE n0 S0 = 0) (h1 : 1 ≤ R) (h12 : R ≤ 12) :
    Calls Try.prog 4 #[.slice a0 n0 c0, .int .i64 ((R : Nat) : Int), .slice a2 n2 c2, .slice a3 n3 c3] w fun e w' => e = .returned (.bool true) ∧ Below w.heap.size w w' := by
  have HR0 : Hid (RdT w (.slice a0 n0 c0) n0 S0) := r0
  have HR3 : Hid (RdII w (.slice a2 n2 c2) n2 LL F) := r3
  have HR4 : Hid (RdT w (.slice a3 n3 c3) n3 S3) := r4
  have hn40 := (cellsE_ok he).1
  clear r0 r3 r4
  have N0 := cnew_ok _ 2 ab2 1 _ (lit2 w) ab2_ok (Nat.le_refl _) (by omega)
  have HB0 : Hid (Below w.heap.size w (w.alloc (.cells #[.string ⟨#[97]⟩, .string ⟨#[98]⟩] 9))) := al_below _ _
  go_enter Try.func4, Try.ntmps4
  go_wp2_with fail
  refine (show Calls Try.prog 11 #[.slice (some ⟨w.heap.size, 0, none⟩) 2 2, .int .i64 1] (w.alloc (.cells #[.string ⟨#[97]⟩, .string ⟨#[98]⟩] 9)) _ from N0).mono ?_
  rintro e w1 ⟨x0, rfl, hM1, hB1⟩
  have HB1 : Hid (Below w.heap.size w w1) := HB0.out.trans (hB1.mono HB0.out.size)
  have HM1 : Hid (MC w.heap.size w1 x0 (Che.fresh 2 ab2 1) 0) := hM1.base HB0.out.size
  have G1 := cwrite_ok HM1.out (by omega) (i := 0) (by decide) [120] (by decide)
  rw [errV, if_pos rfl] at G1
  clear N0 hM1 hB1 HB0
  go_wp2_with fail
  refine (show Calls Try.prog 12 #[.pointer (some ⟨x0.p, 0, none⟩), .int .i64 0, .string ⟨#[120]⟩] w1 _ from G1).mono ?_
  rintro e w2 ⟨rfl, hM2, hb2⟩
  have HB2 : Hid (Below w.heap.size w w2) := HB1.out.trans (hb2.below HB1.out.size HM1.out.low)
  have HM2 : Hid (MC w.heap.size w2 x0 ((Che.fresh 2 ab2 1).write 0 [120]) 2) := hM2
  have G2 := cread_ok HM2.out (by omega) (i := 0) (by rw [(write_nr one_ok 0 [120]).1]; decide)
  rw [errV, if_pos rfl, one_now] at G2
  clear G1 hM2 hb2 HM1 HB1
  go_wp2_with fail
  refine (show Calls Try.prog 13 #[.pointer (some ⟨x0.p, 0, none⟩), .int .i64 0] w2 (fun e w' => e = .returned (.tuple #[.string ⟨#[120]⟩, .nilIface]) ∧ _) from G2).mono ?_
  rintro e w3 ⟨rfl, hM3, hb3⟩
  have HB3 : Hid (Below w.heap.size w w3) := HB2.out.trans (hb3.below HB2.out.size HM2.out.low)
  have G3 := cbelows_any hM3
  rw [one_n] at G3
  clear G2 hM3 hb3 HM2 HB2
  go_wp2_with fail
  refine G3.mono ?_
  rintro e w4 ⟨u4, rfl, hO4, hB4⟩
  have HB4 : Hid (Below w.heap.size w w4) := HB3.out.trans (hB4.mono HB3.out.size)
  obtain ⟨ao4, co4, rfl⟩ := OwT.len hO4
  obtain ⟨ad4, rfl, hc4⟩ := (OwT.rd hO4).at 0 (by omega)
  rw [one_below, add_zero] at hc4
  have hc4' : w4.cell? ad4 = some (.string ⟨#[97]⟩) := hc4
  have hcl4 : (List.range 2).length = 2 := rfl
  clear G3 hO4 hB4 HB3 hc4 hcl4
  have N1 := cnew_ok (.slice a0 n0 c0) n0 S0 R w4 (HR0.out.old HB4.out) he h1 h12
  go_wp2_with fail
  refine N1.mono ?_
  rintro e w5 ⟨x, rfl, hM5, hB5⟩
  have HB5 : Hid (Below w.heap.size w w5) := HB4.out.trans (hB5.mono HB4.out.size)
  have HM5 : Hid (MC w.heap.size w5 x (Che.fresh n0 S0 R) 0) := hM5.base HB4.out.size
  have HR5 : Hid (RdT w5 (.slice a0 n0 c0) n0 S0) := HR0.out.old HB5.out
  clear N1 hM5 hB5 HB4 hc4'
  go_wp2_with (first | (at_builtin; refine wpList_append_texts rfl _ _ rfl w5.heap.size (.slice none 0 0) (.slice a0 n0 c0) [] n0 S0 rfl (World.ownsRow_nil _ _ _ _) rfl HR5.out (by simp) (by omega) (Nat.le_refl _) ?_))
  intro v6 w6 hO6 hg6
  have hB6 : Below w5.heap.size w5 w6 := below_of_grown hg6
  have hO6' : OwT w5.heap.size w6 v6 n0 S0 := by
    have := hO6
    unfold OwL at this
    rw [List.length_map, List.length_range] at this
    exact this
  obtain ⟨an, cn, rfl⟩ := OwT.len hO6'
  have HX6 : Hid (CW w x an cn n0 R (Che.fresh n0 S0 R) 0 w6) := ⟨HB5.out.trans (hB6.mono HB5.out.size), HM5.out.old hB6, by rw [fresh_now]; exact OwT.base hO6' HB5.out.size, fun k hk e => by
    have q1 := (World.ownsRow.lt hO6' k hk).1
    have q2 := HM5.out.lt k e
    omega, rfl, rfl⟩
  clear hO6 hg6 hB6 hO6' HM5 HB5 HR5
  go_upto_region 13 with fail
  rename ∀ (a : Act) (w : World), Code.wp _ _ _ a w → _ => hK
  revert hK
  rename ∀ (a : Act) (w : World), Code.wp _ _ _ a w → _ => hK2
  intro hK
  have HK : Hid _ := hK
  have HK2 : Hid _ := hK2
  clear hK hK2
  go_wp2
  refine HK.out _ _ ?_
  clear HK
  refine wp_block ?_
  refine sloop n0 c0 R n2 c2 n3 c3 cn a0 a2 a3 an x w _ _ _ _ _ _ _ _ _ _ _ _ _ _ _ _ _ _ _ _ _ _ _ _ _ _ _ _ _ _ _ _ _ _ _ _ _ _ _ _ _ _ _ _ _ _ _ _ _ _ _ _ _ _ _ _ _ _ _ _ _ _ _ _ _ _ _ _ _ _ _ _ _ _ _ _ _ _ _ _ _ _ _ _ _ _ _ _ _ _ _ _ _ _ _ _ _ _ _ _ _ _ _ _ _ LL F S3 HR4.out HR3.out hn3 _ 0 (Che.fresh n0 S0 R) 0 _ _ _ _ _ _ _ _ _ _ _ _ _ _ _ _ _ _ _ _ _ _ _ _ _ _ _ _ _ _ _ _ _ _ _ _ _ _ _ _ _ _ _ _ _ _ _ _ _ _ _ _ _ _ _ _ _ _ _ _ _ _ _ _ _ _ _ _ _ _ _ _ _ _ _ _ _ _ _ _ _ _ _ _ _ _ _ _ _ _ _ _ _ _ _ _ _ _ _ _ _ _ _ _ _ _ _ _ _ _ _ _ _ _ _ _ _ _ _ _ _ _ _ _ _ _ _ _ _ _ _ _ _ _ _ _ _ _ _ _ _ _ _ _ _ _ _ _ _ _ _ _ _ ⟨Nat.zero_le _, Nat.zero_le _⟩ ⟨HX6.out, Nat.le_refl _⟩ ?_
  intro a w' hI
  unfold sWI at hI
  obtain ⟨k, hk, hI⟩ := hI
  unfold sWK at hI
  obtain ⟨u8, hI⟩ := hI
  obtain ⟨u17, hI⟩ := hI
  obtain ⟨u18, hI⟩ := hI
  obtain ⟨u19, hI⟩ := hI
  obtain ⟨u20, hI⟩ := hI
  obtain ⟨u21, hI⟩ := hI
  obtain ⟨u22, hI⟩ := hI
  obtain ⟨u23, hI⟩ := hI
  obtain ⟨u24, hI⟩ := hI
  obtain ⟨u25, hI⟩ := hI
  obtain ⟨u78, hI⟩ := hI
  obtain ⟨u79, hI⟩ := hI
  obtain ⟨u80, hI⟩ := hI
  obtain ⟨u81, hI⟩ := hI
  obtain ⟨u82, hI⟩ := hI
  obtain ⟨u83, hI⟩ := hI
  obtain ⟨u84, hI⟩ := hI
  obtain ⟨u85, hI⟩ := hI
  obtain ⟨u86, hI⟩ := hI
  obtain ⟨u87, hI⟩ := hI
  obtain ⟨u88, hI⟩ := hI
  obtain ⟨u89, hI⟩ := hI
  obtain ⟨u90, hI⟩ := hI
  obtain ⟨u91, hI⟩ := hI
  obtain ⟨u92, hI⟩ := hI
  obtain ⟨u93, hI⟩ := hI
  obtain ⟨u94, hI⟩ := hI
  obtain ⟨u95, hI⟩ := hI
  obtain ⟨u96, hI⟩ := hI
  obtain ⟨u97, hI⟩ := hI
  obtain ⟨u98, hI⟩ := hI
  obtain ⟨u99, hI⟩ := hI
  obtain ⟨u100, hI⟩ := hI
  obtain ⟨u101, hI⟩ := hI
  obtain ⟨u102, hI⟩ := hI
  obtain ⟨u103, hI⟩ := hI
  obtain ⟨u104, hI⟩ := hI
  obtain ⟨u105, hI⟩ := hI
  obtain ⟨u106, hI⟩ := hI
  obtain ⟨u107, hI⟩ := hI
  obtain ⟨u108, hI⟩ := hI
  obtain ⟨u109, hI⟩ := hI
  obtain ⟨u110, hI⟩ := hI
  obtain ⟨u111, hI⟩ := hI
  obtain ⟨u112, hI⟩ := hI
  obtain ⟨u113, hI⟩ := hI
  obtain ⟨u114, hI⟩ := hI
  obtain ⟨u115, hI⟩ := hI
  obtain ⟨u116, hI⟩ := hI
  obtain ⟨u117, hI⟩ := hI
  obtain ⟨u118, hI⟩ := hI
  obtain ⟨u119, hI⟩ := hI
  obtain ⟨u120, hI⟩ := hI
  obtain ⟨u121, hI⟩ := hI
  obtain ⟨u122, hI⟩ := hI
  obtain ⟨u123, hI⟩ := hI
  obtain ⟨u124, hI⟩ := hI
  obtain ⟨u125, hI⟩ := hI
  obtain ⟨u126, hI⟩ := hI
  obtain ⟨u127, hI⟩ := hI
  obtain ⟨u128, hI⟩ := hI
  obtain ⟨u129, hI⟩ := hI
  obtain ⟨u130, hI⟩ := hI
  obtain ⟨u131, hI⟩ := hI
  obtain ⟨u132, hI⟩ := hI
  obtain ⟨u133, hI⟩ := hI
  obtain ⟨u134, hI⟩ := hI
  obtain ⟨u135, hI⟩ := hI
  obtain ⟨u136, hI⟩ := hI
  obtain ⟨u137, hI⟩ := hI
  obtain ⟨u138, hI⟩ := hI
  obtain ⟨u139, hI⟩ := hI
  obtain ⟨u140, hI⟩ := hI
  obtain ⟨u141, hI⟩ := hI
  obtain ⟨u142, hI⟩ := hI
  obtain ⟨u143, hI⟩ := hI
  obtain ⟨u144, hI⟩ := hI
  obtain ⟨u145, hI⟩ := hI
  obtain ⟨u146, hI⟩ := hI
  obtain ⟨u147, hI⟩ := hI
  obtain ⟨u148, hI⟩ := hI
  obtain ⟨u149, hI⟩ := hI
  obtain ⟨u150, hI⟩ := hI
  obtain ⟨u151, hI⟩ := hI
  obtain ⟨u152, hI⟩ := hI
  obtain ⟨u153, hI⟩ := hI
  obtain ⟨u154, hI⟩ := hI
  obtain ⟨u155, hI⟩ := hI
  obtain ⟨u156, hI⟩ := hI
  obtain ⟨u157, hI⟩ := hI
  obtain ⟨u158, hI⟩ := hI
  obtain ⟨u159, hI⟩ := hI
  obtain ⟨u160, hI⟩ := hI
  obtain ⟨u161, hI⟩ := hI
  obtain ⟨u162, hI⟩ := hI
  obtain ⟨u163, hI⟩ := hI
  obtain ⟨u164, hI⟩ := hI
  obtain ⟨u165, hI⟩ := hI
  obtain ⟨u166, hI⟩ := hI
  obtain ⟨u167, hI⟩ := hI
  obtain ⟨u168, hI⟩ := hI
  obtain ⟨u169, hI⟩ := hI
  obtain ⟨u170, hI⟩ := hI
  obtain ⟨u171, hI⟩ := hI
  obtain ⟨u172, hI⟩ := hI
  obtain ⟨u173, hI⟩ := hI
  obtain ⟨u174, hI⟩ := hI
  obtain ⟨u175, hI⟩ := hI
  obtain ⟨u176, hI⟩ := hI
  obtain ⟨u177, hI⟩ := hI
  obtain ⟨u178, hI⟩ := hI
  obtain ⟨u179, hI⟩ := hI
  obtain ⟨u180, hI⟩ := hI
  obtain ⟨u181, hI⟩ := hI
  obtain ⟨u182, hI⟩ := hI
  obtain ⟨u183, hI⟩ := hI
  obtain ⟨u184, hI⟩ := hI
  obtain ⟨u185, hI⟩ := hI
  obtain ⟨u186, hI⟩ := hI
  obtain ⟨u187, hI⟩ := hI
  obtain ⟨u188, hI⟩ := hI
  obtain ⟨u189, hI⟩ := hI
  obtain ⟨u190, hI⟩ := hI
  obtain ⟨u191, hI⟩ := hI
  obtain ⟨u192, hI⟩ := hI
  obtain ⟨u193, hI⟩ := hI
  obtain ⟨u194, hI⟩ := hI
  obtain ⟨u195, hI⟩ := hI
  obtain ⟨u196, hI⟩ := hI
  obtain ⟨u197, hI⟩ := hI
  obtain ⟨u198, hI⟩ := hI
  obtain ⟨u199, hI⟩ := hI
  obtain ⟨u200, hI⟩ := hI
  obtain ⟨u201, hI⟩ := hI
  obtain ⟨u202, hI⟩ := hI
  obtain ⟨u203, hI⟩ := hI
  obtain ⟨u204, hI⟩ := hI
  obtain ⟨u205, hI⟩ := hI
  obtain ⟨u206, hI⟩ := hI
  obtain ⟨u207, hI⟩ := hI
  obtain ⟨u208, hI⟩ := hI
  obtain ⟨u209, hI⟩ := hI
  obtain ⟨u210, hI⟩ := hI
  obtain ⟨u211, hI⟩ := hI
  obtain ⟨u212, hI⟩ := hI
  obtain ⟨u213, hI⟩ := hI
  obtain ⟨u214, hI⟩ := hI
  obtain ⟨u215, hI⟩ := hI
  obtain ⟨u216, hI⟩ := hI
  obtain ⟨u217, hI⟩ := hI
  obtain ⟨u218, hI⟩ := hI
  obtain ⟨u219, hI⟩ := hI
  obtain ⟨c, N, ⟨hX, hNk⟩, rfl⟩ := hI
  have hN : N ≤ 160 := by omega
  have HX : Hid (CW w x an cn n0 R c N w') := hX
  clear hX HX6 hk hNk
  refine HK2.out _ _ ?_
  clear HK2 HR0 HR3 HR4 hn3
  have C := cflush_ok HX.out.mc 1000
  rw [errV, if_pos rfl] at C
  go_wp2_with fail
  refine (show Calls Try.prog 15 #[.pointer (some ⟨x.p, 0, none⟩), .int .i64 1000] w' _ from C).mono ?_
  rintro e w7 ⟨v7, rfl, _, _, hM7, hb7⟩
  have hdl : c.dirty.length ≤ 40 := by
    have h1 := len_sub HX.out.mc.ok.dnd HX.out.mc.ok.nd HX.out.mc.ok.dsub
    have h2 := HX.out.mc.ok.len
    have h3 := HX.out.mc.ok.r12
    omega
  have hd0 : (c.flush 1000).dirty = [] := List.drop_of_length_le (by omega)
  have HX7 : Hid (CW w x an cn n0 R (c.flush 1000) N w7) := HX.out.on hM7 hb7 (Che.now_flush HX.out.mc.ok 1000) rfl rfl
  have HBN : Hid ((c.flush 1000).below = (c.flush 1000).now) := by
    funext j
    exact Che.below_now HX7.out.mc.ok (by rw [hd0]; simp)
  have HD0 : Hid ((c.flush 1000).dirty = []) := hd0
  clear C hM7 hb7 hd0 hdl HX
  generalize c.flush 1000 = c7 at *
  have B7 := cbelows_any HX7.out.mc
  rw [HX7.out.hn, HBN.out] at B7
  go_wp2_with fail
  refine B7.mono ?_
  rintro e w8 ⟨u8', rfl, hO8, hB8⟩
  have HX8 : Hid (CW w x an cn n0 R c7 N w8) := HX7.out.old hB8
  have T8 := texts_any u8' (.slice an n0 cn) n0 n0 c7.now c7.now w8 (OwT.rd hO8) (OwT.rd HX8.out.nw)
  rw [show sameL n0 n0 c7.now c7.now = true from sameL_iff.2 ⟨rfl, fun _ _ => rfl⟩] at T8
  clear B7 hO8 hB8 HX7
  go_wp2_with fail
  refine T8.mono ?_
  rintro e w9 ⟨rfl, hB9⟩
  have HX9 : Hid (CW w x an cn n0 R c7 N w9) := HX8.out.old hB9
  obtain ⟨us9, si9, T9, hM9, _⟩ := HX9.out.mc.is
  have D9 := cdirty_any hM9 HX9.out.mc.ok
  rw [HD0.out] at D9
  clear T8 hB9 HX8 hM9
  go_wp2_with fail
  refine D9.mono ?_
  rintro e w10 ⟨v10, rfl, hO10, hB10⟩
  have HX10 : Hid (CW w x an cn n0 R c7 N w10) := HX9.out.old hB10
  obtain ⟨a10, c10, hv10⟩ := OwN.len hO10
  have hv10' : v10 = .slice a10 0 c10 := hv10
  subst hv10'
  have K10 := ccrash_any HX10.out.mc
  clear D9 hO10 hB10 HX9 hv10
  go_wp2_with fail
  refine K10.mono ?_
  rintro e w11 ⟨rfl, hM11, hb11⟩
  have HX11 : Hid (CW w x an cn n0 R c7.crash N w11) := HX10.out.on hM11 hb11 (by rw [Che.now_crash]; exact HBN.out) rfl rfl
  have HNW : Hid (c7.crash.now = c7.now) := by rw [Che.now_crash]; exact HBN.out
  clear K10 hM11 hb11 HX10 HBN HD0
  go_wp2
  go_loopw [28] (fun cc wr => ∃ j : Nat, j ≤ n0 ∧ cc = .int .i64 j ∧ Hid (∃ cj, CW w x an cn n0 R cj (N + j) wr)) (fun cc _ => n0 - (intOf cc).toNat)
  case atStart => exact ⟨0, Nat.zero_le _, rfl, ⟨_, HX11.out⟩⟩
  case round =>
    clear HX11 HNW
    obtain ⟨j, hj, rfl, HJ⟩ := hrel
    obtain ⟨cj, hJ⟩ := HJ.out
    have HC : Hid (CW w x an cn n0 R cj (N + j) wr) := hJ
    clear hJ HJ
    by_cases hlt : j < n0
    · have hjz : (j : Int) < (n0 : Int) := by omega
      have C := cread_ok HC.out.mc (by omega) (i := j) (by rw [HC.out.hn]; exact hlt)
      rw [errV, if_pos rfl] at C
      unfold st at C
      have HNow : Hid (∀ w2, But x.F wr w2 → ∃ d, an = some d ∧ w2.cell? (d.add j) = some (.string (sb (cj.now j)))) := fun w2 hb => (OwT.rd (ownsRow_but HC.out.nw hb (fun k hk => HC.out.ap k hk))).at j hlt
      generalize sb (cj.now j) = sx at *
      go_wp2_with fail
      refine C.mono ?_
      rintro e w12 ⟨rfl, hM12, hb12⟩
      obtain ⟨d, rfl, hcd⟩ := HNow.out w12 hb12
      have HJ2 : Hid (∃ cj, CW w x (some d) cn n0 R cj (N + (j + 1)) w12) := ⟨cj.read j, HC.out.on hM12 hb12 (Che.now_read HC.out.mc.ok j) (read_nr HC.out.mc.ok j).1 (read_nr HC.out.mc.ok j).2⟩
      clear C hM12 hb12 HC HNow
      go_wp2
      go_roundw
      case rel => exact ⟨j + 1, by omega, by go_num, HJ2.out⟩
      case measure => simp [intOf]; omega
    · have hjz : ¬ (j : Int) < (n0 : Int) := by omega
      go_wp2
      go_ret
      exact ⟨rfl, HC.out.low⟩
theorem same_any (a0 a2 a3 : Option Addr) (n0 c0 n2 c2 n3 c3 : Nat) (room : Int) (S0 S3 : Nat → List El) (LL : Nat → Nat) (F : Nat → Nat → Int) (w : World) (r0 : RdT w (.slice a0 n0 c0) n0 S0) (r3 : RdII w (.slice a2 n2 c2) n2 LL F) (r4 : RdT w (.slice a3 n3 c3) n3 S3) (hn3 : n2 ≤ 5864062014634) :
    Calls Try.prog 4 #[.slice a0 n0 c0, .int .i64 room, .slice a2 n2 c2, .slice a3 n3 c3] w fun e w' => e = .returned (.bool true) ∧ Below w.heap.size w w' := by
  by_cases he : chE n0 S0 room = 0
  · obtain ⟨h1, R, rfl, h2, h3⟩ := chE_ok he
    exact same_ok a0 a2 a3 n0 c0 R n2 c2 n3 c3 S0 S3 LL F w r0 r3 r4 hn3 h1 h2 h3
  · exact same_bad a0 a2 a3 n0 c0 n2 c2 n3 c3 room S0 w r0 he
end Go.Proofs.Ytacfafbnimhibaa
