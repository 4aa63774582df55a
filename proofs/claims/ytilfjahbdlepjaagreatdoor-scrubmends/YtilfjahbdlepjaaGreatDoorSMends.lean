/- ScrubMends, a piece: walks over the program. -/
import Derived.Test.YtilfjahbdlepjaaGreatDoorSc
import Derived.Test.YtilfjahbdlepjaaGreatDoorSMb
import Derived.Test.YtilfjahbdlepjaaGreatDoorSMc
import Derived.Test.YtilfjahbdlepjaaGreatDoorSMh
import Derived.Test.YtilfjahbdlepjaaGreatDoorSMi
namespace Go.Proofs.YtilfjahbdlepjaaGreatDoor
open Go.RowKit El Pol Mx Lay
theorem nl_same {a b : Arr} (h1 : b.n = a.n) (h2 : b.failed = a.failed) (h3 : b.built = a.built) (r : Nat) : b.nl r = a.nl r := by
  unfold Arr.nl Arr.gone
  rw [h1, h2, h3]
theorem Hurt.nl {A : Arr} {c : Nat → List El} {D : Nat → Nat} {T : Nat → List El} (h : Hurt A c D T) {r : Nat} (hr : r < A.rows) : A.nl r = 0 := (h.2 r hr).nl
theorem MK.first {n rows : Nat} (hn : 3 ≤ n ∧ n ≤ 10) (hr : 1 ≤ rows ∧ rows ≤ 20) {w w1 : World} {x : PAd} (h : AL w x (Arr.fresh n rows 2) 0 w1) : MK w x n rows (Arr.fresh n rows 2) (fun _ => List.replicate 2 0) 0 w1 :=
  ⟨h, Keep.fresh hn hr (by omega), rfl, rfl, rfl, fun r hr => Arr.nl_none (fun d _ => by
    show (false || decide (rows ≤ r)) = false
    simp; omega)⟩
theorem MK.last {w w1 : World} {x : PAd} {n rows : Nat} {A : Arr} {c : Nat → List El} {D : Nat → Nat} {T : Nat → List El} {N : Nat} (h : Hurt A c D T) (hn : A.n = n) (hr : A.rows = rows) (hs : A.size = 2) (hk : Keep ((A.all A.rows).all A.rows) c) (ha : AL w x ((A.all A.rows).all A.rows) N w1) : MK w x n rows ((A.all A.rows).all A.rows) c N w1 := by
  obtain ⟨s1, s2, s3, s4, s5⟩ := Arr.all_same A A.rows
  obtain ⟨t1, t2, t3, t4, t5⟩ := Arr.all_same (A.all A.rows) A.rows
  exact ⟨ha, hk, t1.trans (s1.trans hn), t2.trans (s2.trans hr), t3.trans (s3.trans hs), fun r hr' => by
    rw [nl_same (t1.trans s1) (t4.trans s4) (t5.trans s5)]
    exact h.nl (by rw [hr]; exact hr')⟩

set_option linter.unusedVariables false in
set_option maxRecDepth 1000000 in
set_option maxHeartbeats 16000000 in
theorem mends_any (n rows : Int) (a2 a3 : Option Addr) (n2 c2 n3 c3 : Nat) (S2 : Nat → List El) (f3 : Nat → Int) (t4 : List El) (w : World) (r2 : RdF w (.slice a2 n2 c2) n2 (fun i => st (S2 i))) (hn2 : n2 ≤ 8796093021952) (r3 : RdF w (.slice a3 n3 c3) n3 (fun i => .int .i64 (f3 i))) (hn3 : n3 ≤ 17592186044416) (hg : Handle w) :
    Calls Tryz.prog 5 #[.int .i64 n, .int .i64 rows, .slice a2 n2 c2, .slice a3 n3 c3, st t4] w fun e w' => e = .returned (.bool true) ∧ Below w.heap.size w w' := by
  have HG : Hid (Handle w) := hg
  have HR2 : Hid _ := r2
  have HR3 : Hid _ := r3
  unfold st
  obtain ⟨s4, hs4⟩ : ∃ s4, s4 = sb t4 := ⟨_, rfl⟩
  have HS4 : Hid (s4 = sb t4) := hs4
  rw [← hs4]
  clear hg r2 r3 hs4
  go_enter Tryz.func5, Tryz.ntmps5
  by_cases h1 : n < 3
  · have C := pa_new_bad n rows 2 (fun h => by have := abad_ok h; omega) w
    rw [errV, if_neg (by omega)] at C
    go_wp2_with fail
    refine C.mono ?_
    rintro e w1 ⟨rfl, hb⟩
    have HL : Hid (Below w.heap.size w w1) := hb
    clear C hb
    go_wp2
    go_ret
    exact ⟨rfl, HL.out⟩
  by_cases h2 : 10 < n
  · have C := pa_new_bad n rows 2 (fun h => by have := abad_ok h; omega) w
    rw [errV, if_neg (by omega)] at C
    go_wp2_with fail
    refine C.mono ?_
    rintro e w1 ⟨rfl, hb⟩
    have HL : Hid (Below w.heap.size w w1) := hb
    clear C hb
    go_wp2
    go_ret
    exact ⟨rfl, HL.out⟩
  by_cases h3 : rows < 1
  · have C := pa_new_bad n rows 2 (fun h => by have := abad_ok h; omega) w
    rw [errV, if_neg (by omega)] at C
    go_wp2_with fail
    refine C.mono ?_
    rintro e w1 ⟨rfl, hb⟩
    have HL : Hid (Below w.heap.size w w1) := hb
    clear C hb
    go_wp2
    go_ret
    exact ⟨rfl, HL.out⟩
  by_cases h4 : 20 < rows
  · have C := pa_new_bad n rows 2 (fun h => by have := abad_ok h; omega) w
    rw [errV, if_neg (by omega)] at C
    go_wp2_with fail
    refine C.mono ?_
    rintro e w1 ⟨rfl, hb⟩
    have HL : Hid (Below w.heap.size w w1) := hb
    clear C hb
    go_wp2
    go_ret
    exact ⟨rfl, HL.out⟩
  obtain ⟨n, rfl⟩ : ∃ m : Nat, n = m := ⟨n.toNat, by omega⟩
  obtain ⟨rows, rfl⟩ : ∃ m : Nat, rows = m := ⟨rows.toNat, by omega⟩
  have hn : 3 ≤ n ∧ n ≤ 10 := by omega
  have hr : 1 ≤ rows ∧ rows ≤ 20 := by omega
  obtain ⟨cc, hc⟩ : ∃ c, n - 2 = c := ⟨_, rfl⟩
  obtain ⟨m, hm⟩ : ∃ m, m = rows * (n - 2) := ⟨_, rfl⟩
  have hcc : (n : Int) - 2 = (cc : Int) := by omega
  have hmul : (rows : Int) * (cc : Int) = (m : Int) := by rw [hm, ← hc, Int.natCast_mul]
  have hbig : rows * (n - 2) ≤ 20 * 8 := Nat.mul_le_mul hr.2 (by omega)
  have hsml : 1 * 1 ≤ rows * (n - 2) := Nat.mul_le_mul hr.1 (by omega)
  have hm160 : (m : Int) ≤ 160 := by omega
  have hm1 : (1 : Int) ≤ (m : Int) := by omega
  have Hm : Hid (m = rows * (n - 2)) := hm
  clear hm hbig hsml hc
  have C := pa_new_ok n rows 2 hn hr (by omega) w
  generalize hx : newAt w.heap.size n = x at C
  have HX : Hid (∀ w1, PA w1 x (Arr.fresh n rows 2) 0 → Below w.heap.size w w1 → MK w x n rows (Arr.fresh n rows 2) (fun _ => List.replicate 2 0) 0 w1) := fun w1 hp hb => by rw [← hx] at hp ⊢; exact MK.first hn hr (AL.new hp hb)
  clear hx
  refine wp_seq_k fun K hK => ?_
  have HK : Hid _ := hK
  clear hK
  go_wp2
  refine HK.out _ _ ?_
  clear HK K
  refine wp_seq_k fun K hK => ?_
  have HK : Hid _ := hK
  clear hK
  go_wp2_with fail
  refine C.mono ?_
  rintro e w1 ⟨rfl, hp, hb⟩
  have HS1 : Hid (MK w x n rows (Arr.fresh n rows 2) (fun _ => List.replicate 2 0) 0 w1) := HX.out w1 hp hb
  clear C hp hb HX
  generalize Arr.fresh n rows 2 = A0 at *
  generalize (fun _ => List.replicate 2 0 : Nat → List El) = cz at *
  go_wp2
  refine HK.out _ _ ?_
  clear HK K
  refine wp_seq_k fun K hK => ?_
  have HK : Hid _ := hK
  clear hK
  go_wp2
  refine HK.out _ _ ?_
  clear HK K
  refine wp_seq_k fun K hK => ?_
  have HK : Hid _ := hK
  clear hK
  go_wp2
  refine HK.out _ _ ?_
  clear HK K
  refine wp_seq_k fun K hK => ?_
  refine sm1 n rows n2 c2 n3 c3 m a2 a3 s4 x w S2 A0 cz _ _ _ _ _ _ _ _ _ _ _ _ _ _ _ _ _ _ _ _ _ _ _ _ _ _ _ _ _ _ _ _ _ _ _ _ _ _ _ _ _ _ _ _ _ _ _ _ _ _ _ _ _ _ _ _ _ _ _ _ _ _ _ _ _ _ _ _ _ _ _ _ _ _ _ _ _ _ _ _ _ _ _ _ _ _ _ _ _ _ _ _ _ _ _ _ _ _ _ _ _ _ _ _ _ _ _ _ _ _ _ _ _ _ _ _ _ _ _ _ _ _ _ _ _ _ _ _ _ _ _ _ _ _ _ _ _ _ _ _ _ _ _ _ _ _ _ _ _ _ _ _ _ _ _ _ _ _ _ _ _ _ _ _ _ _ _ _ _ _ _ _ _ _ _ _ _ _ _ _ _ _ _ _ _ _ _ _ _ _ _ _ _ _ _ _ _ _ _ _ _ _ _ _ _ _ _ _ _ _ _ _ _ _ _ _ _ _ _ _ _ _ _ _ _ _ _ _ _ _ _ _ _ _ _ _ _ _ _ _ _ _ _ _ _ _ _ _ _ _ _ _ _ _ _ _ _ _ _ _ _ _ _ _ HS1.out HR2.out hn2 hn hr cc hcc hmul hm160 hm1 Hm ?_
  intro y10 y13 y71 y72 y73 y74 y75 y76 y77 y78 y79 y80 y81 y82 y83 y84 y85 y86 y87 y88 y89 y90 y91 y92 y93 y94 y95 y96 y97 y98 y99 y100 A c N w2 hS2 hN480
  refine then_k (hK _ _ ?_)
  clear hK K
  have HS2 : Hid (MK w x n rows A c N w2) := hS2
  clear hS2 HS1 HR2
  refine wp_seq_k fun K hK => ?_
  have HK : Hid _ := hK
  clear hK
  go_wp2
  refine HK.out _ _ ?_
  clear HK K
  refine wp_seq_k fun K hK => ?_
  refine sm2 n rows n2 c2 n3 c3 m a2 a3 s4 x w A c N _ _ _ _ _ _ _ _ _ _ _ _ _ _ _ _ _ _ _ _ _ _ _ _ _ _ _ _ _ _ _ _ _ _ _ _ _ _ _ _ _ _ _ _ _ _ _ _ _ _ _ _ _ _ _ _ _ _ _ _ _ _ _ _ _ _ _ _ _ _ _ _ _ _ _ _ _ _ _ _ _ _ _ _ _ _ _ _ _ _ _ _ _ _ _ _ _ _ _ _ _ _ _ _ _ _ _ _ _ _ _ _ _ _ _ _ _ _ _ _ _ _ _ _ _ _ _ _ _ _ _ _ _ _ _ _ _ _ _ _ _ _ _ _ _ _ _ _ _ _ _ _ _ _ _ _ _ _ _ _ _ _ _ _ _ _ _ _ _ _ _ _ _ _ _ _ _ _ _ _ _ _ _ _ _ _ _ _ _ _ _ _ _ _ _ _ _ _ _ _ _ _ _ _ _ _ _ _ _ _ _ _ _ _ _ _ _ _ _ _ _ _ _ _ _ _ _ _ _ _ _ _ _ _ _ _ _ _ _ _ _ _ _ _ _ _ _ _ _ _ _ _ _ _ _ _ _ _ _ _ _ _ _ HS2.out hn hr cc hcc hmul hm160 hm1 Hm ?_
  intro y10 y15 y16 y17 y101 y102 y103 y104 y105 y106 y107 y108 y109 y110 y111 y112 y113 y114 y115 y116 y117 y118 y119 y120 g cap w3 hS3 hG3 hgl
  refine then_k (hK _ _ ?_)
  clear hK K
  have HS3 : Hid (MK w x n rows A c N w3) := hS3
  have HG3 : Hid (MG w x n g m c w3) := hG3
  clear hS3 hG3 HS2
  refine wp_seq_k fun K hK => ?_
  have HK : Hid _ := hK
  clear hK
  go_wp2
  refine HK.out _ _ ?_
  clear HK K
  refine wp_seq_k fun K hK => ?_
  have HKK : Hid _ := hK
  clear hK
  refine wp_seq_k fun K2 hK => ?_
  have HK : Hid _ := hK
  clear hK
  go_wp2
  refine HK.out _ _ ?_
  clear HK K2
  refine wp_block ?_
  refine loop3 n rows n2 c2 n3 c3 m a2 a3 s4 x w g cap w3.heap.size c f3 t4 hn hr HS4.out HR3.out hn3 _ 0 N A _ _ _ _ _ _ _ _ _ _ _ _ _ _ _ _ _ _ _ _ _ _ _ _ _ _ _ _ _ _ _ _ _ _ _ _ _ _ _ _ _ _ _ _ _ _ _ _ _ _ _ _ _ _ _ _ _ _ _ _ _ _ _ _ _ _ _ _ _ _ _ _ _ _ _ _ _ _ _ _ _ _ _ _ _ _ _ _ _ _ _ _ _ _ _ _ _ _ _ _ _ _ _ _ _ _ _ _ _ _ _ _ _ _ _ _ _ _ _ _ _ _ _ _ _ _ _ _ _ _ _ _ _ _ _ _ _ _ _ _ _ _ _ _ _ _ _ _ _ _ _ _ _ _ _ _ _ _ _ _ _ _ _ _ _ _ _ _ _ _ _ _ _ _ _ _ _ _ _ _ _ _ _ _ _ _ _ _ _ _ _ _ _ _ _ _ _ _ _ _ _ _ _ _ _ _ _ _ _ _ _ _ _ _ _ _ _ _ _ _ _ _ _ _ _ _ _ _ _ _ _ _ _ _ _ _ _ _ _ _ _ _ _ _ _ _ _ _ _ _ _ _ _ _ _ _ _ _ _ _ _ _ _ (Nat.zero_le _) (MH.start HS3.out HG3.out hgl) (by omega) ?_
  intro a w' hI
  refine (show K a w' from HKK.out _ _ ?_)
  clear HKK K
  obtain ⟨k, hk20, hI⟩ := hI
  unfold WK3 at hI
  obtain ⟨u5, hI⟩ := hI
  obtain ⟨u6, hI⟩ := hI
  obtain ⟨u7, hI⟩ := hI
  obtain ⟨u8, hI⟩ := hI
  obtain ⟨u9, hI⟩ := hI
  obtain ⟨u10, hI⟩ := hI
  obtain ⟨u12, hI⟩ := hI
  obtain ⟨u13, hI⟩ := hI
  obtain ⟨u15, hI⟩ := hI
  obtain ⟨u16, hI⟩ := hI
  obtain ⟨u17, hI⟩ := hI
  obtain ⟨u20, hI⟩ := hI
  obtain ⟨u21, hI⟩ := hI
  obtain ⟨u22, hI⟩ := hI
  obtain ⟨u23, hI⟩ := hI
  obtain ⟨u24, hI⟩ := hI
  obtain ⟨u25, hI⟩ := hI
  obtain ⟨u26, hI⟩ := hI
  obtain ⟨u27, hI⟩ := hI
  obtain ⟨u28, hI⟩ := hI
  obtain ⟨u29, hI⟩ := hI
  obtain ⟨u30, hI⟩ := hI
  obtain ⟨u31, hI⟩ := hI
  obtain ⟨u32, hI⟩ := hI
  obtain ⟨u33, hI⟩ := hI
  obtain ⟨u34, hI⟩ := hI
  obtain ⟨u35, hI⟩ := hI
  obtain ⟨u36, hI⟩ := hI
  obtain ⟨u37, hI⟩ := hI
  obtain ⟨u38, hI⟩ := hI
  obtain ⟨u39, hI⟩ := hI
  obtain ⟨u40, hI⟩ := hI
  obtain ⟨u41, hI⟩ := hI
  obtain ⟨u42, hI⟩ := hI
  obtain ⟨u43, hI⟩ := hI
  obtain ⟨u44, hI⟩ := hI
  obtain ⟨u45, hI⟩ := hI
  obtain ⟨u46, hI⟩ := hI
  obtain ⟨u47, hI⟩ := hI
  obtain ⟨u48, hI⟩ := hI
  obtain ⟨u49, hI⟩ := hI
  obtain ⟨u50, hI⟩ := hI
  obtain ⟨u51, hI⟩ := hI
  obtain ⟨u52, hI⟩ := hI
  obtain ⟨u53, hI⟩ := hI
  obtain ⟨u54, hI⟩ := hI
  obtain ⟨u55, hI⟩ := hI
  obtain ⟨u56, hI⟩ := hI
  obtain ⟨u57, hI⟩ := hI
  obtain ⟨u58, hI⟩ := hI
  obtain ⟨u59, hI⟩ := hI
  obtain ⟨u60, hI⟩ := hI
  obtain ⟨u61, hI⟩ := hI
  obtain ⟨u62, hI⟩ := hI
  obtain ⟨u63, hI⟩ := hI
  obtain ⟨u64, hI⟩ := hI
  obtain ⟨u65, hI⟩ := hI
  obtain ⟨u66, hI⟩ := hI
  obtain ⟨u67, hI⟩ := hI
  obtain ⟨u68, hI⟩ := hI
  obtain ⟨u69, hI⟩ := hI
  obtain ⟨u70, hI⟩ := hI
  obtain ⟨u71, hI⟩ := hI
  obtain ⟨u72, hI⟩ := hI
  obtain ⟨u73, hI⟩ := hI
  obtain ⟨u74, hI⟩ := hI
  obtain ⟨u75, hI⟩ := hI
  obtain ⟨u76, hI⟩ := hI
  obtain ⟨u77, hI⟩ := hI
  obtain ⟨u78, hI⟩ := hI
  obtain ⟨u79, hI⟩ := hI
  obtain ⟨u80, hI⟩ := hI
  obtain ⟨u81, hI⟩ := hI
  obtain ⟨u82, hI⟩ := hI
  obtain ⟨u83, hI⟩ := hI
  obtain ⟨u84, hI⟩ := hI
  obtain ⟨u85, hI⟩ := hI
  obtain ⟨u86, hI⟩ := hI
  obtain ⟨u87, hI⟩ := hI
  obtain ⟨u88, hI⟩ := hI
  obtain ⟨u89, hI⟩ := hI
  obtain ⟨u90, hI⟩ := hI
  obtain ⟨u91, hI⟩ := hI
  obtain ⟨u92, hI⟩ := hI
  obtain ⟨u93, hI⟩ := hI
  obtain ⟨u94, hI⟩ := hI
  obtain ⟨u95, hI⟩ := hI
  obtain ⟨u96, hI⟩ := hI
  obtain ⟨u97, hI⟩ := hI
  obtain ⟨u98, hI⟩ := hI
  obtain ⟨u99, hI⟩ := hI
  obtain ⟨u100, hI⟩ := hI
  obtain ⟨u101, hI⟩ := hI
  obtain ⟨u102, hI⟩ := hI
  obtain ⟨u103, hI⟩ := hI
  obtain ⟨u104, hI⟩ := hI
  obtain ⟨u105, hI⟩ := hI
  obtain ⟨u106, hI⟩ := hI
  obtain ⟨u107, hI⟩ := hI
  obtain ⟨u108, hI⟩ := hI
  obtain ⟨u109, hI⟩ := hI
  obtain ⟨u110, hI⟩ := hI
  obtain ⟨u111, hI⟩ := hI
  obtain ⟨u112, hI⟩ := hI
  obtain ⟨u113, hI⟩ := hI
  obtain ⟨u114, hI⟩ := hI
  obtain ⟨u115, hI⟩ := hI
  obtain ⟨u116, hI⟩ := hI
  obtain ⟨u117, hI⟩ := hI
  obtain ⟨u118, hI⟩ := hI
  obtain ⟨u119, hI⟩ := hI
  obtain ⟨u120, hI⟩ := hI
  obtain ⟨u121, hI⟩ := hI
  obtain ⟨u122, hI⟩ := hI
  obtain ⟨u123, hI⟩ := hI
  obtain ⟨u124, hI⟩ := hI
  obtain ⟨u125, hI⟩ := hI
  obtain ⟨u126, hI⟩ := hI
  obtain ⟨u127, hI⟩ := hI
  obtain ⟨u128, hI⟩ := hI
  obtain ⟨u129, hI⟩ := hI
  obtain ⟨u130, hI⟩ := hI
  obtain ⟨u131, hI⟩ := hI
  obtain ⟨u132, hI⟩ := hI
  obtain ⟨u133, hI⟩ := hI
  obtain ⟨u134, hI⟩ := hI
  obtain ⟨u135, hI⟩ := hI
  obtain ⟨u136, hI⟩ := hI
  obtain ⟨u137, hI⟩ := hI
  obtain ⟨u138, hI⟩ := hI
  obtain ⟨u139, hI⟩ := hI
  obtain ⟨u140, hI⟩ := hI
  obtain ⟨u141, hI⟩ := hI
  obtain ⟨u142, hI⟩ := hI
  obtain ⟨u143, hI⟩ := hI
  obtain ⟨u144, hI⟩ := hI
  obtain ⟨u145, hI⟩ := hI
  obtain ⟨u146, hI⟩ := hI
  obtain ⟨u147, hI⟩ := hI
  obtain ⟨u148, hI⟩ := hI
  obtain ⟨u149, hI⟩ := hI
  obtain ⟨u150, hI⟩ := hI
  obtain ⟨u151, hI⟩ := hI
  obtain ⟨u152, hI⟩ := hI
  obtain ⟨u153, hI⟩ := hI
  obtain ⟨u154, hI⟩ := hI
  obtain ⟨u155, hI⟩ := hI
  obtain ⟨u156, hI⟩ := hI
  obtain ⟨u157, hI⟩ := hI
  obtain ⟨u158, hI⟩ := hI
  obtain ⟨u159, hI⟩ := hI
  obtain ⟨u160, hI⟩ := hI
  obtain ⟨u161, hI⟩ := hI
  obtain ⟨u162, hI⟩ := hI
  obtain ⟨u163, hI⟩ := hI
  obtain ⟨u164, hI⟩ := hI
  obtain ⟨u165, hI⟩ := hI
  obtain ⟨u166, hI⟩ := hI
  obtain ⟨u167, hI⟩ := hI
  obtain ⟨u168, hI⟩ := hI
  obtain ⟨u169, hI⟩ := hI
  obtain ⟨u170, hI⟩ := hI
  obtain ⟨u171, hI⟩ := hI
  obtain ⟨u172, hI⟩ := hI
  obtain ⟨u173, hI⟩ := hI
  obtain ⟨u174, hI⟩ := hI
  obtain ⟨u175, hI⟩ := hI
  obtain ⟨u176, hI⟩ := hI
  obtain ⟨u177, hI⟩ := hI
  obtain ⟨u178, hI⟩ := hI
  obtain ⟨u179, hI⟩ := hI
  obtain ⟨u180, hI⟩ := hI
  obtain ⟨u181, hI⟩ := hI
  obtain ⟨u182, hI⟩ := hI
  obtain ⟨u183, hI⟩ := hI
  obtain ⟨u184, hI⟩ := hI
  obtain ⟨u185, hI⟩ := hI
  obtain ⟨u186, hI⟩ := hI
  obtain ⟨u187, hI⟩ := hI
  obtain ⟨u188, hI⟩ := hI
  obtain ⟨u189, hI⟩ := hI
  obtain ⟨u190, hI⟩ := hI
  obtain ⟨u191, hI⟩ := hI
  obtain ⟨u192, hI⟩ := hI
  obtain ⟨u193, hI⟩ := hI
  obtain ⟨u194, hI⟩ := hI
  obtain ⟨u195, hI⟩ := hI
  obtain ⟨u196, hI⟩ := hI
  obtain ⟨u197, hI⟩ := hI
  obtain ⟨u198, hI⟩ := hI
  obtain ⟨u199, hI⟩ := hI
  obtain ⟨u200, hI⟩ := hI
  obtain ⟨u201, hI⟩ := hI
  obtain ⟨u202, hI⟩ := hI
  obtain ⟨u203, hI⟩ := hI
  obtain ⟨u204, hI⟩ := hI
  obtain ⟨u205, hI⟩ := hI
  obtain ⟨u206, hI⟩ := hI
  obtain ⟨u207, hI⟩ := hI
  obtain ⟨u208, hI⟩ := hI
  obtain ⟨u209, hI⟩ := hI
  obtain ⟨u210, hI⟩ := hI
  obtain ⟨u211, hI⟩ := hI
  obtain ⟨u212, hI⟩ := hI
  obtain ⟨u213, hI⟩ := hI
  obtain ⟨u214, hI⟩ := hI
  obtain ⟨u215, hI⟩ := hI
  obtain ⟨u216, hI⟩ := hI
  obtain ⟨u217, hI⟩ := hI
  obtain ⟨u218, hI⟩ := hI
  obtain ⟨u219, hI⟩ := hI
  obtain ⟨u220, hI⟩ := hI
  obtain ⟨u221, hI⟩ := hI
  obtain ⟨u222, hI⟩ := hI
  obtain ⟨u223, hI⟩ := hI
  obtain ⟨u224, hI⟩ := hI
  obtain ⟨u225, hI⟩ := hI
  obtain ⟨u226, hI⟩ := hI
  obtain ⟨u227, hI⟩ := hI
  obtain ⟨u228, hI⟩ := hI
  obtain ⟨u229, hI⟩ := hI
  obtain ⟨u230, hI⟩ := hI
  obtain ⟨u231, hI⟩ := hI
  obtain ⟨u232, hI⟩ := hI
  obtain ⟨u233, hI⟩ := hI
  obtain ⟨u234, hI⟩ := hI
  obtain ⟨u235, hI⟩ := hI
  obtain ⟨u236, hI⟩ := hI
  obtain ⟨u237, hI⟩ := hI
  obtain ⟨u238, hI⟩ := hI
  obtain ⟨u239, hI⟩ := hI
  obtain ⟨u240, hI⟩ := hI
  obtain ⟨u241, hI⟩ := hI
  obtain ⟨u242, hI⟩ := hI
  obtain ⟨u243, hI⟩ := hI
  obtain ⟨u244, hI⟩ := hI
  obtain ⟨u245, hI⟩ := hI
  obtain ⟨u246, hI⟩ := hI
  obtain ⟨u247, hI⟩ := hI
  obtain ⟨u248, hI⟩ := hI
  obtain ⟨u249, hI⟩ := hI
  obtain ⟨u250, hI⟩ := hI
  obtain ⟨u251, hI⟩ := hI
  obtain ⟨u252, hI⟩ := hI
  obtain ⟨u253, hI⟩ := hI
  obtain ⟨u254, hI⟩ := hI
  obtain ⟨u255, hI⟩ := hI
  obtain ⟨u256, hI⟩ := hI
  obtain ⟨u257, hI⟩ := hI
  obtain ⟨u258, hI⟩ := hI
  obtain ⟨u259, hI⟩ := hI
  obtain ⟨u260, hI⟩ := hI
  obtain ⟨u261, hI⟩ := hI
  obtain ⟨u262, hI⟩ := hI
  obtain ⟨u263, hI⟩ := hI
  obtain ⟨u264, hI⟩ := hI
  obtain ⟨u265, hI⟩ := hI
  obtain ⟨u266, hI⟩ := hI
  obtain ⟨u267, hI⟩ := hI
  obtain ⟨A1, D, T, N1, v, ⟨hS, hN1⟩, rfl⟩ := hI
  have HKp : Hid (Keep A c) := HS3.out.keep
  have HLn : Hid (∀ b, b < rows * (n - 2) → (c b).length = 2) := fun b hb => by
    have := HS3.out.keep.len b (by rw [HS3.out.hn, HS3.out.hr]; exact hb)
    rw [HS3.out.hs] at this
    exact this
  obtain ⟨e1, e2, e3, e4⟩ := hS.hurt.mends (by rw [hS.hn, hS.hr, hS.hs]; exact HLn.out)
  obtain ⟨s1, s2, s3, _, _⟩ := Arr.all_same A1 A1.rows
  have C1 := sall_is hS.al hS.hurt.1 (by omega) HG hS.hn hS.hr
  rw [hS.hr] at e1
  rw [e1] at C1
  have HC2 : Hid (∀ w1, AL w x (A1.all rows) (N1 + rows) w1 → Calls Tryz.prog 30 #[.pointer (some ⟨x.p, 0, none⟩), .int .i64 n, .int .i64 rows] w1 fun e w' => ∃ ao cap, e = .returned (.tuple #[.slice ao 0 cap, .nilIface]) ∧ AL w x ((A1.all rows).all rows) (N1 + rows + rows) w' ∧ But (x.F n) w1 w') := fun w1 hA => by
    rw [hS.hr] at e2 e3 s1 s2
    have := sall_is hA e2.ok (by omega) HG (s1.trans hS.hn) s2
    rw [e3] at this
    exact this.mono fun e w' ⟨ao, cap, h1, h2, h3, _⟩ => ⟨ao, cap, h1, h2, h3⟩
  have HB : Hid (∀ i, w'.heap.size ≤ i → ¬ x.F n i) := fun i hi q => by have := hS.xB i q; have := hS.Bw; omega
  have HW : Hid (∀ w1, But (x.F n) w' w1 → OwS w3.heap.size w1 v (wrongs A1 c D T rows) ∧ MG w x n g m c w1) := fun w1 hb => ⟨hS.own.but hb (fun i hi q => by have := hS.xB i q; omega), hS.mg.but hb⟩
  have HL : Hid (∀ w1, AL w x ((A1.all rows).all rows) (N1 + rows + rows) w1 → MK w x n rows ((A1.all rows).all rows) c (N1 + rows + rows) w1) := fun w1 hA => by
    have hA' : AL w x ((A1.all A1.rows).all A1.rows) (N1 + rows + rows) w1 := by rw [hS.hr]; exact hA
    have h5 := MK.last hS.hurt hS.hn hS.hr hS.hs e4 hA'
    rw [hS.hr] at h5
    exact h5
  have hlw : (wrongs A1 c D T rows).length ≤ rows := wrongs_len A1 c D T rows
  clear hS e1 e2 e3 e4 s1 s2 s3 HKp HLn HS3 HG3
  generalize wrongs A1 c D T rows = W at *
  generalize (A1.all rows).all rows = A3 at *
  generalize A1.all rows = A2 at *
  refine wp_seq_k fun K hK => ?_
  have HK : Hid _ := hK
  clear hK
  go_wp2_with fail
  refine C1.mono ?_
  rintro e w4 ⟨ao1, cap1, rfl, hA4, hb4, hO4⟩
  have C2 := HC2.out w4 hA4
  have HO4 : Hid (OwS w'.heap.size w4 (.slice ao1 W.length cap1) W) := hO4
  have Hb4 : Hid (But (x.F n) w' w4) := hb4
  clear C1 HC2 hA4 hb4 hO4
  go_wp2
  refine HK.out _ _ ?_
  clear HK K
  refine wp_seq_k fun K hK => ?_
  have HK : Hid _ := hK
  clear hK
  go_wp2_with fail
  refine C2.mono ?_
  rintro e w5 ⟨ao2, cap2, rfl, hA5, hb5⟩
  obtain ⟨hO5, hG5⟩ := HW.out w5 (Hb4.out.trans hb5 (Grows.refl _ _))
  have hR5 := (HO4.out.but hb5 HB.out).rd
  have E := spots_same (.slice ao1 W.length cap1) v W w5 (by omega) hR5 hO5.rd
  have HS5 : Hid (MK w x n rows A3 c (N1 + rows + rows) w5) := HL.out w5 hA5
  have HG5 : Hid (MG w x n g m c w5) := hG5
  clear C2 hA5 hb5 hO5 hG5 hR5 HO4 Hb4 HB HW HL
  generalize W.length = wl at *
  go_wp2
  refine HK.out _ _ ?_
  clear HK K
  refine wp_seq_k fun K hK => ?_
  have HK : Hid _ := hK
  clear hK
  go_wp2_with fail
  refine E.mono ?_
  rintro e w6 ⟨rfl, hB6⟩
  have HS6 : Hid (MK w x n rows A3 c (N1 + rows + rows) w6) := HS5.out.old hB6
  have HG6 : Hid (MG w x n g m c w6) := HG5.out.old hB6
  clear E hB6 HS5 HG5
  go_wp2
  refine HK.out _ _ ?_
  clear HK K
  refine wp_seq_k fun K hK => ?_
  refine sm8 n rows n2 c2 n3 c3 m a2 a3 s4 x w g cap c A3 (N1 + rows + rows) _ _ _ _ _ _ _ _ _ _ _ _ _ _ _ _ _ _ _ _ _ _ _ _ _ _ _ _ _ _ _ _ _ _ _ _ _ _ _ _ _ _ _ _ _ _ _ _ _ _ _ _ _ _ _ _ _ _ _ _ _ _ _ _ _ _ _ _ _ _ _ _ _ _ _ _ _ _ _ _ _ _ _ _ _ _ _ _ _ _ _ _ _ _ _ _ _ _ _ _ _ _ _ _ _ _ _ _ _ _ _ _ _ _ _ _ _ _ _ _ _ _ _ _ _ _ _ _ _ _ _ _ _ _ _ _ _ _ _ _ _ _ _ _ _ _ _ _ _ _ _ _ _ _ _ _ _ _ _ _ _ _ _ _ _ _ _ _ _ _ _ _ _ _ _ _ _ _ _ _ _ _ _ _ _ _ _ _ _ _ _ _ _ _ _ _ _ _ _ _ _ _ _ _ _ _ _ _ _ _ _ _ _ _ _ _ _ _ _ _ _ _ _ _ _ _ _ _ _ _ _ _ _ _ _ _ _ _ _ _ _ _ _ _ _ _ _ _ _ _ _ _ _ _ _ _ _ _ _ _ _ _ _ HS6.out HG6.out hn hr cc hcc hmul hm160 hm1 Hm ?_
  intro y10 y32 y33 y34 y246 y247 y248 y249 y250 y251 y252 y253 y254 y255 y256 y257 y258 y259 y260 y261 y262 y263 y264 y265 y266 y267 w7 hL7
  refine then_k (hK _ _ ?_)
  clear hK K
  have HL : Hid (Below w.heap.size w w7) := hL7
  clear hL7 HS6 HG6
  go_wp2
  go_ret
  exact ⟨rfl, HL.out⟩
end Go.Proofs.YtilfjahbdlepjaaGreatDoor
