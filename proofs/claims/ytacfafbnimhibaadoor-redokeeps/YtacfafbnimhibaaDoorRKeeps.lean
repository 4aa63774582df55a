/- RedoKeeps, a piece: walks over the program. -/
import Derived.Test.YtacfafbnimhibaaDoorRKm
namespace Go.Proofs.YtacfafbnimhibaaDoor
open Go.RowKit El Pol
/-- the cells "a", "b" -/
def abF (i : Nat) : List El := if i = 0 then [97] else [98]
def fcA : List Wr := [(0, [120]), (1, [121])]
def fcB : List Wr := [(0, [122])]
def fc1 : Rdo := (Rdo.fresh 2 abF).put fcA
def fc2 : Rdo := fc1.sync
def fc3 : Rdo := fc2.put fcB
def fc4 : Rdo := fc3.crash 0
theorem abF_ok : cellsE 2 abF = 0 := by decide
theorem fc_is : (Rdo.fresh 2 abF).putE fcA = 0 ∧ fc1.syncE = 0 ∧ fc2.putE fcB = 0 ∧ fc4.n = 2 ∧ fc4.cells 0 = [120] ∧ fc4.cells 1 = [121] ∧ fc4.log.length = fc4.safe ∧ fc2.rs.length ≤ 1000 ∧ fc3.rs.length ≤ 1000 := by decide +kernel
theorem litab (w : World) : RdT (w.alloc (.cells #[.string ⟨#[97]⟩, .string ⟨#[98]⟩] 9)) (.slice (some ⟨w.heap.size, 0, none⟩) 2 2) 2 abF := by
  refine OwL.rdF (own_lit (B := 0) [.string ⟨#[97]⟩, .string ⟨#[98]⟩] (Nat.zero_le _) (by simp)) (fun i hi => ?_)
  match i, hi with
  | 0, _ => rfl
  | 1, _ => rfl
set_option linter.unusedVariables false in
set_option maxRecDepth 1000000 in
set_option maxHeartbeats 8000000 in
theorem keeps_any (a0 : Option Addr) (n0 c0 : Nat) (f : Nat → List El) (a1 : Option Addr) (n1 c1 : Nat) (L : Nat → List Wr) (a2 : Option Addr) (n2 c2 : Nat) (f2 : Nat → Int) (a3 : Option Addr) (n3 c3 : Nat) (f3 : Nat → Int) (a4 : Option Addr) (n4 c4 : Nat) (f4 : Nat → Int) (w : World)
    (r0 : RdT w (.slice a0 n0 c0) n0 f) (r1 : RdWW w (.slice a1 n1 c1) n1 L) (hn1 : n1 ≤ 5864062014634) (r2 : RdF w (.slice a2 n2 c2) n2 (fun i => .int .i64 (f2 i))) (hn2 : n2 ≤ 17592186044416)
    (r3 : RdF w (.slice a3 n3 c3) n3 (fun i => .int .i64 (f3 i))) (q3 : ∀ i, i < n3 → (Lit.int .i64 (f3 i)).wf = true) (hn3 : n3 ≤ 17592186044416) (r4 : RdF w (.slice a4 n4 c4) n4 (fun i => .int .i64 (f4 i))) (q4 : ∀ i, i < n4 → (Lit.int .i64 (f4 i)).wf = true) (hn4 : n4 ≤ 17592186044416) (hg : Handle w) :
    Calls Tryd.prog 6 #[.slice a0 n0 c0, .slice a1 n1 c1, .slice a2 n2 c2, .slice a3 n3 c3, .slice a4 n4 c4] w fun e w' => e = .returned (.bool true) ∧ Below w.heap.size w w' := by
  have N := rnew_ok _ 2 abF _ (litab w) abF_ok
  have HB0 : Hid (Below w.heap.size w (w.alloc (.cells #[.string ⟨#[97]⟩, .string ⟨#[98]⟩] 9))) := al_below _ _
  have HR0 : Hid (RdT w (.slice a0 n0 c0) n0 f) := r0
  have HR1 : Hid (RdWW w (.slice a1 n1 c1) n1 L) := r1
  have HR2 : Hid (RdF w (.slice a2 n2 c2) n2 (fun i => .int .i64 (f2 i))) := r2
  have HR3 : Hid (RdF w (.slice a3 n3 c3) n3 (fun i => .int .i64 (f3 i))) := r3
  have HR4 : Hid (RdF w (.slice a4 n4 c4) n4 (fun i => .int .i64 (f4 i))) := r4
  have HH : Hid (Handle w) := hg
  clear r0 r1 r2 r3 r4 hg
  obtain ⟨x1, x2, x3, x4, x5, x6, x7, x8, x9⟩ := fc_is
  go_enter Tryd.func6, Tryd.ntmps6
  go_wp2_with fail
  refine N.mono ?_
  rintro e w1 ⟨x, rfl, hM, hB⟩
  have hR1 : RL w (fun _ => False) x.p (Rdo.fresh 2 abF) w1 := RL.new HB0.out hM hB abF_ok (fun _ q => q.elim)
  have C1 := rl_put (hR1.old (al_below _ (.cells #[.int .i64 0, .string ⟨#[120]⟩, .int .i64 1, .string ⟨#[121]⟩] 50))) (fun _ q => q.elim) (by simp [Rdo.fresh]) _ _ (two_writes w1 (0, [120]) (1, [121]))
  rw [show [((0 : Int), ([120] : List El)), ((1 : Int), ([121] : List El))] = fcA from rfl, x1, errV, if_pos rfl, show (Rdo.fresh 2 abF).put fcA = fc1 from rfl] at C1
  clear N hM hB HB0 hR1 x1
  generalize x.p = p1 at *
  go_wp2_with fail
  refine C1.mono ?_
  rintro e w2 ⟨rfl, hR2, _⟩
  have C2 := rl_sync hR2
  rw [x2, errV, if_pos rfl, show fc1.sync = fc2 from rfl] at C2
  clear C1 hR2 x2
  go_wp2_with fail
  refine C2.mono ?_
  rintro e w3 ⟨rfl, hR3, _⟩
  have C3 := rl_put (hR3.old (al_below _ (.cells #[.int .i64 0, .string ⟨#[122]⟩] 50))) (fun _ q => q.elim) x8 _ _ (one_write w3 (0, [122]))
  rw [show [((0 : Int), ([122] : List El))] = fcB from rfl, x3, errV, if_pos rfl, show fc2.put fcB = fc3 from rfl] at C3
  clear C2 hR3 x3 x8
  go_wp2_with fail
  refine C3.mono ?_
  rintro e w4 ⟨rfl, hR4, _⟩
  have C4 := rl_crash hR4 (fun _ q => q.elim) x9 0 (by omega) (by omega)
  rw [show fc3.crash 0 = fc4 from rfl] at C4
  clear C3 hR4 x9
  go_wp2_with fail
  refine C4.mono ?_
  rintro e w5 ⟨rfl, hR5, _⟩
  have A := rl_all hR5
  rw [x4] at A
  have HR5 : Hid (RL w (fun _ => False) p1 fc4 w5) := hR5
  clear C4 hR5 x4
  go_wp2_with fail
  refine A.mono ?_
  rintro e w6 ⟨u, rfl, hO6, hB6⟩
  obtain ⟨g6, k6, rfl, _, hg6, _, _⟩ := OwT.at hO6 (by omega)
  have c0' := OwT.cell hO6 0 (by omega)
  have c1' := OwT.cell hO6 1 (by omega)
  rw [x5] at c0'
  rw [x6] at c1'
  have d0 : w6.cell? ⟨g6, 0, none⟩ = some (.string ⟨#[120]⟩) := c0'
  have d1 : w6.cell? ⟨g6, 1, none⟩ = some (.string ⟨#[121]⟩) := c1'
  have hR6 := HR5.out.old hB6
  have HLow : Hid (Below w.heap.size w w6) := hR6.low
  have E1 := rl_bytes hR6
  have E2 := rl_safe hR6
  rw [x7] at E1
  clear A hO6 hB6 hR6 HR5 c0' c1' x5 x6 x7
  generalize fc4.safe = sz at *
  go_wp2_with fail
  refine E1.mono ?_
  rintro e w7 ⟨rfl, hw7⟩
  obtain rfl := hw7.symm
  clear E1 hw7
  go_wp2_with fail
  refine E2.mono ?_
  rintro e w8 ⟨rfl, hw8⟩
  obtain rfl := hw8.symm
  have D := rcells_any _ n0 f w6 (HR0.out.old HLow.out)
  clear E2 hw8 d0 d1
  go_wp2_with fail
  refine D.mono ?_
  rintro e w9 ⟨rfl, hw9⟩
  obtain rfl := hw9.symm
  clear D hw9
  by_cases he : cellsE n0 f = 0
  · have N2 := rnew_ok _ n0 f w6 (HR0.out.old HLow.out) he
    rw [he]
    have HE : Hid (cellsE n0 f = 0) := he
    clear he
    go_wp2_with fail
    refine N2.mono ?_
    rintro e wa ⟨y, rfl, hMa, hBa⟩
    have HRa : Hid (RL w (fun k => 0 < n0 ∧ (Value.slice a0 n0 c0).ownBlock = some k) y.p (Rdo.fresh n0 f) wa) := RL.new HLow.out hMa hBa HE.out (fun k hk => Nat.lt_of_lt_of_le (rdt_block HR0.out hk.1 hk.2) HLow.out.size)
    have T := err_none wa
    clear N2 hMa hBa
    generalize y.p = p at *
    go_wp2_with fail
    refine T.mono ?_
    rintro e wb ⟨rfl, hwb⟩
    obtain rfl := hwb.symm
    clear T hwb
    have hn40 : n0 ≤ 40 := (cellsE_ok HE.out).1
    have HK : Hid (KN w p n0 f [] (Rdo.fresh n0 f) wa.heap.size 1 (wa.heap.size + 1) 1 0 (fun _ => .slice a0 n0 c0) ((wa.alloc (.cells #[.slice a0 n0 c0] 46)).alloc (.cells #[.int .i64 0] 3))) := by
      have hb1 : Below wa.heap.size wa (wa.alloc (.cells #[.slice a0 n0 c0] 46)) := al_below _ _
      have hb2 : Below (wa.alloc (.cells #[.slice a0 n0 c0] 46)).heap.size (wa.alloc (.cells #[.slice a0 n0 c0] 46)) ((wa.alloc (.cells #[.slice a0 n0 c0] 46)).alloc (.cells #[.int .i64 0] 3)) := al_below _ _
      have hsa : (wa.alloc (.cells #[.slice a0 n0 c0] 46)).heap.size = wa.heap.size + 1 := by simp
      have hlow := HRa.out.low
      refine ⟨⟨?_, rfl, rfl, ?_, ?_, ?_, ?_⟩, rfl, by omega⟩
      · refine ((HRa.out.more (V := KU n0 (.slice (some ⟨wa.heap.size, 0, none⟩) (0 + 1) 1) (.slice (some ⟨wa.heap.size + 1, 0, none⟩) (0 + 1) 1) (fun _ => .slice a0 n0 c0) 0) (fun k hk => ?_)).old hb1).old hb2
        rcases hk with q | q | ⟨q1, i, q2, q3⟩
        · simp only [Value.ownBlock, Option.some.injEq] at q; exact .inr (by omega)
        · simp only [Value.ownBlock, Option.some.injEq] at q; exact .inr (by omega)
        · exact .inl ⟨q1, q3⟩
      · exact ownsRow_old (own_lit [.slice a0 n0 c0] hlow.size (by simp)) hb2
      · intro i hi
        rw [List.take_nil]
        exact ((HR0.out.old hlow).old hb1).old hb2
      · have := own_lit (w := wa.alloc (.cells #[.slice a0 n0 c0] 46)) (e := 3) [.int .i64 0] (Nat.le_trans hlow.size hb1.size) (by simp)
        rw [hsa] at this
        exact this
      · intro hn i hi k hk
        have z1 := rdt_block HR0.out hn hk
        have z2 := hlow.size
        refine ⟨fun e => ?_, fun e => ?_⟩
        · simp only [Value.ownBlock, Option.some.injEq] at e; omega
        · simp only [Value.ownBlock, Option.some.injEq] at e; omega
    clear HRa
    go_upto_region 18 with fail
    rename ∀ (a : Act) (w : World), Code.wp _ _ _ a w → _ => hK
    have HKx : Hid _ := hK
    clear hK
    go_wp2
    refine HKx.out _ _ ?_
    clear HKx
    refine wp_seq_k fun K hK => ?_
    have HKK : Hid _ := hK
    clear hK
    refine wp_seq_k fun K2 hK => ?_
    have HKy : Hid _ := hK
    clear hK
    go_wp2
    refine HKy.out _ _ ?_
    clear HKy
    refine wp_block ?_
    refine k1loop n0 c0 n1 c1 n2 c2 n3 c3 n4 c4 p a0 a1 a2 a3 a4 w _ _ _ _ _ _ _ _ _ _ _ _ _ _ _ _ _ _ _ _ _ _ _ _ _ _ _ _ _ _ _ _ _ _ _ _ _ _ _ _ _ _ _ _ _ _ _ _ _ _ _ _ _ _ _ _ _ _ _ _ _ _ _ _ _ _ _ _ _ _ _ _ _ _ _ _ _ _ _ _ _ _ _ _ _ _ _ _ _ f 0 L f2 f3 f4 HH.out hn40 HR1.out hn1 HR2.out hn2 HR3.out q3 hn3 HR4.out q4 hn4 trivial _ 0 [] (Rdo.fresh n0 f) wa.heap.size 1 (wa.heap.size + 1) 1 0 (fun _ => .slice a0 n0 c0) 0 _ _ _ _ _ _ _ _ _ _ _ _ _ _ _ _ _ _ _ _ _ _ _ _ _ _ _ _ _ _ _ _ _ _ _ _ _ _ _ _ _ _ _ _ _ _ _ _ _ _ _ _ _ _ _ _ _ _ _ _ _ _ _ _ _ _ _ _ _ _ _ _ _ _ _ _ _ _ _ _ _ _ _ _ _ _ _ _ _ _ _ _ _ _ _ _ _ _ _ _ _ _ _ _ _ _ _ _ _ _ _ _ _ _ _ _ _ _ _ _ _ _ _ _ _ _ _ _ _ _ _ _ _ _ _ _ _ _ _ _ _ _ _ _ _ _ _ _ _ _ _ _ _ _ _ _ _ _ _ _ _ _ _ _ _ _ _ _ _ _ _ _ _ _ _ _ _ _ _ _ _ _ _ _ _ _ _ _ _ _ _ _ _ _ _ _ _ _ _ _ _ _ _ _ _ _ _ _ _ _ (by omega) ⟨HK.out, rfl, by omega, Nat.zero_le _⟩ ?_
    intro a w' hI
    refine (show K a w' from HKK.out _ _ ?_)
    clear HKK HK
    unfold k1WI at hI
    obtain ⟨k, _, hI⟩ := hI
    unfold k1WK at hI
    obtain ⟨u20, hI⟩ := hI
    obtain ⟨u25, hI⟩ := hI
    obtain ⟨u26, hI⟩ := hI
    obtain ⟨u27, hI⟩ := hI
    obtain ⟨u28, hI⟩ := hI
    obtain ⟨u29, hI⟩ := hI
    obtain ⟨u30, hI⟩ := hI
    obtain ⟨u31, hI⟩ := hI
    obtain ⟨u32, hI⟩ := hI
    obtain ⟨u33, hI⟩ := hI
    obtain ⟨u34, hI⟩ := hI
    obtain ⟨u35, hI⟩ := hI
    obtain ⟨u36, hI⟩ := hI
    obtain ⟨u113, hI⟩ := hI
    obtain ⟨u114, hI⟩ := hI
    obtain ⟨u115, hI⟩ := hI
    obtain ⟨u116, hI⟩ := hI
    obtain ⟨u117, hI⟩ := hI
    obtain ⟨u118, hI⟩ := hI
    obtain ⟨u119, hI⟩ := hI
    obtain ⟨u120, hI⟩ := hI
    obtain ⟨u121, hI⟩ := hI
    obtain ⟨u122, hI⟩ := hI
    obtain ⟨u123, hI⟩ := hI
    obtain ⟨u124, hI⟩ := hI
    obtain ⟨u125, hI⟩ := hI
    obtain ⟨u126, hI⟩ := hI
    obtain ⟨u127, hI⟩ := hI
    obtain ⟨u128, hI⟩ := hI
    obtain ⟨u129, hI⟩ := hI
    obtain ⟨u130, hI⟩ := hI
    obtain ⟨u131, hI⟩ := hI
    obtain ⟨u132, hI⟩ := hI
    obtain ⟨u133, hI⟩ := hI
    obtain ⟨u134, hI⟩ := hI
    obtain ⟨u135, hI⟩ := hI
    obtain ⟨u136, hI⟩ := hI
    obtain ⟨u137, hI⟩ := hI
    obtain ⟨u138, hI⟩ := hI
    obtain ⟨u139, hI⟩ := hI
    obtain ⟨u140, hI⟩ := hI
    obtain ⟨u141, hI⟩ := hI
    obtain ⟨u142, hI⟩ := hI
    obtain ⟨u143, hI⟩ := hI
    obtain ⟨u144, hI⟩ := hI
    obtain ⟨u145, hI⟩ := hI
    obtain ⟨u146, hI⟩ := hI
    obtain ⟨u147, hI⟩ := hI
    obtain ⟨u148, hI⟩ := hI
    obtain ⟨u149, hI⟩ := hI
    obtain ⟨u150, hI⟩ := hI
    obtain ⟨u151, hI⟩ := hI
    obtain ⟨u152, hI⟩ := hI
    obtain ⟨u153, hI⟩ := hI
    obtain ⟨u154, hI⟩ := hI
    obtain ⟨u155, hI⟩ := hI
    obtain ⟨u156, hI⟩ := hI
    obtain ⟨u157, hI⟩ := hI
    obtain ⟨u158, hI⟩ := hI
    obtain ⟨u159, hI⟩ := hI
    obtain ⟨u160, hI⟩ := hI
    obtain ⟨u161, hI⟩ := hI
    obtain ⟨u162, hI⟩ := hI
    obtain ⟨u163, hI⟩ := hI
    obtain ⟨u164, hI⟩ := hI
    obtain ⟨u165, hI⟩ := hI
    obtain ⟨u166, hI⟩ := hI
    obtain ⟨u167, hI⟩ := hI
    obtain ⟨u168, hI⟩ := hI
    obtain ⟨u169, hI⟩ := hI
    obtain ⟨u170, hI⟩ := hI
    obtain ⟨u171, hI⟩ := hI
    obtain ⟨u172, hI⟩ := hI
    obtain ⟨u173, hI⟩ := hI
    obtain ⟨u174, hI⟩ := hI
    obtain ⟨u175, hI⟩ := hI
    obtain ⟨u176, hI⟩ := hI
    obtain ⟨u177, hI⟩ := hI
    obtain ⟨u178, hI⟩ := hI
    obtain ⟨u179, hI⟩ := hI
    obtain ⟨u180, hI⟩ := hI
    obtain ⟨u181, hI⟩ := hI
    obtain ⟨u182, hI⟩ := hI
    obtain ⟨u183, hI⟩ := hI
    obtain ⟨u184, hI⟩ := hI
    obtain ⟨u185, hI⟩ := hI
    obtain ⟨u186, hI⟩ := hI
    obtain ⟨u187, hI⟩ := hI
    obtain ⟨u188, hI⟩ := hI
    obtain ⟨u189, hI⟩ := hI
    obtain ⟨u190, hI⟩ := hI
    obtain ⟨u191, hI⟩ := hI
    obtain ⟨u192, hI⟩ := hI
    obtain ⟨u193, hI⟩ := hI
    obtain ⟨u194, hI⟩ := hI
    obtain ⟨u195, hI⟩ := hI
    obtain ⟨u196, hI⟩ := hI
    obtain ⟨u197, hI⟩ := hI
    obtain ⟨u198, hI⟩ := hI
    obtain ⟨u199, hI⟩ := hI
    obtain ⟨u200, hI⟩ := hI
    obtain ⟨u201, hI⟩ := hI
    obtain ⟨u202, hI⟩ := hI
    obtain ⟨u203, hI⟩ := hI
    obtain ⟨u204, hI⟩ := hI
    obtain ⟨u205, hI⟩ := hI
    obtain ⟨u206, hI⟩ := hI
    obtain ⟨u207, hI⟩ := hI
    obtain ⟨u208, hI⟩ := hI
    obtain ⟨u209, hI⟩ := hI
    obtain ⟨u210, hI⟩ := hI
    obtain ⟨u211, hI⟩ := hI
    obtain ⟨u212, hI⟩ := hI
    obtain ⟨u213, hI⟩ := hI
    obtain ⟨u214, hI⟩ := hI
    obtain ⟨u215, hI⟩ := hI
    obtain ⟨u216, hI⟩ := hI
    obtain ⟨u217, hI⟩ := hI
    obtain ⟨u218, hI⟩ := hI
    obtain ⟨u219, hI⟩ := hI
    obtain ⟨u220, hI⟩ := hI
    obtain ⟨u221, hI⟩ := hI
    obtain ⟨u222, hI⟩ := hI
    obtain ⟨u223, hI⟩ := hI
    obtain ⟨u224, hI⟩ := hI
    obtain ⟨u225, hI⟩ := hI
    obtain ⟨u226, hI⟩ := hI
    obtain ⟨u227, hI⟩ := hI
    obtain ⟨u228, hI⟩ := hI
    obtain ⟨u229, hI⟩ := hI
    obtain ⟨u230, hI⟩ := hI
    obtain ⟨u231, hI⟩ := hI
    obtain ⟨u232, hI⟩ := hI
    obtain ⟨u233, hI⟩ := hI
    obtain ⟨u234, hI⟩ := hI
    obtain ⟨u235, hI⟩ := hI
    obtain ⟨u236, hI⟩ := hI
    obtain ⟨u237, hI⟩ := hI
    obtain ⟨u238, hI⟩ := hI
    obtain ⟨u239, hI⟩ := hI
    obtain ⟨u240, hI⟩ := hI
    obtain ⟨u241, hI⟩ := hI
    obtain ⟨u242, hI⟩ := hI
    obtain ⟨u243, hI⟩ := hI
    obtain ⟨u244, hI⟩ := hI
    obtain ⟨u245, hI⟩ := hI
    obtain ⟨u246, hI⟩ := hI
    obtain ⟨u247, hI⟩ := hI
    obtain ⟨u248, hI⟩ := hI
    obtain ⟨u249, hI⟩ := hI
    obtain ⟨u250, hI⟩ := hI
    obtain ⟨u251, hI⟩ := hI
    obtain ⟨u252, hI⟩ := hI
    obtain ⟨u253, hI⟩ := hI
    obtain ⟨u254, hI⟩ := hI
    obtain ⟨u255, hI⟩ := hI
    obtain ⟨u256, hI⟩ := hI
    obtain ⟨u257, hI⟩ := hI
    obtain ⟨u258, hI⟩ := hI
    obtain ⟨u259, hI⟩ := hI
    obtain ⟨u260, hI⟩ := hI
    obtain ⟨u261, hI⟩ := hI
    obtain ⟨u262, hI⟩ := hI
    obtain ⟨u263, hI⟩ := hI
    obtain ⟨u264, hI⟩ := hI
    obtain ⟨u265, hI⟩ := hI
    obtain ⟨u266, hI⟩ := hI
    obtain ⟨u267, hI⟩ := hI
    obtain ⟨u268, hI⟩ := hI
    obtain ⟨u269, hI⟩ := hI
    obtain ⟨u270, hI⟩ := hI
    obtain ⟨u271, hI⟩ := hI
    obtain ⟨u272, hI⟩ := hI
    obtain ⟨u273, hI⟩ := hI
    obtain ⟨u274, hI⟩ := hI
    obtain ⟨u275, hI⟩ := hI
    obtain ⟨u276, hI⟩ := hI
    obtain ⟨u277, hI⟩ := hI
    obtain ⟨u278, hI⟩ := hI
    obtain ⟨u279, hI⟩ := hI
    obtain ⟨u280, hI⟩ := hI
    obtain ⟨u281, hI⟩ := hI
    obtain ⟨u282, hI⟩ := hI
    obtain ⟨u283, hI⟩ := hI
    obtain ⟨u284, hI⟩ := hI
    obtain ⟨u285, hI⟩ := hI
    obtain ⟨u286, hI⟩ := hI
    obtain ⟨u287, hI⟩ := hI
    obtain ⟨u288, hI⟩ := hI
    obtain ⟨u289, hI⟩ := hI
    obtain ⟨u290, hI⟩ := hI
    obtain ⟨u291, hI⟩ := hI
    obtain ⟨u292, hI⟩ := hI
    obtain ⟨u293, hI⟩ := hI
    obtain ⟨u294, hI⟩ := hI
    obtain ⟨u295, hI⟩ := hI
    obtain ⟨u296, hI⟩ := hI
    obtain ⟨u297, hI⟩ := hI
    obtain ⟨u298, hI⟩ := hI
    obtain ⟨u299, hI⟩ := hI
    obtain ⟨u300, hI⟩ := hI
    obtain ⟨u301, hI⟩ := hI
    obtain ⟨u302, hI⟩ := hI
    obtain ⟨u303, hI⟩ := hI
    obtain ⟨u304, hI⟩ := hI
    obtain ⟨u305, hI⟩ := hI
    obtain ⟨u306, hI⟩ := hI
    obtain ⟨u307, hI⟩ := hI
    obtain ⟨u308, hI⟩ := hI
    obtain ⟨ds, t, gd, cd, gm, cm, r, rv, q, ⟨hS, _, _, _⟩, rfl⟩ := hI
    have HX : Hid (Below w.heap.size w w') := hS.1.low
    clear hS HR0 HR1 HR2 HR3 HR4
    go_wp2
    go_ret
    exact ⟨rfl, HX.out⟩
  · have N2 := rnew_bad _ n0 f w6 (HR0.out.old HLow.out) he
    have T := err_v (cellsE n0 f) w6 (HH.out.old HLow.out)
    rw [errV, if_neg he] at N2 T
    have hb : (((cellsE n0 f : Nat) : Int) == 0) = false := by rw [beq_eq_false_iff_ne]; omega
    clear he
    generalize cellsE n0 f = ce at *
    go_wp2_with fail
    refine N2.mono ?_
    rintro e wa ⟨rfl, hwa⟩
    obtain rfl := hwa.symm
    clear N2 hwa
    go_wp2_with fail
    refine T.mono ?_
    rintro e wb ⟨rfl, hBb⟩
    have HX : Hid (Below w.heap.size w wb) := HLow.out.trans (hBb.mono HLow.out.size)
    clear T hBb
    go_wp2
    go_ret
    exact ⟨rfl, HX.out⟩
end Go.Proofs.YtacfafbnimhibaaDoor
