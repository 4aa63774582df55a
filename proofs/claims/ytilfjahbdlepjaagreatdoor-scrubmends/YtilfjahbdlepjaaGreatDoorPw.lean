/- Texts of plain mathematics, of memory and of walks, in one. -/
import Derived.Test.YtilfjahbdlepjaaGreatDoorMe
import Derived.Test.YtilfjahbdlepjaaGreatDoorCd
import Derived.Test.YtilfjahbdlepjaaGreatDoorMa
import Derived.Deep.Cut
import Derived.Deep.CutRange
import Derived.BigRegion
import Derived.Test.YtilfjahbdlepjaaGreatDoorTxW
/- What field.Pow answers, whatever it is given: by walks over the program. -/
namespace Go.Proofs.YtilfjahbdlepjaaGreatDoor
open Go.ChangeShapes Go.WideShapes Go.ChangeAt Go.RowKit
theorem pow_below (a n : Int) (hn : n < 0) (w : World) :
    Calls Tryz.prog 105 #[.int .u8 a, .int .i64 n] w fun e w' => e = .returned (.tuple #[.int .u8 0, .iface 77 (.int .i64 1)]) ∧ w' = w := by
  go_enter Tryz.func105, Tryz.ntmps105
  go_wp2
  go_ret2
  exact ⟨rfl, rfl⟩
theorem pow_some (a n : Nat) (ha : a < 256) (hn : n ≤ 9223372036854775807) (w : World) :
    Calls Tryz.prog 105 #[.int .u8 a, .int .i64 n] w fun e w' => e = .returned (.tuple #[.int .u8 ((GF.pow a n : Nat) : Int), .nilIface]) ∧ w' = w := by
  have h0 : ¬ (n : Int) < 0 := by omega
  go_enter Tryz.func105, Tryz.ntmps105
  go_wp2_with fail
  refine (power_any a n ha hn _).mono ?_
  rintro e w' ⟨rfl, rfl⟩
  go_wp2_with fail
  go_ret2
  exact ⟨rfl, rfl⟩
end Go.Proofs.YtilfjahbdlepjaaGreatDoor

/- What pq.tooFewOrMany, inQ and sums answer: by walks over the program. -/
namespace Go.Proofs.YtilfjahbdlepjaaGreatDoor
open Go.ChangeShapes Go.WideShapes Go.ChangeAt Go.RowKit El Pol Mx
theorem few_any (k : Int) (w : World) : Calls Tryz.prog 69 #[.int .i64 k] w fun e w' => e = .returned (.bool (decide (k < 1 ∨ 10 < k))) ∧ w' = w := by
  by_cases h1 : k < 1
  · rw [decide_eq_true (.inl h1)]
    go_enter Tryz.func69, Tryz.ntmps69
    go_wp2
    go_ret
    exact ⟨rfl, rfl⟩
  · by_cases h2 : 10 < k
    · rw [decide_eq_true (.inr h2)]
      go_enter Tryz.func69, Tryz.ntmps69
      go_wp2
      go_ret
      exact ⟨rfl, rfl⟩
    · rw [decide_eq_false (by omega)]
      go_enter Tryz.func69, Tryz.ntmps69
      go_wp2
      go_ret
      exact ⟨rfl, rfl⟩
theorem inq_any (i : Nat) (hi : i ≤ 1000) (w : World) : Calls Tryz.prog 91 #[.int .i64 i] w fun e w' => e = .returned (.int .u8 (((g2 i).val : Nat) : Int)) ∧ w' = w := by
  have C := pow_some 2 i (by omega) (by omega) w
  go_enter Tryz.func91, Tryz.ntmps91
  go_wp2_with fail
  refine C.mono ?_
  rintro e w1 ⟨rfl, hw⟩
  obtain rfl := hw.symm
  clear C
  go_wp2
  go_ret
  exact ⟨rfl, rfl⟩
set_option maxRecDepth 100000 in
theorem sums_any (u v : Value) (q n L : Nat) (A D : M) (w : World) (hu : RdM w u 2 (rws A q)) (hv : RdF w v n (fun i => st (row (D i) L))) (hqn : q ≤ n) (h0 : 0 < n) (hL : L ≤ 16) :
    Calls Tryz.prog 71 #[u, v] w fun e w' => e = .returned (.tuple #[st (row (mm q A D 0) L), st (row (mm q A D 1) L)]) ∧ Below w.heap.size w w' := by
  have C := times_any u v 2 q n L A D w hu hv hqn (fun _ => h0) (by omega) hL
  obtain ⟨a1, c1, rfl, _, _⟩ := hu.len
  obtain ⟨a2, c2, rfl, _, _⟩ := hv.len
  clear hu hv
  go_enter Tryz.func71, Tryz.ntmps71
  go_wp2_with fail
  refine C.mono ?_
  rintro e w1 ⟨v1, rfl, hO, hB⟩
  have hR := OwL.rdM hO
  obtain ⟨a3, c3, rfl, _, _⟩ := hR.len
  obtain ⟨ad, rfl, hc0⟩ := hR.at 0 (by omega)
  obtain ⟨ad', e, hc1⟩ := hR.at 1 (by omega)
  cases e
  rw [add_zero] at hc0
  unfold st at hc0 hc1
  obtain ⟨s0, hs0⟩ : ∃ s, s = sb (row (mm q A D 0) L) := ⟨_, rfl⟩
  obtain ⟨s1, hs1⟩ : ∃ s, s = sb (row (mm q A D 1) L) := ⟨_, rfl⟩
  have HS0 : Hid (s0 = sb (row (mm q A D 0) L)) := hs0
  have HS1 : Hid (s1 = sb (row (mm q A D 1) L)) := hs1
  rw [← hs0] at hc0
  rw [← hs1] at hc1
  have hc1' : w1.cell? ⟨ad.block, ad.off + 1, none⟩ = some (.string s1) := hc1
  clear C hO hR hs0 hs1
  go_wp2
  go_quiet (fail)
  have hB2 := below_drewN hB nq
  clear hB hc0 hc1 hc1'
  go_wp2
  go_ret2
  exact ⟨by rw [HS0.out, HS1.out]; rfl, hB2⟩
end Go.Proofs.YtilfjahbdlepjaaGreatDoor

/- What pq.parityRows answers: by a walk over the program. -/
namespace Go.Proofs.YtilfjahbdlepjaaGreatDoor
open Go.ChangeShapes Go.WideShapes Go.ChangeAt Go.RowKit El Pol Mx
/-- the first j columns stand -/
def pz (j : Nat) : M := fun i x => if x < j then pqr i x else 0
theorem pz_set (k j i : Nat) : (row (pz j i) k).set j (pqr i j) = row (pz (j + 1) i) k := by
  refine row_set _ _ k j _ (fun x hx => ?_) ?_
  · unfold pz
    by_cases h : x < j
    · rw [if_pos h, if_pos (by omega)]
    · rw [if_neg h, if_neg (by omega)]
  · unfold pz; rw [if_pos (by omega)]
theorem ownsRow_at {B B' g n c : Nat} {w : World} {e : TypeId} {xs : List Value} (h : w.ownsRow B e 1 (.slice (some ⟨g, 0, none⟩) n c) n xs) (hB : B' ≤ g) : w.ownsRow B' e 1 (.slice (some ⟨g, 0, none⟩) n c) n xs := by
  obtain ⟨h1, h2⟩ := h
  refine ⟨h1, ?_⟩
  rcases h2 with ⟨h2, _⟩ | ⟨g', cap, cur, he, _, rest⟩
  · cases h2
  · simp only [Value.slice.injEq, Option.some.injEq, Addr.mk.injEq, true_and, and_true] at he
    obtain ⟨rfl, rfl⟩ := he
    exact .inr ⟨g, c, cur, rfl, hB, rest⟩
/-- two values laid side by side -/
theorem own_two {B : Nat} {w : World} {e : TypeId} (x y : Value) (hB : B ≤ w.heap.size) : (w.alloc (.cells #[x, y] e)).ownsRow B e 1 (.slice (some ⟨w.heap.size, 0, none⟩) 2 2) 2 [x, y] :=
  ⟨rfl, .inr ⟨w.heap.size, 2, #[x, y], rfl, hB, heap_alloc_new w _, by omega, by unfold maxLen; omega, rfl, rfl⟩⟩
theorem own_made {B k : Nat} {w : World} {Z : Array Value} (hZ : Z = madeCells #[Value.int .u8 0] k) (hk : k ≤ 1000) (hB : B ≤ w.heap.size) : Ow B (w.alloc (.cells Z 5)) (.slice (some ⟨w.heap.size, 0, none⟩) k k) (List.replicate k 0) := by
  subst hZ
  refine Ow.made ⟨by simp [size_madeCells], .inr ⟨w.heap.size, k, _, rfl, hB, heap_alloc_new w _, Nat.le_refl _, by unfold maxLen; omega, by simp [size_madeCells], ?_⟩⟩
  rw [Nat.mul_one, List.take_of_length_le (by simp [size_madeCells])]
/-- two rows side by side -/
def twoV (ga gb k : Nat) : Nat → Value := fun i => if i = 0 then .slice (some ⟨ga, 0, none⟩) k k else .slice (some ⟨gb, 0, none⟩) k k
/-- two rows of noughts, made one behind the other, laid side by side -/
theorem two_rows {B k : Nat} {w : World} {Z : Array Value} (hZ : Z = madeCells #[Value.int .u8 0] k) (hk : k ≤ 1000) (hB : B ≤ w.heap.size) (sw : Bool) (g1 g2 : Nat) (e1 : g1 = bif sw then w.heap.size + 1 else w.heap.size) (e2 : g2 = bif sw then w.heap.size else w.heap.size + 1) :
    OwM B (((w.alloc (.cells Z 5)).alloc (.cells Z 5)).alloc (.cells #[.slice (some ⟨g1, 0, none⟩) k k, .slice (some ⟨g2, 0, none⟩) k k] 82)) (.slice (some ⟨w.heap.size + 1 + 1, 0, none⟩) 2 2) 2 (rws (pz 0) k)
      (twoV g1 g2 k) := by
  unfold twoV
  have hz : ∀ i, row (pz 0 i) k = List.replicate k 0 := fun i => by
    rw [replicate_row]
    exact row_congr (fun j _ => by unfold pz; rw [if_neg (by omega)])
  have al1 : Below (w.alloc (.cells Z 5)).heap.size (w.alloc (.cells Z 5)) ((w.alloc (.cells Z 5)).alloc (.cells Z 5)) := (Below.refl _ _).alloc (Nat.le_refl _) _
  have al2 := fun o : Obj => (Below.refl _ ((w.alloc (.cells Z 5)).alloc (.cells Z 5))).alloc (Nat.le_refl _) o
  have o1 : Ow B (w.alloc (.cells Z 5)) (.slice (some ⟨w.heap.size, 0, none⟩) k k) (List.replicate k 0) := own_made hZ hk hB
  have o2 : Ow B ((w.alloc (.cells Z 5)).alloc (.cells Z 5)) (.slice (some ⟨w.heap.size + 1, 0, none⟩) k k) (List.replicate k 0) := by
    have := own_made (B := B) (w := w.alloc (.cells Z 5)) hZ hk (by simp; omega)
    simpa using this
  have q1 := fun o : Obj => (o1.old al1).old (al2 o)
  have q2 := fun o : Obj => o2.old (al2 o)
  refine ⟨?_, fun i hi => ?_, fun i j hi hj hij => ?_⟩
  · have := own_two (B := B) (w := (w.alloc (.cells Z 5)).alloc (.cells Z 5)) (e := 82) (.slice (some ⟨g1, 0, none⟩) k k) (.slice (some ⟨g2, 0, none⟩) k k) (by simp; omega)
    rw [show (List.range 2).map (fun i => if i = 0 then Value.slice (some ⟨g1, 0, none⟩) k k else Value.slice (some ⟨g2, 0, none⟩) k k) = [.slice (some ⟨g1, 0, none⟩) k k, .slice (some ⟨g2, 0, none⟩) k k] from rfl]
    simpa using this
  · show Ow B _ _ (row (pz 0 i) k)
    rw [hz]
    by_cases e : i = 0
    · rw [if_pos e]
      cases sw
      · subst e1; exact q1 _
      · subst e1; exact q2 _
    · rw [if_neg e]
      cases sw
      · subst e2; exact q2 _
      · subst e2; exact q1 _
  · right
    have hne : g1 ≠ g2 := by cases sw <;> simp at e1 e2 <;> omega
    by_cases e : i = 0
    · rw [if_pos e, if_neg (by omega)]
      simp [Value.ownBlock]; omega
    · rw [if_neg e, if_pos (by omega)]
      simp [Value.ownBlock]; omega
set_option maxRecDepth 100000 in
set_option maxHeartbeats 2000000 in
theorem pqrows_cap (k : Nat) (h1 : 1 ≤ k) (h10 : k ≤ 10) (w : World) :
    Calls Tryz.prog 72 #[.int .i64 k] w fun e w' => ∃ (g ga gb : Nat), e = .returned (.slice (some ⟨g, 0, none⟩) 2 2) ∧ OwM w.heap.size w' (.slice (some ⟨g, 0, none⟩) 2 2) 2 (rws pqr k) (twoV ga gb k) ∧ Below w.heap.size w w' := by
  obtain ⟨i0, hi, hz0, hz1, hz2⟩ := info_parts info8
  obtain ⟨Z, hZ⟩ : ∃ Z, Z = madeCells #[Value.int .u8 0] k := ⟨_, rfl⟩
  have HZ : Hid (Z = madeCells #[Value.int .u8 0] k) := hZ
  have hmk : ∀ W : World, (Instr.makeSlice 82 (.int .i64 (k : Int)) (.int .i64 (k : Int))).run Tryz.prog W = .ok (.slice (some ⟨W.heap.size, 0, none⟩) k k) (W.alloc (.cells Z 5)) := fun W => by
    have := run_make (P := Tryz.prog) W 82 5 i0 (.int .u8 0) Tryz.underlying82 hi hz0 .i64 .i64 (k : Int) (k : Int) (by omega) (by omega) (by rw [hz2]; omega) (by omega)
    rw [this, hz1, Int.toNat_natCast, Nat.mul_one, hZ]
    rfl
  clear hZ
  go_enter Tryz.func72, Tryz.ntmps72
  go_upto_region 1 with fail
  go_cut [3] from 5 to 9 (fun s wx => ∃ (g ga gb : Nat), s = .slice (some ⟨g, 0, none⟩) 2 2 ∧ OwM w.heap.size wx (.slice (some ⟨g, 0, none⟩) 2 2) 2 (rws (pz 0) k) (twoV ga gb k) ∧ Below w.heap.size w wx)
  case first =>
    go_region
    · have hO := two_rows (B := w.heap.size) (w := w) HZ.out (by omega) (Nat.le_refl _) false w.heap.size (w.heap.size + 1) rfl rfl
      have hB : Below w.heap.size w ((((w.alloc (.cells Z 5)).alloc (.cells Z 5)).alloc (.cells #[.slice (some ⟨w.heap.size, 0, none⟩) k k, .slice (some ⟨w.heap.size + 1, 0, none⟩) k k] 82)).drew) := ((((Below.refl _ _).alloc (Nat.le_refl _) _).alloc (by simp) _).alloc (by simp; omega) _).drew
      have hO2 := hO.old (w' := (((w.alloc (.cells Z 5)).alloc (.cells Z 5)).alloc (.cells #[.slice (some ⟨w.heap.size, 0, none⟩) k k, .slice (some ⟨w.heap.size + 1, 0, none⟩) k k] 82)).drew) ⟨rfl, rfl, rfl, Nat.le_refl _, fun _ _ => rfl⟩
      go_wp2_with fail
      go_meet
      case rel => exact ⟨_, _, _, rfl, hO2, hB⟩
    · have hO := two_rows (B := w.heap.size) (w := w) HZ.out (by omega) (Nat.le_refl _) true (w.heap.size + 1) w.heap.size rfl rfl
      have hB : Below w.heap.size w ((((w.alloc (.cells Z 5)).alloc (.cells Z 5)).alloc (.cells #[.slice (some ⟨w.heap.size + 1, 0, none⟩) k k, .slice (some ⟨w.heap.size, 0, none⟩) k k] 82)).drew) := ((((Below.refl _ _).alloc (Nat.le_refl _) _).alloc (by simp) _).alloc (by simp; omega) _).drew
      have hO2 := hO.old (w' := (((w.alloc (.cells Z 5)).alloc (.cells Z 5)).alloc (.cells #[.slice (some ⟨w.heap.size + 1, 0, none⟩) k k, .slice (some ⟨w.heap.size, 0, none⟩) k k] 82)).drew) ⟨rfl, rfl, rfl, Nat.le_refl _, fun _ _ => rfl⟩
      go_wp2_with fail
      go_meet
      case rel => exact ⟨_, _, _, rfl, hO2, hB⟩
  case rest =>
    obtain ⟨g, ga, gb, rfl, hO, hB⟩ := hcut
    obtain ⟨rv, hrv⟩ : ∃ rv, rv = twoV ga gb k := ⟨_, rfl⟩
    have HRV : Hid (rv = twoV ga gb k) := hrv
    rw [← hrv] at hO
    clear hrv
    clear hmk HZ
    go_wp2
    go_loopw [11] (fun t wr => ∃ j : Nat, j ≤ k ∧ t = .int .i64 j ∧ OwM w.heap.size wr (.slice (some ⟨g, 0, none⟩) 2 2) 2 (rws (pz j) k) rv ∧ Below w.heap.size w wr) (fun t _ => k - (intOf t).toNat)
    case atStart => exact ⟨0, Nat.zero_le _, rfl, hO, hB⟩
    case round =>
      clear hO hB
      obtain ⟨j, hj, rfl, hO, hB⟩ := hrel
      by_cases hlt : j < k
      · have hne0 : row (pz j 0) k ≠ [] := by rw [← List.length_pos_iff, row_length]; omega
        have hne1 : row (pz j 1) k ≠ [] := by rw [← List.length_pos_iff, row_length]; omega
        obtain ⟨g0, c0, e0, hb0, hl0, _, _⟩ := (hO.row 0 (by omega)).at hne0
        obtain ⟨g1, c1, e1, hb1, hl1, _, _⟩ := (hO.row 1 (by omega)).at hne1
        rw [row_length] at e0 e1
        have hap := hO.apart 0 1 (by omega) (by omega) (by omega)
        rw [e0, e1] at hap
        have hg01 : g0 ≠ g1 := by simpa [Value.ownBlock] using hap
        have hcA := hO.cell 0 (by omega)
        have hcB := hO.cell 1 (by omega)
        rw [e0] at hcA
        rw [e1] at hcB
        have r0 := hO.row 0 (by omega)
        have r1 := hO.row 1 (by omega)
        rw [e0] at r0
        rw [e1] at r1
        have hc0 := r0.cell (by rw [row_length]) j hlt
        have hc1 := r1.cell (by rw [row_length]) j hlt
        have hf0 := r0.free (by rw [row_length]) j
        have hf1 := r1.free (by rw [row_length]) j
        have S0 : OwM w.heap.size (wr.setCell ⟨g0, j, none⟩ (.int .u8 1)) (.slice (some ⟨g, 0, none⟩) 2 2) 2 (fun x => if x = 0 then (row (pz j 0) k).set j 1 else rws (pz j) k x) rv ∧ wr.grownBy (wr.setCell ⟨g0, j, none⟩ (.int .u8 1)) (some g0) := hO.stored 0 (by omega) (by rw [row_length]; exact e0) j 1
        have S1 := S0.1.stored 1 (by omega) (by rw [if_neg (by omega), row_length]; exact e1) j (g2 j)
        have hB2 := hB.trans (below_of_grownAt S0.2 hB.size hb0)
        have hB3 := hB2.trans (below_of_grownAt S1.2 hB2.size hb1)
        have R1 : OwM w.heap.size ((wr.setCell ⟨g0, j, none⟩ (.int .u8 1)).setCell ⟨g1, j, none⟩ (.int .u8 (((g2 j).val : Nat) : Int))).drew (.slice (some ⟨g, 0, none⟩) 2 2) 2 (rws (pz (j + 1)) k) rv := (S1.1.congr (fun i hi => by
          by_cases e : i = 1
          · subst e
            rw [if_pos rfl, if_neg (by omega)]
            exact pz_set k j 1
          · obtain rfl : i = 0 := by omega
            rw [if_neg (by omega), if_pos rfl]
            exact pz_set k j 0)).old ⟨rfl, rfl, rfl, Nat.le_refl _, fun _ _ => rfl⟩
        have R2 : Below w.heap.size w ((wr.setCell ⟨g0, j, none⟩ (.int .u8 1)).setCell ⟨g1, j, none⟩ (.int .u8 (((g2 j).val : Nat) : Int))).drew := hB3.drew
        clear S0 S1 hB2 hB3 r0 r1 hap hO hB
        go_wp2
        go_region_with (first | (go_at_call 91; refine (inq_any j (by omega) _).mono ?_; rintro e w1 ⟨rfl, rfl⟩))
        all_goals
          clear hcA hcB hc0 hc1 hf0 hf1
          go_wp2
          go_roundw
          case rel => exact ⟨j + 1, by omega, by go_num, R1, R2⟩
          case measure => simp [intOf]; omega
      · have hF : OwM w.heap.size wr (.slice (some ⟨g, 0, none⟩) 2 2) 2 (rws pqr k) rv := hO.congr (fun i _ => row_congr (fun x hx => by unfold pz; rw [if_pos (by omega)]))
        clear hO
        go_wp2
        go_ret
        rw [HRV.out] at hF
        exact ⟨_, _, _, rfl, hF, hB⟩
theorem pqrows_any (k : Nat) (h1 : 1 ≤ k) (h10 : k ≤ 10) (w : World) :
    Calls Tryz.prog 72 #[.int .i64 k] w fun e w' => ∃ (v' : Value) (rv : Nat → Value), e = .returned v' ∧ OwM w.heap.size w' v' 2 (rws pqr k) rv ∧ Below w.heap.size w w' :=
  (pqrows_cap k h1 h10 w).mono fun _ _ ⟨_, _, _, he, ho, hb⟩ => ⟨_, _, he, ho, hb⟩
end Go.Proofs.YtilfjahbdlepjaaGreatDoor

/- What pq.Encode answers, of anything at all: by walks over the program. -/
namespace Go.Proofs.YtilfjahbdlepjaaGreatDoor
open Go.ChangeShapes Go.WideShapes Go.ChangeAt Go.RowKit El Pol Mx
theorem errV_bad {c : Nat} (h : c ≠ 0) : errV c = .iface 77 (.int .i64 c) := if_neg h
/-- the fault of Encode -/
def pqf (n : Nat) (a : Nat → List El) : Nat := if n < 1 ∨ 10 < n then 1 else bbad n a
theorem pqf_ok {n : Nat} {a : Nat → List El} (h : pqf n a = 0) : 1 ≤ n ∧ n ≤ 10 ∧ bbad n a = 0 := by
  unfold pqf at h
  by_cases q : n < 1 ∨ 10 < n
  · rw [if_pos q] at h; omega
  · rw [if_neg q] at h; exact ⟨by omega, by omega, h⟩
set_option maxRecDepth 100000 in
set_option maxHeartbeats 400000 in
theorem pencode_bad (v : Value) (n c : Nat) (a : Nat → List El) (w : World) (h : RdF w v n (fun i => st (a i))) (hn : n ≤ 8796093021952) (hc : pqf n a = c) (h0 : c ≠ 0) :
    Calls Tryz.prog 42 #[v] w fun e w' => e = .returned (.tuple #[.string ⟨#[]⟩, .string ⟨#[]⟩, .iface 77 (.int .i64 c)]) ∧ Below w.heap.size w w' := by
  obtain ⟨ao, cap, rfl, _, _⟩ := h.len
  unfold pqf at hc
  have C := few_any (n : Int) w
  by_cases q : n < 1 ∨ 10 < n
  · rw [if_pos q] at hc
    subst hc
    rw [decide_eq_true (by omega)] at C
    clear h q
    go_enter Tryz.func42, Tryz.ntmps42
    go_wp2_with fail
    refine C.mono ?_
    rintro e w1 ⟨rfl, hw⟩
    obtain rfl := hw.symm
    clear C
    go_wp2
    go_ret3
    exact ⟨rfl, Below.refl _ _⟩
  · rw [if_neg q] at hc
    rw [decide_eq_false (by omega)] at C
    have D := blocks_bad (.slice ao n cap) n c a w h hn (by omega) hc h0
    clear h hc q
    go_enter Tryz.func42, Tryz.ntmps42
    go_wp2_with fail
    refine C.mono ?_
    rintro e w1 ⟨rfl, hw⟩
    obtain rfl := hw.symm
    clear C
    go_wp2_with fail
    refine D.mono ?_
    rintro e w2 ⟨rfl, hB⟩
    clear D
    go_wp2
    go_ret3
    exact ⟨rfl, hB⟩
theorem rows_p (n L : Nat) (D : M) : row (mm n pqr D 0) L = row (pp n D) L := row_congr (fun l _ => mm_pqr0 n D l)
theorem rows_q (n L : Nat) (D : M) : row (mm n pqr D 1) L = row (qq n D) L := row_congr (fun l _ => mm_pqr1 n D l)
set_option maxRecDepth 100000 in
set_option maxHeartbeats 400000 in
theorem pencode_ok (n L : Nat) (h1 : 1 ≤ n) (h2 : n ≤ 10) (v : Value) (a : Nat → List El) (w : World) (h : RdF w v n (fun i => st (a i))) (hl : ∀ i, i < n → (a i).length = L) (hL : L ≤ 16) :
    Calls Tryz.prog 42 #[v] w fun e w' => e = .returned (.tuple #[st (row (pp n (mx a)) L), st (row (qq n (mx a)) L), .nilIface]) ∧ Below w.heap.size w w' := by
  have C := few_any (n : Int) w
  rw [decide_eq_false (by omega)] at C
  have D := blocks_ok v n a w h (by omega) h1 (bbad_of (fun i hi => by rw [hl i hi, hl 0 (by omega)]) (by rw [hl 0 (by omega)]; exact hL))
  have HR : Hid (RdF w v n (fun i => st (row (mx a i) L))) := blocks_rows h hl
  obtain ⟨ao, cap, rfl, _, _⟩ := h.len
  clear h hl
  go_enter Tryz.func42, Tryz.ntmps42
  go_wp2_with fail
  refine C.mono ?_
  rintro e w1 ⟨rfl, hw⟩
  obtain rfl := hw.symm
  clear C
  go_wp2_with fail
  refine D.mono ?_
  rintro e w2 ⟨rfl, hB2⟩
  clear D
  go_wp2_with fail
  refine (pqrows_any n h1 h2 w2).mono ?_
  rintro e w3 ⟨v3, rv, rfl, hO, hB3⟩
  have hB4 := hB2.trans (hB3.mono hB2.size)
  have T := sums_any v3 (.slice ao n cap) n n L pqr (mx a) w3 hO.rd (HR.out.old hB4) (Nat.le_refl _) (by omega) hL
  rw [rows_p, rows_q] at T
  obtain ⟨a3, c3, rfl, _, _⟩ := hO.rd.len
  obtain ⟨s0, hs0⟩ : ∃ s, s = st (row (pp n (mx a)) L) := ⟨_, rfl⟩
  obtain ⟨s1, hs1⟩ : ∃ s, s = st (row (qq n (mx a)) L) := ⟨_, rfl⟩
  have HS0 : Hid (s0 = st (row (pp n (mx a)) L)) := hs0
  have HS1 : Hid (s1 = st (row (qq n (mx a)) L)) := hs1
  rw [← hs0, ← hs1] at T
  clear hO hB2 hB3 hs0 hs1
  go_wp2_with fail
  refine T.mono ?_
  rintro e w5 ⟨rfl, hB5⟩
  have hB6 := hB4.trans (hB5.mono hB4.size)
  clear T hB5 hB4
  go_wp2
  go_ret3
  exact ⟨by rw [HS0.out, HS1.out]; rfl, hB6⟩
end Go.Proofs.YtilfjahbdlepjaaGreatDoor

/- Texts that are the same (TxW), beside the walks of codes. -/

/- What pq.Heal answers, of anything at all: by walks over the program. -/
namespace Go.Proofs.YtilfjahbdlepjaaGreatDoor
open Go.ChangeShapes Go.WideShapes Go.ChangeAt Go.RowKit El Pol Mx
/-- the fault of Heal -/
def phf (np nl : Nat) (a : Nat → List El) (lost : Nat → Bool) : Nat := if np < 3 ∨ 12 < np then 1 else if nl ≠ np then 3 else df (np - 2) np a lost
theorem phf_ok {np nl : Nat} {a : Nat → List El} {lost : Nat → Bool} (h : phf np nl a lost = 0) : 3 ≤ np ∧ np ≤ 12 ∧ nl = np ∧ np - 2 ≤ (ix lost np).length ∧ bbad (ix lost np).length (fun i => a (at' lost np i)) = 0 := by
  unfold phf at h
  by_cases q : np < 3 ∨ 12 < np
  · rw [if_pos q] at h; omega
  · rw [if_neg q] at h
    by_cases q2 : nl ≠ np
    · rw [if_pos q2] at h; omega
    · rw [if_neg q2] at h
      unfold df at h
      by_cases q3 : (ix lost np).length < np - 2
      · rw [if_pos q3] at h; omega
      · rw [if_neg q3] at h
        exact ⟨by omega, by omega, by omega, by omega, h⟩
set_option maxRecDepth 100000 in
set_option maxHeartbeats 1000000 in
theorem pheal_bad (v lv : Value) (np nl c : Nat) (a : Nat → List El) (lost : Nat → Bool) (w : World) (h : RdF w v np (fun i => st (a i))) (hl : RdF w lv nl (fun i => .bool (lost i))) (hn : np ≤ 8796093021952) (hnl : nl ≤ 140737488351232)
    (hc : phf np nl a lost = c) (h0 : c ≠ 0) :
    Calls Tryz.prog 68 #[v, lv] w fun e w' => e = .returned (.tuple #[.slice none 0 0, .iface 77 (.int .i64 c)]) ∧ Below w.heap.size w w' := by
  obtain ⟨ao, cap, rfl, _, _⟩ := h.len
  obtain ⟨al, cl, rfl, _, _⟩ := hl.len
  unfold phf at hc
  by_cases q : np < 3 ∨ 12 < np
  · rw [if_pos q] at hc
    subst hc
    have C := few_any ((np : Int) - 2) w
    rw [decide_eq_true (by omega)] at C
    clear h hl q
    go_enter Tryz.func68, Tryz.ntmps68
    go_wp2_with fail
    refine C.mono ?_
    rintro e w1 ⟨rfl, hw⟩
    obtain rfl := hw.symm
    clear C
    go_wp2
    go_ret2
    exact ⟨rfl, Below.refl _ _⟩
  · rw [if_neg q] at hc
    obtain ⟨k, rfl⟩ : ∃ k, np = k + 2 := ⟨np - 2, by omega⟩
    have C := few_any (k : Int) w
    rw [decide_eq_false (by omega)] at C
    by_cases q2 : nl ≠ k + 2
    · rw [if_pos q2] at hc
      subst hc
      have hne : ((nl : Int) != (k : Int) + 2) = true := by rw [bne_iff_ne]; omega
      clear h hl q q2
      go_enter Tryz.func68, Tryz.ntmps68
      go_wp2_with fail
      refine C.mono ?_
      rintro e w1 ⟨rfl, hw⟩
      obtain rfl := hw.symm
      clear C
      go_wp2
      go_ret2
      exact ⟨rfl, Below.refl _ _⟩
    · rw [if_neg q2] at hc
      obtain rfl : nl = k + 2 := by omega
      rw [show k + 2 - 2 = k by omega] at hc
      have HD : Hid (∀ (w1 : World), Below w.heap.size w w1 → ∀ (u : Value) (R : Nat → List El), RdM w1 u 2 R → Calls Tryz.prog 86 #[u, .slice ao (k + 2) cap, .slice al (k + 2) cl] w1 fun e w' => e = .returned (.tuple #[.slice none 0 0, .iface 77 (.int .i64 c)]) ∧ Below w1.heap.size w1 w') := fun w1 hB u R hu =>
        regain_bad k 2 (by omega) (by omega) u _ _ R a lost c w1 hu (h.old hB) (hl.old hB) hc h0
      have hk1 : 1 ≤ k := by omega
      have hk2 : k ≤ 10 := by omega
      clear h hl q q2 hc
      go_enter Tryz.func68, Tryz.ntmps68
      go_wp2_with fail
      refine C.mono ?_
      rintro e w1 ⟨rfl, hw⟩
      obtain rfl := hw.symm
      clear C
      go_wp2_with fail
      refine (pqrows_any k hk1 hk2 _).mono ?_
      rintro e w2 ⟨v2, rv2, rfl, hO2, hB2⟩
      have E := HD.out w2 hB2 v2 _ hO2.rd
      obtain ⟨a2, c2, rfl, _, _⟩ := hO2.rd.len
      clear hO2 HD
      go_wp2_with fail
      refine E.mono ?_
      rintro e w3 ⟨rfl, hB3⟩
      have hB4 := hB2.trans (hB3.mono hB2.size)
      clear E hB2 hB3
      go_wp2
      go_ret2
      exact ⟨rfl, hB4⟩
theorem two_cells {w : World} {x y : Value} (t : TypeId) : ∀ j u, [x, y][j]? = some u → (w.alloc (.cells #[x, y] t)).cell? ((⟨w.heap.size, 0, none⟩ : Addr).add j) = some u := by
  intro j u hj
  have h := heap_alloc_new w (.cells #[x, y] t)
  match j, hj with
  | 0, hj => simp at hj; subst hj; rw [show (⟨w.heap.size, 0, none⟩ : Addr).add 0 = ⟨w.heap.size, 0, none⟩ from rfl, cell_of_row _ _ 0 _ _ _ h]; rfl
  | 1, hj => simp at hj; subst hj; rw [show (⟨w.heap.size, 0, none⟩ : Addr).add 1 = ⟨w.heap.size, 1, none⟩ from by unfold Addr.add; simp, cell_of_row _ _ 1 _ _ _ h]; rfl
theorem pqp_texts (k L : Nat) (D : M) : (List.range k).map (fun i => st (row (D i) L)) ++ [st (row (pp k D) L), st (row (qq k D) L)] = (List.range (k + 2)).map (fun i => st (row (pqp k D i) L)) := by
  rw [List.range_succ, List.range_succ, List.map_append, List.map_append, List.append_assoc]
  congr 1
  · exact List.map_congr_left (fun i hi => by rw [pqp_data (List.mem_range.1 hi)])
  · rw [List.map_cons, List.map_nil, List.map_cons, List.map_nil, pqp_p, pqp_q]
    rfl
set_option maxRecDepth 100000 in
set_option maxHeartbeats 1000000 in
theorem pheal_ok (k L : Nat) (h1 : 1 ≤ k) (h2 : k ≤ 10) (v lv : Value) (a : Nat → List El) (lost : Nat → Bool) (w : World) (h : RdF w v (k + 2) (fun i => st (a i))) (hl : RdF w lv (k + 2) (fun i => .bool (lost i)))
    (hk : k ≤ (ix lost (k + 2)).length) (hL : ∀ i, i < (ix lost (k + 2)).length → (a (at' lost (k + 2) i)).length = L) (hL16 : L ≤ 16) :
    Calls Tryz.prog 68 #[v, lv] w fun e w' => ∃ (v' : Value) (D : M), e = .returned (.tuple #[v', .nilIface]) ∧ Healed k L (mx a) lost D ∧
      w'.ownsRow w.heap.size 9 1 v' (k + 2) ((List.range (k + 2)).map (fun i => st (row (pqp k D i) L))) ∧ Below w.heap.size w w' := by
  obtain ⟨j0, hj, hy0, hy1, hy2⟩ := info_parts infoT
  have HD : Hid (∀ (w1 : World), Below w.heap.size w w1 → ∀ (u : Value), RdM w1 u 2 (rws pqr k) → Calls Tryz.prog 86 #[u, v, lv] w1 fun e w' => ∃ (v' : Value) (D : M), e = .returned (.tuple #[v', .nilIface]) ∧ Healed k L (mx a) lost D ∧
      w'.ownsRow w1.heap.size 9 1 v' k ((List.range k).map (fun i => st (row (D i) L))) ∧ Below w1.heap.size w1 w') := fun w1 hB u hu =>
    (regain_ok k 2 L h1 (by omega) u v lv pqr a lost w1 hu (h.old hB) (hl.old hB) hk hL hL16 (pq_not h2 hk)).mono fun e w' ⟨v', T, he, hI, ho, hb⟩ => ⟨v', _, he, healed_inv hk hI (fun i l _ _ => rfl), ho, hb⟩
  obtain ⟨ao, cap, rfl, _, _⟩ := h.len
  obtain ⟨al, cl, rfl, _, _⟩ := hl.len
  have C := few_any (k : Int) w
  rw [decide_eq_false (by omega)] at C
  clear h hl hL hk
  go_enter Tryz.func68, Tryz.ntmps68
  go_wp2_with fail
  refine C.mono ?_
  rintro e w1 ⟨rfl, hw⟩
  obtain rfl := hw.symm
  clear C
  go_wp2_with fail
  refine (pqrows_any k h1 h2 _).mono ?_
  rintro e w2 ⟨v2, rv2, rfl, hO2, hB2⟩
  have E := HD.out w2 hB2 v2 hO2.rd
  have HO2 : Hid (OwM w.heap.size w2 v2 2 (rws pqr k) rv2) := hO2
  obtain ⟨a2, c2, rfl, _, _⟩ := hO2.rd.len
  clear hO2 HD
  go_wp2_with fail
  refine E.mono ?_
  rintro e w3 ⟨v3, D, rfl, hH, hO3, hB3⟩
  have HH : Hid (Healed k L (mx a) lost D) := hH
  have hB03 := hB2.trans (hB3.mono hB2.size)
  have T := sums_any (.slice a2 2 c2) v3 k k L pqr D w3 (HO2.out.old hB3).rd (OwL.rdM hO3) (Nat.le_refl _) (by omega) hL16
  rw [rows_p, rows_q] at T
  have HO3 : Hid (w3.ownsRow w2.heap.size 9 1 v3 k ((List.range k).map (fun i => st (row (D i) L)))) := hO3
  have hs2 := hB2.size
  obtain ⟨a3, c3, rfl, _, _⟩ := (OwL.rdM hO3).len
  obtain ⟨s0, hs0⟩ : ∃ s, s = sb (row (pp k D) L) := ⟨_, rfl⟩
  obtain ⟨s1, hs1⟩ : ∃ s, s = sb (row (qq k D) L) := ⟨_, rfl⟩
  have HS0 : Hid (s0 = sb (row (pp k D) L)) := hs0
  have HS1 : Hid (s1 = sb (row (qq k D) L)) := hs1
  unfold st at T
  rw [← hs0, ← hs1] at T
  clear E hH hB2 hB3 hO3 HO2 hs0 hs1
  go_wp2_with fail
  refine T.mono ?_
  rintro e w4 ⟨rfl, hB4⟩
  have hB04 := hB03.trans (hB4.mono hB03.size)
  have hO4 := ownsRow_mono (ownsRow_old HO3.out hB4) hs2
  have HF : Hid (∀ (v' : Value) (w' : World), w'.ownsRow w.heap.size 9 1 v' (k + 2) ((List.range k).map (fun i => st (row (D i) L)) ++ [.string s0, .string s1]) → w'.ownsRow w.heap.size 9 1 v' (k + 2) ((List.range (k + 2)).map (fun i => st (row (pqp k D i) L)))) := fun v' w' ho => by
    rw [HS0.out, HS1.out, pqp_texts] at ho
    exact ho
  have hs4 := hB04.size
  clear T hB4 hB03 HO3 HS0 HS1
  generalize (List.range k).map (fun i => st (row (D i) L)) = xs at *
  go_wp2_with (first | (at_builtin; refine wpList_append_own _ rfl _ _ 48 rfl w.heap.size 9 j0 (.string ⟨#[]⟩) 1 16 Tryz.underlying48 hj hy0 hy1 hy2 rfl (by decide) _ _ _ rfl (World.ownsRow.alloc hO4 _) ⟨w4.heap.size, 0, none⟩ 2 2 [.string s0, .string s1] rfl rfl (two_cells _) (by intro u hu; simp at hu; rcases hu with rfl | rfl <;> rfl) (by unfold maxLen; omega) (by omega) (by simp; omega) ?_))
  intro v5 w5 hown hgrow _
  have hO5 := HF.out v5 w5 hown
  have hB5 : Below w.heap.size w w5 := (hB04.alloc hs4 _).grown hgrow (by simp; omega) (fun g hg => (World.ownsRow.lt hO4 g hg).1)
  clear hown hgrow hO4 hB04 HF
  go_wp2
  go_ret2
  exact ⟨_, D, rfl, HH.out, hO5, hB5⟩
end Go.Proofs.YtilfjahbdlepjaaGreatDoor
