/- What pq.parityRows answers: by a walk over the program. -/
import Derived.Test.YtacanmjimngloakPqW1
import Derived.Deep.Cut
import Derived.Deep.CutRange
import Derived.BigRegion
namespace Go.Proofs.Ytacanmjimngloak
open Go.ChangeShapes Go.WideShapes Go.ChangeAt Go.RowKit El Pol Mx
/-- the first j columns stand -/
def pz (j : Nat) : M := fun i x => if x < j then pqr i x else 0
theorem pz_set (k j i : Nat) : (row (pz j i) k).set j (pqr i j) = row (pz (j + 1) i) k := by
  refine row_set _ _ k j _ (fun x hx => ?_) ?_
  · unfold pz
    by_cases h : x < j
    · rw [if_pos h, if_pos (by omega)]
    · rw [if_neg h, if_neg (by omega)]
  · unfold pz; rw [if_pos (by omega)]
theorem ownsRow_at {B B' g n c : Nat} {w : World} {e : TypeId} {xs : List Value} (h : w.ownsRow B e 1 (.slice (some ⟨g, 0, none⟩) n c) n xs) (hB : B' ≤ g) : w.ownsRow B' e 1 (.slice (some ⟨g, 0, none⟩) n c) n xs := by
  obtain ⟨h1, h2⟩ := h
  refine ⟨h1, ?_⟩
  rcases h2 with ⟨h2, _⟩ | ⟨g', cap, cur, he, _, rest⟩
  · cases h2
  · simp only [Value.slice.injEq, Option.some.injEq, Addr.mk.injEq, true_and, and_true] at he
    obtain ⟨rfl, rfl⟩ := he
    exact .inr ⟨g, c, cur, rfl, hB, rest⟩
/-- two values laid side by side -/
theorem own_two {B : Nat} {w : World} {e : TypeId} (x y : Value) (hB : B ≤ w.heap.size) : (w.alloc (.cells #[x, y] e)).ownsRow B e 1 (.slice (some ⟨w.heap.size, 0, none⟩) 2 2) 2 [x, y] :=
  ⟨rfl, .inr ⟨w.heap.size, 2, #[x, y], rfl, hB, heap_alloc_new w _, by omega, by unfold maxLen; omega, rfl, rfl⟩⟩
theorem own_made {B k : Nat} {w : World} {Z : Array Value} (hZ : Z = madeCells #[Value.int .u8 0] k) (hk : k ≤ 1000) (hB : B ≤ w.heap.size) : Ow B (w.alloc (.cells Z 5)) (.slice (some ⟨w.heap.size, 0, none⟩) k k) (List.replicate k 0) := by
  subst hZ
  refine Ow.made ⟨by simp [size_madeCells], .inr ⟨w.heap.size, k, _, rfl, hB, heap_alloc_new w _, Nat.le_refl _, by unfold maxLen; omega, by simp [size_madeCells], ?_⟩⟩
  rw [Nat.mul_one, List.take_of_length_le (by simp [size_madeCells])]
/-- two rows side by side -/
def twoV (ga gb k : Nat) : Nat → Value := fun i => if i = 0 then .slice (some ⟨ga, 0, none⟩) k k else .slice (some ⟨gb, 0, none⟩) k k
/-- two rows of noughts, made one behind the other, laid side by side -/
theorem two_rows {B k : Nat} {w : World} {Z : Array Value} (hZ : Z = madeCells #[Value.int .u8 0] k) (hk : k ≤ 1000) (hB : B ≤ w.heap.size) (sw : Bool) (g1 g2 : Nat) (e1 : g1 = bif sw then w.heap.size + 1 else w.heap.size) (e2 : g2 = bif sw then w.heap.size else w.heap.size + 1) :
    OwM B (((w.alloc (.cells Z 5)).alloc (.cells Z 5)).alloc (.cells #[.slice (some ⟨g1, 0, none⟩) k k, .slice (some ⟨g2, 0, none⟩) k k] 74)) (.slice (some ⟨w.heap.size + 1 + 1, 0, none⟩) 2 2) 2 (rws (pz 0) k)
      (twoV g1 g2 k) := by
  unfold twoV
  have hz : ∀ i, row (pz 0 i) k = List.replicate k 0 := fun i => by
    rw [replicate_row]
    exact row_congr (fun j _ => by unfold pz; rw [if_neg (by omega)])
  have al1 : Below (w.alloc (.cells Z 5)).heap.size (w.alloc (.cells Z 5)) ((w.alloc (.cells Z 5)).alloc (.cells Z 5)) := (Below.refl _ _).alloc (Nat.le_refl _) _
  have al2 := fun o : Obj => (Below.refl _ ((w.alloc (.cells Z 5)).alloc (.cells Z 5))).alloc (Nat.le_refl _) o
  have o1 : Ow B (w.alloc (.cells Z 5)) (.slice (some ⟨w.heap.size, 0, none⟩) k k) (List.replicate k 0) := own_made hZ hk hB
  have o2 : Ow B ((w.alloc (.cells Z 5)).alloc (.cells Z 5)) (.slice (some ⟨w.heap.size + 1, 0, none⟩) k k) (List.replicate k 0) := by
    have := own_made (B := B) (w := w.alloc (.cells Z 5)) hZ hk (by simp; omega)
    simpa using this
  have q1 := fun o : Obj => (o1.old al1).old (al2 o)
  have q2 := fun o : Obj => o2.old (al2 o)
  refine ⟨?_, fun i hi => ?_, fun i j hi hj hij => ?_⟩
  · have := own_two (B := B) (w := (w.alloc (.cells Z 5)).alloc (.cells Z 5)) (e := 74) (.slice (some ⟨g1, 0, none⟩) k k) (.slice (some ⟨g2, 0, none⟩) k k) (by simp; omega)
    rw [show (List.range 2).map (fun i => if i = 0 then Value.slice (some ⟨g1, 0, none⟩) k k else Value.slice (some ⟨g2, 0, none⟩) k k) = [.slice (some ⟨g1, 0, none⟩) k k, .slice (some ⟨g2, 0, none⟩) k k] from rfl]
    simpa using this
  · show Ow B _ _ (row (pz 0 i) k)
    rw [hz]
    by_cases e : i = 0
    · rw [if_pos e]
      cases sw
      · subst e1; exact q1 _
      · subst e1; exact q2 _
    · rw [if_neg e]
      cases sw
      · subst e2; exact q2 _
      · subst e2; exact q1 _
  · right
    have hne : g1 ≠ g2 := by cases sw <;> simp at e1 e2 <;> omega
    by_cases e : i = 0
    · rw [if_pos e, if_neg (by omega)]
      simp [Value.ownBlock]; omega
    · rw [if_neg e, if_pos (by omega)]
      simp [Value.ownBlock]; omega
set_option maxRecDepth 100000 in
set_option maxHeartbeats 2000000 in
theorem pqrows_cap (k : Nat) (h1 : 1 ≤ k) (h10 : k ≤ 10) (w : World) :
    Calls Try.prog 27 #[.int .i64 k] w fun e w' => ∃ (g ga gb : Nat), e = .returned (.slice (some ⟨g, 0, none⟩) 2 2) ∧ OwM w.heap.size w' (.slice (some ⟨g, 0, none⟩) 2 2) 2 (rws pqr k) (twoV ga gb k) ∧ Below w.heap.size w w' := by
  obtain ⟨i0, hi, hz0, hz1, hz2⟩ := info_parts info8
  obtain ⟨Z, hZ⟩ : ∃ Z, Z = madeCells #[Value.int .u8 0] k := ⟨_, rfl⟩
  have HZ : Hid (Z = madeCells #[Value.int .u8 0] k) := hZ
  have hmk : ∀ W : World, (Instr.makeSlice 74 (.int .i64 (k : Int)) (.int .i64 (k : Int))).run Try.prog W = .ok (.slice (some ⟨W.heap.size, 0, none⟩) k k) (W.alloc (.cells Z 5)) := fun W => by
    have := run_make (P := Try.prog) W 74 5 i0 (.int .u8 0) Try.underlying74 hi hz0 .i64 .i64 (k : Int) (k : Int) (by omega) (by omega) (by rw [hz2]; omega) (by omega)
    rw [this, hz1, Int.toNat_natCast, Nat.mul_one, hZ]
    rfl
  clear hZ
  go_enter Try.func27, Try.ntmps27
  go_upto_region 1 with fail
  go_cut [3] from 5 to 9 (fun s wx => ∃ (g ga gb : Nat), s = .slice (some ⟨g, 0, none⟩) 2 2 ∧ OwM w.heap.size wx (.slice (some ⟨g, 0, none⟩) 2 2) 2 (rws (pz 0) k) (twoV ga gb k) ∧ Below w.heap.size w wx)
  case first =>
    go_region
    · have hO := two_rows (B := w.heap.size) (w := w) HZ.out (by omega) (Nat.le_refl _) false w.heap.size (w.heap.size + 1) rfl rfl
      have hB : Below w.heap.size w ((((w.alloc (.cells Z 5)).alloc (.cells Z 5)).alloc (.cells #[.slice (some ⟨w.heap.size, 0, none⟩) k k, .slice (some ⟨w.heap.size + 1, 0, none⟩) k k] 74)).drew) := ((((Below.refl _ _).alloc (Nat.le_refl _) _).alloc (by simp) _).alloc (by simp; omega) _).drew
      have hO2 := hO.old (w' := (((w.alloc (.cells Z 5)).alloc (.cells Z 5)).alloc (.cells #[.slice (some ⟨w.heap.size, 0, none⟩) k k, .slice (some ⟨w.heap.size + 1, 0, none⟩) k k] 74)).drew) ⟨rfl, rfl, rfl, Nat.le_refl _, fun _ _ => rfl⟩
      go_wp2_with fail
      go_meet
      case rel => exact ⟨_, _, _, rfl, hO2, hB⟩
    · have hO := two_rows (B := w.heap.size) (w := w) HZ.out (by omega) (Nat.le_refl _) true (w.heap.size + 1) w.heap.size rfl rfl
      have hB : Below w.heap.size w ((((w.alloc (.cells Z 5)).alloc (.cells Z 5)).alloc (.cells #[.slice (some ⟨w.heap.size + 1, 0, none⟩) k k, .slice (some ⟨w.heap.size, 0, none⟩) k k] 74)).drew) := ((((Below.refl _ _).alloc (Nat.le_refl _) _).alloc (by simp) _).alloc (by simp; omega) _).drew
      have hO2 := hO.old (w' := (((w.alloc (.cells Z 5)).alloc (.cells Z 5)).alloc (.cells #[.slice (some ⟨w.heap.size + 1, 0, none⟩) k k, .slice (some ⟨w.heap.size, 0, none⟩) k k] 74)).drew) ⟨rfl, rfl, rfl, Nat.le_refl _, fun _ _ => rfl⟩
      go_wp2_with fail
      go_meet
      case rel => exact ⟨_, _, _, rfl, hO2, hB⟩
  case rest =>
    obtain ⟨g, ga, gb, rfl, hO, hB⟩ := hcut
    obtain ⟨rv, hrv⟩ : ∃ rv, rv = twoV ga gb k := ⟨_, rfl⟩
    have HRV : Hid (rv = twoV ga gb k) := hrv
    rw [← hrv] at hO
    clear hrv
    clear hmk HZ
    go_wp2
    go_loopw [11] (fun t wr => ∃ j : Nat, j ≤ k ∧ t = .int .i64 j ∧ OwM w.heap.size wr (.slice (some ⟨g, 0, none⟩) 2 2) 2 (rws (pz j) k) rv ∧ Below w.heap.size w wr) (fun t _ => k - (intOf t).toNat)
    case atStart => exact ⟨0, Nat.zero_le _, rfl, hO, hB⟩
    case round =>
      clear hO hB
      obtain ⟨j, hj, rfl, hO, hB⟩ := hrel
      by_cases hlt : j < k
      · have hne0 : row (pz j 0) k ≠ [] := by rw [← List.length_pos_iff, row_length]; omega
        have hne1 : row (pz j 1) k ≠ [] := by rw [← List.length_pos_iff, row_length]; omega
        obtain ⟨g0, c0, e0, hb0, hl0, _, _⟩ := (hO.row 0 (by omega)).at hne0
        obtain ⟨g1, c1, e1, hb1, hl1, _, _⟩ := (hO.row 1 (by omega)).at hne1
        rw [row_length] at e0 e1
        have hap := hO.apart 0 1 (by omega) (by omega) (by omega)
        rw [e0, e1] at hap
        have hg01 : g0 ≠ g1 := by simpa [Value.ownBlock] using hap
        have hcA := hO.cell 0 (by omega)
        have hcB := hO.cell 1 (by omega)
        rw [e0] at hcA
        rw [e1] at hcB
        have r0 := hO.row 0 (by omega)
        have r1 := hO.row 1 (by omega)
        rw [e0] at r0
        rw [e1] at r1
        have hc0 := r0.cell (by rw [row_length]) j hlt
        have hc1 := r1.cell (by rw [row_length]) j hlt
        have hf0 := r0.free (by rw [row_length]) j
        have hf1 := r1.free (by rw [row_length]) j
        have S0 : OwM w.heap.size (wr.setCell ⟨g0, j, none⟩ (.int .u8 1)) (.slice (some ⟨g, 0, none⟩) 2 2) 2 (fun x => if x = 0 then (row (pz j 0) k).set j 1 else rws (pz j) k x) rv ∧ wr.grownBy (wr.setCell ⟨g0, j, none⟩ (.int .u8 1)) (some g0) := hO.stored 0 (by omega) (by rw [row_length]; exact e0) j 1
        have S1 := S0.1.stored 1 (by omega) (by rw [if_neg (by omega), row_length]; exact e1) j (g2 j)
        have hB2 := hB.trans (below_of_grownAt S0.2 hB.size hb0)
        have hB3 := hB2.trans (below_of_grownAt S1.2 hB2.size hb1)
        have R1 : OwM w.heap.size ((wr.setCell ⟨g0, j, none⟩ (.int .u8 1)).setCell ⟨g1, j, none⟩ (.int .u8 (((g2 j).val : Nat) : Int))).drew (.slice (some ⟨g, 0, none⟩) 2 2) 2 (rws (pz (j + 1)) k) rv := (S1.1.congr (fun i hi => by
          by_cases e : i = 1
          · subst e
            rw [if_pos rfl, if_neg (by omega)]
            exact pz_set k j 1
          · obtain rfl : i = 0 := by omega
            rw [if_neg (by omega), if_pos rfl]
            exact pz_set k j 0)).old ⟨rfl, rfl, rfl, Nat.le_refl _, fun _ _ => rfl⟩
        have R2 : Below w.heap.size w ((wr.setCell ⟨g0, j, none⟩ (.int .u8 1)).setCell ⟨g1, j, none⟩ (.int .u8 (((g2 j).val : Nat) : Int))).drew := hB3.drew
        clear S0 S1 hB2 hB3 r0 r1 hap hO hB
        go_wp2
        go_region_with (first | (go_at_call 44; refine (inq_any j (by omega) _).mono ?_; rintro e w1 ⟨rfl, rfl⟩))
        all_goals
          clear hcA hcB hc0 hc1 hf0 hf1
          go_wp2
          go_roundw
          case rel => exact ⟨j + 1, by omega, by go_num, R1, R2⟩
          case measure => simp [intOf]; omega
      · have hF : OwM w.heap.size wr (.slice (some ⟨g, 0, none⟩) 2 2) 2 (rws pqr k) rv := hO.congr (fun i _ => row_congr (fun x hx => by unfold pz; rw [if_pos (by omega)]))
        clear hO
        go_wp2
        go_ret
        rw [HRV.out] at hF
        exact ⟨_, _, _, rfl, hF, hB⟩
theorem pqrows_any (k : Nat) (h1 : 1 ≤ k) (h10 : k ≤ 10) (w : World) :
    Calls Try.prog 27 #[.int .i64 k] w fun e w' => ∃ (v' : Value) (rv : Nat → Value), e = .returned v' ∧ OwM w.heap.size w' v' 2 (rws pqr k) rv ∧ Below w.heap.size w w' :=
  (pqrows_cap k h1 h10 w).mono fun _ _ ⟨_, _, _, he, ho, hb⟩ => ⟨_, _, he, ho, hb⟩
end Go.Proofs.Ytacanmjimngloak
