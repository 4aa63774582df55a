/- What matrix.clearColumn and reduce do, on rows of the call's own: by walks over the program. -/
import Derived.Test.YtcjokofebnfkkaaDoorWalkI
import Derived.Test.YtcjokofebnfkkaaDoorMatE
import Derived.BigRegion
namespace Go.Proofs.YtcjokofebnfkkaaDoor
open Go.ChangeShapes Go.WideShapes Go.ChangeAt Go.RowKit El Pol Mx
/-- the first k are multiplied -/
def scaled (f : Nat → El) (c : El) (k : Nat) : Nat → El := fun j => if j < k then ti (f j) c else f j
theorem scaled_zero (f : Nat → El) (c : El) : scaled f c 0 = f := by funext j; unfold scaled; rw [if_neg (by omega)]
theorem scaled_at (f : Nat → El) (c : El) (k : Nat) : scaled f c k k = f k := by unfold scaled; rw [if_neg (by omega)]
theorem scaled_step (f : Nat → El) (c : El) (q k : Nat) : (row (scaled f c k) q).set k (ti (f k) c) = row (scaled f c (k + 1)) q := by
  refine row_set _ _ q k _ (fun j hj => ?_) ?_
  · unfold scaled
    by_cases h : j < k
    · rw [if_pos h, if_pos (by omega)]
    · rw [if_neg h, if_neg (by omega)]
  · unfold scaled; rw [if_pos (by omega)]
/-- row a is P; of the first k rows P is taken as often as stands at column c -/
def swept (A : M) (P : Nat → El) (a c k : Nat) : M := fun i j => if i = a then P j else if i < k then pl (A i j) (ti (P j) (A i c)) else A i j
theorem swept_zero (A : M) (P : Nat → El) (a c : Nat) : swept A P a c 0 = up A a P := by
  funext i j
  unfold swept up
  by_cases e : i = a
  · rw [if_pos e, if_pos e]
  · rw [if_neg e, if_neg e, if_neg (by omega)]
theorem swept_same (A : M) (P : Nat → El) (a c : Nat) : swept A P a c a = swept A P a c (a + 1) := by
  funext i j
  unfold swept
  by_cases e : i = a
  · rw [if_pos e, if_pos e]
  · rw [if_neg e, if_neg e]
    by_cases h : i < a
    · rw [if_pos h, if_pos (by omega)]
    · rw [if_neg h, if_neg (by omega)]
theorem swept_next (A : M) (P : Nat → El) (a c k : Nat) (h : k ≠ a) : up (swept A P a c k) k (fun j => pl (A k j) (ti (P j) (A k c))) = swept A P a c (k + 1) := by
  funext i j
  unfold swept up
  by_cases e : i = k
  · subst e; rw [if_pos rfl, if_neg h, if_pos (by omega)]
  · rw [if_neg e]
    dsimp only
    by_cases e2 : i = a
    · rw [if_pos e2, if_pos e2]
    · rw [if_neg e2, if_neg e2]
      by_cases h3 : i < k
      · rw [if_pos h3, if_pos (by omega)]
      · rw [if_neg h3, if_neg (by omega)]
def cleared (A : M) (a c : Nat) : M := fun i j => if i = a then ti (A a j) (iv (A a c)) else pl (A i j) (ti (ti (A a j) (iv (A a c))) (A i c))
theorem ne_nil_row (f : Nat → El) {q : Nat} (h : 0 < q) : row f q ≠ [] := by intro e; have := congrArg List.length e; rw [row_length] at this; simp at this; omega
set_option maxRecDepth 100000 in
set_option maxHeartbeats 2000000 in
theorem clear_any (B g p cp q a c : Nat) (A : M) (rv : Nat → Value) (w : World) (hp : p ≤ 1000) (hq : q ≤ 1000) (hB0 : B ≤ w.heap.size) (hA : OwM B w (.slice (some ⟨g, 0, none⟩) p cp) p (rws A q) rv) (ha : a < p) (hc : c < q) (hne : A a c ≠ 0) :
    Calls Tryd.prog 42 #[.slice (some ⟨g, 0, none⟩) p cp, .int .i64 a, .int .i64 c] w fun e w' => e = .returned (.tuple #[]) ∧ OwM B w' (.slice (some ⟨g, 0, none⟩) p cp) p (rws (cleared A a c) q) rv ∧ Below B w w' := by
  have hrow := hA.row a ha
  obtain ⟨gp, c2, hrv, hgp1, hgp2, hcc, hcm⟩ := hrow.at (ne_nil_row _ (by omega))
  rw [row_length] at hrv hcc
  have hcell := hA.cell a ha
  rw [hrv] at hcell
  have hrow' := hrow
  rw [hrv] at hrow'
  have hpc := hrow'.cell (by rw [row_length]) c hc
  rw [co_row_lt _ hc] at hpc
  obtain ⟨x, hx⟩ : ∃ x : El, x = A a c := ⟨_, rfl⟩
  rw [← hx] at hpc hne
  have HX : Hid (x = A a c) := hx
  have HNE : Hid (x.val ≠ 0) := val_ne hne
  have HA : Hid (OwM B w (.slice (some ⟨g, 0, none⟩) p cp) p (rws A q) rv) := hA
  have HRV : Hid (rv a = .slice (some ⟨gp, 0, none⟩) q c2) := hrv
  have hS : Ow B w (.slice (some ⟨gp, 0, none⟩) q c2) (row (scaled (A a) (iv x) 0) q) := by rw [scaled_zero]; exact hrow'
  clear hx hne hA hrv hrow hrow'
  go_enter Tryd.func42, Tryd.ntmps42
  go_wp2_with fail
  refine (inv_some _ x.isLt HNE.out _).mono ?_
  rintro e w1 ⟨rfl, hw⟩
  obtain rfl := hw.symm
  clear hcell hpc
  go_wp2
  go_loopw [27] (fun t wr => ∃ k : Nat, k ≤ q ∧ t = .int .i64 k ∧ Ow B wr (.slice (some ⟨gp, 0, none⟩) q c2) (row (scaled (A a) (iv x) k) q) ∧ w.grownBy wr (some gp)) (fun t _ => q - (intOf t).toNat)
  case atStart => exact ⟨0, Nat.zero_le _, rfl, hS, grownBy_refl _ _⟩
  case round =>
    clear hS
    obtain ⟨k, hk, rfl, hS, hG⟩ := hrel
    by_cases hlt : k < q
    · have hcell := hS.cell (by rw [row_length]) k hlt
      rw [co_row_lt _ hlt, scaled_at] at hcell
      have hfree := hS.free (by rw [row_length]) k
      have R := put_el hS hG (scaled_step (A a) (iv x) q k)
      clear hS hG
      generalize A a k = y at *
      go_wp2_with fail
      refine (mul_any _ _ y.isLt (iv x).isLt _).mono ?_
      rintro e w1 ⟨rfl, hw⟩
      obtain rfl := hw.symm
      have R1 := R.1
      have R2 := R.2
      clear R
      go_wp2
      go_roundw
      case rel => exact ⟨k + 1, by omega, by go_num, R1, R2⟩
      case measure => simp [intOf]; omega
    · have hF : Ow B wr (rv a) (row (fun j => ti (A a j) (iv x)) q) := by
        rw [HRV.out, row_congr (g := scaled (A a) (iv x) k) (fun j hj => by unfold scaled; rw [if_pos (by omega)])]; exact hS
      have hG' : w.grownBy wr (rv a).ownBlock := by rw [HRV.out]; exact hG
      have hM := HA.out.turned a ha hG' hF
      have hBw := HA.out.below hB0 a ha hG'
      rw [rws_up, ← swept_zero A _ a c] at hM
      clear hS hG hF hG'
      go_wp2
      clear hk hlt
      go_loopw [41] (fun t wr => ∃ k : Nat, k ≤ p ∧ t = .int .i64 k ∧ OwM B wr (.slice (some ⟨g, 0, none⟩) p cp) p (rws (swept A (fun j => ti (A a j) (iv x)) a c k) q) rv ∧ Below B w wr) (fun t _ => p - (intOf t).toNat)
      case atStart => exact ⟨0, Nat.zero_le _, rfl, hM, hBw⟩
      case round =>
        clear hM hBw
        obtain ⟨k, hk, rfl, hM, hBw⟩ := hrel
        by_cases hlt : k < p
        · have hcell := hM.cell k hlt
          have hrowk := hM.row k hlt
          obtain ⟨gk, ck, hrk, _, _, _, _⟩ := hrowk.at (ne_nil_row _ (by omega))
          rw [row_length] at hrk
          rw [hrk] at hcell
          by_cases hka : k = a
          · have hb : ((k : Int) != (a : Int)) = false := by rw [hka]; simp
            rw [show swept A (fun j => ti (A a j) (iv x)) a c k = swept A (fun j => ti (A a j) (iv x)) a c (k + 1) from by rw [hka]; exact swept_same _ _ _ _] at hM
            clear hka hrk hrowk
            go_wp2
            go_roundw
            case rel => exact ⟨k + 1, by omega, by go_num, hM, hBw⟩
            case measure => simp [intOf]; omega
          · have hb : ((k : Int) != (a : Int)) = true := by rw [bne_iff_ne]; omega
            have hsk : ∀ j, swept A (fun j => ti (A a j) (iv x)) a c k k j = A k j := fun j => by unfold swept; rw [if_neg hka, if_neg (by omega)]
            have hrowk2 := hrowk
            rw [hrk] at hrowk2
            have hcc2 := hrowk2.cell (by rw [row_length]) c hc
            rw [co_row_lt _ hc, hsk] at hcc2
            have hsa : row (swept A (fun j => ti (A a j) (iv x)) a c k a) q = row (fun j => ti (A a j) (iv x)) q := row_congr (fun j _ => by unfold swept; rw [if_pos rfl])
            have hpr := (hM.row a ha).rd
            rw [show rws (swept A (fun j => ti (A a j) (iv x)) a c k) q a = row (fun j => ti (A a j) (iv x)) q from hsa] at hpr
            have hrk3 : row (swept A (fun j => ti (A a j) (iv x)) a c k k) q = row (A k) q := row_congr (fun j _ => hsk j)
            rw [show rws (swept A (fun j => ti (A a j) (iv x)) a c k) q k = row (A k) q from hrk3] at hrowk
            have T := mtimes_any B q _ _ (A k) (fun j => ti (A a j) (iv x)) (A k c) wr hq hrowk hpr (fun _ => hM.apart k a hlt ha hka)
            have HT : Hid (∀ w', Ow B w' (rv k) (row (fun j => pl (A k j) (ti (ti (A a j) (iv x)) (A k c))) q) → wr.grownBy w' (rv k).ownBlock → OwM B w' (.slice (some ⟨g, 0, none⟩) p cp) p (rws (swept A (fun j => ti (A a j) (iv x)) a c (k + 1)) q) rv ∧ Below B w w') := by
              intro w' h1 h2
              have h3 := hM.turned k hlt h2 h1
              rw [rws_up, swept_next A _ a c k hka] at h3
              exact ⟨h3, hBw.trans (hM.below (Nat.le_trans hB0 hBw.size) k hlt h2)⟩
            rw [hrk, HRV.out] at T
            rw [hrk] at HT
            clear hM hBw hrowk hrowk2 hpr hsa hrk3 hsk hrk
            generalize A k c = y at *
            go_wp2_with fail
            refine T.mono ?_
            rintro e w2 ⟨rfl, h1, h2⟩
            have h3 := HT.out w2 h1 h2
            have hM2 := h3.1
            have hB2 := h3.2
            clear T HT h1 h2 h3 hcell hcc2
            go_wp2
            go_roundw
            case rel => exact ⟨k + 1, by omega, by go_num, hM2, hB2⟩
            case measure => simp [intOf]; omega
        · have hF : OwM B wr (.slice (some ⟨g, 0, none⟩) p cp) p (rws (cleared A a c) q) rv := hM.congr (fun i hi => row_congr (fun j hj => by
            unfold swept cleared
            by_cases e : i = a
            · rw [if_pos e, if_pos e, HX.out]
            · rw [if_neg e, if_neg e, if_pos (by omega), HX.out]))
          clear hM
          go_wp2
          go_end0
          exact ⟨rfl, hF, hBw⟩
end Go.Proofs.YtcjokofebnfkkaaDoor
