/- What matrix.reduce does, on rows of the call's own: stairs: by a walk over the program. -/
import Derived.Test.YtcjokofebnfkkaaMatF
namespace Go.Proofs.Ytcjokofebnfkkaa
open Go.ChangeShapes Go.WideShapes Go.ChangeAt Go.RowKit El Pol Mx
theorem bne_zero (x : El) : (((x.val : Nat) : Int) != 0) = decide (x ≠ 0) := by
  rw [Bool.eq_iff_iff, bne_iff_ne, decide_eq_true_iff]
  constructor
  · intro h e; subst e; exact h rfl
  · intro h e; exact h (Fin.ext (by (show x.val = 0); omega))
theorem is_begin (v : Value) (f : Nat → El) (q c : Nat) (ad : Addr) (w : World) (h : Rd w v (row f q)) (hc : c < q) (hl : w.cell? ad = some (.int .i64 c)) :
    Calls Try.prog 50 #[v, .pointer (some ad)] w fun e w' => e = .returned (.bool (decide (f c ≠ 0))) ∧ w' = w := by
  obtain ⟨a1, c1, rfl, _, _⟩ := h.len
  obtain ⟨ar, rfl, hcell⟩ := h.at c (by rw [row_length]; exact hc)
  rw [row_length] at *
  rw [co_row_lt _ hc] at hcell
  have hb := bne_zero (f c)
  generalize f c = x at *
  generalize decide (x ≠ 0) = b at *
  clear h
  go_enter Try.func50, Try.ntmps50
  go_wp2
  go_ret
  exact ⟨rfl, rfl⟩
theorem add_off (g r i : Nat) : (⟨g, r, none⟩ : Addr).add i = ⟨g, r + i, none⟩ := by unfold Addr.add; split <;> simp_all
theorem stepped_cleared (R : M) (p q r k C : Nat) : Eqm p q (stepped R r k C) (cleared (fun i => R (sw r k i)) r C) := by
  intro i j _ _
  have swr : sw r k r = k := by unfold sw; rw [if_pos rfl]
  unfold stepped cleared
  dsimp only
  rw [swr]
  by_cases e : i = r
  · rw [if_pos e, if_pos e, ti_comm]
  · rw [if_neg e, if_neg e, ti_comm (R (sw r k i) C), ti_comm (iv _)]
set_option maxRecDepth 100000 in
set_option maxHeartbeats 2000000 in
theorem reduce_any (B g p q cols : Nat) (A : M) (rv0 : Nat → Value) (w : World) (hp : p ≤ 1000) (hq : q ≤ 1000) (hcols : cols ≤ q) (hB0 : B ≤ w.heap.size) (hA : OwM B w (.slice (some ⟨g, 0, none⟩) p p) p (rws A q) rv0) :
    Calls Try.prog 33 #[.slice (some ⟨g, 0, none⟩) p p, .int .i64 cols] w fun e w' => ∃ (r : Nat) (R : M) (piv : Nat → Nat) (rv : Nat → Value), e = .returned (.int .i64 r) ∧ GJ p q A R cols r piv ∧ OwM B w' (.slice (some ⟨g, 0, none⟩) p p) p (rws R q) rv ∧ Below B w w' := by
  go_enter Try.func33, Try.ntmps33
  go_wp2
  go_loopw [5, 9] (fun s t wr => ∃ (C r : Nat) (R : M) (piv : Nat → Nat) (rv : Nat → Value), C ≤ cols ∧ r ≤ p ∧ s = .int .i64 r ∧ t = .int .i64 C ∧ OwM B wr (.slice (some ⟨g, 0, none⟩) p p) p (rws R q) rv ∧ Hid (GJ p q A R C r piv) ∧ Below B w wr) (fun _ t _ => cols - (intOf t).toNat)
  case atStart => exact ⟨0, 0, A, fun _ => 0, rv0, Nat.zero_le _, Nat.zero_le _, rfl, rfl, hA, gj_start p q A, Below.refl _ _⟩
  case round =>
    clear hA
    obtain ⟨C, r, R, piv, rv, hC, hr, rfl, rfl, hM, HG, hBw⟩ := hrel
    by_cases hlt : C < cols
    ·
      have hn0 := cell_new wr (.int .i64 (C : Int)) 3
      have hBa : Below wr.heap.size wr (wr.alloc (.cells #[.int .i64 (C : Int)] 3)) := (Below.refl _ _).alloc (Nat.le_refl _) _
      have hMa := hM.old hBa
      have hFa := hMa.free
      have hWs : (wr.alloc (.cells #[.int .i64 (C : Int)] 3)).heap.size = wr.heap.size + 1 := by simp
      have hgl := hM.lt
      have hBw2 := hBw.trans (hBa.mono (Nat.le_trans hB0 hBw.size))
      have HI : Hid (∀ i, i < p - r → ∃ v, (wr.alloc (.cells #[.int .i64 (C : Int)] 3)).cell? ((⟨g, r, none⟩ : Addr).add i) = some v ∧ Calls Try.prog 50 #[v, .pointer (some ⟨wr.heap.size, 0, none⟩)] (wr.alloc (.cells #[.int .i64 (C : Int)] 3)) fun e w' => e = .returned (.bool (decide (R (r + i) C ≠ 0))) ∧ w' = (wr.alloc (.cells #[.int .i64 (C : Int)] 3))) := fun i hi =>
        ⟨rv (r + i), by rw [add_off]; exact hMa.cell (r + i) (by omega), is_begin _ (R (r + i)) q C _ _ (hMa.row (r + i) (by omega)).rd (by omega) hn0⟩
      by_cases hrp : r = p
      · have HZ : Hid (GJ p q A R (C + 1) r piv) := gj_skip HG.out (by omega) (fun i h1 h2 => by omega)
        subst hrp
        clear HI
        go_wp2_with fail
        refine (index_begin _ 0 _ _ (fun _ => false) _ (by omega) (fun i hi => absurd hi (Nat.not_lt_zero _))).mono ?_
        rintro e w2 ⟨z, rfl, hz, hw⟩
        obtain rfl := hw.symm
        have hz1 : z = -1 := by
          rcases hz with ⟨h, _⟩ | ⟨i, hi, _⟩
          · exact h
          · omega
        subst hz1
        go_wp2
        go_roundw
        case rel => exact ⟨C + 1, r, R, piv, rv, by omega, Nat.le_refl _, rfl, by go_num, hMa, HZ.out, hBw2⟩
        case measure => simp [intOf]; omega
      · have hrlt : r < p := by omega
        go_wp2_with fail
        refine (index_begin _ (p - r) _ _ (fun i => decide (R (r + i) C ≠ 0)) _ (by omega) HI.out).mono ?_
        rintro e w2 ⟨z, rfl, hz, hw⟩
        obtain rfl := hw.symm
        clear HI
        rcases hz with ⟨rfl, hz⟩ | ⟨i, hi, rfl, hz⟩
        · have HZ : Hid (GJ p q A R (C + 1) r piv) := gj_skip HG.out (by omega) (fun i h1 h2 => by
            have := hz (i - r) (by omega)
            rw [decide_eq_false_iff_not, show r + (i - r) = i by omega] at this
            exact Classical.not_not.1 this)
          clear hz
          go_wp2
          go_roundw
          case rel => exact ⟨C + 1, r, R, piv, rv, by omega, hr, rfl, by go_num, hMa, HZ.out, hBw2⟩
          case measure => simp [intOf]; omega
        · have hne : R (r + i) C ≠ 0 := of_decide_eq_true hz
          have HZ : Hid (GJ p q A (cleared (fun l => R (sw r (r + i) l)) r C) (C + 1) (r + 1) (fun m => if m = r then C else piv m)) :=
            (gj_pivot HG.out (by omega) (r + i) (by omega) (by omega) hne).congr (stepped_cleared R p q r (r + i) C)
          have hc1 := hMa.cell r hrlt
          have hc2 := hMa.cell (r + i) (by omega)
          have hf1 := hFa r
          have hf2 := hFa (r + i)
          have hS := hMa.swap r (r + i) hrlt (by omega)
          have hgl2 : g < (wr.alloc (.cells #[.int .i64 (C : Int)] 3)).heap.size := hMa.lt.2
          have hNC : (R (sw r (r + i) r) C) ≠ 0 := by unfold sw; rw [if_pos rfl]; exact hne
          have HNC : Hid (R (sw r (r + i) r) C ≠ 0) := hNC
          obtain ⟨a1, d1, e1, _, _⟩ := (hMa.row r hrlt).rd.len
          obtain ⟨a2, d2, e2, _, _⟩ := (hMa.row (r + i) (by omega)).rd.len
          rw [row_length] at e1 e2
          rw [e1] at hc1 hS
          rw [e2] at hc2 hS
          clear e1 e2 hz hne hNC HG hFa hM hMa hBa
          generalize wr.alloc (.cells #[.int .i64 (C : Int)] 3) = W at *
          have hc3 : (W.setCell ⟨g, r, none⟩ (.slice a2 q d2)).cell? ⟨g, r + i, none⟩ = some (.slice a2 q d2) := by
            by_cases e : i = 0
            · subst e; exact World.cell?_setCell_same _ _ _ hc1
            · rw [World.cell?_setCell_other _ _ _ _ (by simp)]; exact hc2
          go_wp2
          go_region
          all_goals
            have hdr : Below ((W.setCell ⟨g, r, none⟩ (.slice a2 q d2)).setCell ⟨g, r + i, none⟩ (.slice a1 q d1)).heap.size ((W.setCell ⟨g, r, none⟩ (.slice a2 q d2)).setCell ⟨g, r + i, none⟩ (.slice a1 q d1)) ((W.setCell ⟨g, r, none⟩ (.slice a2 q d2)).setCell ⟨g, r + i, none⟩ (.slice a1 q d1)).drew := ⟨rfl, rfl, rfl, Nat.le_refl _, fun _ _ => rfl⟩
            have hM2 := hS.1.old hdr
            have hBs := hBw2.trans (below_of_grownAt hS.2 (Nat.le_trans hB0 hBw2.size) hgl.1)
            have hB2 := hBs.trans (hdr.mono (Nat.le_trans hB0 hBs.size))
            have hcol : ((W.setCell ⟨g, r, none⟩ (.slice a2 q d2)).setCell ⟨g, r + i, none⟩ (.slice a1 q d1)).drew.cell? ⟨wr.heap.size, 0, none⟩ = some (.int .i64 (C : Int)) := hS.2.cell hn0 (by simp; omega)
            clear hc1 hc2 hc3 hf1 hf2 hS hdr hBs hBw2 hn0 hWs
            generalize ((W.setCell ⟨g, r, none⟩ (.slice a2 q d2)).setCell ⟨g, r + i, none⟩ (.slice a1 q d1)).drew = W2 at *
            go_wp2_with fail
            refine (clear_any B g p p q r C (fun l => R (sw r (r + i) l)) _ _ hp hq (Nat.le_trans hB0 hB2.size) hM2 hrlt (by omega) HNC.out).mono ?_
            rintro e w3 ⟨rfl, hM3, hB3⟩
            have hB3' := hB2.trans hB3
            clear hM2 hB2 hB3 hcol
            go_wp2
            go_roundw
            case rel => exact ⟨C + 1, r + 1, _, _, _, by omega, by omega, by go_num, by go_num, hM3, HZ.out, hB3'⟩
            case measure => simp [intOf]; omega
    · have hCe : C = cols := by omega
      have HE : Hid (GJ p q A R cols r piv) := by rw [← hCe]; exact HG.out
      clear hCe HG
      go_wp2
      go_ret
      exact ⟨_, _, _, _, rfl, HE.out, hM, hBw⟩
end Go.Proofs.Ytcjokofebnfkkaa
