/- What pq.checkRows answers: by a walk over the program. -/
import Derived.Test.YtogkfbemccahmacDoorPqW5
import Derived.Deep.RegionLaw
import Derived.Deep.RegionLawGrows
namespace Go.Proofs.YtogkfbemccahmacDoor
open Go.ChangeShapes Go.WideShapes Go.ChangeAt Go.RowKit El Pol Mx
/-- two bytes behind a full row of one's own, as one step of a statement that draws its order -/
theorem step_two {ops : Array Oper} {o : Oper} {a : Act} {w : World} {K : Act → World → Prop} {Q : Exit → Act → World → Prop} {E : Prop} (hgd : o.guard = none) (s x : Operand)
    (ho : o.op = .call { callee := .builtin .append, args := #[s, x], argTypes := #[30, 30] })
    (B : Nat) (w1 : World) (hB : Below w1.heap.size w1 w) (g0 k : Nat) (xs : List El) (hO : Ow B w1 (.slice (some ⟨g0, 0, none⟩) k k) xs) (hk : xs.length = k) (hk2 : k ≤ 1000) (hs : a.eval s = .slice (some ⟨g0, 0, none⟩) k k)
    (g : Nat) (hx : a.eval x = .slice (some ⟨g, 0, none⟩) 2 2) (y z : El) (hc : w.cell? ⟨g, 0, none⟩ = some (.int .u8 ((y.val : Nat) : Int))) (hc2 : w.cell? ⟨g, 1, none⟩ = some (.int .u8 ((z.val : Nat) : Int)))
    (hK : ∀ gn c w', Ow w1.heap.size w' (.slice (some ⟨gn, 0, none⟩) (k + 2) c) (xs ++ [y, z]) → Below w1.heap.size w1 w' → w1.heap.size ≤ w'.heap.size → (∀ p v, w.cell? p = some v → w'.cell? p = some v) → Hid (∀ (u : Value) (ys : List El), Ow w1.heap.size w u ys → Ow w1.heap.size w' u ys) → K (a.put o.dst (.slice (some ⟨gn, 0, none⟩) (k + 2) c)) w') :
    if Region.wanted o (yielded ops a.tmps) = true then Oper.wp Tryd.prog o a w K Q else E := by
  obtain ⟨i0, hi, hz0, hz1, hz2⟩ := info_parts info8
  have hO2 := hO.old hB
  subst hk
  refine step_append_grows hgd s x _ ho 5 i0 (.int .u8 0) 1 1 Tryd.underlying30 hi hz0 hz1 hz2 rfl (by decide) (some ⟨g0, 0, none⟩) xs.length xs.length (xs.map eb) hs (by intro q; cases q) (by simp) (fun b hb j u hj => ?_) ⟨g, 0, none⟩ 2 2 [.int .u8 ((y.val : Nat) : Int), .int .u8 ((z.val : Nat) : Int)] hx rfl (fun j u hj => ?_) (by intro u hu; simp at hu; rcases hu with rfl | rfl <;> rfl) (by omega) (by unfold maxLen; omega) (by omega) (fun v' w' hown hgrow => ?_)
  · cases hb
    have hjl : j < xs.length := by
      have := (List.getElem?_eq_some_iff.1 hj).1
      simpa using this
    rw [show (⟨g0, 0, none⟩ : Addr).add j = ⟨g0, j, none⟩ by unfold Addr.add; split <;> simp_all, hO2.cell rfl j hjl, ← hj, map_eb xs j hjl]
  · match j, hj with
    | 0, hj => simp at hj; subst hj; exact hc
    | 1, hj => simp at hj; subst hj; exact hc2
  · have hb := below_of_grown hgrow
    have hown2 : Ow w1.heap.size w' v' (xs ++ [y, z]) := by
      unfold Ow
      rw [List.length_append, List.map_append]
      exact ownsRow_mono hown hB.size
    obtain ⟨gn, c, e, _⟩ := hown2.at (by simp)
    rw [List.length_append] at e
    subst e
    exact hK gn c w' hown2 (hB.trans (hb.mono hB.size)) (Nat.le_trans hB.size hb.size) (fun p v hp => by rw [hb.cell (World.block_lt_of_cell? _ _ hp)]; exact hp) (fun u ys hu => hu.old hb)
theorem ck_row0 (k : Nat) : row (pqr 0) k ++ [1, 0] = row (ckr k 0) (k + 2) := by
  rw [row_succ, row_succ, List.append_assoc]
  congr 1
  · exact row_congr (fun j hj => by unfold ckr; rw [if_pos hj])
  · unfold ckr; rw [if_neg (by omega), if_pos (by omega), if_neg (by omega), if_neg (by omega)]; rfl
theorem ck_row1 (k : Nat) : row (pqr 1) k ++ [0, 1] = row (ckr k 1) (k + 2) := by
  rw [row_succ, row_succ, List.append_assoc]
  congr 1
  · exact row_congr (fun j hj => by unfold ckr; rw [if_pos hj])
  · unfold ckr; rw [if_neg (by omega), if_neg (by omega), if_neg (by omega), if_pos (by omega)]; rfl
/-- two rows side by side -/
theorem two_ck {B k : Nat} {w : World} {g0 g1 c0 c1 : Nat} (h0 : Ow B w (.slice (some ⟨g0, 0, none⟩) (k + 2) c0) (row (pqr 0) k ++ [1, 0])) (h1 : Ow B w (.slice (some ⟨g1, 0, none⟩) (k + 2) c1) (row (pqr 1) k ++ [0, 1])) :
    RdM (w.alloc (.cells #[.slice (some ⟨g0, 0, none⟩) (k + 2) c0, .slice (some ⟨g1, 0, none⟩) (k + 2) c1] 30)) (.slice (some ⟨w.heap.size, 0, none⟩) 2 2) 2 (rws (ckr k) (k + 2)) := by
  have al : Below w.heap.size w (w.alloc (.cells #[.slice (some ⟨g0, 0, none⟩) (k + 2) c0, .slice (some ⟨g1, 0, none⟩) (k + 2) c1] 30)) := (Below.refl _ _).alloc (Nat.le_refl _) _
  rw [ck_row0] at h0
  rw [ck_row1] at h1
  refine RdF.rdM (rv := fun i => if i = 0 then .slice (some ⟨g0, 0, none⟩) (k + 2) c0 else .slice (some ⟨g1, 0, none⟩) (k + 2) c1) (OwL.rdF (own_two (B := w.heap.size) _ _ (Nat.le_refl _)) (fun i hi => ?_)) (fun i hi => ?_)
  · match i, hi with
    | 0, _ => rfl
    | 1, _ => rfl
  · match i, hi with
    | 0, _ => exact (h0.old al).rd
    | 1, _ => exact (h1.old al).rd
set_option maxRecDepth 100000 in
set_option maxHeartbeats 8000000 in
theorem ckrows_any (k : Nat) (h1 : 1 ≤ k) (h10 : k ≤ 10) (w : World) :
    Calls Tryd.prog 41 #[.int .i64 k] w fun e w' => ∃ (v' : Value), e = .returned v' ∧ RdM w' v' 2 (rws (ckr k) (k + 2)) ∧ Below w.heap.size w w' := by
  go_enter Tryd.func41, Tryd.ntmps41
  go_wp2_with fail
  refine (pqrows_cap k h1 h10 w).mono ?_
  rintro e w1 ⟨g, ga, gb, rfl, hO, hB⟩
  have hcA : w1.cell? ⟨g, 0, none⟩ = some (.slice (some ⟨ga, 0, none⟩) k k) := hO.cell 0 (by omega)
  have hcB : w1.cell? ⟨g, 1, none⟩ = some (.slice (some ⟨gb, 0, none⟩) k k) := hO.cell 1 (by omega)
  have hg := hO.lt.2
  have rA : Ow w.heap.size w1 (.slice (some ⟨ga, 0, none⟩) k k) (row (pqr 0) k) := hO.row 0 (by omega)
  have rB : Ow w.heap.size w1 (.slice (some ⟨gb, 0, none⟩) k k) (row (pqr 1) k) := hO.row 1 (by omega)
  have HA : Hid (Ow w.heap.size w1 (.slice (some ⟨ga, 0, none⟩) k k) (row (pqr 0) k)) := rA
  have HB : Hid (Ow w.heap.size w1 (.slice (some ⟨gb, 0, none⟩) k k) (row (pqr 1) k)) := rB
  have HBB : Hid (Below w.heap.size w w1) := hB
  clear rA rB hO hB
  go_upto_region 2 with fail
  go_region_law (first
    | (refine step_two rfl (.tmp 8) (.tmp 9) rfl w.heap.size w1 ?b ga k _ HA.out (row_length _ _) (by omega) rfl _ rfl 1 0 ?c ?d ?_; (case b => (repeat (first | assumption | exact Below.refl _ _ | refine Below.drew ?_ | refine Below.alloc ?_ (by first | omega | (simp; omega) | simp) _))); (case c => (first | go_simp | (exact HP ⟨w1.heap.size, 0, none⟩ _ (by go_simp)) | (exact HP ⟨w1.heap.size + 1, 0, none⟩ _ (by go_simp)))); (case d => (first | go_simp | (exact HP ⟨w1.heap.size, 1, none⟩ _ (by go_simp)) | (exact HP ⟨w1.heap.size + 1, 1, none⟩ _ (by go_simp)))); (intro g0 c0 w' hR0 hb hsz HP HK); (have hcA' := HP ⟨g, 0, none⟩ (.slice (some ⟨ga, 0, none⟩) k k) (by go_simp)); (have hcB' := HP ⟨g, 1, none⟩ (.slice (some ⟨gb, 0, none⟩) k k) (by go_simp)); (have hg' : g < w'.heap.size := by omega))
    | (refine step_two rfl (.tmp 13) (.tmp 14) rfl w.heap.size w1 ?b gb k _ HB.out (row_length _ _) (by omega) rfl _ rfl 0 1 ?c ?d ?_; (case b => (repeat (first | assumption | exact Below.refl _ _ | refine Below.drew ?_ | refine Below.alloc ?_ (by first | omega | (simp; omega) | simp) _))); (case c => (first | go_simp | (exact HP ⟨w1.heap.size, 0, none⟩ _ (by go_simp)) | (exact HP ⟨w1.heap.size + 1, 0, none⟩ _ (by go_simp)))); (case d => (first | go_simp | (exact HP ⟨w1.heap.size, 1, none⟩ _ (by go_simp)) | (exact HP ⟨w1.heap.size + 1, 1, none⟩ _ (by go_simp)))); (intro g1 c1 w' hR1 hb hsz HP HK); (have hcA' := HP ⟨g, 0, none⟩ (.slice (some ⟨ga, 0, none⟩) k k) (by go_simp)); (have hcB' := HP ⟨g, 1, none⟩ (.slice (some ⟨gb, 0, none⟩) k k) (by go_simp)); (have hg' : g < w'.heap.size := by omega)))
  all_goals
    have hF : RdM (w'.alloc (.cells #[.slice (some ⟨g0, 0, none⟩) (k + 2) c0, .slice (some ⟨g1, 0, none⟩) (k + 2) c1] 30)) (.slice (some ⟨w'.heap.size, 0, none⟩) 2 2) 2 (rws (ckr k) (k + 2)) := by
      first
        | exact two_ck (HK.out _ _ (by first | exact hR0 | exact hR0.old ((Below.refl _ _).alloc (Nat.le_refl _) _))) hR1
        | exact two_ck hR0 (HK.out _ _ (by first | exact hR1 | exact hR1.old ((Below.refl _ _).alloc (Nat.le_refl _) _)))
    have hBf : Below w.heap.size w (w'.alloc (.cells #[.slice (some ⟨g0, 0, none⟩) (k + 2) c0, .slice (some ⟨g1, 0, none⟩) (k + 2) c1] 30)) := (HBB.out.trans (hb.mono HBB.out.size)).alloc (Nat.le_trans HBB.out.size hb.size) _
    clear HP HK hcA' hcB' hcA hcB
    go_wp2
    go_ret
    exact ⟨_, rfl, hF, hBf⟩
end Go.Proofs.YtogkfbemccahmacDoor
