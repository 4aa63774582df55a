/- What the document makes of cells by writes: a walk over its own function. -/
import Derived.Test.YtacfafbnimhibaaDoorRfA
namespace Go.Proofs.YtacfafbnimhibaaDoor
open Go.RowKit El Pol
set_option linter.unusedVariables false in
set_option maxRecDepth 100000 in
set_option maxHeartbeats 2000000 in
theorem rdone_any (vc vl : Value) (n : Nat) (f : Nat → List El) (l : List Wr) (w : World) (hr : RdT w vc n f) (hw : RdW w vl l) (hok : ∀ x ∈ l, OkW n x) (hn : n ≤ 40) (hl : l.length ≤ 40) :
    Calls Tryd.prog 27 #[vc, vl] w fun e w' => ∃ u, e = .returned u ∧ OwT w.heap.size w' u n (doR f l) ∧ Below w.heap.size w w' := by
  obtain ⟨a1, c1, rfl, _, _⟩ := hr.len
  obtain ⟨a2, c2, rfl, _, _⟩ := hw.len
  have HR : Hid (RdT w (.slice a1 n c1) n f) := hr
  have HW : Hid (RdW w (.slice a2 l.length c2) l) := hw
  have HOK : Hid (∀ x ∈ l, OkW n x) := hok
  obtain ⟨m, hm⟩ : ∃ m, m = l.length := ⟨_, rfl⟩
  rw [← hm] at HW hl ⊢
  have HM : Hid (m = l.length) := hm
  clear hr hw hok hm
  go_enter Tryd.func27, Tryd.ntmps27
  go_wp2_with (first | (at_builtin; refine wpList_append_texts rfl _ _ rfl w.heap.size _ _ [] n f rfl (World.ownsRow_nil _ _ _ _) rfl HR.out (by simp) (by omega) (Nat.le_refl _) ?_))
  intro u w1 hO1 hg1
  have hO1' : OwT w.heap.size w1 u n f := by
    have h2 := hO1
    unfold OwL at h2
    rw [List.length_map, List.length_range] at h2
    exact h2
  have hB1 : Below w.heap.size w w1 := below_of_grownR hg1 (Nat.le_refl _) (fun g e => by cases e)
  obtain ⟨a3, c3, rfl⟩ := OwT.len hO1'
  clear hO1 hg1
  go_wp2
  go_loopw [6] (fun t wr => ∃ k : Nat, k ≤ m ∧ t = .int .i64 k ∧ OwT w.heap.size wr (.slice a3 n c3) n (doR f (l.take k)) ∧ Below w.heap.size w wr) (fun t _ => m - (intOf t).toNat)
  case atStart => exact ⟨0, Nat.zero_le _, rfl, hO1', hB1⟩
  case round =>
    clear hO1' hB1
    obtain ⟨k, hk, rfl, hO, hB⟩ := hrel
    by_cases hlt : k < m
    · have hkl : k < l.length := by rw [← HM.out]; exact hlt
      obtain ⟨ad, rfl, d0, d1⟩ := (HW.out.old hB).at k hkl
      rw [show (ad.add (k * 2)).add 1 = ⟨(ad.add (k * 2)).block, (ad.add (k * 2)).off + 1, none⟩ from rfl] at d1
      have hx := HOK.out (wat l k) (by
        have e : wat l k = l[k] := by simp [wat, List.getD_eq_getElem?_getD, hkl]
        rw [e]; exact List.getElem_mem hkl)
      obtain ⟨an, han⟩ : ∃ an : Nat, (wat l k).1 = (an : Int) := ⟨(wat l k).1.toNat, by have := hx.1; omega⟩
      have hal : an < n := by have := hx.2.1; omega
      rw [han] at d0
      have hkz : (k : Int) < (m : Int) := by omega
      have haz : (an : Int) < (n : Int) := by omega
      obtain ⟨g, cp, hg, hgB, hgl, _, _⟩ := OwT.at hO (by omega)
      simp only [Value.slice.injEq] at hg
      obtain ⟨rfl, _, rfl⟩ := hg
      have k1 := OwT.cell hO an hal
      have k2 := OwT.free hO an
      have HD : Hid (up (doR f (l.take k)) an (wat l k).2 = doR f (l.take (k + 1))) := by
        (show _ = _)
        have e : wat l k = l[k] := by simp [wat, List.getD_eq_getElem?_getD, hkl]
        rw [List.take_succ_eq_append_getElem hkl]
        unfold doR
        rw [List.foldl_append]
        show _ = doW _ l[k]
        unfold doW
        rw [← e, han]
        rfl
      have HN : Hid (∀ q, OwT w.heap.size ((wr.drewN q).setCell ⟨g, an, none⟩ (st (wat l k).2)) (.slice (some ⟨g, 0, none⟩) n c3) n (doR f (l.take (k + 1))) ∧ Below w.heap.size w ((wr.drewN q).setCell ⟨g, an, none⟩ (st (wat l k).2))) := fun q => by
        have T := OwT.stored (ownsRow_old hO (below_drewN (Below.refl _ wr) q)) an (wat l k).2
        rw [HD.out] at T
        exact ⟨T.1, (below_drewN hB q).setCell (p := ⟨g, an, none⟩) hgB _⟩
      unfold st at d1 HN
      generalize sb (wat l k).2 = s at *
      clear hO hB hx han HD
      go_wp2
      refine region_last 12 (by kernel_rfl) (by kernel_rfl) ?_
      simp only [List.take_succ_cons, List.take_zero, List.drop_succ_cons, List.drop_zero]
      repeat (go_big_quiet_step (fail))
      refine wpQuiet_nil ?_
      intro w9 hw9
      obtain ⟨nq, rfl⟩ := hw9
      have HX : Hid _ := HN.out nq
      clear HN
      go_wp2
      go_roundw
      case rel => exact ⟨k + 1, by omega, by go_num, HX.out.1, HX.out.2⟩
      case measure => simp [intOf]; omega
    · have e2 : l.take k = l := List.take_of_length_le (by rw [← HM.out]; omega)
      rw [e2] at hO
      have hkz : ¬ (k : Int) < (m : Int) := by omega
      have HO : Hid (OwT w.heap.size wr (.slice a3 n c3) n (doR f l)) := hO
      clear hO e2
      go_wp2
      go_ret
      exact ⟨_, rfl, HO.out, hB⟩
end Go.Proofs.YtacfafbnimhibaaDoor
