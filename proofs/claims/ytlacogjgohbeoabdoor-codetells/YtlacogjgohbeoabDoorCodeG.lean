/- What code.partRows answers: by a walk over the program. -/
import Derived.Test.YtlacogjgohbeoabDoorCodeF
namespace Go.Proofs.YtlacogjgohbeoabDoor
open Go.ChangeShapes Go.WideShapes Go.ChangeAt Go.RowKit El Pol Mx
theorem Ow.one {B : Nat} {w : World} {v : Value} {xs : List El} (h : Ow B w v xs) : v.oneCell' = true := by
  obtain ⟨_, _, rfl, _, _⟩ := h.rd.len
  rfl
/-- rows behind rows -/
theorem join_rows {B k m : Nat} {w w' : World} {v1 v2 v3 : Value} {a b : Nat → List El} {r1 r2 : Nat → Value} (h1 : OwM B w v1 k a r1) (h2 : OwM B w v2 m b r2) (hg : w.grownBy w' v1.ownBlock)
    (ho : w'.ownsRow B 23 1 v3 (k + m) ((List.range k).map r1 ++ (List.range m).map r2)) : RdM w' v3 (k + m) (fun i => if i < k then a i else b (i - k)) := by
  have kept : ∀ {u : Value} {ys : List El}, Ow B w u ys → Ow B w' u ys := fun {u ys} q => World.ownsRow.kept q hg (by
    rcases own_types h1.out q with e | e
    · rw [e]; cases u.ownBlock <;> simp
    · exact .inr (fun q => e q.symm))
  refine RdF.rdM (rv := fun i => if i < k then r1 i else r2 (i - k)) (OwL.rdF ho (fun i hi => ?_)) (fun i hi => ?_)
  · by_cases h : i < k
    · rw [if_pos h, List.getElem?_append_left (by simpa using h)]
      exact range_map_at r1 k i h
    · rw [if_neg h, List.getElem?_append_right (by simp; omega)]
      simp only [List.length_map, List.length_range]
      exact range_map_at r2 m (i - k) (by omega)
  · by_cases h : i < k
    · rw [if_pos h, if_pos h]; exact (kept (h1.row i h)).rd
    · rw [if_neg h, if_neg h]; exact (kept (h2.row (i - k) (by omega))).rd
/-- rows behind rows, appended -/
theorem wpList_append_rows {w : World} {ops : Array Oper} {rest : List Oper} {o : Oper} {a : Act} {Q : Exit → Act → World → Prop} (hgd : o.guard = none) (s x : Operand)
    (ho : o.op = .call { callee := .builtin .append, args := #[s, x], argTypes := #[22, 22] })
    (B : Nat) (v1 v2 : Value) (k m : Nat) (A T : Nat → List El) (r1 r2 : Nat → Value) (hs : a.eval s = v1) (h1 : OwM B w v1 k A r1) (hx : a.eval x = v2) (h2 : OwM B w v2 m T r2) (hk : k ≤ 1000) (hm : m ≤ 1000) (hB : B ≤ w.heap.size)
    (h : ∀ v' w', RdM w' v' (k + m) (fun i => if i < k then A i else T (i - k)) → w.grownBy w' v1.ownBlock → wpList Tryd.prog ops Q rest (a.put o.dst v') w') : wpList Tryd.prog ops Q (o :: rest) a w := by
  obtain ⟨i0, hi, hz0, hz1, hz2⟩ := info_parts infoS
  have h2o := h2.out
  rcases h2o.2 with ⟨rfl, e⟩ | ⟨g, cap, cur, rfl, _⟩
  · refine wpList_append_own_none hgd s x _ ho B 23 i0 1 Tryd.underlying22 hi v1 _ _ hs h1.out hx (h v1 w (join_rows h1 h2 (grownBy_refl _ _) ?_) (grownBy_refl _ _))
    subst e
    simpa using h1.out
  · refine wpList_append_own (P := Tryd.prog) w hgd s x _ ho B 23 i0 (.slice none 0 0) 1 24 Tryd.underlying22 hi hz0 hz1 hz2 rfl (by decide) v1 _ _ hs h1.out ⟨g, 0, none⟩ m cap ((List.range m).map r2) hx (by simp) (fun j y hj => ?_) (fun u hu => ?_) (by unfold maxLen; omega) (by omega) hB (fun v' w' h3 h4 _ => h v' w' (join_rows h1 h2 h4 h3) h4)
    · have hjm : j < m := by
        have := (List.getElem?_eq_some_iff.1 hj).1
        simpa using this
      rw [show (⟨g, 0, none⟩ : Addr).add j = ⟨g, j, none⟩ by unfold Addr.add; split <;> simp_all, World.ownsRow.cellAt h2.out j (by omega)]
      exact hj
    · obtain ⟨i, hi', rfl⟩ := List.mem_map.1 hu
      exact (h2.row i (List.mem_range.1 hi')).one
set_option maxRecDepth 100000 in
set_option maxHeartbeats 1000000 in
theorem partrows_any (k m : Nat) (h1 : 1 ≤ k) (h2 : k + m ≤ 12) (w : World) :
    Calls Tryd.prog 54 #[.int .i64 k, .int .i64 m] w fun e w' => ∃ v', e = .returned v' ∧ RdM w' v' (k + m) (rws (gen k) k) ∧ Below w.heap.size w w' := by
  go_enter Tryd.func54, Tryd.ntmps54
  go_wp2_with fail
  refine (identity_ok k h1 (by omega) _).mono ?_
  rintro e w1 ⟨v1, r1, rfl, hO1, hB1⟩
  obtain ⟨a1, c1, rfl, _, _⟩ := hO1.rd.len
  go_wp2_with fail
  refine (prows_any k m h1 h2 w1).mono ?_
  rintro e w2 ⟨v2, r2, rfl, hO2, hB2⟩
  have hO1' := hO1.old hB2
  have hO2' := hO2.mono hB1.size
  have hB3 := hB1.trans (hB2.mono hB1.size)
  obtain ⟨a2, c2, rfl, _, _⟩ := hO2.rd.len
  clear hO1 hO2 hB1 hB2
  go_wp2_with (first | (at_builtin; refine wpList_append_rows rfl _ _ rfl w.heap.size _ _ k m _ _ r1 r2 rfl hO1' rfl hO2' (by omega) (by omega) hB3.size ?_))
  intro v3 w3 hR hg
  have hB4 := hB3.trans (below_of_grownR hg hB3.size (fun g e => (World.ownsRow.lt hO1'.out g e).1))
  have hR2 : RdM w3 v3 (k + m) (rws (gen k) k) := hR.congr (fun i hi => by
    by_cases h : i < k
    · rw [if_pos h]; exact row_congr (fun j _ => by unfold gen; rw [if_pos h])
    · rw [if_neg h]; exact row_congr (fun j _ => by rw [← gen_par, show k + (i - k) = i by omega]))
  clear hR hg hO1' hO2' hB3
  go_wp2
  go_ret
  exact ⟨_, rfl, hR2, hB4⟩
end Go.Proofs.YtlacogjgohbeoabDoor
