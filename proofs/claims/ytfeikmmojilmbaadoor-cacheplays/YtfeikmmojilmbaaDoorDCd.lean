/- The document's cache: Flush, and a new one: walks over the document's own. -/
import Derived.Test.YtfeikmmojilmbaaDoorDc
import Derived.Test.YtfeikmmojilmbaaDoorChT
import Derived.Test.YtfeikmmojilmbaaDoorTxW
import Derived.Laws.MakeOwn
namespace Go.Proofs.YtfeikmmojilmbaaDoor
open Go.RowKit El Pol
variable {B : Nat} {w wk w1 : World} {y yk y1 : DP} {c c1 : Che}
theorem DS.elsewhere (h : DS B w y wk yk c) {G : Nat → Prop} (hb : But G wk w1) (hG : ∀ k, G k → w.heap.size ≤ k) (hn : ∀ k, yk.F k → ¬ G k) : DS B w y w1 yk c :=
  ⟨h.is.but hb hn, ⟨hb.os.trans h.but.os, hb.tape.trans h.but.tape, hb.output.trans h.but.output, Nat.le_trans h.but.size hb.size, fun k hk hn' => (hb.block k (Nat.lt_of_lt_of_le hk h.but.size) (fun e => by have := hG k e; omega)).trans (h.but.block k hk hn')⟩, h.gr, h.hp⟩
set_option linter.unusedVariables false in
set_option maxRecDepth 100000 in
set_option maxHeartbeats 1000000 in
theorem dflush_any (h : DC B w y c) (ho : c.ok) (hBw : B ≤ w.heap.size) (m : Nat) :
    Calls Tryd.prog 13 #[.pointer (some ⟨y.p, 0, none⟩), .int .i64 (m : Int)] w fun e w' => ∃ u, e = .returned u ∧ OwN w.heap.size w' u (c.dirty.take m) ∧ ∃ y', DS B w y w' y' (c.flush m) ∧ ∀ k, u.ownBlock = some k → ¬ y'.F k := by
  obtain ⟨j0, hj, hy0, hy1, hy2⟩ := info_parts infoI
  have hn40 := ho.n40
  have hdl : c.dirty.length ≤ 12 := by
    have h1 := nlen_sub ho.dnd ho.nd ho.dsub
    have h2 := ho.len
    have h3 := ho.r12
    omega
  have HD : Hid (DC B w y c) := h
  have HO : Hid c.ok := ho
  clear h ho
  go_enter Tryd.func13, Tryd.ntmps13
  go_wp2
  go_loopw [5] (fun o wr => ∃ j : Nat, j ≤ m ∧ j ≤ c.dirty.length ∧ (∃ ao co, o = .slice ao j co) ∧ Hid (OwN w.heap.size wr o (c.dirty.take j)) ∧ Hid (∃ yj, DS B w y wr yj (c.flush j) ∧ ∀ k, o.ownBlock = some k → ¬ yj.F k)) (fun o _ => c.dirty.length - (match o with | .slice _ n _ => n | _ => 0))
  case atStart => exact ⟨0, Nat.zero_le _, Nat.zero_le _, ⟨none, 0, rfl⟩, World.ownsRow_nil _ _ _ _, ⟨y, by rw [Che.flush_zero]; exact DS.refl HD.out, fun k hk => by cases hk⟩⟩
  case round =>
    obtain ⟨j, hjm, hjl, ⟨ao, co, rfl⟩, HOu, HY⟩ := hrel
    obtain ⟨yj, hS, hap⟩ := HY.out
    have HS : Hid (DS B w y wr yj (c.flush j)) := hS
    have HAP : Hid (∀ k, (Value.slice ao j co).ownBlock = some k → ¬ yj.F k) := hap
    have HP : Hid (yj.p = y.p) := hS.hp
    have c4 := hS.is.c4
    have f4 := hS.is.free 4
    rw [hS.hp] at c4 f4
    obtain ⟨ad, kd, hvd⟩ := OwN.len hS.is.dt
    have hdj : (c.flush j).dirty.length = c.dirty.length - j := List.length_drop ..
    rw [hdj] at hvd
    rw [hvd] at c4
    have HVD : Hid (yj.vd = .slice ad (c.dirty.length - j) kd) := hvd
    clear HY hS hap hvd
    by_cases hlt : j < m
    · have hjz : (j : Int) < (m : Int) := by omega
      by_cases hlt2 : j < c.dirty.length
      · obtain ⟨i, hi⟩ : ∃ i, i = c.dirty[j] := ⟨_, rfl⟩
        have hin : i ∈ c.row := by rw [hi]; exact HO.out.dsub _ (List.getElem_mem _)
        have hic : i < c.n := HO.out.inn i hin
        have HSet : Hid ((c.flush j).settle i = c.flush (j + 1)) := by (show _ = _); rw [hi]; exact Che.flush_settle HO.out hlt2
        have HTk : Hid (c.dirty.take (j + 1) = c.dirty.take j ++ [i]) := by (show _ = _); rw [hi]; exact List.take_succ_eq_append_getElem hlt2
        have hR := OwN.rd HS.out.is.dt
        rw [HVD.out] at hR
        obtain ⟨a0, ha0, hcd⟩ := RdF.at (ao := ad) (m := c.dirty.length - j) (cap := kd) hR 0 (by rw [hdj]; omega)
        subst ha0
        have hcd' : wr.cell? a0 = some (.int .i64 (i : Int)) := by
          rw [add_zero] at hcd
          rw [hcd]
          have : (c.flush j).dirty.getD 0 0 = i := by
            show (c.dirty.drop j).getD 0 0 = i
            rw [List.drop_eq_getElem_cons hlt2, hi]
            rfl
          rw [this]
        have HDD : Hid (∀ k ∈ (c.flush j).dirty, k < 1000) := fun k hk => by
          have h1 := HO.out.dsub k (List.mem_of_mem_drop hk)
          have := HO.out.inn k h1
          omega
        clear hcd hR hi hin
        have c0 := HS.out.is.c0
        have c3 := HS.out.is.c3
        rw [HP.out] at c0 c3
        obtain ⟨gb, capb, hvb, _, _, _, _⟩ := OwT.at HS.out.is.bl (by show 0 < c.n; omega)
        obtain ⟨gv, capv, hvv, _, _, _, _⟩ := OwT.at HS.out.is.vl (by show 0 < c.n; omega)
        have hOb := HS.out.is.bl
        have hOv := HS.out.is.vl
        rw [hvb] at c0 hOb
        rw [hvv] at c3 hOv
        have qb := OwT.cell hOb i hic
        have fb := OwT.free hOb i
        have qv := OwT.cell hOv i hic
        unfold st at qb qv
        have P := HS.out.is.putB hvb i ((c.flush j).val i)
        unfold st at P
        have HS1 : Hid (DS B w y (wr.setCell ⟨gb, i, none⟩ (.string (sb ((c.flush j).val i)))).drew yj ⟨c.n, up (c.flush j).below i ((c.flush j).val i), c.room, c.row, c.val, (c.flush j).dirty, c.hits⟩) := (HS.out.step P.1 P.2 (Grows.refl _ _) rfl).old (below_drewN (Below.refl _ _) 1)
        have HOu1 : Hid (OwN w.heap.size (wr.setCell ⟨gb, i, none⟩ (.string (sb ((c.flush j).val i)))).drew (.slice ao j co) (c.dirty.take j)) := ownsRow_old (ownsRow_but HOu.out P.2 (fun k hk => HAP.out k hk)) (below_drewN (Below.refl _ _) 1)
        have hnz : (i : Int) < (c.n : Int) := by omega
        have hlz : (0 : Int) < ((c.dirty.length - j : Nat) : Int) := by omega
        have hlz2 : 0 < c.dirty.length - j := by omega
        have hdec : decide ((0 : Int) < ((c.dirty.length - j : Nat) : Int)) = true := decide_eq_true hlz
        clear P hOb hOv HS HOu
        have hb0 : (c.flush j).n = c.n := rfl
        dsimp only [Che.flush] at c0 c3 qv qb hvb hvv
        generalize hsv : sb ((c.flush j).val i) = sv at *
        have hqv : wr.cell? ⟨gv, i, none⟩ = some (.string sv) := by rw [← hsv]; exact qv
        have hqb : ∃ so, wr.cell? ⟨gb, i, none⟩ = some (.string so) := ⟨_, qb⟩
        obtain ⟨so, hqb⟩ := hqb
        clear qv qb hsv
        obtain ⟨dl, hdl'⟩ : ∃ dl, dl = c.dirty.length - j := ⟨_, rfl⟩
        rw [← hdl'] at c4 HVD hlz hlz2 hdec hdj
        have HDL : Hid (dl = c.dirty.length - j) := hdl'
        clear hdl'
        have hiz : (i : Int) < 40 := by omega
        go_upto_region 4 with fail
        go_region
        clear c0 c3 c4 f4 fb hqv hqb hcd'
        generalize (wr.setCell ⟨gb, i, none⟩ (.string sv)).drew = w2 at *
        have c4 := HS1.out.is.c4
        have f4 := HS1.out.is.free 4
        rw [HP.out] at c4 f4
        rw [HVD.out] at c4
        have W := without_any yj.vd (c.flush j).dirty i w2 (OwN.rd HS1.out.is.dt) (by rw [hdj]; have := HDL.out; omega) HDD.out
        rw [HVD.out] at W
        have hS1p := HS1.out.hp
        go_wp2_with fail
        refine W.mono ?_
        rintro e w3 ⟨u3, rfl, hO3, hB3⟩
        have hS3 := HS1.out.old hB3
        have c4' := hS3.is.c4
        have f4' := hS3.is.free 4
        rw [HP.out] at c4' f4'
        rw [HVD.out] at c4'
        have HS4 : Hid (DS B w y (w3.setCell ⟨y.p, 4, none⟩ u3) ⟨yj.p, yj.vb, yj.vr, yj.vv, u3⟩ (c.flush (j + 1))) := by
          have := hS3.dirty hO3 (Nat.le_trans hBw HS1.out.size) (fun k hk e => by
            have h1 := (lenDS hO3 k e).1
            have h2 := HS1.out.is.lt k (.inr (.inr (.inl hk)))
            omega) HS1.out.size
          rw [HP.out] at this ⊢
          rw [← HSet.out]
          exact this
        have HOu3 : Hid (OwN w.heap.size (w3.setCell ⟨y.p, 4, none⟩ u3) (.slice ao j co) (c.dirty.take j)) := by
          refine ownsRow_but (ownsRow_old HOu1.out hB3) ((But.refl (· = y.p) w3).setCell (p := ⟨y.p, 4, none⟩) rfl _) (fun k hk e => ?_)
          exact HAP.out k hk (.inl (by rw [HP.out]; exact e))
        have HAP4 : Hid (∀ k, (Value.slice ao j co).ownBlock = some k → ¬ DP.F ⟨yj.p, yj.vb, yj.vr, yj.vv, u3⟩ k) := fun k hk q => by
          rcases q with q | q | q | q | q
          · exact HAP.out k hk (.inl q)
          · exact HAP.out k hk (.inr (.inl q))
          · exact HAP.out k hk (.inr (.inr (.inl q)))
          · exact HAP.out k hk (.inr (.inr (.inr (.inl q))))
          · have h1 := (lenDS hO3 k q).1
            have h2 := (World.ownsRow.lt HOu1.out k hk).2
            omega
        obtain ⟨a3, k3, rfl⟩ := OwN.len hO3
        clear W hO3 hB3 hS3 HS1 HOu1 HAP c4 f4
        go_upto_region 6 with fail
        clear c4' f4'
        generalize (w3.setCell ⟨y.p, 4, none⟩ (.slice a3 (wo (c.flush j).dirty i).length k3)) = w5 at *
        have hvl := vn_len (c.dirty.take j)
        have htl : (c.dirty.take j).length = j := by rw [List.length_take]; omega
        have hO5 : w5.ownsRow w.heap.size 3 1 (.slice ao j co) j (vn (c.dirty.take j)) := by
          have h := HOu3.out
          unfold OwN at h
          rw [htl] at h
          exact h
        rw [htl] at hvl
        have HV : Hid (vn (c.dirty.take (j + 1)) = vn (c.dirty.take j) ++ [vi (i : Int)]) := by (show _ = _); rw [HTk.out]; simp [vn]
        have HTL : Hid ((c.dirty.take (j + 1)).length = j + 1) := by (show _ = _); rw [List.length_take]; omega
        have hsz5 := HS4.out.size
        clear HOu3 HTk htl
        generalize vn (c.dirty.take j) = xs at *
        go_wp2_with (first | (at_builtin; refine wpList_append_lies _ rfl _ _ 34 rfl w.heap.size 3 j0 (.int .i64 0) 1 8 Tryd.underlying34 hj hy0 hy1 hy2 rfl (by decide) _ _ _ rfl (World.ownsRow.alloc hO5 _) ⟨w5.heap.size, 0, none⟩ 1 1 [.int .i64 (i : Int)] rfl rfl (one_cell _) (by intro u hu; simp at hu; subst hu; rfl) (by omega) (by unfold maxLen; omega) (by omega) (by simp; omega) _ rfl ?_))
        intro g cap w6 hown hgrow hlie hgl
        have HO6 : Hid (OwN w.heap.size w6 (.slice (some ⟨g, 0, none⟩) (j + 1) cap) (c.dirty.take (j + 1))) := by
          (show World.ownsRow _ _ _ _ _ _ _)
          rw [HV.out, HTL.out]
          exact hown
        have hSa := HS4.out.old (al_below w5 (.cells #[.int .i64 (i : Int)] 3))
        have HS6 : Hid (DS B w y w6 ⟨yj.p, yj.vb, yj.vr, yj.vv, .slice a3 (wo (c.flush j).dirty i).length k3⟩ (c.flush (j + 1))) := hSa.elsewhere (But.grown (F := fun k => (Value.slice ao j co).ownBlock = some k) hgrow (fun k e => e)) (fun k hk => (World.ownsRow.lt hO5 k hk).1) (fun k hk e => HAP4.out k e hk)
        have HAP6 : Hid (∀ k, (Value.slice (some ⟨g, 0, none⟩) (j + 1) cap).ownBlock = some k → ¬ DP.F ⟨yj.p, yj.vb, yj.vr, yj.vv, .slice a3 (wo (c.flush j).dirty i).length k3⟩ k) := fun k hk q => by
          have hk' : g = k := Option.some.inj (show some g = some k from hk)
          rcases hlie with z | z
          · exact HAP4.out k (by rw [← hk']; exact z) q
          · have h1 := HS4.out.is.lt k q
            omega
        clear hown hgrow hlie hgl hO5 hSa HS4 HAP4 HV HTL
        go_wp2
        go_roundw
        case rel => exact ⟨j + 1, by omega, by omega, ⟨_, _, rfl⟩, HO6.out, ⟨_, HS6.out, HAP6.out⟩⟩
        case measure => (show c.dirty.length - (j + 1) < c.dirty.length - j); omega
      · have hlz : ¬ (0 : Int) < ((c.dirty.length - j : Nat) : Int) := by omega
        have hjn : j = c.dirty.length := by omega
        have hdz : c.dirty.length - j = 0 := by omega
        have HF : Hid (OwN w.heap.size wr (.slice ao j co) (c.dirty.take m) ∧ ∃ y', DS B w y wr y' (c.flush m) ∧ ∀ k, (Value.slice ao j co).ownBlock = some k → ¬ y'.F k) := by
          have e1 : c.dirty.take m = c.dirty.take j := by rw [List.take_of_length_le (by omega), List.take_of_length_le (by omega)]
          have e2 : c.flush m = c.flush j := by rw [Che.flush_all c (by omega), Che.flush_all c (m := j) (by omega)]
          rw [e1, e2]
          exact ⟨HOu.out, yj, HS.out, HAP.out⟩
        rw [hdz] at c4
        clear HOu HS HAP hjn hdz hdj HVD
        go_wp2
        go_ret
        exact ⟨_, rfl, HF.out⟩
    · have hjz : ¬ (j : Int) < (m : Int) := by omega
      have hjm' : j = m := by omega
      have HF : Hid (OwN w.heap.size wr (.slice ao j co) (c.dirty.take m) ∧ ∃ y', DS B w y wr y' (c.flush m) ∧ ∀ k, (Value.slice ao j co).ownBlock = some k → ¬ y'.F k) := by
        have h1 := HOu.out
        rw [← hjm']
        exact ⟨h1, yj, HS.out, HAP.out⟩
      have hdec : decide (j < m) = false := decide_eq_false (by omega)
      clear HOu HS HAP hjm' hdj HVD c4 f4
      go_wp2
      go_ret
      exact ⟨_, rfl, HF.out⟩
end Go.Proofs.YtfeikmmojilmbaaDoor
