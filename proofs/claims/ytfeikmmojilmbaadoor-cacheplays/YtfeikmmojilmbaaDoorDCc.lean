/- The document's cache: Read, Write: walks over the document's own. -/
import Derived.Test.YtfeikmmojilmbaaDoorDCb
import Derived.Deep.AppendLies
namespace Go.Proofs.YtfeikmmojilmbaaDoor
open Go.RowKit El Pol
variable {B : Nat} {w wk w1 : World} {y yk y1 : DP} {c c1 : Che}
/-- what is dirty, and one more behind it -/
theorem DC.append (h : DC B w y c) {g cap : Nat} {l : List Nat} (hg : w.grownBy w1 y.vd.ownBlock) (hO : OwN B w1 (.slice (some ⟨g, 0, none⟩) l.length cap) l) (hl : y.vd.ownBlock = some g ∨ w.heap.size ≤ g) :
    DC B (w1.setCell ⟨y.p, 4, none⟩ (.slice (some ⟨g, 0, none⟩) l.length cap)) ⟨y.p, y.vb, y.vr, y.vv, .slice (some ⟨g, 0, none⟩) l.length cap⟩ ⟨c.n, c.below, c.room, c.row, c.val, l, c.hits⟩ ∧ But y.F w (w1.setCell ⟨y.p, 4, none⟩ (.slice (some ⟨g, 0, none⟩) l.length cap)) := by
  have hb1 : But (fun k => y.vd.ownBlock = some k) w w1 := But.grown hg (fun k e => e)
  have hb2 : But (· = y.p) w1 (w1.setCell ⟨y.p, 4, none⟩ (.slice (some ⟨g, 0, none⟩) l.length cap)) := (But.refl (· = y.p) w1).setCell (p := ⟨y.p, 4, none⟩) rfl _
  have hrow : w1.heap[y.p]? = some (.cells (dcCells y c) 45 (0, 0)) := (hb1.block _ h.plt (fun e => h.dp e rfl)).trans h.row
  have hgp : g ≠ y.p := fun e => by subst e; exact type_ne (ownsRow_type hO rfl) ⟨_, _, hrow⟩ (by decide)
  refine ⟨⟨?_, ownsRow_but (ownsRow_but h.bl hb1 (fun k hk e => h.bd hk e)) hb2 (fun k hk => h.bp hk), ownsRow_but (ownsRow_but h.rw' hb1 (fun k hk e => h.rd' k hk e)) hb2 (fun k hk => h.rp hk), ownsRow_but (ownsRow_but h.vl hb1 (fun k hk e => h.vd hk e)) hb2 (fun k hk => h.vp hk), ownsRow_but hO hb2 (fun k hk e => hgp ((Option.some.inj (show some g = some k from hk)).trans e)), h.bv, fun k hk e => ?_, h.hp⟩, ⟨hb2.os.trans hb1.os, hb2.tape.trans hb1.tape, hb2.output.trans hb1.output, Nat.le_trans hb1.size hb2.size, fun k hk hn => (hb2.block k (Nat.lt_of_lt_of_le hk hb1.size) (fun e => hn (.inl e))).trans (hb1.block k hk (fun e => hn (.inr (.inr (.inr (.inr e))))))⟩⟩
  · rw [heap_setCell_same _ _ _ _ _ _ hrow]
    rfl
  · have e' : g = k := Option.some.inj (show some g = some k from e)
    have hk' : y.vr.ownBlock = some k := hk
    rcases hl with q | q
    · exact h.rd' k hk' (by rw [← e']; exact q)
    · have := (World.ownsRow.lt h.rw' k hk').2
      omega
theorem DS.more (h : DS B w y wk yk c) {g cap : Nat} {l : List Nat} (hg : wk.grownBy w1 yk.vd.ownBlock) (hO : OwN B w1 (.slice (some ⟨g, 0, none⟩) l.length cap) l) (hl : yk.vd.ownBlock = some g ∨ wk.heap.size ≤ g) :
    DS B w y (w1.setCell ⟨yk.p, 4, none⟩ (.slice (some ⟨g, 0, none⟩) l.length cap)) ⟨yk.p, yk.vb, yk.vr, yk.vv, .slice (some ⟨g, 0, none⟩) l.length cap⟩ ⟨c.n, c.below, c.room, c.row, c.val, l, c.hits⟩ := by
  have P := h.is.append hg hO hl
  refine h.step P.1 P.2 (grow4 yk _ wk (fun k hk => ?_)) rfl
  have hk' : g = k := Option.some.inj (show some g = some k from hk)
  rcases hl with q | q
  · exact .inl (by rw [← hk']; exact q)
  · exact .inr (by rw [← hk']; exact q)
set_option maxRecDepth 100000 in
set_option maxHeartbeats 1000000 in
theorem dread_any (h : DC B w y c) (ho : c.ok) (hBw : B ≤ w.heap.size) {i : Nat} (hi : i < c.n) (hh : c.hits ≤ 100000) :
    Calls Tryd.prog 9 #[.pointer (some ⟨y.p, 0, none⟩), .int .i64 (i : Int)] w fun e w' => e = .returned (st (c.now i)) ∧ ∃ y', DS B w y w' y' (c.read i) := by
  have hn40 := ho.n40
  have h12 := ho.r12
  have hlen := ho.len
  have c0 := h.c0
  have c2 := h.c2
  have c3 := h.c3
  have c5 := h.c5
  have f5 := h.free 5
  obtain ⟨gb, capb, hvb, _, _, _, _⟩ := OwT.at h.bl (by omega)
  obtain ⟨gv, capv, hvv, _, _, _, _⟩ := OwT.at h.vl (by omega)
  obtain ⟨ar, kr, hvr⟩ := OwN.len h.rw'
  have hOb := h.bl
  have hOv := h.vl
  rw [hvb] at c0 hOb
  rw [hvv] at c3 hOv
  have IN := in_any y.vr c.row i w (OwN.rd h.rw') (by omega)
  rw [hvr] at c2 IN
  have qb := OwT.cell hOb i hi
  have qv := OwT.cell hOv i hi
  unfold st at qb qv
  have hiz : (i : Int) < (c.n : Int) := by omega
  have HD : Hid (DC B w y c) := h
  have HO : Hid c.ok := ho
  have hhz : (c.hits : Int) ≤ 100000 := by omega
  clear h ho hOb hOv
  by_cases hin : i ∈ c.row
  · rw [decide_eq_true hin] at IN
    have P := HD.out.put5 (c.hits + 1)
    have hcast : ((c.hits + 1 : Nat) : Int) = (c.hits : Int) + 1 := by omega
    rw [hcast] at P
    have HS1 : Hid (DS B w y (w.setCell ⟨y.p, 5, none⟩ (.int .i64 ((c.hits : Int) + 1))) y ⟨c.n, c.below, c.room, c.row, c.val, c.dirty, c.hits + 1⟩) := (DS.refl HD.out).step P.1 (P.2.mono (Fp y)) (Grows.refl _ _) rfl
    have U := duse_any HS1.out.is (Che.hits_ok HO.out (c.hits + 1)) (by simpa [World.setCell] using hBw) (i := i) hi (c.now i)
    have hnow : c.now i = c.val i := if_pos hin
    have HRd : Hid (c.read i = Che.use ⟨c.n, c.below, c.room, c.row, c.val, c.dirty, c.hits + 1⟩ i (c.now i)) := by (show _ = _); unfold Che.read; rw [if_pos hin]
    unfold st at U ⊢
    rw [← hnow] at qv
    clear P hnow hin HD
    generalize sb (c.now i) = sx at *
    generalize sb (c.below i) = sb0 at *
    go_enter Tryd.func9, Tryd.ntmps9
    go_wp2_with fail
    refine IN.mono ?_
    rintro e w2 ⟨rfl, hw2⟩
    obtain rfl := hw2.symm
    clear IN hw2
    go_wp2_with fail
    refine U.mono ?_
    rintro e w3 ⟨rfl, y3, hS3⟩
    have HF : Hid (DS B w y w3 y3 (c.read i)) := by rw [HRd.out]; exact HS1.out.step hS3.is hS3.but hS3.gr hS3.hp
    clear U hS3 HS1 c0 c2 c3 c5 f5 qb qv
    go_wp2
    go_ret
    exact ⟨rfl, y3, HF.out⟩
  · rw [decide_eq_false hin] at IN
    have U := duse_any HD.out HO.out hBw (i := i) hi (c.now i)
    have hnow : c.now i = c.below i := if_neg hin
    have HRd : Hid (c.read i = c.use i (c.now i)) := by (show _ = _); unfold Che.read; rw [if_neg hin]; rfl
    unfold st at U ⊢
    rw [← hnow] at qb
    clear hnow hin
    generalize sb (c.now i) = sx at *
    generalize sb (c.val i) = sv0 at *
    go_enter Tryd.func9, Tryd.ntmps9
    go_wp2_with fail
    refine IN.mono ?_
    rintro e w2 ⟨rfl, hw2⟩
    obtain rfl := hw2.symm
    clear IN hw2
    go_wp2_with fail
    refine U.mono ?_
    rintro e w3 ⟨rfl, y3, hS3⟩
    have HF : Hid (DS B w y w3 y3 (c.read i)) := by rw [HRd.out]; exact hS3
    clear U hS3 HD c0 c2 c3 c5 f5 qb qv
    go_wp2
    go_ret
    exact ⟨rfl, y3, HF.out⟩
set_option maxRecDepth 100000 in
set_option maxHeartbeats 1000000 in
theorem dwrite_any (h : DC B w y c) (ho : c.ok) (hBw : B ≤ w.heap.size) {i : Nat} (hi : i < c.n) (b : List El) (hb : b.length ≤ 16) :
    Calls Tryd.prog 11 #[.pointer (some ⟨y.p, 0, none⟩), .int .i64 (i : Int), st b] w fun e w' => e = .returned (.tuple #[]) ∧ ∃ y', DS B w y w' y' (c.write i b) := by
  obtain ⟨j0, hj, hy0, hy1, hy2⟩ := info_parts infoI
  have hn40 := ho.n40
  have U := duse_any h ho hBw hi b
  have okb := Che.use_okB ho hi hb
  have hdl : (c.use i b).dirty.length ≤ 12 := by
    have h1 := nlen_sub okb.dnd okb.nd okb.dsub
    have h2 := okb.len
    have h3 := okb.r12
    omega
  have HW : Hid (c.write i b = (c.use i b).soil i) := rfl
  obtain ⟨cu, hcu⟩ : ∃ cu, cu = c.use i b := ⟨_, rfl⟩
  rw [← hcu] at U hdl HW
  unfold st at U ⊢
  generalize sb b = sx at *
  have hp0 : ∀ y', DS B w y w y' c → True := fun _ _ => trivial
  clear h ho okb hcu hp0
  go_enter Tryd.func11, Tryd.ntmps11
  go_wp2_with fail
  refine U.mono ?_
  rintro e w1 ⟨rfl, y1, hS1⟩
  have HS1 : Hid (DS B w y w1 y1 cu) := hS1
  have hp := hS1.hp
  have c4 := hS1.is.c4
  have f4 := hS1.is.free 4
  obtain ⟨ad, kd, hvd⟩ := OwN.len hS1.is.dt
  have IN := in_any y1.vd cu.dirty i w1 (OwN.rd hS1.is.dt) (by omega)
  rw [hvd] at c4 IN
  rw [hp] at c4 f4
  have hdt := hS1.is.dt
  rw [hvd] at hdt
  have hBw1 : B ≤ w1.heap.size := Nat.le_trans hBw hS1.size
  have HVD : Hid (y1.vd = .slice ad cu.dirty.length kd) := hvd
  have HP : Hid (y1.p = y.p) := hp
  have HLT : Hid (y.p < w1.heap.size) := by (show _ < _); rw [← hp]; exact hS1.is.plt
  have HDP : Hid (∀ k, (Value.slice ad cu.dirty.length kd).ownBlock = some k → k ≠ y.p) := fun k hk => by
    rw [← hp]
    exact hS1.is.dp (by rw [hvd]; exact hk)
  clear U hS1 hvd hp
  go_wp2_with fail
  refine IN.mono ?_
  rintro e w2 ⟨rfl, hw2⟩
  obtain rfl := hw2.symm
  clear IN hw2
  by_cases hin : i ∈ cu.dirty
  · rw [decide_eq_true hin]
    have HF : Hid (DS B w y w1 y1 (c.write i b)) := by
      rw [HW.out]
      have : cu.soil i = cu := by unfold Che.soil; rw [if_pos hin]
      rw [this]
      exact HS1.out
    clear HS1 c4 f4 hdt hin
    go_wp2
    go_end0
    exact ⟨rfl, y1, HF.out⟩
  · rw [decide_eq_false hin]
    have HSo : Hid (c.write i b = ⟨cu.n, cu.below, cu.room, cu.row, cu.val, cu.dirty ++ [i], cu.hits⟩) := by (show _ = _); rw [HW.out]; unfold Che.soil; rw [if_neg hin]
    have hvl := vn_len cu.dirty
    have HV : Hid (vn (cu.dirty ++ [i]) = vn cu.dirty ++ [vi (i : Int)]) := by (show _ = _); simp [vn]
    have HLn : Hid ((cu.dirty ++ [i]).length = cu.dirty.length + 1) := by (show _ = _); simp
    have hdt' : w1.ownsRow B 3 1 (.slice ad cu.dirty.length kd) cu.dirty.length (vn cu.dirty) := hdt
    clear hdt hin HW
    generalize vn cu.dirty = xs at *
    generalize hln : cu.dirty.length = ln at *
    clear hln
    go_wp2_with (first | (at_builtin; refine wpList_append_lies _ rfl _ _ 34 rfl B 3 j0 (.int .i64 0) 1 8 Tryd.underlying34 hj hy0 hy1 hy2 rfl (by decide) _ _ _ rfl (World.ownsRow.alloc hdt' _) ⟨w1.heap.size, 0, none⟩ 1 1 [.int .i64 (i : Int)] rfl rfl (one_cell _) (by intro u hu; simp at hu; subst hu; rfl) (by omega) (by unfold maxLen; omega) (by omega) (by simp; omega) _ rfl ?_))
    intro g cap w3 hown hgrow hlie _
    have HSa : Hid (DS B w y (w1.alloc (.cells #[.int .i64 (i : Int)] 3)) y1 cu) := HS1.out.old (al_below _ _)
    have hza : (w1.alloc (.cells #[.int .i64 (i : Int)] 3)).heap.size = w1.heap.size + 1 := by simp
    have hO3 : OwN B w3 (.slice (some ⟨g, 0, none⟩) (cu.dirty ++ [i]).length cap) (cu.dirty ++ [i]) := by
      (show World.ownsRow _ _ _ _ _ _ _)
      rw [HV.out, HLn.out]
      exact hown
    have HF : Hid (DS B w y (w3.setCell ⟨y.p, 4, none⟩ (.slice (some ⟨g, 0, none⟩) (ln + 1) cap)) ⟨y1.p, y1.vb, y1.vr, y1.vv, .slice (some ⟨g, 0, none⟩) (cu.dirty ++ [i]).length cap⟩ (c.write i b)) := by
      have := HSa.out.more (g := g) (cap := cap) (l := cu.dirty ++ [i]) (by rw [HVD.out]; exact hgrow) hO3 (by rw [HVD.out]; rcases hlie with q | q; exact .inl q; exact .inr (by omega))
      rw [HSo.out]
      rw [HP.out, HLn.out] at this ⊢
      exact this
    have hne : some y.p ≠ (Value.slice ad ln kd).ownBlock := fun e => HDP.out _ e.symm rfl
    have d4 : w3.cell? ⟨y.p, 4, none⟩ = some (.slice ad ln kd) := by
      rw [hgrow.cell_far ⟨y.p, 4, none⟩ (by have := HLT.out; rw [hza]; show y.p < _; omega) hne, (al_below w1 _).cell HLT.out]
      exact c4
    have e4 : w3.frozen? ⟨y.p, 4, none⟩ = false := by
      rw [hgrow.frozen_far ⟨y.p, 4, none⟩ (by have := HLT.out; rw [hza]; show y.p < _; omega) hne]
      exact (World.frozen?_of_block ((al_below w1 _).block y.p HLT.out)).trans f4
    clear hown hgrow hlie hO3 HSa HS1 c4 f4 hdt' HV HLn HSo
    go_wp2
    go_end0
    exact ⟨rfl, _, HF.out⟩
end Go.Proofs.YtfeikmmojilmbaaDoor
