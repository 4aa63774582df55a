/- The document's cache in memory: its blocks, and what keeps them; a list without a number: walks over the document's own. -/
import Derived.Test.YtfeikmmojilmbaaDoorChA
import Derived.Test.YtfeikmmojilmbaaDoorInA
import Derived.Test.YtfeikmmojilmbaaDoorRoB
import Derived.Test.YtfeikmmojilmbaaDoorRoF
namespace Go.Proofs.YtfeikmmojilmbaaDoor
open Go.RowKit El Pol
theorem wo_take {l : List Nat} {k i : Nat} (h : k < l.length) : wo (l.take (k + 1)) i = wo (l.take k) i ++ (if l[k] = i then [] else [l[k]]) := by
  rw [List.take_succ_eq_append_getElem h]
  unfold wo
  rw [List.filter_append]
  by_cases e : l[k] = i
  · simp [e]
  · simp [e]
set_option maxRecDepth 100000 in
set_option maxHeartbeats 1000000 in
theorem without_any (v : Value) (l : List Nat) (i : Nat) (w : World) (h : RdN w v l) (hl : l.length ≤ 100) (hs : ∀ k ∈ l, k < 1000) :
    Calls Tryd.prog 47 #[v, .int .i64 (i : Int)] w fun e w' => ∃ u, e = .returned u ∧ OwN w.heap.size w' u (wo l i) ∧ Below w.heap.size w w' := by
  obtain ⟨j0, hj, hy0, hy1, hy2⟩ := info_parts infoI
  obtain ⟨ao, cap, rfl, _, _⟩ := h.len
  have HR : Hid (RdN w (.slice ao l.length cap) l) := h
  have HS : Hid (∀ k ∈ l, k < 1000) := hs
  obtain ⟨n, hn⟩ : ∃ n, n = l.length := ⟨_, rfl⟩
  have HN : Hid (n = l.length) := hn
  rw [← hn] at hl HR ⊢
  clear h hs hn
  go_enter Tryd.func47, Tryd.ntmps47
  go_wp2
  go_loopw [5, 6] (fun o c wr => ∃ k : Nat, k ≤ n ∧ c = .int .i64 k ∧ OwN w.heap.size wr o (wo (l.take k) i) ∧ Below w.heap.size w wr) (fun _ c _ => n - (intOf c).toNat)
  case atStart => exact ⟨0, Nat.zero_le _, rfl, World.ownsRow_nil _ _ _ _, Below.refl _ _⟩
  case round =>
    obtain ⟨k, hk, rfl, hO, hB⟩ := hrel
    have hsz := hB.size
    by_cases hlt : k < n
    · have hkl : k < l.length := by rw [← HN.out]; exact hlt
      have hr := HR.out
      unfold RdN at hr
      rw [← HN.out] at hr
      obtain ⟨ad, rfl, hc⟩ := (hr.old hB).at k hlt
      have hkz : (k : Int) < (n : Int) := by omega
      rw [show l.getD k 0 = l[k] by simp [List.getD_eq_getElem?_getD, hkl]] at hc
      have hx : l[k] < 1000 := HS.out _ (List.getElem_mem _)
      have HW : Hid (wo (l.take (k + 1)) i = wo (l.take k) i ++ (if l[k] = i then [] else [l[k]])) := wo_take hkl
      have hwl : (wo (l.take k) i).length ≤ 100 := by
        have := wo_len (l.take k) i
        rw [List.length_take] at this
        omega
      clear hr
      generalize l[k] = y at *
      obtain ⟨a1, c1, rfl⟩ := OwN.len hO
      by_cases e : y = i
      · have hne : ((y : Int) != (i : Int)) = false := by simp [e]
        have hne2 : (y : Int) = (i : Int) := by omega
        have HO : Hid (OwN w.heap.size wr (.slice a1 (wo (l.take k) i).length c1) (wo (l.take (k + 1)) i)) := by
          rw [HW.out, if_pos e, List.append_nil]; exact hO
        have hcy : wr.cell? (ad.add k) = some (vi (i : Int)) := by rw [hc, e]
        clear hO HW e hc hne hne2
        have hbb : ((i : Int) != (i : Int)) = false := by simp
        generalize (wo (l.take k) i).length = ln at *
        go_wp2
        go_roundw
        case rel => exact ⟨k + 1, by omega, by go_num, HO.out, hB⟩
        case measure => simp [intOf]; omega
      · have hne : ((y : Int) != (i : Int)) = true := by rw [bne_iff_ne]; omega
        have hne2 : ¬ (y : Int) = (i : Int) := by omega
        have HV : Hid (vn (wo (l.take (k + 1)) i) = vn (wo (l.take k) i) ++ [vi (y : Int)]) := by (show _ = _); rw [HW.out, if_neg e]; simp [vn]
        have HLL : Hid ((wo (l.take (k + 1)) i).length = (wo (l.take k) i).length + 1) := by (show _ = _); rw [HW.out, if_neg e]; simp
        have hvl := vn_len (wo (l.take k) i)
        have hO2 : wr.ownsRow w.heap.size 3 1 (.slice a1 (wo (l.take k) i).length c1) (wo (l.take k) i).length (vn (wo (l.take k) i)) := hO
        clear hO HW e
        generalize vn (wo (l.take k) i) = xs at *
        generalize (wo (l.take k) i).length = ln at *
        go_wp2_with (first | (at_builtin; refine wpList_append_own _ rfl _ _ 34 rfl w.heap.size 3 j0 (.int .i64 0) 1 8 Tryd.underlying34 hj hy0 hy1 hy2 rfl (by decide) _ _ _ rfl (World.ownsRow.alloc hO2 _) ⟨wr.heap.size, 0, none⟩ 1 1 [.int .i64 (y : Int)] rfl rfl (one_cell _) (by intro u hu; simp at hu; subst hu; rfl) (by unfold maxLen; omega) (by omega) (by simp; omega) ?_))
        intro v' w3 hown hgrow _
        have HO3 : Hid (OwN w.heap.size w3 v' (wo (l.take (k + 1)) i)) := by
          (show World.ownsRow _ _ _ _ _ _ _)
          rw [HV.out, HLL.out]
          exact hown
        have hB3 : Below w.heap.size w w3 := (hB.alloc hsz _).grown hgrow (by simp; omega) (fun g hg => (World.ownsRow.lt hO2 g hg).1)
        clear hown hgrow hO2 HV HLL hB
        go_wp2
        go_roundw
        case rel => exact ⟨k + 1, by omega, by go_num, HO3.out, hB3⟩
        case measure => simp [intOf]; omega
    · have hkz : ¬ (k : Int) < (n : Int) := by omega
      have HO : Hid (OwN w.heap.size wr u5 (wo l i)) := by
        have h2 := hO
        rw [List.take_of_length_le (by rw [← HN.out]; omega)] at h2
        exact h2
      clear hO
      go_wp2
      go_ret
      exact ⟨_, rfl, HO.out, hB⟩
/-- where its parts stand -/
structure DP where
  p : Nat
  vb : Value
  vr : Value
  vv : Value
  vd : Value
def DP.F (y : DP) (k : Nat) : Prop := k = y.p ∨ y.vb.ownBlock = some k ∨ y.vr.ownBlock = some k ∨ y.vv.ownBlock = some k ∨ y.vd.ownBlock = some k
def dcCells (y : DP) (c : Che) : Array Value := #[y.vb, .int .i64 (c.room : Int), y.vr, y.vv, y.vd, .int .i64 (c.hits : Int)]
structure DC (B : Nat) (w : World) (y : DP) (c : Che) : Prop where
  row : w.heap[y.p]? = some (.cells (dcCells y c) 45 (0, 0))
  bl : OwT B w y.vb c.n c.below
  rw' : OwN B w y.vr c.row
  vl : OwT B w y.vv c.n c.val
  dt : OwN B w y.vd c.dirty
  bv : ∀ k, y.vb.ownBlock = some k → y.vv.ownBlock ≠ some k
  rd' : ∀ k, y.vr.ownBlock = some k → y.vd.ownBlock ≠ some k
  hp : B ≤ y.p
namespace DC
variable {B : Nat} {w w' : World} {y : DP} {c : Che}
theorem pt (h : DC B w y c) : ∃ z r, w.heap[y.p]? = some (.cells z 45 r) := ⟨_, _, h.row⟩
theorem bp (h : DC B w y c) {k : Nat} (hk : y.vb.ownBlock = some k) : k ≠ y.p := fun e => by subst e; exact type_ne (ownsRow_type h.bl hk) h.pt (by decide)
theorem vp (h : DC B w y c) {k : Nat} (hk : y.vv.ownBlock = some k) : k ≠ y.p := fun e => by subst e; exact type_ne (ownsRow_type h.vl hk) h.pt (by decide)
theorem rp (h : DC B w y c) {k : Nat} (hk : y.vr.ownBlock = some k) : k ≠ y.p := fun e => by subst e; exact type_ne (ownsRow_type h.rw' hk) h.pt (by decide)
theorem dp (h : DC B w y c) {k : Nat} (hk : y.vd.ownBlock = some k) : k ≠ y.p := fun e => by subst e; exact type_ne (ownsRow_type h.dt hk) h.pt (by decide)
theorem br (h : DC B w y c) {k : Nat} (hk : y.vb.ownBlock = some k) : y.vr.ownBlock ≠ some k := fun e => type_ne (ownsRow_type h.bl hk) (ownsRow_type h.rw' e) (by decide)
theorem bd (h : DC B w y c) {k : Nat} (hk : y.vb.ownBlock = some k) : y.vd.ownBlock ≠ some k := fun e => type_ne (ownsRow_type h.bl hk) (ownsRow_type h.dt e) (by decide)
theorem vr (h : DC B w y c) {k : Nat} (hk : y.vv.ownBlock = some k) : y.vr.ownBlock ≠ some k := fun e => type_ne (ownsRow_type h.vl hk) (ownsRow_type h.rw' e) (by decide)
theorem vd (h : DC B w y c) {k : Nat} (hk : y.vv.ownBlock = some k) : y.vd.ownBlock ≠ some k := fun e => type_ne (ownsRow_type h.vl hk) (ownsRow_type h.dt e) (by decide)
theorem plt (h : DC B w y c) : y.p < w.heap.size := lt_of_block h.row
theorem lt (h : DC B w y c) : ∀ k, y.F k → k < w.heap.size := by
  rintro k (rfl | q | q | q | q)
  · exact h.plt
  · exact (World.ownsRow.lt h.bl k q).2
  · exact (World.ownsRow.lt h.rw' k q).2
  · exact (World.ownsRow.lt h.vl k q).2
  · exact (World.ownsRow.lt h.dt k q).2
theorem low (h : DC B w y c) : ∀ k, y.F k → B ≤ k := by
  rintro k (rfl | q | q | q | q)
  · exact h.hp
  · exact (World.ownsRow.lt h.bl k q).1
  · exact (World.ownsRow.lt h.rw' k q).1
  · exact (World.ownsRow.lt h.vl k q).1
  · exact (World.ownsRow.lt h.dt k q).1
theorem but {G : Nat → Prop} (h : DC B w y c) (hb : But G w w') (hn : ∀ k, y.F k → ¬ G k) : DC B w' y c :=
  ⟨(hb.block _ h.plt (hn _ (.inl rfl))).trans h.row, ownsRow_but h.bl hb (fun k hk => hn k (.inr (.inl hk))), ownsRow_but h.rw' hb (fun k hk => hn k (.inr (.inr (.inl hk)))), ownsRow_but h.vl hb (fun k hk => hn k (.inr (.inr (.inr (.inl hk))))), ownsRow_but h.dt hb (fun k hk => hn k (.inr (.inr (.inr (.inr hk))))), h.bv, h.rd', h.hp⟩
theorem old (h : DC B w y c) (hb : Below w.heap.size w w') : DC B w' y c := h.but (Below.but hb (fun _ => False)) (fun _ _ q => q)
theorem cell (h : DC B w y c) (i : Nat) : w.cell? ⟨y.p, i, none⟩ = (dcCells y c)[i]? := by rw [cell_of_row _ _ _ _ _ _ h.row]
theorem free (h : DC B w y c) (i : Nat) : w.frozen? ⟨y.p, i, none⟩ = false := frozen_of_row _ _ _ _ _ h.row
theorem c0 (h : DC B w y c) : w.cell? ⟨y.p, 0, none⟩ = some y.vb := h.cell 0
theorem c1 (h : DC B w y c) : w.cell? ⟨y.p, 1, none⟩ = some (.int .i64 (c.room : Int)) := h.cell 1
theorem c2 (h : DC B w y c) : w.cell? ⟨y.p, 2, none⟩ = some y.vr := h.cell 2
theorem c3 (h : DC B w y c) : w.cell? ⟨y.p, 3, none⟩ = some y.vv := h.cell 3
theorem c4 (h : DC B w y c) : w.cell? ⟨y.p, 4, none⟩ = some y.vd := h.cell 4
theorem c5 (h : DC B w y c) : w.cell? ⟨y.p, 5, none⟩ = some (.int .i64 (c.hits : Int)) := h.cell 5
/-- another row: of the call's own, apart from what is dirty -/
theorem put2 (h : DC B w y c) {v : Value} {l : List Nat} (hO : OwN B w v l) (ha : ∀ k, v.ownBlock = some k → y.vd.ownBlock ≠ some k) :
    DC B (w.setCell ⟨y.p, 2, none⟩ v) ⟨y.p, y.vb, v, y.vv, y.vd⟩ ⟨c.n, c.below, c.room, l, c.val, c.dirty, c.hits⟩ ∧ But (· = y.p) w (w.setCell ⟨y.p, 2, none⟩ v) := by
  have hb : But (· = y.p) w (w.setCell ⟨y.p, 2, none⟩ v) := (But.refl (· = y.p) w).setCell (p := ⟨y.p, 2, none⟩) rfl _
  refine ⟨⟨?_, ownsRow_but h.bl hb (fun k hk => h.bp hk), ownsRow_but hO hb (fun k hk e => by subst e; exact type_ne (ownsRow_type hO hk) h.pt (by decide)), ownsRow_but h.vl hb (fun k hk => h.vp hk), ownsRow_but h.dt hb (fun k hk => h.dp hk), h.bv, ha, h.hp⟩, hb⟩
  rw [heap_setCell_same _ _ _ _ _ _ h.row]
  rfl
theorem put4 (h : DC B w y c) {v : Value} {l : List Nat} (hO : OwN B w v l) (ha : ∀ k, y.vr.ownBlock = some k → v.ownBlock ≠ some k) :
    DC B (w.setCell ⟨y.p, 4, none⟩ v) ⟨y.p, y.vb, y.vr, y.vv, v⟩ ⟨c.n, c.below, c.room, c.row, c.val, l, c.hits⟩ ∧ But (· = y.p) w (w.setCell ⟨y.p, 4, none⟩ v) := by
  have hb : But (· = y.p) w (w.setCell ⟨y.p, 4, none⟩ v) := (But.refl (· = y.p) w).setCell (p := ⟨y.p, 4, none⟩) rfl _
  refine ⟨⟨?_, ownsRow_but h.bl hb (fun k hk => h.bp hk), ownsRow_but h.rw' hb (fun k hk => h.rp hk), ownsRow_but h.vl hb (fun k hk => h.vp hk), ownsRow_but hO hb (fun k hk e => by subst e; exact type_ne (ownsRow_type hO hk) h.pt (by decide)), h.bv, ha, h.hp⟩, hb⟩
  rw [heap_setCell_same _ _ _ _ _ _ h.row]
  rfl
theorem put5 (h : DC B w y c) (n : Nat) :
    DC B (w.setCell ⟨y.p, 5, none⟩ (.int .i64 (n : Int))) y ⟨c.n, c.below, c.room, c.row, c.val, c.dirty, n⟩ ∧ But (· = y.p) w (w.setCell ⟨y.p, 5, none⟩ (.int .i64 (n : Int))) := by
  have hb : But (· = y.p) w (w.setCell ⟨y.p, 5, none⟩ (.int .i64 (n : Int))) := (But.refl (· = y.p) w).setCell (p := ⟨y.p, 5, none⟩) rfl _
  refine ⟨⟨?_, ownsRow_but h.bl hb (fun k hk => h.bp hk), ownsRow_but h.rw' hb (fun k hk => h.rp hk), ownsRow_but h.vl hb (fun k hk => h.vp hk), ownsRow_but h.dt hb (fun k hk => h.dp hk), h.bv, h.rd', h.hp⟩, hb⟩
  rw [heap_setCell_same _ _ _ _ _ _ h.row]
  rfl
/-- a cell's value -/
theorem putV {g cap : Nat} (h : DC B w y c) (hv : y.vv = .slice (some ⟨g, 0, none⟩) c.n cap) (i : Nat) (t : List El) :
    DC B (w.setCell ⟨g, i, none⟩ (st t)) y ⟨c.n, c.below, c.room, c.row, up c.val i t, c.dirty, c.hits⟩ ∧ But y.F w (w.setCell ⟨g, i, none⟩ (st t)) := by
  have hO := h.vl
  rw [hv] at hO
  have S := OwT.stored hO i t
  have hg : y.vv.ownBlock = some g := by rw [hv]; rfl
  have hb : But (· = g) w (w.setCell ⟨g, i, none⟩ (st t)) := (But.refl (· = g) w).setCell (p := ⟨g, i, none⟩) rfl _
  refine ⟨⟨(hb.block _ h.plt (fun e => h.vp hg e.symm)).trans h.row, ownsRow_but h.bl hb (fun k hk e => h.bv k hk (by rw [e]; exact hg)), ownsRow_but h.rw' hb (fun k hk e => h.vr hg (by rw [← e]; exact hk)), by rw [hv]; exact S.1, ownsRow_but h.dt hb (fun k hk e => h.vd hg (by rw [← e]; exact hk)), h.bv, h.rd', h.hp⟩, hb.mono (fun k e => .inr (.inr (.inr (.inl (by rw [e]; exact hg)))))⟩
/-- a cell below -/
theorem putB {g cap : Nat} (h : DC B w y c) (hv : y.vb = .slice (some ⟨g, 0, none⟩) c.n cap) (i : Nat) (t : List El) :
    DC B (w.setCell ⟨g, i, none⟩ (st t)) y ⟨c.n, up c.below i t, c.room, c.row, c.val, c.dirty, c.hits⟩ ∧ But y.F w (w.setCell ⟨g, i, none⟩ (st t)) := by
  have hO := h.bl
  rw [hv] at hO
  have S := OwT.stored hO i t
  have hg : y.vb.ownBlock = some g := by rw [hv]; rfl
  have hb : But (· = g) w (w.setCell ⟨g, i, none⟩ (st t)) := (But.refl (· = g) w).setCell (p := ⟨g, i, none⟩) rfl _
  refine ⟨⟨(hb.block _ h.plt (fun e => h.bp hg e.symm)).trans h.row, by rw [hv]; exact S.1, ownsRow_but h.rw' hb (fun k hk e => h.br hg (by rw [← e]; exact hk)), ownsRow_but h.vl hb (fun k hk e => h.bv g hg (by rw [← e]; exact hk)), ownsRow_but h.dt hb (fun k hk e => h.bd hg (by rw [← e]; exact hk)), h.bv, h.rd', h.hp⟩, hb.mono (fun k e => .inr (.inl (by rw [e]; exact hg)))⟩
end DC
end Go.Proofs.YtfeikmmojilmbaaDoor
