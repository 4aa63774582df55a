/- Texts of plain mathematics, of memory and of walks, in one. -/
import Derived.Test.YtfeikmmojilmbaaDoorChA
import Derived.Test.YtfeikmmojilmbaaDoorInA
import Derived.Test.YtfeikmmojilmbaaDoorRoB
import Derived.Test.YtfeikmmojilmbaaDoorRoF
import Derived.BigRegion
import Derived.Deep.Cut
import Derived.Deep.AppendLies
/- The document's cache in memory: its blocks, and what keeps them; a list without a number: walks over the document's own. -/
namespace Go.Proofs.YtfeikmmojilmbaaDoor
open Go.RowKit El Pol
theorem wo_take {l : List Nat} {k i : Nat} (h : k < l.length) : wo (l.take (k + 1)) i = wo (l.take k) i ++ (if l[k] = i then [] else [l[k]]) := by
  rw [List.take_succ_eq_append_getElem h]
  unfold wo
  rw [List.filter_append]
  by_cases e : l[k] = i
  · simp [e]
  · simp [e]
set_option maxRecDepth 100000 in
set_option maxHeartbeats 1000000 in
theorem without_any (v : Value) (l : List Nat) (i : Nat) (w : World) (h : RdN w v l) (hl : l.length ≤ 100) (hs : ∀ k ∈ l, k < 1000) :
    Calls Tryd.prog 47 #[v, .int .i64 (i : Int)] w fun e w' => ∃ u, e = .returned u ∧ OwN w.heap.size w' u (wo l i) ∧ Below w.heap.size w w' := by
  obtain ⟨j0, hj, hy0, hy1, hy2⟩ := info_parts infoI
  obtain ⟨ao, cap, rfl, _, _⟩ := h.len
  have HR : Hid (RdN w (.slice ao l.length cap) l) := h
  have HS : Hid (∀ k ∈ l, k < 1000) := hs
  obtain ⟨n, hn⟩ : ∃ n, n = l.length := ⟨_, rfl⟩
  have HN : Hid (n = l.length) := hn
  rw [← hn] at hl HR ⊢
  clear h hs hn
  go_enter Tryd.func47, Tryd.ntmps47
  go_wp2
  go_loopw [5, 6] (fun o c wr => ∃ k : Nat, k ≤ n ∧ c = .int .i64 k ∧ OwN w.heap.size wr o (wo (l.take k) i) ∧ Below w.heap.size w wr) (fun _ c _ => n - (intOf c).toNat)
  case atStart => exact ⟨0, Nat.zero_le _, rfl, World.ownsRow_nil _ _ _ _, Below.refl _ _⟩
  case round =>
    obtain ⟨k, hk, rfl, hO, hB⟩ := hrel
    have hsz := hB.size
    by_cases hlt : k < n
    · have hkl : k < l.length := by rw [← HN.out]; exact hlt
      have hr := HR.out
      unfold RdN at hr
      rw [← HN.out] at hr
      obtain ⟨ad, rfl, hc⟩ := (hr.old hB).at k hlt
      have hkz : (k : Int) < (n : Int) := by omega
      rw [show l.getD k 0 = l[k] by simp [List.getD_eq_getElem?_getD, hkl]] at hc
      have hx : l[k] < 1000 := HS.out _ (List.getElem_mem _)
      have HW : Hid (wo (l.take (k + 1)) i = wo (l.take k) i ++ (if l[k] = i then [] else [l[k]])) := wo_take hkl
      have hwl : (wo (l.take k) i).length ≤ 100 := by
        have := wo_len (l.take k) i
        rw [List.length_take] at this
        omega
      clear hr
      generalize l[k] = y at *
      obtain ⟨a1, c1, rfl⟩ := OwN.len hO
      by_cases e : y = i
      · have hne : ((y : Int) != (i : Int)) = false := by simp [e]
        have hne2 : (y : Int) = (i : Int) := by omega
        have HO : Hid (OwN w.heap.size wr (.slice a1 (wo (l.take k) i).length c1) (wo (l.take (k + 1)) i)) := by
          rw [HW.out, if_pos e, List.append_nil]; exact hO
        have hcy : wr.cell? (ad.add k) = some (vi (i : Int)) := by rw [hc, e]
        clear hO HW e hc hne hne2
        have hbb : ((i : Int) != (i : Int)) = false := by simp
        generalize (wo (l.take k) i).length = ln at *
        go_wp2
        go_roundw
        case rel => exact ⟨k + 1, by omega, by go_num, HO.out, hB⟩
        case measure => simp [intOf]; omega
      · have hne : ((y : Int) != (i : Int)) = true := by rw [bne_iff_ne]; omega
        have hne2 : ¬ (y : Int) = (i : Int) := by omega
        have HV : Hid (vn (wo (l.take (k + 1)) i) = vn (wo (l.take k) i) ++ [vi (y : Int)]) := by (show _ = _); rw [HW.out, if_neg e]; simp [vn]
        have HLL : Hid ((wo (l.take (k + 1)) i).length = (wo (l.take k) i).length + 1) := by (show _ = _); rw [HW.out, if_neg e]; simp
        have hvl := vn_len (wo (l.take k) i)
        have hO2 : wr.ownsRow w.heap.size 3 1 (.slice a1 (wo (l.take k) i).length c1) (wo (l.take k) i).length (vn (wo (l.take k) i)) := hO
        clear hO HW e
        generalize vn (wo (l.take k) i) = xs at *
        generalize (wo (l.take k) i).length = ln at *
        go_wp2_with (first | (at_builtin; refine wpList_append_own _ rfl _ _ 34 rfl w.heap.size 3 j0 (.int .i64 0) 1 8 Tryd.underlying34 hj hy0 hy1 hy2 rfl (by decide) _ _ _ rfl (World.ownsRow.alloc hO2 _) ⟨wr.heap.size, 0, none⟩ 1 1 [.int .i64 (y : Int)] rfl rfl (one_cell _) (by intro u hu; simp at hu; subst hu; rfl) (by unfold maxLen; omega) (by omega) (by simp; omega) ?_))
        intro v' w3 hown hgrow _
        have HO3 : Hid (OwN w.heap.size w3 v' (wo (l.take (k + 1)) i)) := by
          (show World.ownsRow _ _ _ _ _ _ _)
          rw [HV.out, HLL.out]
          exact hown
        have hB3 : Below w.heap.size w w3 := (hB.alloc hsz _).grown hgrow (by simp; omega) (fun g hg => (World.ownsRow.lt hO2 g hg).1)
        clear hown hgrow hO2 HV HLL hB
        go_wp2
        go_roundw
        case rel => exact ⟨k + 1, by omega, by go_num, HO3.out, hB3⟩
        case measure => simp [intOf]; omega
    · have hkz : ¬ (k : Int) < (n : Int) := by omega
      have HO : Hid (OwN w.heap.size wr u5 (wo l i)) := by
        have h2 := hO
        rw [List.take_of_length_le (by rw [← HN.out]; omega)] at h2
        exact h2
      clear hO
      go_wp2
      go_ret
      exact ⟨_, rfl, HO.out, hB⟩
/-- where its parts stand -/
structure DP where
  p : Nat
  vb : Value
  vr : Value
  vv : Value
  vd : Value
def DP.F (y : DP) (k : Nat) : Prop := k = y.p ∨ y.vb.ownBlock = some k ∨ y.vr.ownBlock = some k ∨ y.vv.ownBlock = some k ∨ y.vd.ownBlock = some k
def dcCells (y : DP) (c : Che) : Array Value := #[y.vb, .int .i64 (c.room : Int), y.vr, y.vv, y.vd, .int .i64 (c.hits : Int)]
structure DC (B : Nat) (w : World) (y : DP) (c : Che) : Prop where
  row : w.heap[y.p]? = some (.cells (dcCells y c) 45 (0, 0))
  bl : OwT B w y.vb c.n c.below
  rw' : OwN B w y.vr c.row
  vl : OwT B w y.vv c.n c.val
  dt : OwN B w y.vd c.dirty
  bv : ∀ k, y.vb.ownBlock = some k → y.vv.ownBlock ≠ some k
  rd' : ∀ k, y.vr.ownBlock = some k → y.vd.ownBlock ≠ some k
  hp : B ≤ y.p
namespace DC
variable {B : Nat} {w w' : World} {y : DP} {c : Che}
theorem pt (h : DC B w y c) : ∃ z r, w.heap[y.p]? = some (.cells z 45 r) := ⟨_, _, h.row⟩
theorem bp (h : DC B w y c) {k : Nat} (hk : y.vb.ownBlock = some k) : k ≠ y.p := fun e => by subst e; exact type_ne (ownsRow_type h.bl hk) h.pt (by decide)
theorem vp (h : DC B w y c) {k : Nat} (hk : y.vv.ownBlock = some k) : k ≠ y.p := fun e => by subst e; exact type_ne (ownsRow_type h.vl hk) h.pt (by decide)
theorem rp (h : DC B w y c) {k : Nat} (hk : y.vr.ownBlock = some k) : k ≠ y.p := fun e => by subst e; exact type_ne (ownsRow_type h.rw' hk) h.pt (by decide)
theorem dp (h : DC B w y c) {k : Nat} (hk : y.vd.ownBlock = some k) : k ≠ y.p := fun e => by subst e; exact type_ne (ownsRow_type h.dt hk) h.pt (by decide)
theorem br (h : DC B w y c) {k : Nat} (hk : y.vb.ownBlock = some k) : y.vr.ownBlock ≠ some k := fun e => type_ne (ownsRow_type h.bl hk) (ownsRow_type h.rw' e) (by decide)
theorem bd (h : DC B w y c) {k : Nat} (hk : y.vb.ownBlock = some k) : y.vd.ownBlock ≠ some k := fun e => type_ne (ownsRow_type h.bl hk) (ownsRow_type h.dt e) (by decide)
theorem vr (h : DC B w y c) {k : Nat} (hk : y.vv.ownBlock = some k) : y.vr.ownBlock ≠ some k := fun e => type_ne (ownsRow_type h.vl hk) (ownsRow_type h.rw' e) (by decide)
theorem vd (h : DC B w y c) {k : Nat} (hk : y.vv.ownBlock = some k) : y.vd.ownBlock ≠ some k := fun e => type_ne (ownsRow_type h.vl hk) (ownsRow_type h.dt e) (by decide)
theorem plt (h : DC B w y c) : y.p < w.heap.size := lt_of_block h.row
theorem lt (h : DC B w y c) : ∀ k, y.F k → k < w.heap.size := by
  rintro k (rfl | q | q | q | q)
  · exact h.plt
  · exact (World.ownsRow.lt h.bl k q).2
  · exact (World.ownsRow.lt h.rw' k q).2
  · exact (World.ownsRow.lt h.vl k q).2
  · exact (World.ownsRow.lt h.dt k q).2
theorem low (h : DC B w y c) : ∀ k, y.F k → B ≤ k := by
  rintro k (rfl | q | q | q | q)
  · exact h.hp
  · exact (World.ownsRow.lt h.bl k q).1
  · exact (World.ownsRow.lt h.rw' k q).1
  · exact (World.ownsRow.lt h.vl k q).1
  · exact (World.ownsRow.lt h.dt k q).1
theorem but {G : Nat → Prop} (h : DC B w y c) (hb : But G w w') (hn : ∀ k, y.F k → ¬ G k) : DC B w' y c :=
  ⟨(hb.block _ h.plt (hn _ (.inl rfl))).trans h.row, ownsRow_but h.bl hb (fun k hk => hn k (.inr (.inl hk))), ownsRow_but h.rw' hb (fun k hk => hn k (.inr (.inr (.inl hk)))), ownsRow_but h.vl hb (fun k hk => hn k (.inr (.inr (.inr (.inl hk))))), ownsRow_but h.dt hb (fun k hk => hn k (.inr (.inr (.inr (.inr hk))))), h.bv, h.rd', h.hp⟩
theorem old (h : DC B w y c) (hb : Below w.heap.size w w') : DC B w' y c := h.but (Below.but hb (fun _ => False)) (fun _ _ q => q)
theorem cell (h : DC B w y c) (i : Nat) : w.cell? ⟨y.p, i, none⟩ = (dcCells y c)[i]? := by rw [cell_of_row _ _ _ _ _ _ h.row]
theorem free (h : DC B w y c) (i : Nat) : w.frozen? ⟨y.p, i, none⟩ = false := frozen_of_row _ _ _ _ _ h.row
theorem c0 (h : DC B w y c) : w.cell? ⟨y.p, 0, none⟩ = some y.vb := h.cell 0
theorem c1 (h : DC B w y c) : w.cell? ⟨y.p, 1, none⟩ = some (.int .i64 (c.room : Int)) := h.cell 1
theorem c2 (h : DC B w y c) : w.cell? ⟨y.p, 2, none⟩ = some y.vr := h.cell 2
theorem c3 (h : DC B w y c) : w.cell? ⟨y.p, 3, none⟩ = some y.vv := h.cell 3
theorem c4 (h : DC B w y c) : w.cell? ⟨y.p, 4, none⟩ = some y.vd := h.cell 4
theorem c5 (h : DC B w y c) : w.cell? ⟨y.p, 5, none⟩ = some (.int .i64 (c.hits : Int)) := h.cell 5
/-- another row: of the call's own, apart from what is dirty -/
theorem put2 (h : DC B w y c) {v : Value} {l : List Nat} (hO : OwN B w v l) (ha : ∀ k, v.ownBlock = some k → y.vd.ownBlock ≠ some k) :
    DC B (w.setCell ⟨y.p, 2, none⟩ v) ⟨y.p, y.vb, v, y.vv, y.vd⟩ ⟨c.n, c.below, c.room, l, c.val, c.dirty, c.hits⟩ ∧ But (· = y.p) w (w.setCell ⟨y.p, 2, none⟩ v) := by
  have hb : But (· = y.p) w (w.setCell ⟨y.p, 2, none⟩ v) := (But.refl (· = y.p) w).setCell (p := ⟨y.p, 2, none⟩) rfl _
  refine ⟨⟨?_, ownsRow_but h.bl hb (fun k hk => h.bp hk), ownsRow_but hO hb (fun k hk e => by subst e; exact type_ne (ownsRow_type hO hk) h.pt (by decide)), ownsRow_but h.vl hb (fun k hk => h.vp hk), ownsRow_but h.dt hb (fun k hk => h.dp hk), h.bv, ha, h.hp⟩, hb⟩
  rw [heap_setCell_same _ _ _ _ _ _ h.row]
  rfl
theorem put4 (h : DC B w y c) {v : Value} {l : List Nat} (hO : OwN B w v l) (ha : ∀ k, y.vr.ownBlock = some k → v.ownBlock ≠ some k) :
    DC B (w.setCell ⟨y.p, 4, none⟩ v) ⟨y.p, y.vb, y.vr, y.vv, v⟩ ⟨c.n, c.below, c.room, c.row, c.val, l, c.hits⟩ ∧ But (· = y.p) w (w.setCell ⟨y.p, 4, none⟩ v) := by
  have hb : But (· = y.p) w (w.setCell ⟨y.p, 4, none⟩ v) := (But.refl (· = y.p) w).setCell (p := ⟨y.p, 4, none⟩) rfl _
  refine ⟨⟨?_, ownsRow_but h.bl hb (fun k hk => h.bp hk), ownsRow_but h.rw' hb (fun k hk => h.rp hk), ownsRow_but h.vl hb (fun k hk => h.vp hk), ownsRow_but hO hb (fun k hk e => by subst e; exact type_ne (ownsRow_type hO hk) h.pt (by decide)), h.bv, ha, h.hp⟩, hb⟩
  rw [heap_setCell_same _ _ _ _ _ _ h.row]
  rfl
theorem put5 (h : DC B w y c) (n : Nat) :
    DC B (w.setCell ⟨y.p, 5, none⟩ (.int .i64 (n : Int))) y ⟨c.n, c.below, c.room, c.row, c.val, c.dirty, n⟩ ∧ But (· = y.p) w (w.setCell ⟨y.p, 5, none⟩ (.int .i64 (n : Int))) := by
  have hb : But (· = y.p) w (w.setCell ⟨y.p, 5, none⟩ (.int .i64 (n : Int))) := (But.refl (· = y.p) w).setCell (p := ⟨y.p, 5, none⟩) rfl _
  refine ⟨⟨?_, ownsRow_but h.bl hb (fun k hk => h.bp hk), ownsRow_but h.rw' hb (fun k hk => h.rp hk), ownsRow_but h.vl hb (fun k hk => h.vp hk), ownsRow_but h.dt hb (fun k hk => h.dp hk), h.bv, h.rd', h.hp⟩, hb⟩
  rw [heap_setCell_same _ _ _ _ _ _ h.row]
  rfl
/-- a cell's value -/
theorem putV {g cap : Nat} (h : DC B w y c) (hv : y.vv = .slice (some ⟨g, 0, none⟩) c.n cap) (i : Nat) (t : List El) :
    DC B (w.setCell ⟨g, i, none⟩ (st t)) y ⟨c.n, c.below, c.room, c.row, up c.val i t, c.dirty, c.hits⟩ ∧ But y.F w (w.setCell ⟨g, i, none⟩ (st t)) := by
  have hO := h.vl
  rw [hv] at hO
  have S := OwT.stored hO i t
  have hg : y.vv.ownBlock = some g := by rw [hv]; rfl
  have hb : But (· = g) w (w.setCell ⟨g, i, none⟩ (st t)) := (But.refl (· = g) w).setCell (p := ⟨g, i, none⟩) rfl _
  refine ⟨⟨(hb.block _ h.plt (fun e => h.vp hg e.symm)).trans h.row, ownsRow_but h.bl hb (fun k hk e => h.bv k hk (by rw [e]; exact hg)), ownsRow_but h.rw' hb (fun k hk e => h.vr hg (by rw [← e]; exact hk)), by rw [hv]; exact S.1, ownsRow_but h.dt hb (fun k hk e => h.vd hg (by rw [← e]; exact hk)), h.bv, h.rd', h.hp⟩, hb.mono (fun k e => .inr (.inr (.inr (.inl (by rw [e]; exact hg)))))⟩
/-- a cell below -/
theorem putB {g cap : Nat} (h : DC B w y c) (hv : y.vb = .slice (some ⟨g, 0, none⟩) c.n cap) (i : Nat) (t : List El) :
    DC B (w.setCell ⟨g, i, none⟩ (st t)) y ⟨c.n, up c.below i t, c.room, c.row, c.val, c.dirty, c.hits⟩ ∧ But y.F w (w.setCell ⟨g, i, none⟩ (st t)) := by
  have hO := h.bl
  rw [hv] at hO
  have S := OwT.stored hO i t
  have hg : y.vb.ownBlock = some g := by rw [hv]; rfl
  have hb : But (· = g) w (w.setCell ⟨g, i, none⟩ (st t)) := (But.refl (· = g) w).setCell (p := ⟨g, i, none⟩) rfl _
  refine ⟨⟨(hb.block _ h.plt (fun e => h.bp hg e.symm)).trans h.row, by rw [hv]; exact S.1, ownsRow_but h.rw' hb (fun k hk e => h.br hg (by rw [← e]; exact hk)), ownsRow_but h.vl hb (fun k hk e => h.bv g hg (by rw [← e]; exact hk)), ownsRow_but h.dt hb (fun k hk e => h.bd hg (by rw [← e]; exact hk)), h.bv, h.rd', h.hp⟩, hb.mono (fun k e => .inr (.inl (by rw [e]; exact hg)))⟩
end DC
end Go.Proofs.YtfeikmmojilmbaaDoor

/- The document's cache: a cell is used: a walk over the document's own. -/
namespace Go.Proofs.YtfeikmmojilmbaaDoor
open Go.RowKit El Pol
/-- a state of it that comes of another one -/
structure DS (B : Nat) (w : World) (y : DP) (wk : World) (yk : DP) (c : Che) : Prop where
  is : DC B wk yk c
  but : But y.F w wk
  gr : Grows y.F yk.F w
  hp : yk.p = y.p
variable {B : Nat} {w wk w1 : World} {y yk y1 : DP} {c c1 : Che}
theorem DS.refl (h : DC B w y c) : DS B w y w y c := ⟨h, But.refl _ _, Grows.refl _ _, rfl⟩
theorem DS.size (h : DS B w y wk yk c) : w.heap.size ≤ wk.heap.size := h.but.size
theorem DS.old (h : DS B w y wk yk c) (hb : Below wk.heap.size wk w1) : DS B w y w1 yk c := ⟨h.is.old hb, h.but.trans (Below.but hb yk.F) h.gr, h.gr, h.hp⟩
theorem DS.step (h : DS B w y wk yk c) (h1 : DC B w1 y1 c1) (hb : But yk.F wk w1) (hg : Grows yk.F y1.F wk) (hp : y1.p = yk.p) : DS B w y w1 y1 c1 :=
  ⟨h1, h.but.trans hb h.gr, h.gr.trans hg h.size, hp.trans h.hp⟩
theorem Fp (y : DP) : ∀ k, k = y.p → y.F k := fun _ h => .inl h
theorem grow2 (y : DP) (v : Value) (w : World) (h : ∀ k, v.ownBlock = some k → y.vr.ownBlock = some k ∨ w.heap.size ≤ k) : Grows y.F (DP.F ⟨y.p, y.vb, v, y.vv, y.vd⟩) w := by
  rintro k (q | q | q | q | q)
  · exact .inl (.inl q)
  · exact .inl (.inr (.inl q))
  · rcases h k q with z | z
    · exact .inl (.inr (.inr (.inl z)))
    · exact .inr z
  · exact .inl (.inr (.inr (.inr (.inl q))))
  · exact .inl (.inr (.inr (.inr (.inr q))))
theorem grow4 (y : DP) (v : Value) (w : World) (h : ∀ k, v.ownBlock = some k → y.vd.ownBlock = some k ∨ w.heap.size ≤ k) : Grows y.F (DP.F ⟨y.p, y.vb, y.vr, y.vv, v⟩) w := by
  rintro k (q | q | q | q | q)
  · exact .inl (.inl q)
  · exact .inl (.inr (.inl q))
  · exact .inl (.inr (.inr (.inl q)))
  · exact .inl (.inr (.inr (.inr (.inl q))))
  · rcases h k q with z | z
    · exact .inl (.inr (.inr (.inr (.inr z))))
    · exact .inr z
/-- the row another one, new -/
theorem DS.row (h : DS B w y wk yk c) {v : Value} {l : List Nat} {n : Nat} (hO : OwN n wk v l) (hB : B ≤ n) (hn : ∀ k, v.ownBlock = some k → yk.vd.ownBlock ≠ some k) (hw : w.heap.size ≤ n) :
    DS B w y (wk.setCell ⟨yk.p, 2, none⟩ v) ⟨yk.p, yk.vb, v, yk.vv, yk.vd⟩ ⟨c.n, c.below, c.room, l, c.val, c.dirty, c.hits⟩ := by
  have hO' : OwN B wk v l := by
    obtain ⟨h1, h2⟩ := hO
    refine ⟨h1, ?_⟩
    rcases h2 with h2 | ⟨g, cap, cur, rfl, hg, rest⟩
    · exact .inl h2
    · exact .inr ⟨g, cap, cur, rfl, Nat.le_trans hB hg, rest⟩
  have P := h.is.put2 hO' hn
  refine ⟨P.1, h.but.trans (P.2.mono (Fp yk)) h.gr, ?_, h.hp⟩
  rintro k (q | q | q | q | q)
  · exact h.gr k (.inl q)
  · exact h.gr k (.inr (.inl q))
  · exact .inr (Nat.le_trans hw (World.ownsRow.lt hO k q).1)
  · exact h.gr k (.inr (.inr (.inr (.inl q))))
  · exact h.gr k (.inr (.inr (.inr (.inr q))))
/-- what is dirty another one -/
theorem DS.dirty (h : DS B w y wk yk c) {v : Value} {l : List Nat} {n : Nat} (hO : OwN n wk v l) (hB : B ≤ n) (hn : ∀ k, yk.vr.ownBlock = some k → v.ownBlock ≠ some k) (hw : w.heap.size ≤ n) :
    DS B w y (wk.setCell ⟨yk.p, 4, none⟩ v) ⟨yk.p, yk.vb, yk.vr, yk.vv, v⟩ ⟨c.n, c.below, c.room, c.row, c.val, l, c.hits⟩ := by
  have hO' : OwN B wk v l := by
    obtain ⟨h1, h2⟩ := hO
    refine ⟨h1, ?_⟩
    rcases h2 with h2 | ⟨g, cap, cur, rfl, hg, rest⟩
    · exact .inl h2
    · exact .inr ⟨g, cap, cur, rfl, Nat.le_trans hB hg, rest⟩
  have P := h.is.put4 hO' hn
  refine ⟨P.1, h.but.trans (P.2.mono (Fp yk)) h.gr, ?_, h.hp⟩
  rintro k (q | q | q | q | q)
  · exact h.gr k (.inl q)
  · exact h.gr k (.inr (.inl q))
  · exact h.gr k (.inr (.inr (.inl q)))
  · exact h.gr k (.inr (.inr (.inr (.inl q))))
  · exact .inr (Nat.le_trans hw (World.ownsRow.lt hO k q).1)
theorem lenDS {v : Value} {n : Nat} {l : List Nat} (h : OwN n wk v l) : ∀ k, v.ownBlock = some k → n ≤ k ∧ k < wk.heap.size := World.ownsRow.lt h
theorem nlen_sub : ∀ {l m : List Nat}, l.Nodup → m.Nodup → (∀ k ∈ l, k ∈ m) → l.length ≤ m.length
  | [], _, _, _, _ => Nat.zero_le _
  | a :: l, m, hl, hm, h => by
    obtain ⟨h1, h2⟩ := List.nodup_cons.1 hl
    have hml : (wo m a).length < m.length := by
      unfold wo
      rcases Nat.lt_or_ge (List.filter (fun k => decide (k ≠ a)) m).length m.length with q | q
      · exact q
      · exfalso
        have h2 := List.length_filter_le (fun k => decide (k ≠ a)) m
        have h3 : (List.filter (fun k => decide (k ≠ a)) m).length = m.length := by omega
        have h4 := List.length_filter_eq_length_iff.1 h3 a (h a List.mem_cons_self)
        simp at h4
    have h4 := nlen_sub (m := wo m a) h2 (wo_nodup hm a) (fun k hk => mem_wo.2 ⟨h k (List.mem_cons_of_mem _ hk), fun e => h1 (by rw [← e]; exact hk)⟩)
    rw [List.length_cons]
    omega
theorem dlen_le {c : Che} (h : c.ok) : c.dirty.length ≤ c.row.length := nlen_sub h.dnd h.nd h.dsub
set_option maxRecDepth 100000 in
set_option maxHeartbeats 1000000 in
theorem duse_any (h : DC B w y c) (ho : c.ok) (hBw : B ≤ w.heap.size) {i : Nat} (hi : i < c.n) (b : List El) :
    Calls Tryd.prog 41 #[.pointer (some ⟨y.p, 0, none⟩), .int .i64 (i : Int), st b] w fun e w' => e = .returned (.tuple #[]) ∧ ∃ y', DS B w y w' y' (c.use i b) := by
  obtain ⟨j0, hj, hy0, hy1, hy2⟩ := info_parts infoI
  have hn40 := ho.n40
  have h12 := ho.r12
  have hlen := ho.len
  have W0 := without_any y.vr c.row i w (OwN.rd h.rw') (by omega) (fun k hk => by have := ho.inn k hk; omega)
  have HD0 : Hid (DC B w y c) := h
  have HO : Hid c.ok := ho
  have c2 := h.c2
  have f2 := h.free 2
  unfold st
  obtain ⟨sx, hsx⟩ : ∃ sx, sx = sb b := ⟨_, rfl⟩
  have HSx : Hid (sx = sb b) := hsx
  rw [← hsx]
  obtain ⟨ar, cr, hvr⟩ := OwN.len h.rw'
  rw [hvr] at c2 W0
  have hwl := wo_len c.row i
  clear h ho hsx
  go_enter Tryd.func41, Tryd.ntmps41
  go_wp2_with fail
  refine W0.mono ?_
  rintro e w1 ⟨u1, rfl, hO1, hB1⟩
  obtain ⟨a1, k1, rfl⟩ := OwN.len hO1
  have HS1 : Hid (DS B w y w1 y c) := (DS.refl HD0.out).old hB1
  have hsz1 := hB1.size
  have HV1 : Hid (vn (c.newest i) = vn (wo c.row i) ++ [vi (i : Int)]) := by (show _ = _); unfold Che.newest; simp [vn]
  have HL1 : Hid ((c.newest i).length = (wo c.row i).length + 1) := by (show _ = _); unfold Che.newest; simp
  have hO1' : w1.ownsRow w.heap.size 3 1 (.slice a1 (wo c.row i).length k1) (wo c.row i).length (vn (wo c.row i)) := hO1
  have hvl := vn_len (wo c.row i)
  clear W0 hO1 c2 f2 HS1
  have HWL : Hid ((wo c.row i).length ≤ c.row.length) := hwl
  generalize vn (wo c.row i) = xs at *
  generalize (wo c.row i).length = ln at *
  go_wp2_with (first | (at_builtin; refine wpList_append_own _ rfl _ _ 34 rfl w.heap.size 3 j0 (.int .i64 0) 1 8 Tryd.underlying34 hj hy0 hy1 hy2 rfl (by decide) _ _ _ rfl (World.ownsRow.alloc hO1' _) ⟨w1.heap.size, 0, none⟩ 1 1 [.int .i64 (i : Int)] rfl rfl (one_cell _) (by intro u hu; simp at hu; subst hu; rfl) (by unfold maxLen; omega) (by omega) (by simp; omega) ?_))
  intro v2 w2 hown hgrow _
  have hO2 : OwN w.heap.size w2 v2 (c.newest i) := by
    (show World.ownsRow _ _ _ _ _ _ _)
    rw [HV1.out, HL1.out]
    exact hown
  have hB2 : Below w.heap.size w1 w2 := ((Below.refl _ w1).alloc hsz1 _).grown hgrow (by simp; omega) (fun g hg => (World.ownsRow.lt hO1' g hg).1)
  have HS2 : Hid (DS B w y w2 y c) := (DS.refl HD0.out).old (hB1.trans hB2)
  have c2 := HS2.out.is.c2
  have f2 := HS2.out.is.free 2
  obtain ⟨a2, k2, hv2⟩ := OwN.len hO2
  have HS3 : Hid (DS B w y (w2.setCell ⟨y.p, 2, none⟩ v2) ⟨y.p, y.vb, v2, y.vv, y.vd⟩ ⟨c.n, c.below, c.room, c.newest i, c.val, c.dirty, c.hits⟩) := HS2.out.row hO2 hBw (fun k hk e => by
    have h1 := (lenDS hO2 k hk).1
    have h2 := HD0.out.lt k (.inr (.inr (.inr (.inr e))))
    omega) (Nat.le_refl _)
  have HNL : Hid ((c.newest i).length = ln + 1) := HL1.out
  clear hown hgrow hO1' hB2 hB1 HS2 HV1 HL1
  rw [hvr] at c2
  subst hv2
  rw [HNL.out] at HS3 ⊢
  clear hO2
  go_upto_region 1 with fail
  clear c2 f2
  generalize (w2.setCell ⟨y.p, 2, none⟩ (.slice a2 (ln + 1) k2)) = w3 at *
  have c3 := HS3.out.is.c3
  obtain ⟨g, cap, hvv, hg1, hg2, hg3, hg4⟩ := OwT.at HS3.out.is.vl (by show 0 < c.n; omega)
  have hvv' : y.vv = .slice (some ⟨g, 0, none⟩) c.n cap := hvv
  have hO3 := HS3.out.is.vl
  rw [hvv] at hO3
  have g3 := OwT.cell hO3 i hi
  have f3 := OwT.free hO3 i
  unfold st at g3
  have c3' : w3.cell? ⟨y.p, 3, none⟩ = some (.slice (some ⟨g, 0, none⟩) c.n cap) := by rw [← hvv']; exact c3
  have P := HS3.out.is.putV hvv i b
  have HS4 : Hid (DS B w y (w3.setCell ⟨g, i, none⟩ (.string sx)) ⟨y.p, y.vb, .slice a2 (ln + 1) k2, y.vv, y.vd⟩ ⟨c.n, c.below, c.room, c.newest i, up c.val i b, c.dirty, c.hits⟩) := by
    have e : st b = .string sx := by rw [HSx.out]
    rw [e] at P
    exact HS3.out.step P.1 P.2 (Grows.refl _ _) rfl
  have hiz : (i : Int) < (c.n : Int) := by omega
  clear P c3 HS3 hO3 hvv
  dsimp only at g3
  generalize sb (c.val i) = so at *
  go_upto_region 2 with fail
  clear g3 f3 c3'
  generalize (w3.setCell ⟨g, i, none⟩ (.string sx)) = w4 at *
  have c1 := HS4.out.is.c1
  have c2 := HS4.out.is.c2
  dsimp only at c1 c2
  have hlnz : ((ln + 1 : Nat) : Int) = (ln : Int) + 1 := by omega
  have HUS : Hid (c.use i b = if c.room < (c.newest i).length then ⟨c.n, if c.old i ∈ c.dirty then up c.below (c.old i) (up c.val i b (c.old i)) else c.below, c.room, wo (c.newest i) (c.old i), up c.val i b, wo c.dirty (c.old i), c.hits⟩ else ⟨c.n, c.below, c.room, c.newest i, up c.val i b, c.dirty, c.hits⟩) := rfl
  by_cases hgt : c.room < ln + 1
  · have hd : decide ((c.room : Int) < ((ln + 1 : Nat) : Int)) = true := decide_eq_true (by omega)
    have hd2 : decide (c.room < ln + 1) = true := decide_eq_true hgt
    have hd3 : (c.room : Int) < (ln : Int) + 1 := by omega
    go_quiet (fail)
    have HS5 : Hid (DS B w y (w4.drewN nq) ⟨y.p, y.vb, .slice a2 (ln + 1) k2, y.vv, y.vd⟩ ⟨c.n, c.below, c.room, c.newest i, up c.val i b, c.dirty, c.hits⟩) := HS4.out.old (below_drewN (Below.refl _ _) nq)
    clear HS4 c1 c2
    generalize w4.drewN nq = w5 at *
    obtain ⟨l0, e1, e2, e3, e4, e5⟩ := Che.old_spec HO.out (i := i) (by rw [HNL.out]; exact hgt)
    have HE1 : Hid (c.newest i = c.old i :: l0) := e1
    have HUS2 : Hid (c.use i b = ⟨c.n, if c.old i ∈ c.dirty then up c.below (c.old i) (up c.val i b (c.old i)) else c.below, c.room, wo (c.newest i) (c.old i), up c.val i b, wo c.dirty (c.old i), c.hits⟩) := by (show _ = _); rw [HUS.out]; exact if_pos (by rw [HNL.out]; exact hgt)
    have hon : c.old i < c.n := HO.out.inn _ e3
    have HDN : Hid (∀ k ∈ c.newest i, k < 1000) := fun k hk => by
      rcases Che.mem_newest.1 hk with q | q
      · have := HO.out.inn k q; omega
      · omega
    have HDD : Hid (∀ k ∈ c.dirty, k < 1000) := fun k hk => by have := HO.out.inn k (HO.out.dsub k hk); omega
    have HDL : Hid (c.dirty.length ≤ 100) := by
      have h1 : c.dirty.length ≤ c.row.length := dlen_le HO.out
      show c.dirty.length ≤ 100
      omega
    obtain ⟨o, hoo⟩ : ∃ o, o = c.old i := ⟨_, rfl⟩
    rw [← hoo] at HE1 HUS2 hon
    clear e1 e2 e3 e4 e5 HUS hoo hd hd2
    have c2 := HS5.out.is.c2
    have c4 := HS5.out.is.c4
    dsimp only at c2 c4
    have hR5 := OwN.rd HS5.out.is.rw'
    obtain ⟨ad, had, hcd⟩ := RdF.at (ao := a2) (m := ln + 1) (cap := k2) hR5 0 (by show 0 < (c.newest i).length; rw [HNL.out]; omega)
    subst had
    have hcd' : w5.cell? ad = some (.int .i64 (o : Int)) := by
      rw [add_zero] at hcd
      rw [hcd, HE1.out]
      rfl
    obtain ⟨avd, kvd, hvd⟩ := OwN.len HS5.out.is.dt
    dsimp only at hvd
    rw [hvd] at c4
    have IN := in_any y.vd c.dirty o w5 (OwN.rd HS5.out.is.dt) (by have := HDL.out; omega)
    rw [hvd] at IN
    have hoz : (o : Int) < 40 := by omega
    clear hcd hR5
    go_wp2_with fail
    refine IN.mono ?_
    rintro e w6 ⟨rfl, hw6⟩
    obtain rfl := hw6.symm
    clear IN hw6 hcd'
    by_cases hod : o ∈ c.dirty
    · rw [decide_eq_true hod]
      have c0 := HS5.out.is.c0
      have c3 := HS5.out.is.c3
      dsimp only at c0 c3
      obtain ⟨gb, capb, hvb, _, _, _, _⟩ := OwT.at HS5.out.is.bl (by show 0 < c.n; omega)
      dsimp only at hvb
      rw [hvb] at c0
      rw [hvv'] at c3
      have hOv := HS5.out.is.vl
      dsimp only at hOv
      rw [hvv'] at hOv
      have gv := OwT.cell hOv o hon
      have hOb := HS5.out.is.bl
      dsimp only at hOb
      rw [hvb] at hOb
      have gb0 := OwT.cell hOb o hon
      have fb0 := OwT.free hOb o
      unfold st at gv gb0
      have P := HS5.out.is.putB hvb o (up c.val i b o)
      unfold st at P
      dsimp only at P
      have honz : (o : Int) < (c.n : Int) := by omega
      have HS6 : Hid (DS B w y (w5.setCell ⟨gb, o, none⟩ (.string (sb (up c.val i b o)))).drew ⟨y.p, y.vb, .slice (some ad) (ln + 1) k2, y.vv, y.vd⟩ ⟨c.n, up c.below o (up c.val i b o), c.room, c.newest i, up c.val i b, c.dirty, c.hits⟩) := (HS5.out.step P.1 P.2 (Grows.refl _ _) rfl).old (below_drewN (Below.refl _ _) 1)
      clear P hOv hOb HS5 c2 c4
      generalize sb (up c.val i b o) = sv at *
      generalize sb (c.below o) = sb0 at *
      go_wp2_with fail
      go_region
      clear gv gb0 fb0 c0 c3
      generalize (w5.setCell ⟨gb, o, none⟩ (.string sv)).drew = w7 at *
      have c4 := HS6.out.is.c4
      have f4 := HS6.out.is.free 4
      dsimp only at c4 f4
      rw [hvd] at c4
      have W7 := without_any y.vd c.dirty o w7 (OwN.rd HS6.out.is.dt) HDL.out HDD.out
      rw [hvd] at W7
      go_wp2_with fail
      refine W7.mono ?_
      rintro e w8 ⟨u8, rfl, hO8, hB8⟩
      have hS8 := HS6.out.old hB8
      have c4' := hS8.is.c4
      have f4' := hS8.is.free 4
      dsimp only at c4' f4'
      have HS9 : Hid (DS B w y (w8.setCell ⟨y.p, 4, none⟩ u8) ⟨y.p, y.vb, .slice (some ad) (ln + 1) k2, y.vv, u8⟩ ⟨c.n, up c.below o (up c.val i b o), c.room, c.newest i, up c.val i b, wo c.dirty o, c.hits⟩) := hS8.dirty hO8 (Nat.le_trans hBw HS6.out.size) (fun k hk e => by
        have h1 := (lenDS hO8 k e).1
        have h2 := HS6.out.is.lt k (.inr (.inr (.inl hk)))
        omega) HS6.out.size
      obtain ⟨a8, k8, rfl⟩ := OwN.len hO8
      rw [hvd] at c4'
      have HUS3 : Hid (c.use i b = ⟨c.n, up c.below o (up c.val i b o), c.room, wo (c.newest i) o, up c.val i b, wo c.dirty o, c.hits⟩) := by (show _ = _); rw [HUS2.out, if_pos hod]
      obtain ⟨bl, hbl⟩ : ∃ bl, bl = up c.below o (up c.val i b o) := ⟨_, rfl⟩
      rw [← hbl] at HS9 HUS3
      clear W7 hO8 hB8 HS6 hS8 c4 f4 hbl HUS2
      go_upto_region 8 with fail
      clear c4' f4'
      generalize (w8.setCell ⟨y.p, 4, none⟩ (.slice a8 (wo c.dirty o).length k8)) = w9 at *
      obtain ⟨vd9, hvd9⟩ : ∃ v, v = Value.slice a8 (wo c.dirty o).length k8 := ⟨_, rfl⟩
      rw [← hvd9] at HS9
      clear hvd9
      have c2 := HS9.out.is.c2
      have f2 := HS9.out.is.free 2
      dsimp only at c2 f2
      have W9 := without_any (.slice (some ad) (ln + 1) k2) (c.newest i) o w9 (OwN.rd HS9.out.is.rw') (by rw [HNL.out]; omega) HDN.out
      go_wp2_with fail
      refine W9.mono ?_
      rintro e w10 ⟨u10, rfl, hO10, hB10⟩
      have hS10 := HS9.out.old hB10
      have c2' := hS10.is.c2
      have f2' := hS10.is.free 2
      dsimp only at c2' f2'
      have HS11 : Hid (DS B w y (w10.setCell ⟨y.p, 2, none⟩ u10) ⟨y.p, y.vb, u10, y.vv, vd9⟩ ⟨c.n, bl, c.room, wo (c.newest i) o, up c.val i b, wo c.dirty o, c.hits⟩) := hS10.row hO10 (Nat.le_trans hBw HS9.out.size) (fun k hk e => by
        have h1 := (lenDS hO10 k hk).1
        have h2 := HS9.out.is.lt k (.inr (.inr (.inr (.inr e))))
        omega) HS9.out.size
      obtain ⟨a10, k10, rfl⟩ := OwN.len hO10
      clear W9 hO10 hB10 HS9 hS10 c2 f2
      go_wp2
      go_end0
      exact ⟨rfl, _, by rw [HUS3.out]; exact HS11.out⟩
    · rw [decide_eq_false hod]
      have HUS3 : Hid (c.use i b = ⟨c.n, c.below, c.room, wo (c.newest i) o, up c.val i b, wo c.dirty o, c.hits⟩) := by (show _ = _); rw [HUS2.out, if_neg hod]
      have HS9 : Hid (DS B w y w5 ⟨y.p, y.vb, .slice (some ad) (ln + 1) k2, y.vv, y.vd⟩ ⟨c.n, c.below, c.room, c.newest i, up c.val i b, wo c.dirty o, c.hits⟩) := by rw [wo_none hod]; exact HS5.out
      obtain ⟨bl, hbl⟩ : ∃ bl, bl = c.below := ⟨_, rfl⟩
      rw [← hbl] at HS9 HUS3
      obtain ⟨vd9, hvd9⟩ : ∃ v, v = y.vd := ⟨_, rfl⟩
      rw [← hvd9] at HS9
      clear hvd9 hbl HUS2 HS5 c2 c4
      go_upto_region 8 with fail
      generalize w5 = w9 at *
      have c2 := HS9.out.is.c2
      have f2 := HS9.out.is.free 2
      dsimp only at c2 f2
      have W9 := without_any (.slice (some ad) (ln + 1) k2) (c.newest i) o w9 (OwN.rd HS9.out.is.rw') (by rw [HNL.out]; omega) HDN.out
      go_wp2_with fail
      refine W9.mono ?_
      rintro e w10 ⟨u10, rfl, hO10, hB10⟩
      have hS10 := HS9.out.old hB10
      have c2' := hS10.is.c2
      have f2' := hS10.is.free 2
      dsimp only at c2' f2'
      have HS11 : Hid (DS B w y (w10.setCell ⟨y.p, 2, none⟩ u10) ⟨y.p, y.vb, u10, y.vv, vd9⟩ ⟨c.n, bl, c.room, wo (c.newest i) o, up c.val i b, wo c.dirty o, c.hits⟩) := hS10.row hO10 (Nat.le_trans hBw HS9.out.size) (fun k hk e => by
        have h1 := (lenDS hO10 k hk).1
        have h2 := HS9.out.is.lt k (.inr (.inr (.inr (.inr e))))
        omega) HS9.out.size
      obtain ⟨a10, k10, rfl⟩ := OwN.len hO10
      clear W9 hO10 hB10 HS9 hS10 c2 f2
      go_wp2
      go_end0
      exact ⟨rfl, _, by rw [HUS3.out]; exact HS11.out⟩
  · have hd : decide ((c.room : Int) < ((ln + 1 : Nat) : Int)) = false := decide_eq_false (by omega)
    have hd2 : decide (c.room < ln + 1) = false := decide_eq_false hgt
    have hd3 : ¬ (c.room : Int) < (ln : Int) + 1 := by omega
    have HUS2 : Hid (c.use i b = ⟨c.n, c.below, c.room, c.newest i, up c.val i b, c.dirty, c.hits⟩) := by (show _ = _); rw [HUS.out]; exact if_neg (by rw [HNL.out]; exact hgt)
    have hd4 : decide ((c.room : Int) < (ln : Int) + 1) = false := decide_eq_false hd3
    clear HUS hgt
    go_quiet (fail)
    have HS5 : Hid (DS B w y (w4.drewN nq) ⟨y.p, y.vb, .slice a2 (ln + 1) k2, y.vv, y.vd⟩ ⟨c.n, c.below, c.room, c.newest i, up c.val i b, c.dirty, c.hits⟩) := HS4.out.old (below_drewN (Below.refl _ _) nq)
    clear HS4 c1 c2
    generalize w4.drewN nq = w5 at *
    go_wp2
    go_end0
    exact ⟨rfl, _, by rw [HUS2.out]; exact HS5.out⟩
end Go.Proofs.YtfeikmmojilmbaaDoor

/- The document's cache: Read, Write: walks over the document's own. -/
namespace Go.Proofs.YtfeikmmojilmbaaDoor
open Go.RowKit El Pol
variable {B : Nat} {w wk w1 : World} {y yk y1 : DP} {c c1 : Che}
/-- what is dirty, and one more behind it -/
theorem DC.append (h : DC B w y c) {g cap : Nat} {l : List Nat} (hg : w.grownBy w1 y.vd.ownBlock) (hO : OwN B w1 (.slice (some ⟨g, 0, none⟩) l.length cap) l) (hl : y.vd.ownBlock = some g ∨ w.heap.size ≤ g) :
    DC B (w1.setCell ⟨y.p, 4, none⟩ (.slice (some ⟨g, 0, none⟩) l.length cap)) ⟨y.p, y.vb, y.vr, y.vv, .slice (some ⟨g, 0, none⟩) l.length cap⟩ ⟨c.n, c.below, c.room, c.row, c.val, l, c.hits⟩ ∧ But y.F w (w1.setCell ⟨y.p, 4, none⟩ (.slice (some ⟨g, 0, none⟩) l.length cap)) := by
  have hb1 : But (fun k => y.vd.ownBlock = some k) w w1 := But.grown hg (fun k e => e)
  have hb2 : But (· = y.p) w1 (w1.setCell ⟨y.p, 4, none⟩ (.slice (some ⟨g, 0, none⟩) l.length cap)) := (But.refl (· = y.p) w1).setCell (p := ⟨y.p, 4, none⟩) rfl _
  have hrow : w1.heap[y.p]? = some (.cells (dcCells y c) 45 (0, 0)) := (hb1.block _ h.plt (fun e => h.dp e rfl)).trans h.row
  have hgp : g ≠ y.p := fun e => by subst e; exact type_ne (ownsRow_type hO rfl) ⟨_, _, hrow⟩ (by decide)
  refine ⟨⟨?_, ownsRow_but (ownsRow_but h.bl hb1 (fun k hk e => h.bd hk e)) hb2 (fun k hk => h.bp hk), ownsRow_but (ownsRow_but h.rw' hb1 (fun k hk e => h.rd' k hk e)) hb2 (fun k hk => h.rp hk), ownsRow_but (ownsRow_but h.vl hb1 (fun k hk e => h.vd hk e)) hb2 (fun k hk => h.vp hk), ownsRow_but hO hb2 (fun k hk e => hgp ((Option.some.inj (show some g = some k from hk)).trans e)), h.bv, fun k hk e => ?_, h.hp⟩, ⟨hb2.os.trans hb1.os, hb2.tape.trans hb1.tape, hb2.output.trans hb1.output, Nat.le_trans hb1.size hb2.size, fun k hk hn => (hb2.block k (Nat.lt_of_lt_of_le hk hb1.size) (fun e => hn (.inl e))).trans (hb1.block k hk (fun e => hn (.inr (.inr (.inr (.inr e))))))⟩⟩
  · rw [heap_setCell_same _ _ _ _ _ _ hrow]
    rfl
  · have e' : g = k := Option.some.inj (show some g = some k from e)
    have hk' : y.vr.ownBlock = some k := hk
    rcases hl with q | q
    · exact h.rd' k hk' (by rw [← e']; exact q)
    · have := (World.ownsRow.lt h.rw' k hk').2
      omega
theorem DS.more (h : DS B w y wk yk c) {g cap : Nat} {l : List Nat} (hg : wk.grownBy w1 yk.vd.ownBlock) (hO : OwN B w1 (.slice (some ⟨g, 0, none⟩) l.length cap) l) (hl : yk.vd.ownBlock = some g ∨ wk.heap.size ≤ g) :
    DS B w y (w1.setCell ⟨yk.p, 4, none⟩ (.slice (some ⟨g, 0, none⟩) l.length cap)) ⟨yk.p, yk.vb, yk.vr, yk.vv, .slice (some ⟨g, 0, none⟩) l.length cap⟩ ⟨c.n, c.below, c.room, c.row, c.val, l, c.hits⟩ := by
  have P := h.is.append hg hO hl
  refine h.step P.1 P.2 (grow4 yk _ wk (fun k hk => ?_)) rfl
  have hk' : g = k := Option.some.inj (show some g = some k from hk)
  rcases hl with q | q
  · exact .inl (by rw [← hk']; exact q)
  · exact .inr (by rw [← hk']; exact q)
set_option maxRecDepth 100000 in
set_option maxHeartbeats 1000000 in
theorem dread_any (h : DC B w y c) (ho : c.ok) (hBw : B ≤ w.heap.size) {i : Nat} (hi : i < c.n) (hh : c.hits ≤ 100000) :
    Calls Tryd.prog 9 #[.pointer (some ⟨y.p, 0, none⟩), .int .i64 (i : Int)] w fun e w' => e = .returned (st (c.now i)) ∧ ∃ y', DS B w y w' y' (c.read i) := by
  have hn40 := ho.n40
  have h12 := ho.r12
  have hlen := ho.len
  have c0 := h.c0
  have c2 := h.c2
  have c3 := h.c3
  have c5 := h.c5
  have f5 := h.free 5
  obtain ⟨gb, capb, hvb, _, _, _, _⟩ := OwT.at h.bl (by omega)
  obtain ⟨gv, capv, hvv, _, _, _, _⟩ := OwT.at h.vl (by omega)
  obtain ⟨ar, kr, hvr⟩ := OwN.len h.rw'
  have hOb := h.bl
  have hOv := h.vl
  rw [hvb] at c0 hOb
  rw [hvv] at c3 hOv
  have IN := in_any y.vr c.row i w (OwN.rd h.rw') (by omega)
  rw [hvr] at c2 IN
  have qb := OwT.cell hOb i hi
  have qv := OwT.cell hOv i hi
  unfold st at qb qv
  have hiz : (i : Int) < (c.n : Int) := by omega
  have HD : Hid (DC B w y c) := h
  have HO : Hid c.ok := ho
  have hhz : (c.hits : Int) ≤ 100000 := by omega
  clear h ho hOb hOv
  by_cases hin : i ∈ c.row
  · rw [decide_eq_true hin] at IN
    have P := HD.out.put5 (c.hits + 1)
    have hcast : ((c.hits + 1 : Nat) : Int) = (c.hits : Int) + 1 := by omega
    rw [hcast] at P
    have HS1 : Hid (DS B w y (w.setCell ⟨y.p, 5, none⟩ (.int .i64 ((c.hits : Int) + 1))) y ⟨c.n, c.below, c.room, c.row, c.val, c.dirty, c.hits + 1⟩) := (DS.refl HD.out).step P.1 (P.2.mono (Fp y)) (Grows.refl _ _) rfl
    have U := duse_any HS1.out.is (Che.hits_ok HO.out (c.hits + 1)) (by simpa [World.setCell] using hBw) (i := i) hi (c.now i)
    have hnow : c.now i = c.val i := if_pos hin
    have HRd : Hid (c.read i = Che.use ⟨c.n, c.below, c.room, c.row, c.val, c.dirty, c.hits + 1⟩ i (c.now i)) := by (show _ = _); unfold Che.read; rw [if_pos hin]
    unfold st at U ⊢
    rw [← hnow] at qv
    clear P hnow hin HD
    generalize sb (c.now i) = sx at *
    generalize sb (c.below i) = sb0 at *
    go_enter Tryd.func9, Tryd.ntmps9
    go_wp2_with fail
    refine IN.mono ?_
    rintro e w2 ⟨rfl, hw2⟩
    obtain rfl := hw2.symm
    clear IN hw2
    go_wp2_with fail
    refine U.mono ?_
    rintro e w3 ⟨rfl, y3, hS3⟩
    have HF : Hid (DS B w y w3 y3 (c.read i)) := by rw [HRd.out]; exact HS1.out.step hS3.is hS3.but hS3.gr hS3.hp
    clear U hS3 HS1 c0 c2 c3 c5 f5 qb qv
    go_wp2
    go_ret
    exact ⟨rfl, y3, HF.out⟩
  · rw [decide_eq_false hin] at IN
    have U := duse_any HD.out HO.out hBw (i := i) hi (c.now i)
    have hnow : c.now i = c.below i := if_neg hin
    have HRd : Hid (c.read i = c.use i (c.now i)) := by (show _ = _); unfold Che.read; rw [if_neg hin]; rfl
    unfold st at U ⊢
    rw [← hnow] at qb
    clear hnow hin
    generalize sb (c.now i) = sx at *
    generalize sb (c.val i) = sv0 at *
    go_enter Tryd.func9, Tryd.ntmps9
    go_wp2_with fail
    refine IN.mono ?_
    rintro e w2 ⟨rfl, hw2⟩
    obtain rfl := hw2.symm
    clear IN hw2
    go_wp2_with fail
    refine U.mono ?_
    rintro e w3 ⟨rfl, y3, hS3⟩
    have HF : Hid (DS B w y w3 y3 (c.read i)) := by rw [HRd.out]; exact hS3
    clear U hS3 HD c0 c2 c3 c5 f5 qb qv
    go_wp2
    go_ret
    exact ⟨rfl, y3, HF.out⟩
set_option maxRecDepth 100000 in
set_option maxHeartbeats 1000000 in
theorem dwrite_any (h : DC B w y c) (ho : c.ok) (hBw : B ≤ w.heap.size) {i : Nat} (hi : i < c.n) (b : List El) (hb : b.length ≤ 16) :
    Calls Tryd.prog 11 #[.pointer (some ⟨y.p, 0, none⟩), .int .i64 (i : Int), st b] w fun e w' => e = .returned (.tuple #[]) ∧ ∃ y', DS B w y w' y' (c.write i b) := by
  obtain ⟨j0, hj, hy0, hy1, hy2⟩ := info_parts infoI
  have hn40 := ho.n40
  have U := duse_any h ho hBw hi b
  have okb := Che.use_okB ho hi hb
  have hdl : (c.use i b).dirty.length ≤ 12 := by
    have h1 := nlen_sub okb.dnd okb.nd okb.dsub
    have h2 := okb.len
    have h3 := okb.r12
    omega
  have HW : Hid (c.write i b = (c.use i b).soil i) := rfl
  obtain ⟨cu, hcu⟩ : ∃ cu, cu = c.use i b := ⟨_, rfl⟩
  rw [← hcu] at U hdl HW
  unfold st at U ⊢
  generalize sb b = sx at *
  have hp0 : ∀ y', DS B w y w y' c → True := fun _ _ => trivial
  clear h ho okb hcu hp0
  go_enter Tryd.func11, Tryd.ntmps11
  go_wp2_with fail
  refine U.mono ?_
  rintro e w1 ⟨rfl, y1, hS1⟩
  have HS1 : Hid (DS B w y w1 y1 cu) := hS1
  have hp := hS1.hp
  have c4 := hS1.is.c4
  have f4 := hS1.is.free 4
  obtain ⟨ad, kd, hvd⟩ := OwN.len hS1.is.dt
  have IN := in_any y1.vd cu.dirty i w1 (OwN.rd hS1.is.dt) (by omega)
  rw [hvd] at c4 IN
  rw [hp] at c4 f4
  have hdt := hS1.is.dt
  rw [hvd] at hdt
  have hBw1 : B ≤ w1.heap.size := Nat.le_trans hBw hS1.size
  have HVD : Hid (y1.vd = .slice ad cu.dirty.length kd) := hvd
  have HP : Hid (y1.p = y.p) := hp
  have HLT : Hid (y.p < w1.heap.size) := by (show _ < _); rw [← hp]; exact hS1.is.plt
  have HDP : Hid (∀ k, (Value.slice ad cu.dirty.length kd).ownBlock = some k → k ≠ y.p) := fun k hk => by
    rw [← hp]
    exact hS1.is.dp (by rw [hvd]; exact hk)
  clear U hS1 hvd hp
  go_wp2_with fail
  refine IN.mono ?_
  rintro e w2 ⟨rfl, hw2⟩
  obtain rfl := hw2.symm
  clear IN hw2
  by_cases hin : i ∈ cu.dirty
  · rw [decide_eq_true hin]
    have HF : Hid (DS B w y w1 y1 (c.write i b)) := by
      rw [HW.out]
      have : cu.soil i = cu := by unfold Che.soil; rw [if_pos hin]
      rw [this]
      exact HS1.out
    clear HS1 c4 f4 hdt hin
    go_wp2
    go_end0
    exact ⟨rfl, y1, HF.out⟩
  · rw [decide_eq_false hin]
    have HSo : Hid (c.write i b = ⟨cu.n, cu.below, cu.room, cu.row, cu.val, cu.dirty ++ [i], cu.hits⟩) := by (show _ = _); rw [HW.out]; unfold Che.soil; rw [if_neg hin]
    have hvl := vn_len cu.dirty
    have HV : Hid (vn (cu.dirty ++ [i]) = vn cu.dirty ++ [vi (i : Int)]) := by (show _ = _); simp [vn]
    have HLn : Hid ((cu.dirty ++ [i]).length = cu.dirty.length + 1) := by (show _ = _); simp
    have hdt' : w1.ownsRow B 3 1 (.slice ad cu.dirty.length kd) cu.dirty.length (vn cu.dirty) := hdt
    clear hdt hin HW
    generalize vn cu.dirty = xs at *
    generalize hln : cu.dirty.length = ln at *
    clear hln
    go_wp2_with (first | (at_builtin; refine wpList_append_lies _ rfl _ _ 34 rfl B 3 j0 (.int .i64 0) 1 8 Tryd.underlying34 hj hy0 hy1 hy2 rfl (by decide) _ _ _ rfl (World.ownsRow.alloc hdt' _) ⟨w1.heap.size, 0, none⟩ 1 1 [.int .i64 (i : Int)] rfl rfl (one_cell _) (by intro u hu; simp at hu; subst hu; rfl) (by omega) (by unfold maxLen; omega) (by omega) (by simp; omega) _ rfl ?_))
    intro g cap w3 hown hgrow hlie _
    have HSa : Hid (DS B w y (w1.alloc (.cells #[.int .i64 (i : Int)] 3)) y1 cu) := HS1.out.old (al_below _ _)
    have hza : (w1.alloc (.cells #[.int .i64 (i : Int)] 3)).heap.size = w1.heap.size + 1 := by simp
    have hO3 : OwN B w3 (.slice (some ⟨g, 0, none⟩) (cu.dirty ++ [i]).length cap) (cu.dirty ++ [i]) := by
      (show World.ownsRow _ _ _ _ _ _ _)
      rw [HV.out, HLn.out]
      exact hown
    have HF : Hid (DS B w y (w3.setCell ⟨y.p, 4, none⟩ (.slice (some ⟨g, 0, none⟩) (ln + 1) cap)) ⟨y1.p, y1.vb, y1.vr, y1.vv, .slice (some ⟨g, 0, none⟩) (cu.dirty ++ [i]).length cap⟩ (c.write i b)) := by
      have := HSa.out.more (g := g) (cap := cap) (l := cu.dirty ++ [i]) (by rw [HVD.out]; exact hgrow) hO3 (by rw [HVD.out]; rcases hlie with q | q; exact .inl q; exact .inr (by omega))
      rw [HSo.out]
      rw [HP.out, HLn.out] at this ⊢
      exact this
    have hne : some y.p ≠ (Value.slice ad ln kd).ownBlock := fun e => HDP.out _ e.symm rfl
    have d4 : w3.cell? ⟨y.p, 4, none⟩ = some (.slice ad ln kd) := by
      rw [hgrow.cell_far ⟨y.p, 4, none⟩ (by have := HLT.out; rw [hza]; show y.p < _; omega) hne, (al_below w1 _).cell HLT.out]
      exact c4
    have e4 : w3.frozen? ⟨y.p, 4, none⟩ = false := by
      rw [hgrow.frozen_far ⟨y.p, 4, none⟩ (by have := HLT.out; rw [hza]; show y.p < _; omega) hne]
      exact (World.frozen?_of_block ((al_below w1 _).block y.p HLT.out)).trans f4
    clear hown hgrow hlie hO3 HSa HS1 c4 f4 hdt' HV HLn HSo
    go_wp2
    go_end0
    exact ⟨rfl, _, HF.out⟩
end Go.Proofs.YtfeikmmojilmbaaDoor
