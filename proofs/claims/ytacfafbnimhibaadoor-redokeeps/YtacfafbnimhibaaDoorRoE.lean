/- A record as bytes: a walk over the program. -/
import Derived.Test.YtacfafbnimhibaaDoorRoB
import Derived.Lib.AppendStr
import Derived.Deep.Cut
import Derived.Deep.CutRange
namespace Go.Proofs.YtacfafbnimhibaaDoor
open Go.RowKit El Pol
theorem str_cells (t : List El) : Lib.strCells (sb t) = t.map eb := by
  unfold Lib.strCells sb
  simp only [List.map_map]
  apply List.map_congr_left
  intro x _
  show Value.int .u8 (((UInt8.ofNat x.val).toNat : Nat) : Int) = _
  rw [u8_val]
theorem wat_at {l : List Wr} {k : Nat} (h : k < l.length) : wat l k = l[k] := by simp [wat, List.getD_eq_getElem?_getD, h]
theorem body_take {l : List Wr} {k : Nat} (h : k < l.length) : bodyR (l.take (k + 1)) = bodyR (l.take k) ++ (by8 (wat l k).1.toNat :: by8 (wat l k).2.length :: (wat l k).2) := by
  rw [List.take_succ_eq_append_getElem h, bodyR_append, wat_at h, bodyR_cons]
  simp [bodyR]
theorem make2 (W : World) : (Instr.makeSlice 72 (.int .i64 2) (.int .i64 2)).run Tryd.prog W = .ok (.slice (some ⟨W.heap.size, 0, none⟩) 2 2) (W.alloc (.cells #[.int .u8 0, .int .u8 0] 5)) := by
  obtain ⟨i0, hi, hz0, hz1, hz2⟩ := info_parts infoU
  have h := run_make (P := Tryd.prog) W 72 5 i0 (.int .u8 0) Tryd.underlying72 hi hz0 .i64 .i64 2 2 (by omega) (by omega) (by rw [hz2]; omega) (by omega)
  rw [hz1] at h
  have e : madeCells (Value.int .u8 0).cells (Int.toNat 2 * 1) = #[.int .u8 0, .int .u8 0] := by
    apply Array.toList_inj.1
    exact toList_madeCells_one _ 2
  rw [e] at h
  exact h
theorem two_cell {w : World} {x y : Value} (t : TypeId) : ∀ j u, [x, y][j]? = some u → (w.alloc (.cells #[x, y] t)).cell? ((⟨w.heap.size, 0, none⟩ : Addr).add j) = some u := by
  intro j u hj
  have e : (⟨w.heap.size, 0, none⟩ : Addr).add j = ⟨w.heap.size, j, none⟩ := by unfold Addr.add; split <;> simp_all
  rw [e, cell_of_row _ _ j _ _ _ (heap_alloc_new w _)]
  simpa using hj
set_option maxRecDepth 100000 in
set_option maxHeartbeats 2000000 in
theorem record_any (n : Nat) (l : List Wr) (v : Value) (w : World) (hr : RdW w v l) (hok : OkR n l) (hn : n ≤ 40) :
    Calls Tryd.prog 37 #[v] w fun e w' => ∃ u, e = .returned u ∧ Ow w.heap.size w' u (recB l) ∧ Below w.heap.size w w' := by
  obtain ⟨i0, hi, hz0, hz1, hz2⟩ := info_parts infoU
  obtain ⟨a1, c1, rfl, _, _⟩ := hr.len
  have hl40 := hok.1
  have HR : Hid (RdW w (.slice a1 l.length c1) l) := hr
  have HOK : Hid (OkR n l) := hok
  obtain ⟨m, hm⟩ : ∃ m, m = l.length := ⟨_, rfl⟩
  rw [← hm] at HR hl40 ⊢
  have HM : Hid (m = l.length) := hm
  clear hr hok hm
  go_enter Tryd.func37, Tryd.ntmps37
  have mk := make2 w
  go_wp2
  clear mk
  have hO0 : Ow w.heap.size (w.alloc (.cells #[.int .u8 0, .int .u8 0] 5)) (.slice (some ⟨w.heap.size, 0, none⟩) 2 2) (0 :: 0 :: bodyR (l.take 0)) := own_lit [.int .u8 0, .int .u8 0] (Nat.le_refl _) (by simp)
  have hB0 : Below w.heap.size w (w.alloc (.cells #[.int .u8 0, .int .u8 0] 5)) := al_below _ _
  go_loopw [3, 10] (fun o c wr => ∃ k : Nat, k ≤ m ∧ c = .int .i64 k ∧ Ow w.heap.size wr o (0 :: 0 :: bodyR (l.take k)) ∧ Below w.heap.size w wr) (fun _ c _ => m - (intOf c).toNat)
  case atStart => exact ⟨0, Nat.zero_le _, rfl, hO0, hB0⟩
  case round =>
    clear hO0 hB0
    obtain ⟨k, hk, rfl, hO, hB⟩ := hrel
    have hsz := hB.size
    have hbk : (bodyR (l.take k)).length ≤ 720 := by
      have h1 := bodyR_le (l.take k) (fun x hx => HOK.out.2 x (List.mem_of_mem_take hx))
      rw [List.length_take] at h1
      omega
    by_cases hlt : k < m
    · have hkl : k < l.length := by rw [← HM.out]; exact hlt
      obtain ⟨ad, rfl, d0, d1⟩ := (HR.out.old hB).at k hkl
      rw [show (ad.add (k * 2)).add 1 = ⟨(ad.add (k * 2)).block, (ad.add (k * 2)).off + 1, none⟩ from rfl] at d1
      have hw := HOK.out.2 (wat l k) (by rw [wat_at hkl]; exact List.getElem_mem hkl)
      obtain ⟨an, han⟩ : ∃ an : Nat, (wat l k).1 = (an : Int) := ⟨(wat l k).1.toNat, by have := hw.1; omega⟩
      have han2 : (wat l k).1.toNat = an := by rw [han]; rfl
      have hal : an < 40 := by have := hw.2.1; omega
      have hss : (sb (wat l k).2).size = (wat l k).2.length := sb_size _
      have hbl := hw.2.2
      have HN : Hid ((0 :: 0 :: bodyR (l.take (k + 1))).map eb = ((0 :: 0 :: bodyR (l.take k)).map eb ++ [.int .u8 (an : Int), .int .u8 ((wat l k).2.length : Int)]) ++ Lib.strCells (sb (wat l k).2) ∧ (0 :: 0 :: bodyR (l.take (k + 1))).length = (0 :: 0 :: bodyR (l.take k)).length + 2 + (wat l k).2.length) := by
        refine ⟨?_, ?_⟩
        · rw [body_take hkl, str_cells, han2]
          have e1 : eb (by8 an) = .int .u8 (an : Int) := by show Value.int .u8 (((by8 an).val : Nat) : Int) = _; rw [by8_val (by omega)]
          have e2 : eb (by8 (wat l k).2.length) = .int .u8 ((wat l k).2.length : Int) := by show Value.int .u8 (((by8 (wat l k).2.length).val : Nat) : Int) = _; rw [by8_val (by omega)]
          simp only [List.map_cons, List.map_append, e1, e2]
          simp
        · rw [body_take hkl]
          simp only [List.length_cons, List.length_append]
          omega
      have hLb : (0 :: 0 :: bodyR (l.take k)).length ≤ 722 := by simp only [List.length_cons]; omega
      obtain ⟨a2, c2, rfl, _, _⟩ := hO.rd.len
      unfold Ow at hO
      rw [han] at d0
      unfold st at d1
      obtain ⟨L, hL⟩ : ∃ L, L = (0 :: 0 :: bodyR (l.take k)).length := ⟨_, rfl⟩
      obtain ⟨X, hX⟩ : ∃ X, X = (0 :: 0 :: bodyR (l.take k)).map eb := ⟨_, rfl⟩
      rw [← hL, ← hX] at hO
      rw [← hL] at hLb ⊢
      rw [← hL, ← hX] at HN
      obtain ⟨s, hs⟩ : ∃ s, s = sb (wat l k).2 := ⟨_, rfl⟩
      rw [← hs] at hss d1 HN
      clear hL hX hw han han2 hs
      generalize (wat l k).2.length = bn at *
      go_upto_region 5 with fail
      have HB1 : Hid (Below w.heap.size w (wr.alloc (.cells #[.int .i64 (an : Int), .string s] 50))) := hB.alloc hsz _
      have hO1 := World.ownsRow.alloc hO (.cells #[.int .i64 (an : Int), .string s] 50)
      have e0 : (wr.alloc (.cells #[.int .i64 (an : Int), .string s] 50)).cell? ⟨wr.heap.size, 0, none⟩ = some (.int .i64 (an : Int)) := by rw [cell_of_row _ _ 0 _ _ _ (heap_alloc_new wr _)]; rfl
      have e1 : (wr.alloc (.cells #[.int .i64 (an : Int), .string s] 50)).cell? ⟨wr.heap.size, 1, none⟩ = some (.string s) := by rw [cell_of_row _ _ 1 _ _ _ (heap_alloc_new wr _)]; rfl
      have hsz1 : wr.heap.size < (wr.alloc (.cells #[.int .i64 (an : Int), .string s] 50)).heap.size := by simp
      have HGL : Hid (∀ g, (Value.slice a2 L c2).ownBlock = some g → w.heap.size ≤ g ∧ g < wr.heap.size) := World.ownsRow.lt hO
      clear hO hB d0 d1
      generalize wr.heap.size = q at *
      generalize wr.alloc (.cells #[.int .i64 (an : Int), .string s] 50) = w1 at *
      have hXl : X.length = L := by simpa using hO1.1
      go_wp2_with (first | (at_builtin; refine wpList_append_own _ rfl _ _ 72 rfl w.heap.size 5 i0 (.int .u8 0) 1 1 Tryd.underlying72 hi hz0 hz1 hz2 rfl (by decide) _ _ _ rfl (World.ownsRow.alloc hO1 _) ⟨w1.heap.size, 0, none⟩ 2 2 [.int .u8 (an : Int), .int .u8 (bn : Int)] rfl rfl (two_cell _) (by intro u hu; simp at hu; rcases hu with rfl | rfl <;> rfl) (by unfold maxLen; omega) (by omega) (by simp; omega) ?_))
      intro v2 w2 hown hgrow _
      have e1' : w2.cell? ⟨q, 1, none⟩ = some (.string s) := hgrow.cell (by rw [((Below.refl w1.heap.size w1).alloc (Nat.le_refl _) _).cell (by show q < _; omega)]; exact e1) (fun e => by have := (HGL.out q e.symm).2; omega)
      have HB2 : Hid (Below w.heap.size w w2) := (HB1.out.alloc (by omega) _).grown hgrow (by simp; omega) (fun g hg => (HGL.out g hg).1)
      have hs2 : w.heap.size ≤ w2.heap.size := HB2.out.size
      have HG2 : Hid (∀ g, v2.ownBlock = some g → w.heap.size ≤ g) := fun g hg => (World.ownsRow.lt hown g hg).1
      have hO2 : w2.ownsRow w.heap.size 5 1 v2 (L + 2) (X ++ [.int .u8 (an : Int), .int .u8 (bn : Int)]) := hown
      clear hown hgrow hO1 e0 e1 HGL HB1
      obtain ⟨Y, hY⟩ : ∃ Y, Y = X ++ [Value.int .u8 (an : Int), .int .u8 (bn : Int)] := ⟨_, rfl⟩
      rw [← hY] at hO2 HN
      clear hY
      go_wp2_with (first | (at_builtin; refine Lib.wpList_append_own_string _ rfl _ _ 72 9 rfl w.heap.size 5 i0 Tryd.underlying72 Tryd.underlying9 hi hz0 hz1 hz2 _ _ _ rfl hO2 s rfl (by unfold maxLen; omega) (by omega) hs2 ?_))
      intro v3 w3 hown hgrow _
      have HB3 : Hid (Below w.heap.size w w3) := HB2.out.grown hgrow hs2 (fun g hg => HG2.out g hg)
      have HO3 : Hid (Ow w.heap.size w3 v3 (0 :: 0 :: bodyR (l.take (k + 1)))) := by
        (show Ow _ _ _ _)
        unfold Ow
        rw [HN.out.1, HN.out.2]
        exact hown
      clear hown hgrow hO2 HB2 HG2 HN e1'
      go_wp2
      go_roundw
      case rel => exact ⟨k + 1, by omega, by go_num, HO3.out, HB3.out⟩
      case measure => simp [intOf]; omega
    · have e : k = m := by omega
      have e2 : l.take k = l := List.take_of_length_le (by rw [← HM.out]; omega)
      rw [e2] at hO hbk
      obtain ⟨bd, hbd⟩ : ∃ bd, bd = bodyR l := ⟨_, rfl⟩
      have HBD : Hid (bd = bodyR l) := hbd
      rw [← hbd] at hO hbk
      obtain ⟨g, c2, rfl, hg1, hg2, hcl, _⟩ := hO.at (by simp)
      have T0 := hO.stored rfl 0 (by8 (bd.length / 256))
      have T1 := T0.1.stored (by simp) 1 (by8 bd.length)
      have k0 := hO.cell rfl 0 (by simp)
      have k1 := hO.cell rfl 1 (by simp)
      have f0 := hO.free rfl 0
      have f1 := hO.free rfl 1
      rw [show (((0 :: 0 :: bd).set 0 (by8 (bd.length / 256))).set 1 (by8 bd.length)) = by8 (bd.length / 256) :: by8 bd.length :: bd from rfl] at T1
      have HO2 : Hid _ := T1.1
      have HB2 : Hid (Below w.heap.size w (((wr.setCell ⟨g, 0, none⟩ (.int .u8 (((by8 (bd.length / 256)).val : Nat) : Int)))).setCell ⟨g, 1, none⟩ (.int .u8 (((by8 bd.length).val : Nat) : Int)))) := (hB.setCell (p := ⟨g, 0, none⟩) hg1 _).setCell (p := ⟨g, 1, none⟩) hg1 _
      have hv0 : (by8 (bd.length / 256)).val = bd.length / 256 := by8_val (by omega)
      have hv1 : (by8 bd.length).val = bd.length % 256 := rfl
      rw [hv0, hv1] at HO2 HB2
      clear hO hB T0 T1 hbd e e2 hv0 hv1
      simp only [List.length_cons] at HO2 hcl ⊢
      generalize hbn : bd.length = bn at *
      have HBN : Hid (bd.length = bn) := hbn
      clear hbn
      go_wp2
      rw [show ((bn : Int) + 1 + 1 - 2) = (bn : Int) by omega, show (bn : Int) / 256 = ((bn / 256 : Nat) : Int) by omega, show (bn : Int) % 256 = ((bn % 256 : Nat) : Int) by omega]
      go_ret
      refine ⟨_, rfl, ?_, HB2.out⟩
      unfold Ow recB
      rw [← HBD.out, List.length_cons, List.length_cons, HBN.out]
      exact HO2.out
end Go.Proofs.YtacfafbnimhibaaDoor
