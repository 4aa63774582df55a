/- A strings.Builder of the call's own: what it holds, and its copyCheck and WriteString: walks over the program. -/
import Derived.Test.YtdbanimlnjhhlaaDoorMemJ
import Derived.Test.YtdbanimlnjhhlaaDoorWrD
import Derived.Test.YtdbanimlnjhhlaaDoorFoot
import Derived.Lib.Builder
import Derived.Lib.AppendStr
namespace Go.Proofs.YtdbanimlnjhhlaaDoor
open Go.RowKit El Pol
/-- two cells of a block of their own -/
structure Two (T : TypeId) (b : Nat) (p v : Value) (w : World) : Prop where
  blk : w.heap[b]? = some (.cells #[p, v] T (0, 0))
namespace Two
variable {T : TypeId} {b : Nat} {p v : Value} {w : World}
theorem lt (h : Two T b p v w) : b < w.heap.size := lt_of_block h.blk
theorem one (h : Two T b p v w) : w.cell? ⟨b, 0, none⟩ = some p := by rw [cell_of_row _ _ 0 _ _ _ h.blk]; rfl
theorem two (h : Two T b p v w) : w.cell? ⟨b, 1, none⟩ = some v := by rw [cell_of_row _ _ 1 _ _ _ h.blk]; rfl
theorem free (h : Two T b p v w) (j : Nat) : w.frozen? ⟨b, j, none⟩ = false := by unfold World.frozen?; rw [h.blk]; simp
theorem shape (h : Two T b p v w) : w.shape? b = some (T, 2) := by unfold World.shape?; rw [h.blk]; rfl
theorem set0 (h : Two T b p v w) (q : Value) : Two T b q v (w.setCell ⟨b, 0, none⟩ q) := ⟨by simp [World.setCell, Array.getElem?_modify, h.blk]⟩
theorem set1 (h : Two T b p v w) (u : Value) : Two T b p u (w.setCell ⟨b, 1, none⟩ u) := ⟨by simp [World.setCell, Array.getElem?_modify, h.blk]⟩
theorem but {F : Nat → Prop} {w' : World} (h : Two T b p v w) (hb : But F w w') (hn : ¬ F b) : Two T b p v w' := ⟨by rw [hb.block b h.lt hn]; exact h.blk⟩
/-- bytes lie elsewhere -/
theorem apart {B : Nat} {u : Value} {xs : List El} (h : Two 104 b p v w) (ho : Ow B w u xs) : ∀ k, u.ownBlock = some k → k ≠ b := by
  intro k hk e
  rcases ho.2 with ⟨rfl, _⟩ | ⟨g, cap, cur, rfl, _, hg, _⟩
  · simp [Value.ownBlock] at hk
  · simp only [Value.ownBlock, Option.some.injEq] at hk
    rw [hk, e, h.blk] at hg
    simp at hg
end Two
/-- a builder that was used, and holds xs -/
def Bld (B b : Nat) (xs : List El) (w : World) : Prop := B ≤ b ∧ ∃ v, Two 104 b (.pointer (some ⟨b, 0, none⟩)) v w ∧ Ow B w v xs
/-- one without a buffer -/
abbrev NilB (b : Nat) (w : World) : Prop := Two 104 b (.pointer (some ⟨b, 0, none⟩)) (.slice none 0 0) w
theorem Bld.of {B b : Nat} {p v u : Value} {xs : List El} {w : World} (hB : B ≤ b) (h : Two 104 b p v w) (e : p = .pointer (some ⟨b, 0, none⟩)) (ho : Ow B w u xs) : Bld B b xs (w.setCell ⟨b, 1, none⟩ u) := by
  subst e
  have hb : But (fun k => k = b) w (w.setCell ⟨b, 1, none⟩ u) := (But.refl (fun k => k = b) w).setCell (p := ⟨b, 1, none⟩) rfl u
  exact ⟨hB, u, h.set1 u, ownsRow_but ho hb (h.apart ho)⟩
theorem bldSize : ∃ i, Tryd.prog.info? 104 = some i ∧ i.size ≠ 0 := by
  have h : (Tryd.prog.info? 104).map (·.size) = some 2 := by kernel_rfl
  cases e : Tryd.prog.info? 104 with
  | none => rw [e] at h; cases h
  | some i => rw [e] at h; exact ⟨i, rfl, fun z => by simp only [Option.map_some, Option.some.injEq] at h; omega⟩
theorem bldLies : liesAt Tryd.prog Tryd.prog.depth 104 (2 / Tryd.prog.cellsOf 104) 0 104 1 = true := by kernel_rfl
set_option maxRecDepth 100000 in
/-- copyCheck of one that was used -/
theorem bcheck {b : Nat} {v : Value} {w : World} (h : Two 104 b (.pointer (some ⟨b, 0, none⟩)) v w) :
    Calls Tryd.prog 76 #[.pointer (some ⟨b, 0, none⟩)] w fun e w' => e = .returned (.tuple #[]) ∧ w' = w := by
  obtain ⟨i, hi, _⟩ := bldSize
  have c := h.one
  have hn := Lib.run_neq_ptr_same (P := Tryd.prog) w ⟨b, 0, none⟩ Tryd.underlying102 hi
  clear h
  go_enter Tryd.func76, Tryd.ntmps76
  go_wp2
  go_end0
  exact ⟨rfl, rfl⟩
set_option maxHeartbeats 1000000 in
set_option maxRecDepth 100000 in
/-- copyCheck of a fresh one: from then on it has its own address -/
theorem bcheck_new {b : Nat} {v : Value} {w : World} (h : Two 104 b (.pointer none) v w) :
    Calls Tryd.prog 76 #[.pointer (some ⟨b, 0, none⟩)] w fun e w' => e = .returned (.tuple #[]) ∧ w' = w.setCell ⟨b, 0, none⟩ (.pointer (some ⟨b, 0, none⟩)) := by
  obtain ⟨i, hi, hz⟩ := bldSize
  have c := h.one
  have f := h.free 0
  have there := Lib.run_to_unsafe (P := Tryd.prog) w ⟨b, 0, none⟩ Tryd.underlying102 Tryd.underlying115 hi hz h.shape (by (show 0 < 2); omega)
  have back := Lib.run_from_unsafe (P := Tryd.prog) w ⟨b, 0, none⟩ Tryd.underlying115 Tryd.underlying102 hi h.shape bldLies
  have between : (callFunc 95 #[.pointer (some ⟨b, 0, none⟩)]).run Tryd.prog w = .ok (.value (.pointer (some ⟨b, 0, none⟩))) w := by
    have q := run_callFunc_extern (w := w) (args := #[.pointer (some ⟨b, 0, none⟩)]) Tryd.func95 (by kernel_rfl) (by kernel_rfl) (by kernel_rfl) (e := Extern.AbiNoEscape.same) (by kernel_rfl)
    rw [q]
    rfl
  clear h
  go_enter Tryd.func76, Tryd.ntmps76
  go_wp2
  go_end0
  exact ⟨rfl, rfl⟩
theorem str_eb (ys : List El) : Lib.strCells (sb ys) = ys.map eb := by
  unfold Lib.strCells
  rw [sb_bytes, List.map_map]
  exact List.map_congr_left (fun y _ => by
    show Value.int .u8 ((UInt8.ofNat y.val).toNat : Int) = _
    rw [u8_val])
set_option maxHeartbeats 2000000 in
set_option maxRecDepth 100000 in
/-- WriteString: behind what it holds -/
theorem bwrite_any {B b : Nat} {xs : List El} (ys : List El) {w : World} (h : Bld B b xs w) (hl : xs.length + ys.length ≤ 100000) (hBw : B ≤ w.heap.size) :
    Calls Tryd.prog 62 #[.pointer (some ⟨b, 0, none⟩), .string (sb ys)] w fun e w' => (∃ z, e = .returned (.tuple #[.int .i64 z, .nilIface])) ∧ Bld B b (xs ++ ys) w' ∧ Below B w w' ∧ (ys = [] → NilB b w → NilB b w') := by
  obtain ⟨i0, hi, hz0, hz1, hz2⟩ := info_parts info8
  obtain ⟨hB, v, hT, hO⟩ := h
  have C := bcheck hT
  have c1 := hT.two
  have hys := sb_size ys
  have HST : Hid (Lib.strCells (sb ys) = ys.map eb) := str_eb ys
  have HE : Hid ((sb ys).size = 0 ↔ ys = []) := by rw [hys]; exact List.length_eq_zero_iff
  generalize sb ys = s at *
  go_enter Tryd.func62, Tryd.ntmps62
  go_wp2_with fail
  refine C.mono ?_
  rintro e w1 ⟨rfl, hw1⟩
  obtain rfl := hw1.symm
  clear C
  go_wp2_with (at_builtin; refine Lib.wpList_append_own_string _ rfl _ _ 62 9 rfl B 5 i0 Tryd.underlying62 Tryd.underlying9 hi hz0 hz1 hz2 _ _ _ rfl hO s rfl (by unfold maxLen; omega) (by omega) hBw ?_)
  intro u w2 hu hg hnil
  have hO2 : Ow B w2 u (xs ++ ys) := by
    unfold Ow
    rw [List.length_append, List.map_append, ← HST.out]
    exact hu
  have hT2 : Two 104 b (.pointer (some ⟨b, 0, none⟩)) v w2 := hT.but (But.grown (F := fun k => k ≠ b) hg (hT.apart hO)) (fun q => q rfl)
  have HP : Hid (Bld B b (xs ++ ys) (w2.setCell ⟨b, 1, none⟩ u)) := Bld.of hB hT2 rfl hO2
  have HQ : Hid (Below B w (w2.setCell ⟨b, 1, none⟩ u)) := ((Below.refl B w).grown hg hBw (fun k hk => (hO.lt k hk).1)).setCell (p := ⟨b, 1, none⟩) hB _
  have HN : Hid (ys = [] → NilB b w → NilB b (w2.setCell ⟨b, 1, none⟩ u)) := fun q1 q2 => by
    have ev : v = .slice none 0 0 := Option.some.inj (hT.two.symm.trans q2.two)
    have eu : u = .slice none 0 0 := hnil.2 ⟨ev, by first | exact q1 | exact HE.out.2 q1 | exact ByteArray.ext (Array.eq_empty_of_size_eq_zero (HE.out.2 q1))⟩
    rw [eu]
    exact hT2.set1 _
  have k1 := hT2.two
  have k2 := hT2.free 1
  obtain ⟨ao, m, cap, rfl⟩ : ∃ ao m cap, u = .slice ao m cap := by
    obtain ⟨ao, cap, e, _, _⟩ := hO2.rd.len
    exact ⟨ao, _, cap, e⟩
  clear hg hu hnil hO hO2 hT hT2
  go_wp2
  go_ret2
  exact ⟨⟨_, rfl⟩, HP.out, HQ.out, HN.out⟩
end Go.Proofs.YtdbanimlnjhhlaaDoor
