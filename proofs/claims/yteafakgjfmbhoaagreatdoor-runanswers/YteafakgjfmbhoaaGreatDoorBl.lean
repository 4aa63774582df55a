/- Texts of plain mathematics, of memory and of walks, in one. -/
import Derived.Test.YteafakgjfmbhoaaGreatDoorMe
import Derived.Test.YteafakgjfmbhoaaGreatDoorGe
import Derived.Lib.Builder
import Derived.Lib.AppendStr
import Derived.Lib.MakeNoZero
import Derived.Laws.IdiomCopy
import Derived.Deep.RegionWith
/- A strings.Builder of the call's own: what it holds, and its copyCheck and WriteString: walks over the program. -/
namespace Go.Proofs.YteafakgjfmbhoaaGreatDoor
open Go.RowKit El Pol
/-- two cells of a block of their own -/
structure Two (T : TypeId) (b : Nat) (p v : Value) (w : World) : Prop where
  blk : w.heap[b]? = some (.cells #[p, v] T (0, 0))
namespace Two
variable {T : TypeId} {b : Nat} {p v : Value} {w : World}
theorem lt (h : Two T b p v w) : b < w.heap.size := lt_of_block h.blk
theorem one (h : Two T b p v w) : w.cell? ⟨b, 0, none⟩ = some p := by rw [cell_of_row _ _ 0 _ _ _ h.blk]; rfl
theorem two (h : Two T b p v w) : w.cell? ⟨b, 1, none⟩ = some v := by rw [cell_of_row _ _ 1 _ _ _ h.blk]; rfl
theorem free (h : Two T b p v w) (j : Nat) : w.frozen? ⟨b, j, none⟩ = false := by unfold World.frozen?; rw [h.blk]; simp
theorem shape (h : Two T b p v w) : w.shape? b = some (T, 2) := by unfold World.shape?; rw [h.blk]; rfl
theorem set0 (h : Two T b p v w) (q : Value) : Two T b q v (w.setCell ⟨b, 0, none⟩ q) := ⟨by simp [World.setCell, Array.getElem?_modify, h.blk]⟩
theorem set1 (h : Two T b p v w) (u : Value) : Two T b p u (w.setCell ⟨b, 1, none⟩ u) := ⟨by simp [World.setCell, Array.getElem?_modify, h.blk]⟩
theorem but {F : Nat → Prop} {w' : World} (h : Two T b p v w) (hb : But F w w') (hn : ¬ F b) : Two T b p v w' := ⟨by rw [hb.block b h.lt hn]; exact h.blk⟩
/-- bytes lie elsewhere -/
theorem apart {B : Nat} {u : Value} {xs : List El} (h : Two 49 b p v w) (ho : Ow B w u xs) : ∀ k, u.ownBlock = some k → k ≠ b := by
  intro k hk e
  rcases ho.2 with ⟨rfl, _⟩ | ⟨g, cap, cur, rfl, _, hg, _⟩
  · simp [Value.ownBlock] at hk
  · simp only [Value.ownBlock, Option.some.injEq] at hk
    rw [hk, e, h.blk] at hg
    simp at hg
end Two
/-- a builder that was used, and holds xs -/
def Bld (B b : Nat) (xs : List El) (w : World) : Prop := B ≤ b ∧ ∃ v, Two 49 b (.pointer (some ⟨b, 0, none⟩)) v w ∧ Ow B w v xs
/-- one without a buffer -/
abbrev NilB (b : Nat) (w : World) : Prop := Two 49 b (.pointer (some ⟨b, 0, none⟩)) (.slice none 0 0) w
theorem Bld.of {B b : Nat} {p v u : Value} {xs : List El} {w : World} (hB : B ≤ b) (h : Two 49 b p v w) (e : p = .pointer (some ⟨b, 0, none⟩)) (ho : Ow B w u xs) : Bld B b xs (w.setCell ⟨b, 1, none⟩ u) := by
  subst e
  have hb : But (fun k => k = b) w (w.setCell ⟨b, 1, none⟩ u) := (But.refl (fun k => k = b) w).setCell (p := ⟨b, 1, none⟩) rfl u
  exact ⟨hB, u, h.set1 u, ownsRow_but ho hb (h.apart ho)⟩
theorem bldSize : ∃ i, Tryz.prog.info? 49 = some i ∧ i.size ≠ 0 := by
  have h : (Tryz.prog.info? 49).map (·.size) = some 2 := by kernel_rfl
  cases e : Tryz.prog.info? 49 with
  | none => rw [e] at h; cases h
  | some i => rw [e] at h; exact ⟨i, rfl, fun z => by simp only [Option.map_some, Option.some.injEq] at h; omega⟩
theorem bldLies : liesAt Tryz.prog Tryz.prog.depth 49 (2 / Tryz.prog.cellsOf 49) 0 49 1 = true := by kernel_rfl
set_option maxRecDepth 100000 in
/-- copyCheck of one that was used -/
theorem bcheck {b : Nat} {v : Value} {w : World} (h : Two 49 b (.pointer (some ⟨b, 0, none⟩)) v w) :
    Calls Tryz.prog 42 #[.pointer (some ⟨b, 0, none⟩)] w fun e w' => e = .returned (.tuple #[]) ∧ w' = w := by
  obtain ⟨i, hi, _⟩ := bldSize
  have c := h.one
  have hn := Lib.run_neq_ptr_same (P := Tryz.prog) w ⟨b, 0, none⟩ Tryz.underlying46 hi
  clear h
  go_enter Tryz.func42, Tryz.ntmps42
  go_wp2
  go_end0
  exact ⟨rfl, rfl⟩
set_option maxHeartbeats 1000000 in
set_option maxRecDepth 100000 in
/-- copyCheck of a fresh one: from then on it has its own address -/
theorem bcheck_new {b : Nat} {v : Value} {w : World} (h : Two 49 b (.pointer none) v w) :
    Calls Tryz.prog 42 #[.pointer (some ⟨b, 0, none⟩)] w fun e w' => e = .returned (.tuple #[]) ∧ w' = w.setCell ⟨b, 0, none⟩ (.pointer (some ⟨b, 0, none⟩)) := by
  obtain ⟨i, hi, hz⟩ := bldSize
  have c := h.one
  have f := h.free 0
  have there := Lib.run_to_unsafe (P := Tryz.prog) w ⟨b, 0, none⟩ Tryz.underlying46 Tryz.underlying120 hi hz h.shape (by (show 0 < 2); omega)
  have back := Lib.run_from_unsafe (P := Tryz.prog) w ⟨b, 0, none⟩ Tryz.underlying120 Tryz.underlying46 hi h.shape bldLies
  have between : (callFunc 60 #[.pointer (some ⟨b, 0, none⟩)]).run Tryz.prog w = .ok (.value (.pointer (some ⟨b, 0, none⟩))) w := by
    have q := run_callFunc_extern (w := w) (args := #[.pointer (some ⟨b, 0, none⟩)]) Tryz.func60 (by kernel_rfl) (by kernel_rfl) (by kernel_rfl) (e := Extern.AbiNoEscape.same) (by kernel_rfl)
    rw [q]
    rfl
  clear h
  go_enter Tryz.func42, Tryz.ntmps42
  go_wp2
  go_end0
  exact ⟨rfl, rfl⟩
theorem str_eb (ys : List El) : Lib.strCells (sb ys) = ys.map eb := by
  unfold Lib.strCells
  rw [sb_bytes, List.map_map]
  exact List.map_congr_left (fun y _ => by
    show Value.int .u8 ((UInt8.ofNat y.val).toNat : Int) = _
    rw [u8_val])
set_option maxHeartbeats 2000000 in
set_option maxRecDepth 100000 in
/-- WriteString: behind what it holds -/
theorem bwrite_any {B b : Nat} {xs : List El} (ys : List El) {w : World} (h : Bld B b xs w) (hl : xs.length + ys.length ≤ 100000) (hBw : B ≤ w.heap.size) :
    Calls Tryz.prog 18 #[.pointer (some ⟨b, 0, none⟩), .string (sb ys)] w fun e w' => (∃ z, e = .returned (.tuple #[.int .i64 z, .nilIface])) ∧ Bld B b (xs ++ ys) w' ∧ Below B w w' ∧ (ys = [] → NilB b w → NilB b w') := by
  obtain ⟨i0, hi, hz0, hz1, hz2⟩ := info_parts info8
  obtain ⟨hB, v, hT, hO⟩ := h
  have C := bcheck hT
  have c1 := hT.two
  have hys := sb_size ys
  have HST : Hid (Lib.strCells (sb ys) = ys.map eb) := str_eb ys
  have HE : Hid ((sb ys).size = 0 ↔ ys = []) := by rw [hys]; exact List.length_eq_zero_iff
  generalize sb ys = s at *
  go_enter Tryz.func18, Tryz.ntmps18
  go_wp2_with fail
  refine C.mono ?_
  rintro e w1 ⟨rfl, hw1⟩
  obtain rfl := hw1.symm
  clear C
  go_wp2_with (at_builtin; refine Lib.wpList_append_own_string _ rfl _ _ 47 9 rfl B 5 i0 Tryz.underlying47 Tryz.underlying9 hi hz0 hz1 hz2 _ _ _ rfl hO s rfl (by unfold maxLen; omega) (by omega) hBw ?_)
  intro u w2 hu hg hnil
  have hO2 : Ow B w2 u (xs ++ ys) := by
    unfold Ow
    rw [List.length_append, List.map_append, ← HST.out]
    exact hu
  have hT2 : Two 49 b (.pointer (some ⟨b, 0, none⟩)) v w2 := hT.but (But.grown (F := fun k => k ≠ b) hg (hT.apart hO)) (fun q => q rfl)
  have HP : Hid (Bld B b (xs ++ ys) (w2.setCell ⟨b, 1, none⟩ u)) := Bld.of hB hT2 rfl hO2
  have HQ : Hid (Below B w (w2.setCell ⟨b, 1, none⟩ u)) := ((Below.refl B w).grown hg hBw (fun k hk => (hO.lt k hk).1)).setCell (p := ⟨b, 1, none⟩) hB _
  have HN : Hid (ys = [] → NilB b w → NilB b (w2.setCell ⟨b, 1, none⟩ u)) := fun q1 q2 => by
    have ev : v = .slice none 0 0 := Option.some.inj (hT.two.symm.trans q2.two)
    have eu : u = .slice none 0 0 := hnil.2 ⟨ev, by first | exact q1 | exact HE.out.2 q1 | exact ByteArray.ext (Array.eq_empty_of_size_eq_zero (HE.out.2 q1))⟩
    rw [eu]
    exact hT2.set1 _
  have k1 := hT2.two
  have k2 := hT2.free 1
  obtain ⟨ao, m, cap, rfl⟩ : ∃ ao m cap, u = .slice ao m cap := by
    obtain ⟨ao, cap, e, _, _⟩ := hO2.rd.len
    exact ⟨ao, _, cap, e⟩
  clear hg hu hnil hO hO2 hT hT2
  go_wp2
  go_ret2
  exact ⟨⟨_, rfl⟩, HP.out, HQ.out, HN.out⟩
end Go.Proofs.YteafakgjfmbhoaaGreatDoor

/- A fresh strings.Builder grows: walks over the program. -/
namespace Go.Proofs.YteafakgjfmbhoaaGreatDoor
open Go.RowKit El Pol
/-- a row of some bytes, none of them taken -/
theorem room_nil {B : Nat} {w : World} {cs : Array Value} (hB : B ≤ w.heap.size) (hm : cs.size ≤ maxLen) : Ow B (w.alloc (.cells cs 5)) (.slice (some ⟨w.heap.size, 0, none⟩) 0 cs.size) [] :=
  ⟨rfl, .inr ⟨_, _, cs, rfl, hB, heap_alloc_new w _, Nat.zero_le _, hm, by omega, by simp⟩⟩
theorem Bld.drew {B b : Nat} {xs : List El} {w : World} (h : Bld B b xs w) : Bld B b xs w.drew := by
  obtain ⟨hB, v, hT, hO⟩ := h
  exact ⟨hB, v, ⟨hT.blk⟩, hO.old ⟨rfl, rfl, rfl, Nat.le_refl _, fun _ _ => rfl⟩⟩
set_option maxHeartbeats 2000000 in
set_option maxRecDepth 1000000 in
theorem bgrow {B b n : Nat} {w : World} (hB : B ≤ b) (h : NilB b w) (hBw : B ≤ w.heap.size) (hn : n ≤ 100000) :
    Calls Tryz.prog 155 #[.pointer (some ⟨b, 0, none⟩), .int .i64 n] w fun e w' => e = .returned (.tuple #[]) ∧ Bld B b [] w' ∧ Below B w w' := by
  obtain ⟨cs, hrun, _, hmax⟩ := Lib.run_makeNoZero (P := Tryz.prog) w.drew #[3] 47 5 Tryz.underlying47 n (by omega)
  have hn2 : IntKind.i64.wrap (IntKind.i64.wrap 0 + (n : Int)) = n := by rw [IntKind.wrap_i64, IntKind.wrap_i64]; omega
  -- what MakeNoZero gives, as the walk spells its number, and plainly
  have made : ∀ z : Int, z = n → (callFunc 174 #[.int .i64 z]).run Tryz.prog w.drew = .ok (.value (.slice (some ⟨w.drew.heap.size, 0, none⟩) n cs.size)) (w.drew.drew.drew.alloc (.cells cs 5)) := fun z hz => by
    subst hz
    have q := run_callFunc_extern (w := w.drew) (args := #[.int .i64 (n : Int)]) Tryz.func174 (by kernel_rfl) (by kernel_rfl) (by kernel_rfl) (e := Extern.BytealgMakeNoZero.makeNoZero #[3] #[47]) (by kernel_rfl)
    rw [q, hrun]
    rfl
  have m1 := made _ rfl
  have m2 := made _ hn2
  have hA : NilB b (w.alloc (.cells cs 5)) := h.but ((But.refl (fun _ => False) w).alloc _) id
  have k0 : w.drew.cell? ⟨b, 1, none⟩ = some (.slice none 0 0) := h.two
  have k1 := hA.two
  have k2 := hA.free 1
  have cp : ∀ W : World, (Builtin.copy_ #[47, 47] 3 #[.slice (some ⟨w.heap.size, 0, none⟩) 0 cs.size, .slice none 0 0]).run Tryz.prog W = .ok (goInt 0) W := fun W => by
    obtain ⟨i0, hi, _, hz1, _⟩ := info_parts info8
    exact run_copy_none W _ _ _ 5 _ _ 0 cs.size 0 0 Tryz.underlying47 (by rw [hi, ← hz1]; rfl) rfl
  have HF : Hid (Bld B b [] ((w.alloc (.cells cs 5)).setCell ⟨b, 1, none⟩ (.slice (some ⟨w.heap.size, 0, none⟩) 0 cs.size))) := Bld.of hB hA rfl (room_nil hBw (hmax (by unfold maxLen; omega)))
  have HG : Hid (Below B w ((w.alloc (.cells cs 5)).setCell ⟨b, 1, none⟩ (.slice (some ⟨w.heap.size, 0, none⟩) 0 cs.size))) := ((Below.refl B w).alloc hBw _).setCell (p := ⟨b, 1, none⟩) hB _
  clear made hrun hmax hn2 h hA
  go_enter Tryz.func155, Tryz.ntmps155
  go_wp2
  go_region
  all_goals (go_wp2; go_end0; exact ⟨rfl, HF.out.drew.drew.drew, HG.out.drew.drew.drew⟩)
set_option maxHeartbeats 2000000 in
set_option maxRecDepth 1000000 in
/-- Grow of a fresh one: behind it there is a buffer, or nothing is to be written -/
theorem bGrow {B b n : Nat} {w : World} (hB : B ≤ b) (h : Two 49 b (.pointer none) (.slice none 0 0) w) (hBw : B ≤ w.heap.size) (hn : n ≤ 100000) :
    Calls Tryz.prog 132 #[.pointer (some ⟨b, 0, none⟩), .int .i64 n] w fun e w' => e = .returned (.tuple #[]) ∧ Bld B b [] w' ∧ Below B w w' ∧ (n = 0 → NilB b w') := by
  have C := bcheck_new h
  have hN := h.set0 (.pointer (some ⟨b, 0, none⟩))
  have hb : Below B w (w.setCell ⟨b, 0, none⟩ (.pointer (some ⟨b, 0, none⟩))) := (Below.refl B w).setCell (p := ⟨b, 0, none⟩) hB _
  generalize w.setCell ⟨b, 0, none⟩ (.pointer (some ⟨b, 0, none⟩)) = v at *
  have HN : Hid (NilB b v) := hN
  have HB : Hid (Below B w v) := hb
  have hv : B ≤ v.heap.size := Nat.le_trans hBw hb.size
  have c1 := hN.two
  have c2 : v.drew.cell? ⟨b, 1, none⟩ = some (.slice none 0 0) := c1
  clear h hN hb
  have dr : ∀ q, But (fun _ => False) v (v.drewN q) := fun q => (But.refl _ v).drewN q
  by_cases h0 : n = 0
  · subst h0
    go_enter Tryz.func132, Tryz.ntmps132
    go_wp2_with fail
    refine C.mono ?_
    rintro e v' ⟨rfl, hv'⟩
    obtain rfl := hv'.symm
    clear C
    go_wp2
    go_quiet (fail)
    have HZ : Hid (NilB b (v.drewN nq)) := HN.out.but (dr nq) id
    clear c1 c2 dr
    go_wp2
    go_end0
    exact ⟨rfl, ⟨hB, _, HZ.out, World.ownsRow_nil _ _ _ _⟩, below_drewN HB.out nq, fun _ => HZ.out⟩
  · have h0' : (0 : Int) < (n : Int) := by omega
    have HG : Hid (∀ q, Calls Tryz.prog 155 #[.pointer (some ⟨b, 0, none⟩), .int .i64 n] (v.drewN q) fun e w' => e = .returned (.tuple #[]) ∧ Bld B b [] w' ∧ Below B (v.drewN q) w') := fun q => bgrow hB (HN.out.but (dr q) id) hv hn
    clear dr
    go_enter Tryz.func132, Tryz.ntmps132
    go_wp2_with fail
    refine C.mono ?_
    rintro e v' ⟨rfl, hv'⟩
    obtain rfl := hv'.symm
    clear C
    go_wp2
    go_quiet (fail)
    have G := HG.out nq
    clear c1 c2 HG
    go_wp2_with fail
    refine G.mono ?_
    rintro e w3 ⟨rfl, q1, q2⟩
    have HF : Hid (Below B w w3) := (below_drewN HB.out nq).trans q2
    clear G q2
    go_wp2
    go_end0
    exact ⟨rfl, q1, HF.out, fun z => absurd z h0⟩
end Go.Proofs.YteafakgjfmbhoaaGreatDoor

/- What a strings.Builder's String answers: walks over the program. -/
namespace Go.Proofs.YteafakgjfmbhoaaGreatDoor
open Go.RowKit El Pol
set_option maxHeartbeats 1000000 in
set_option maxRecDepth 100000 in
theorem bstring_some {B b : Nat} {xs : List El} {w : World} (h : Bld B b xs w) (h0 : xs ≠ []) :
    Calls Tryz.prog 20 #[.pointer (some ⟨b, 0, none⟩)] w fun e w' => e = .returned (st xs) ∧ Below B w w' := by
  obtain ⟨_, v, hT, hO⟩ := h
  obtain ⟨g, cap, rfl, _⟩ := hO.at h0
  obtain ⟨text, hc, hg⟩ := run_view (w := w.drew) (hO.old ⟨rfl, rfl, rfl, Nat.le_refl _, fun _ _ => rfl⟩) h0
  have data : (Builtin.unsafeSliceData_ #[47] 103 #[.slice (some ⟨g, 0, none⟩) xs.length cap]).run Tryz.prog w.drew = .ok (.pointer (some ⟨g, 0, none⟩)) w.drew := Lib.run_unsafeSliceData_row _ _ _ _ _ _ hc
  have c : w.drew.cell? ⟨b, 1, none⟩ = some (.slice (some ⟨g, 0, none⟩) xs.length cap) := hT.two
  have HF : Hid (Below B w (w.drew.freeze ⟨g, 0, none⟩ xs.length)) := Lib.below_freeze (Below.drew (Below.refl B w)) (p := ⟨g, 0, none⟩) hg _
  obtain ⟨s, hs⟩ : ∃ s, s = sb xs := ⟨_, rfl⟩
  have HS : Hid (Value.string s = st xs) := by (show Value.string s = st xs); rw [hs]
  rw [← hs] at text
  clear hT hO hc hg h0 hs
  go_enter Tryz.func20, Tryz.ntmps20
  go_wp2
  go_region
  all_goals (go_wp2; go_ret; exact ⟨by rw [← HS.out]; rfl, HF.out⟩)
set_option maxHeartbeats 1000000 in
set_option maxRecDepth 100000 in
theorem bstring_nil {B b : Nat} {w : World} (h : NilB b w) :
    Calls Tryz.prog 20 #[.pointer (some ⟨b, 0, none⟩)] w fun e w' => e = .returned (st []) ∧ Below B w w' := by
  have text : ∀ W : World, (Builtin.unsafeString_ #[103, 3] 9 #[.pointer none, .int .i64 0]).run Tryz.prog W = .ok (.string .empty) W := fun W => Lib.run_unsafeString_none W _ _ _ none
  have data : ∀ W : World, (Builtin.unsafeSliceData_ #[47] 103 #[.slice none 0 0]).run Tryz.prog W = .ok (.pointer none) W := fun _ => rfl
  have c : w.drew.cell? ⟨b, 1, none⟩ = some (.slice none 0 0) := h.two
  clear h
  go_enter Tryz.func20, Tryz.ntmps20
  go_wp2
  go_region
  all_goals (go_wp2; go_ret; exact ⟨rfl, (Below.refl B w).drew⟩)
/-- String, whatever it holds -/
theorem bstring_any {B b : Nat} {xs : List El} {w : World} (h : Bld B b xs w) (h0 : xs = [] → NilB b w) :
    Calls Tryz.prog 20 #[.pointer (some ⟨b, 0, none⟩)] w fun e w' => e = .returned (st xs) ∧ Below B w w' := by
  by_cases e : xs = []
  · subst e
    exact bstring_nil (h0 rfl)
  · exact bstring_some h e
end Go.Proofs.YteafakgjfmbhoaaGreatDoor
