/- Texts of plain mathematics, of memory and of walks, in one. -/
import Derived.Test.YtfnbpljgmchhbaaMe
import Derived.Test.YtfnbpljgmchhbaaGe
import Derived.Lib.Builder
import Derived.Lib.AppendStr
import Derived.Lib.MakeNoZero
import Derived.Laws.IdiomCopy
import Derived.Deep.RegionWith
import Derived.Test.YtfnbpljgmchhbaaMa
/- A strings.Builder of the call's own: what it holds, and its copyCheck and WriteString: walks over the program. -/
namespace Go.Proofs.Ytfnbpljgmchhbaa
open Go.RowKit El Pol
/-- two cells of a block of their own -/
structure Two (T : TypeId) (b : Nat) (p v : Value) (w : World) : Prop where
  blk : w.heap[b]? = some (.cells #[p, v] T (0, 0))
namespace Two
variable {T : TypeId} {b : Nat} {p v : Value} {w : World}
theorem lt (h : Two T b p v w) : b < w.heap.size := lt_of_block h.blk
theorem one (h : Two T b p v w) : w.cell? ⟨b, 0, none⟩ = some p := by rw [cell_of_row _ _ 0 _ _ _ h.blk]; rfl
theorem two (h : Two T b p v w) : w.cell? ⟨b, 1, none⟩ = some v := by rw [cell_of_row _ _ 1 _ _ _ h.blk]; rfl
theorem free (h : Two T b p v w) (j : Nat) : w.frozen? ⟨b, j, none⟩ = false := by unfold World.frozen?; rw [h.blk]; simp
theorem shape (h : Two T b p v w) : w.shape? b = some (T, 2) := by unfold World.shape?; rw [h.blk]; rfl
theorem set0 (h : Two T b p v w) (q : Value) : Two T b q v (w.setCell ⟨b, 0, none⟩ q) := ⟨by simp [World.setCell, Array.getElem?_modify, h.blk]⟩
theorem set1 (h : Two T b p v w) (u : Value) : Two T b p u (w.setCell ⟨b, 1, none⟩ u) := ⟨by simp [World.setCell, Array.getElem?_modify, h.blk]⟩
theorem but {F : Nat → Prop} {w' : World} (h : Two T b p v w) (hb : But F w w') (hn : ¬ F b) : Two T b p v w' := ⟨by rw [hb.block b h.lt hn]; exact h.blk⟩
/-- bytes lie elsewhere -/
theorem apart {B : Nat} {u : Value} {xs : List El} (h : Two 79 b p v w) (ho : Ow B w u xs) : ∀ k, u.ownBlock = some k → k ≠ b := by
  intro k hk e
  rcases ho.2 with ⟨rfl, _⟩ | ⟨g, cap, cur, rfl, _, hg, _⟩
  · simp [Value.ownBlock] at hk
  · simp only [Value.ownBlock, Option.some.injEq] at hk
    rw [hk, e, h.blk] at hg
    simp at hg
end Two
/-- a builder that was used, and holds xs -/
def Bld (B b : Nat) (xs : List El) (w : World) : Prop := B ≤ b ∧ ∃ v, Two 79 b (.pointer (some ⟨b, 0, none⟩)) v w ∧ Ow B w v xs
/-- one without a buffer -/
abbrev NilB (b : Nat) (w : World) : Prop := Two 79 b (.pointer (some ⟨b, 0, none⟩)) (.slice none 0 0) w
theorem Bld.of {B b : Nat} {p v u : Value} {xs : List El} {w : World} (hB : B ≤ b) (h : Two 79 b p v w) (e : p = .pointer (some ⟨b, 0, none⟩)) (ho : Ow B w u xs) : Bld B b xs (w.setCell ⟨b, 1, none⟩ u) := by
  subst e
  have hb : But (fun k => k = b) w (w.setCell ⟨b, 1, none⟩ u) := (But.refl (fun k => k = b) w).setCell (p := ⟨b, 1, none⟩) rfl u
  exact ⟨hB, u, h.set1 u, ownsRow_but ho hb (h.apart ho)⟩
theorem bldSize : ∃ i, Try.prog.info? 79 = some i ∧ i.size ≠ 0 := by
  have h : (Try.prog.info? 79).map (·.size) = some 2 := by kernel_rfl
  cases e : Try.prog.info? 79 with
  | none => rw [e] at h; cases h
  | some i => rw [e] at h; exact ⟨i, rfl, fun z => by simp only [Option.map_some, Option.some.injEq] at h; omega⟩
theorem bldLies : liesAt Try.prog Try.prog.depth 79 (2 / Try.prog.cellsOf 79) 0 79 1 = true := by kernel_rfl
set_option maxRecDepth 100000 in
/-- copyCheck of one that was used -/
theorem bcheck {b : Nat} {v : Value} {w : World} (h : Two 79 b (.pointer (some ⟨b, 0, none⟩)) v w) :
    Calls Try.prog 60 #[.pointer (some ⟨b, 0, none⟩)] w fun e w' => e = .returned (.tuple #[]) ∧ w' = w := by
  obtain ⟨i, hi, _⟩ := bldSize
  have c := h.one
  have hn := Lib.run_neq_ptr_same (P := Try.prog) w ⟨b, 0, none⟩ Try.underlying77 hi
  clear h
  go_enter Try.func60, Try.ntmps60
  go_wp2
  go_end0
  exact ⟨rfl, rfl⟩
set_option maxHeartbeats 1000000 in
set_option maxRecDepth 100000 in
/-- copyCheck of a fresh one: from then on it has its own address -/
theorem bcheck_new {b : Nat} {v : Value} {w : World} (h : Two 79 b (.pointer none) v w) :
    Calls Try.prog 60 #[.pointer (some ⟨b, 0, none⟩)] w fun e w' => e = .returned (.tuple #[]) ∧ w' = w.setCell ⟨b, 0, none⟩ (.pointer (some ⟨b, 0, none⟩)) := by
  obtain ⟨i, hi, hz⟩ := bldSize
  have c := h.one
  have f := h.free 0
  have there := Lib.run_to_unsafe (P := Try.prog) w ⟨b, 0, none⟩ Try.underlying77 Try.underlying115 hi hz h.shape (by (show 0 < 2); omega)
  have back := Lib.run_from_unsafe (P := Try.prog) w ⟨b, 0, none⟩ Try.underlying115 Try.underlying77 hi h.shape bldLies
  have between : (callFunc 79 #[.pointer (some ⟨b, 0, none⟩)]).run Try.prog w = .ok (.value (.pointer (some ⟨b, 0, none⟩))) w := by
    have q := run_callFunc_extern (w := w) (args := #[.pointer (some ⟨b, 0, none⟩)]) Try.func79 (by kernel_rfl) (by kernel_rfl) (by kernel_rfl) (e := Extern.AbiNoEscape.same) (by kernel_rfl)
    rw [q]
    rfl
  clear h
  go_enter Try.func60, Try.ntmps60
  go_wp2
  go_end0
  exact ⟨rfl, rfl⟩
theorem str_eb (ys : List El) : Lib.strCells (sb ys) = ys.map eb := by
  unfold Lib.strCells
  rw [sb_bytes, List.map_map]
  exact List.map_congr_left (fun y _ => by
    show Value.int .u8 ((UInt8.ofNat y.val).toNat : Int) = _
    rw [u8_val])
set_option maxHeartbeats 2000000 in
set_option maxRecDepth 100000 in
/-- WriteString: behind what it holds -/
theorem bwrite_any {B b : Nat} {xs : List El} (ys : List El) {w : World} (h : Bld B b xs w) (hl : xs.length + ys.length ≤ 100000) (hBw : B ≤ w.heap.size) :
    Calls Try.prog 42 #[.pointer (some ⟨b, 0, none⟩), .string (sb ys)] w fun e w' => (∃ z, e = .returned (.tuple #[.int .i64 z, .nilIface])) ∧ Bld B b (xs ++ ys) w' ∧ Below B w w' ∧ (ys = [] → NilB b w → NilB b w') := by
  obtain ⟨i0, hi, hz0, hz1, hz2⟩ := info_parts info8
  obtain ⟨hB, v, hT, hO⟩ := h
  have C := bcheck hT
  have c1 := hT.two
  have hys := sb_size ys
  have HST : Hid (Lib.strCells (sb ys) = ys.map eb) := str_eb ys
  have HE : Hid ((sb ys).size = 0 ↔ ys = []) := by rw [hys]; exact List.length_eq_zero_iff
  generalize sb ys = s at *
  go_enter Try.func42, Try.ntmps42
  go_wp2_with fail
  refine C.mono ?_
  rintro e w1 ⟨rfl, hw1⟩
  obtain rfl := hw1.symm
  clear C
  go_wp2_with (at_builtin; refine Lib.wpList_append_own_string _ rfl _ _ 30 9 rfl B 5 i0 Try.underlying30 Try.underlying9 hi hz0 hz1 hz2 _ _ _ rfl hO s rfl (by unfold maxLen; omega) (by omega) hBw ?_)
  intro u w2 hu hg hnil
  have hO2 : Ow B w2 u (xs ++ ys) := by
    unfold Ow
    rw [List.length_append, List.map_append, ← HST.out]
    exact hu
  have hT2 : Two 79 b (.pointer (some ⟨b, 0, none⟩)) v w2 := hT.but (But.grown (F := fun k => k ≠ b) hg (hT.apart hO)) (fun q => q rfl)
  have HP : Hid (Bld B b (xs ++ ys) (w2.setCell ⟨b, 1, none⟩ u)) := Bld.of hB hT2 rfl hO2
  have HQ : Hid (Below B w (w2.setCell ⟨b, 1, none⟩ u)) := ((Below.refl B w).grown hg hBw (fun k hk => (hO.lt k hk).1)).setCell (p := ⟨b, 1, none⟩) hB _
  have HN : Hid (ys = [] → NilB b w → NilB b (w2.setCell ⟨b, 1, none⟩ u)) := fun q1 q2 => by
    have ev : v = .slice none 0 0 := Option.some.inj (hT.two.symm.trans q2.two)
    have eu : u = .slice none 0 0 := hnil.2 ⟨ev, by first | exact q1 | exact HE.out.2 q1 | exact ByteArray.ext (Array.eq_empty_of_size_eq_zero (HE.out.2 q1))⟩
    rw [eu]
    exact hT2.set1 _
  have k1 := hT2.two
  have k2 := hT2.free 1
  obtain ⟨ao, m, cap, rfl⟩ : ∃ ao m cap, u = .slice ao m cap := by
    obtain ⟨ao, cap, e, _, _⟩ := hO2.rd.len
    exact ⟨ao, _, cap, e⟩
  clear hg hu hnil hO hO2 hT hT2
  go_wp2
  go_ret2
  exact ⟨⟨_, rfl⟩, HP.out, HQ.out, HN.out⟩
end Go.Proofs.Ytfnbpljgmchhbaa

/- A fresh strings.Builder grows: walks over the program. -/
namespace Go.Proofs.Ytfnbpljgmchhbaa
open Go.RowKit El Pol
/-- a row of some bytes, none of them taken -/
theorem room_nil {B : Nat} {w : World} {cs : Array Value} (hB : B ≤ w.heap.size) (hm : cs.size ≤ maxLen) : Ow B (w.alloc (.cells cs 5)) (.slice (some ⟨w.heap.size, 0, none⟩) 0 cs.size) [] :=
  ⟨rfl, .inr ⟨_, _, cs, rfl, hB, heap_alloc_new w _, Nat.zero_le _, hm, by omega, by simp⟩⟩
theorem Bld.drew {B b : Nat} {xs : List El} {w : World} (h : Bld B b xs w) : Bld B b xs w.drew := by
  obtain ⟨hB, v, hT, hO⟩ := h
  exact ⟨hB, v, ⟨hT.blk⟩, hO.old ⟨rfl, rfl, rfl, Nat.le_refl _, fun _ _ => rfl⟩⟩
set_option maxHeartbeats 2000000 in
set_option maxRecDepth 1000000 in
theorem bgrow {B b n : Nat} {w : World} (hB : B ≤ b) (h : NilB b w) (hBw : B ≤ w.heap.size) (hn : n ≤ 100000) :
    Calls Try.prog 61 #[.pointer (some ⟨b, 0, none⟩), .int .i64 n] w fun e w' => e = .returned (.tuple #[]) ∧ Bld B b [] w' ∧ Below B w w' := by
  obtain ⟨cs, hrun, _, hmax⟩ := Lib.run_makeNoZero (P := Try.prog) w.drew #[3] 30 5 Try.underlying30 n (by omega)
  have hn2 : IntKind.i64.wrap (IntKind.i64.wrap 0 + (n : Int)) = n := by rw [IntKind.wrap_i64, IntKind.wrap_i64]; omega
  -- what MakeNoZero gives, as the walk spells its number, and plainly
  have made : ∀ z : Int, z = n → (callFunc 80 #[.int .i64 z]).run Try.prog w.drew = .ok (.value (.slice (some ⟨w.drew.heap.size, 0, none⟩) n cs.size)) (w.drew.drew.drew.alloc (.cells cs 5)) := fun z hz => by
    subst hz
    have q := run_callFunc_extern (w := w.drew) (args := #[.int .i64 (n : Int)]) Try.func80 (by kernel_rfl) (by kernel_rfl) (by kernel_rfl) (e := Extern.BytealgMakeNoZero.makeNoZero #[3] #[30]) (by kernel_rfl)
    rw [q, hrun]
    rfl
  have m1 := made _ rfl
  have m2 := made _ hn2
  have hA : NilB b (w.alloc (.cells cs 5)) := h.but ((But.refl (fun _ => False) w).alloc _) id
  have k0 : w.drew.cell? ⟨b, 1, none⟩ = some (.slice none 0 0) := h.two
  have k1 := hA.two
  have k2 := hA.free 1
  have cp : ∀ W : World, (Builtin.copy_ #[30, 30] 3 #[.slice (some ⟨w.heap.size, 0, none⟩) 0 cs.size, .slice none 0 0]).run Try.prog W = .ok (goInt 0) W := fun W => by
    obtain ⟨i0, hi, _, hz1, _⟩ := info_parts info8
    exact run_copy_none W _ _ _ 5 _ _ 0 cs.size 0 0 Try.underlying30 (by rw [hi, ← hz1]; rfl) rfl
  have HF : Hid (Bld B b [] ((w.alloc (.cells cs 5)).setCell ⟨b, 1, none⟩ (.slice (some ⟨w.heap.size, 0, none⟩) 0 cs.size))) := Bld.of hB hA rfl (room_nil hBw (hmax (by unfold maxLen; omega)))
  have HG : Hid (Below B w ((w.alloc (.cells cs 5)).setCell ⟨b, 1, none⟩ (.slice (some ⟨w.heap.size, 0, none⟩) 0 cs.size))) := ((Below.refl B w).alloc hBw _).setCell (p := ⟨b, 1, none⟩) hB _
  clear made hrun hmax hn2 h hA
  go_enter Try.func61, Try.ntmps61
  go_wp2
  go_region
  all_goals (go_wp2; go_end0; exact ⟨rfl, HF.out.drew.drew.drew, HG.out.drew.drew.drew⟩)
set_option maxHeartbeats 2000000 in
set_option maxRecDepth 1000000 in
/-- Grow of a fresh one: behind it there is a buffer, or nothing is to be written -/
theorem bGrow {B b n : Nat} {w : World} (hB : B ≤ b) (h : Two 79 b (.pointer none) (.slice none 0 0) w) (hBw : B ≤ w.heap.size) (hn : n ≤ 100000) :
    Calls Try.prog 41 #[.pointer (some ⟨b, 0, none⟩), .int .i64 n] w fun e w' => e = .returned (.tuple #[]) ∧ Bld B b [] w' ∧ Below B w w' ∧ (n = 0 → NilB b w') := by
  have C := bcheck_new h
  have hN := h.set0 (.pointer (some ⟨b, 0, none⟩))
  have hb : Below B w (w.setCell ⟨b, 0, none⟩ (.pointer (some ⟨b, 0, none⟩))) := (Below.refl B w).setCell (p := ⟨b, 0, none⟩) hB _
  generalize w.setCell ⟨b, 0, none⟩ (.pointer (some ⟨b, 0, none⟩)) = v at *
  have HN : Hid (NilB b v) := hN
  have HB : Hid (Below B w v) := hb
  have hv : B ≤ v.heap.size := Nat.le_trans hBw hb.size
  have c1 := hN.two
  have c2 : v.drew.cell? ⟨b, 1, none⟩ = some (.slice none 0 0) := c1
  clear h hN hb
  have dr : ∀ q, But (fun _ => False) v (v.drewN q) := fun q => (But.refl _ v).drewN q
  by_cases h0 : n = 0
  · subst h0
    go_enter Try.func41, Try.ntmps41
    go_wp2_with fail
    refine C.mono ?_
    rintro e v' ⟨rfl, hv'⟩
    obtain rfl := hv'.symm
    clear C
    go_wp2
    go_quiet (fail)
    have HZ : Hid (NilB b (v.drewN nq)) := HN.out.but (dr nq) id
    clear c1 c2 dr
    go_wp2
    go_end0
    exact ⟨rfl, ⟨hB, _, HZ.out, World.ownsRow_nil _ _ _ _⟩, below_drewN HB.out nq, fun _ => HZ.out⟩
  · have h0' : (0 : Int) < (n : Int) := by omega
    have HG : Hid (∀ q, Calls Try.prog 61 #[.pointer (some ⟨b, 0, none⟩), .int .i64 n] (v.drewN q) fun e w' => e = .returned (.tuple #[]) ∧ Bld B b [] w' ∧ Below B (v.drewN q) w') := fun q => bgrow hB (HN.out.but (dr q) id) hv hn
    clear dr
    go_enter Try.func41, Try.ntmps41
    go_wp2_with fail
    refine C.mono ?_
    rintro e v' ⟨rfl, hv'⟩
    obtain rfl := hv'.symm
    clear C
    go_wp2
    go_quiet (fail)
    have G := HG.out nq
    clear c1 c2 HG
    go_wp2_with fail
    refine G.mono ?_
    rintro e w3 ⟨rfl, q1, q2⟩
    have HF : Hid (Below B w w3) := (below_drewN HB.out nq).trans q2
    clear G q2
    go_wp2
    go_end0
    exact ⟨rfl, q1, HF.out, fun z => absurd z h0⟩
end Go.Proofs.Ytfnbpljgmchhbaa

/- What a strings.Builder's String answers: walks over the program. -/
namespace Go.Proofs.Ytfnbpljgmchhbaa
open Go.RowKit El Pol
set_option maxHeartbeats 1000000 in
set_option maxRecDepth 100000 in
theorem bstring_some {B b : Nat} {xs : List El} {w : World} (h : Bld B b xs w) (h0 : xs ≠ []) :
    Calls Try.prog 43 #[.pointer (some ⟨b, 0, none⟩)] w fun e w' => e = .returned (st xs) ∧ Below B w w' := by
  obtain ⟨_, v, hT, hO⟩ := h
  obtain ⟨g, cap, rfl, _⟩ := hO.at h0
  obtain ⟨text, hc, hg⟩ := run_view (w := w.drew) (hO.old ⟨rfl, rfl, rfl, Nat.le_refl _, fun _ _ => rfl⟩) h0
  have data : (Builtin.unsafeSliceData_ #[30] 102 #[.slice (some ⟨g, 0, none⟩) xs.length cap]).run Try.prog w.drew = .ok (.pointer (some ⟨g, 0, none⟩)) w.drew := Lib.run_unsafeSliceData_row _ _ _ _ _ _ hc
  have c : w.drew.cell? ⟨b, 1, none⟩ = some (.slice (some ⟨g, 0, none⟩) xs.length cap) := hT.two
  have HF : Hid (Below B w (w.drew.freeze ⟨g, 0, none⟩ xs.length)) := Lib.below_freeze (Below.drew (Below.refl B w)) (p := ⟨g, 0, none⟩) hg _
  obtain ⟨s, hs⟩ : ∃ s, s = sb xs := ⟨_, rfl⟩
  have HS : Hid (Value.string s = st xs) := by (show Value.string s = st xs); rw [hs]
  rw [← hs] at text
  clear hT hO hc hg h0 hs
  go_enter Try.func43, Try.ntmps43
  go_wp2
  go_region
  all_goals (go_wp2; go_ret; exact ⟨by rw [← HS.out]; rfl, HF.out⟩)
set_option maxHeartbeats 1000000 in
set_option maxRecDepth 100000 in
theorem bstring_nil {B b : Nat} {w : World} (h : NilB b w) :
    Calls Try.prog 43 #[.pointer (some ⟨b, 0, none⟩)] w fun e w' => e = .returned (st []) ∧ Below B w w' := by
  have text : ∀ W : World, (Builtin.unsafeString_ #[102, 3] 9 #[.pointer none, .int .i64 0]).run Try.prog W = .ok (.string .empty) W := fun W => Lib.run_unsafeString_none W _ _ _ none
  have data : ∀ W : World, (Builtin.unsafeSliceData_ #[30] 102 #[.slice none 0 0]).run Try.prog W = .ok (.pointer none) W := fun _ => rfl
  have c : w.drew.cell? ⟨b, 1, none⟩ = some (.slice none 0 0) := h.two
  clear h
  go_enter Try.func43, Try.ntmps43
  go_wp2
  go_region
  all_goals (go_wp2; go_ret; exact ⟨rfl, (Below.refl B w).drew⟩)
/-- String, whatever it holds -/
theorem bstring_any {B b : Nat} {xs : List El} {w : World} (h : Bld B b xs w) (h0 : xs = [] → NilB b w) :
    Calls Try.prog 43 #[.pointer (some ⟨b, 0, none⟩)] w fun e w' => e = .returned (st xs) ∧ Below B w w' := by
  by_cases e : xs = []
  · subst e
    exact bstring_nil (h0 rfl)
  · exact bstring_some h e
end Go.Proofs.Ytfnbpljgmchhbaa

/- strings.Join without anything between: a walk over the program. -/
namespace Go.Proofs.Ytfnbpljgmchhbaa
open Go.RowKit El Pol
theorem wfl_le {f : Nat → List El} {m : Nat} : ∀ {k : Nat}, (∀ i, i < k → (f i).length ≤ m) → (wfl f k).length ≤ k * m
  | 0, _ => by simp [wfl]
  | k + 1, h => by
    rw [wfl_succ, List.length_append, Nat.add_mul, Nat.one_mul]
    have := wfl_le (k := k) (fun i hi => h i (by omega))
    have := h k (by omega)
    omega
theorem wfl_grow {f : Nat → List El} {k : Nat} : ∀ {n : Nat}, k ≤ n → (wfl f k).length ≤ (wfl f n).length
  | 0, h => by rw [show k = 0 by omega]; exact Nat.le_refl _
  | n + 1, h => by
    by_cases e : k = n + 1
    · rw [e]; exact Nat.le_refl _
    · rw [wfl_succ, List.length_append]
      have := wfl_grow (f := f) (k := k) (n := n) (by omega)
      omega
theorem wfl_one (f : Nat → List El) : wfl f 1 = f 0 := by rw [wfl_succ]; rfl
theorem join_none (v : Value) (hv : ∃ ao cap, v = .slice ao 0 cap) (w : World) :
    Calls Try.prog 20 #[v, .string ⟨#[]⟩] w fun e w' => e = .returned (st []) ∧ w' = w := by
  obtain ⟨ao, cap, rfl⟩ := hv
  go_enter Try.func20, Try.ntmps20
  go_wp2
  go_ret
  exact ⟨rfl, rfl⟩
theorem join_one (v : Value) (f : Nat → List El) (w : World) (hr : RdT w v 1 f) :
    Calls Try.prog 20 #[v, .string ⟨#[]⟩] w fun e w' => e = .returned (st (f 0)) ∧ w' = w := by
  obtain ⟨ao, cap, rfl, _, _⟩ := hr.len
  obtain ⟨ad, rfl, hc⟩ := hr.at 0 (by omega)
  rw [add_zero] at hc
  unfold st at hc
  unfold st
  generalize sb (f 0) = s at *
  clear hr
  go_enter Try.func20, Try.ntmps20
  go_wp2
  go_ret
  exact ⟨rfl, rfl⟩
set_option maxHeartbeats 4000000 in
set_option maxRecDepth 100000 in
theorem join_many (v : Value) (n : Nat) (f : Nat → List El) (w : World) (hr : RdT w v n f) (h2 : 2 ≤ n) (hn : n ≤ 12) (hf : ∀ i, i < n → (f i).length ≤ 100) :
    Calls Try.prog 20 #[v, .string ⟨#[]⟩] w fun e w' => e = .returned (st (wfl f n)) ∧ Below w.heap.size w w' := by
  obtain ⟨ao, cap, rfl, hcap, _⟩ := hr.len
  obtain ⟨ad, rfl, _⟩ := hr.at 0 (by omega)
  have HR : Hid (RdT w (.slice (some ad) n cap) n f) := hr
  have HF : Hid (∀ i, i < n → (f i).length ≤ 100) := hf
  have HT : Hid (∀ k, k ≤ n → (wfl f k).length ≤ 1200) := fun k hk => by
    have := wfl_le (f := f) (k := k) (m := 100) (fun i hi => hf i (by omega))
    omega
  have HG : Hid (∀ k, k ≤ n → (wfl f k).length ≤ (wfl f n).length) := fun k hk => wfl_grow hk
  have HS : Hid (∀ k, (wfl f (k + 1)).length = (wfl f k).length + (f k).length) := fun k => by rw [wfl_succ, List.length_append]
  clear hr hf
  go_enter Try.func20, Try.ntmps20
  go_wp2
  go_loop [5, 41] (fun m c => ∃ k : Nat, k ≤ n ∧ c = .int .i64 k ∧ m = .int .i64 (((wfl f k).length : Nat) : Int)) (fun _ c => n - (intOf c).toNat)
  case atStart => exact ⟨0, Nat.zero_le _, rfl, rfl⟩
  case round =>
    obtain ⟨k, hk, rfl, rfl⟩ := hrel
    by_cases hlt : k < n
    · obtain ⟨ad', e, hc⟩ := HR.out.at k hlt
      cases e
      have hl := HF.out k hlt
      have ht := HT.out k hk
      have HST := HS.out k
      have hs := sb_size (f k)
      have HST' : Hid ((wfl f (k + 1)).length = (wfl f k).length + (f k).length) := HST
      clear HST
      generalize (f k).length = l at *
      generalize (wfl f k).length = m at *
      unfold st at hc
      generalize sb (f k) = s at *
      go_wp2
      go_round
      case rel => exact ⟨k + 1, by omega, by go_num, by rw [HST'.out]; (first | rfl | (congr 1; omega))⟩
      case measure => simp [intOf]; omega
    · have e : k = n := by omega
      have HM : Hid ((wfl f k).length = (wfl f n).length) := by (show (wfl f k).length = (wfl f n).length); rw [e]
      have ht := HT.out k hk
      have hck : ¬ (k : Int) < (n : Int) := by omega
      clear e
      generalize (wfl f k).length = m at *
      have G := bGrow (B := w.heap.size) (b := w.heap.size) (n := m) (w := w.alloc (.cells #[.pointer none, .slice none 0 0] 79)) (Nat.le_refl _) ⟨heap_alloc_new w _⟩ (by simp) (by omega)
      go_wp2_with fail
      refine G.mono ?_
      rintro e w1 ⟨rfl, hU1, hB1, hz1⟩
      have HB1 : Hid (Below w.heap.size w w1) := ((Below.refl w.heap.size w).alloc (Nat.le_refl _) _).trans hB1
      have HU1 : Hid (Bld w.heap.size w.heap.size [] w1) := hU1
      have HZ1 : Hid (m = 0 → NilB w.heap.size w1) := hz1
      have hs1 := HB1.out.size
      clear G hU1 hB1 hz1
      obtain ⟨ad', e, hc⟩ := (HR.out.old HB1.out).at 0 (by omega)
      cases e
      rw [add_zero] at hc
      have hl := HF.out 0 (by omega)
      have hs := sb_size (f 0)
      have W1 := bwrite_any (f 0) HU1.out (by simp; omega) hs1
      rw [List.nil_append] at W1
      have HW0 : Hid (wfl f 1 = f 0) := wfl_one f
      have HL0 : Hid ((sb (f 0)).size = (f 0).length) := hs
      unfold st at hc
      obtain ⟨s, hss⟩ : ∃ s, s = sb (f 0) := ⟨_, rfl⟩
      have HSS : Hid (s = sb (f 0)) := hss
      rw [← hss] at hc W1
      clear hss hs
      go_wp2_with fail
      refine W1.mono ?_
      rintro e w2 ⟨⟨z2, rfl⟩, hU2, hB2, hz2⟩
      have HB2 : Hid (Below w.heap.size w w2) := HB1.out.trans hB2
      have HU2 : Hid (Bld w.heap.size w.heap.size (wfl f (0 + 1)) w2) := by rw [HW0.out]; exact hU2
      have HZ2 : Hid (m = 0 → NilB w.heap.size w2) := fun q => hz2 (by
        have := HG.out 1 (by omega)
        rw [HW0.out, ← HM.out] at this
        exact List.length_eq_zero_iff.1 (by omega)) (HZ1.out q)
      clear W1 hU2 hB2 hz2 HB1 HU1 HZ1 hc HSS hl
      go_wp2_with fail
      clear HW0 HL0
      go_loopw [65] (fun c wr => ∃ j : Nat, j ≤ n - 1 ∧ c = .int .i64 j ∧ Hid (Bld w.heap.size w.heap.size (wfl f (j + 1)) wr) ∧ Hid (Below w.heap.size w wr) ∧ Hid (m = 0 → NilB w.heap.size wr)) (fun c _ => n - 1 - (intOf c).toNat)
      case atStart => exact ⟨0, Nat.zero_le _, rfl, HU2.out, HB2.out, HZ2.out⟩
      case round =>
        clear HU2 HB2 HZ2
        rename World => wr
        obtain ⟨j, hj, rfl, HU, HB, HZ⟩ := hrel
        have hsw := HB.out.size
        by_cases hjn : j < n - 1
        · obtain ⟨ad', e, hc⟩ := (HR.out.old HB.out).at (j + 1) (by omega)
          cases e
          have e1 : ad.add (j + 1) = ⟨ad.block, ad.off + 1 + j, none⟩ := by
            unfold Addr.add
            rw [if_neg (by omega)]
            congr 1
            omega
          rw [e1] at hc
          have hl := HF.out (j + 1) (by omega)
          have hs := sb_size (f (j + 1))
          have ht := HT.out (j + 1) (by omega)
          have W1 := bwrite_any [] HU.out (by (show _ + 0 ≤ _); omega) hsw
          rw [sb_nil, List.append_nil] at W1
          have HW2 : Hid (∀ w3, Bld w.heap.size w.heap.size (wfl f (j + 1)) w3 → w.heap.size ≤ w3.heap.size → Calls Try.prog 42 #[.pointer (some ⟨w.heap.size, 0, none⟩), .string (sb (f (j + 1)))] w3 fun e w' => (∃ z, e = .returned (.tuple #[.int .i64 z, .nilIface])) ∧ Bld w.heap.size w.heap.size (wfl f (j + 1 + 1)) w' ∧ Below w.heap.size w3 w' ∧ (f (j + 1) = [] → NilB w.heap.size w3 → NilB w.heap.size w')) := fun w3 h3 hs3 => by
            have := bwrite_any (f (j + 1)) h3 (by omega) hs3
            rw [← wfl_succ] at this
            exact this
          have HL : Hid (m = 0 → f (j + 1) = []) := fun q => by
            have h3 := HG.out (j + 1 + 1) (by omega)
            rw [HS.out (j + 1), ← HM.out] at h3
            exact List.length_eq_zero_iff.1 (by omega)
          unfold st at hc
          clear hl hs ht e1
          generalize sb (f (j + 1)) = s at *
          go_wp2_with fail
          refine W1.mono ?_
          rintro e w3 ⟨⟨z3, rfl⟩, hU3, hB3, hz3⟩
          have W2 := HW2.out w3 hU3 (Nat.le_trans hsw hB3.size)
          have HB3 : Hid (Below w.heap.size w w3) := HB.out.trans hB3
          have HZ3 : Hid (m = 0 → NilB w.heap.size w3) := fun q => hz3 (by first | trivial | rfl) (HZ.out q)
          clear W1 hU3 hB3 hz3 HB HZ HU hc
          go_wp2_with fail
          refine W2.mono ?_
          rintro e w4 ⟨⟨z4, rfl⟩, hU4, hB4, hz4⟩
          have HU4 : Hid (Bld w.heap.size w.heap.size (wfl f (j + 1 + 1)) w4) := hU4
          have HB4 : Hid (Below w.heap.size w w4) := HB3.out.trans hB4
          have HZ4 : Hid (m = 0 → NilB w.heap.size w4) := fun q => hz4 (HL.out q) (HZ3.out q)
          clear W2 hU4 hB4 hz4 HB3 HZ3
          go_wp2
          go_roundw
          case rel => exact ⟨j + 1, by omega, by go_num, HU4.out, HB4.out, HZ4.out⟩
          case measure => simp [intOf]; omega
        · have ej : j + 1 = n := by omega
          have W := bstring_any HU.out (fun q => HZ.out (by rw [HM.out, ← ej, q]; rfl))
          have HE : Hid (wfl f (j + 1) = wfl f n) := by (show wfl f (j + 1) = wfl f n); rw [ej]
          have hje : ¬ (j : Int) < (n : Int) - 1 := by omega
          unfold st at W
          have HV : Hid (∀ s, s = sb (wfl f (j + 1)) → Value.string s = st (wfl f n)) := fun s hs => by rw [hs, HE.out]
          obtain ⟨s, hss⟩ : ∃ s, s = sb (wfl f (j + 1)) := ⟨_, rfl⟩
          have HVS : Hid (Value.string s = st (wfl f n)) := HV.out s hss
          rw [← hss] at W
          clear hss ej HU HZ HE HV
          go_wp2_with fail
          refine W.mono ?_
          rintro e w5 ⟨rfl, hB5⟩
          have HB5 : Hid (Below w.heap.size w w5) := HB.out.trans hB5
          clear W hB5
          go_wp2
          go_ret
          exact ⟨by rw [← HVS.out]; rfl, HB5.out⟩
theorem join_any (v : Value) (n : Nat) (f : Nat → List El) (w : World) (hr : RdT w v n f) (hn : n ≤ 12) (hf : ∀ i, i < n → (f i).length ≤ 100) :
    Calls Try.prog 20 #[v, .string ⟨#[]⟩] w fun e w' => e = .returned (st (wfl f n)) ∧ Below w.heap.size w w' := by
  match n, hr, hn, hf with
  | 0, hr, _, _ =>
    obtain ⟨ao, cap, e, _⟩ := hr.len
    exact (join_none v ⟨ao, cap, e⟩ w).mono fun e w' ⟨h1, h2⟩ => ⟨h1, h2 ▸ Below.refl _ _⟩
  | 1, hr, _, _ => exact (join_one v f w hr).mono fun e w' ⟨h1, h2⟩ => ⟨by rw [wfl_one]; exact h1, h2 ▸ Below.refl _ _⟩
  | n + 2, hr, hn, hf => exact join_many v (n + 2) f w hr (by omega) hn hf
end Go.Proofs.Ytfnbpljgmchhbaa
