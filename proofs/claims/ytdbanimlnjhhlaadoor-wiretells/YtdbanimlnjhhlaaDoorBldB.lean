/- A fresh strings.Builder grows: walks over the program. -/
import Derived.Test.YtdbanimlnjhhlaaDoorBldA
import Derived.Lib.MakeNoZero
import Derived.Laws.IdiomCopy
import Derived.Deep.RegionWith
namespace Go.Proofs.YtdbanimlnjhhlaaDoor
open Go.RowKit El Pol
/-- a row of some bytes, none of them taken -/
theorem room_nil {B : Nat} {w : World} {cs : Array Value} (hB : B ≤ w.heap.size) (hm : cs.size ≤ maxLen) : Ow B (w.alloc (.cells cs 5)) (.slice (some ⟨w.heap.size, 0, none⟩) 0 cs.size) [] :=
  ⟨rfl, .inr ⟨_, _, cs, rfl, hB, heap_alloc_new w _, Nat.zero_le _, hm, by omega, by simp⟩⟩
theorem Bld.drew {B b : Nat} {xs : List El} {w : World} (h : Bld B b xs w) : Bld B b xs w.drew := by
  obtain ⟨hB, v, hT, hO⟩ := h
  exact ⟨hB, v, ⟨hT.blk⟩, hO.old ⟨rfl, rfl, rfl, Nat.le_refl _, fun _ _ => rfl⟩⟩
set_option maxHeartbeats 2000000 in
set_option maxRecDepth 1000000 in
theorem bgrow {B b n : Nat} {w : World} (hB : B ≤ b) (h : NilB b w) (hBw : B ≤ w.heap.size) (hn : n ≤ 100000) :
    Calls Tryd.prog 77 #[.pointer (some ⟨b, 0, none⟩), .int .i64 n] w fun e w' => e = .returned (.tuple #[]) ∧ Bld B b [] w' ∧ Below B w w' := by
  obtain ⟨cs, hrun, _, hmax⟩ := Lib.run_makeNoZero (P := Tryd.prog) w.drew #[3] 62 5 Tryd.underlying62 n (by omega)
  have hn2 : IntKind.i64.wrap (IntKind.i64.wrap 0 + (n : Int)) = n := by rw [IntKind.wrap_i64, IntKind.wrap_i64]; omega
  -- what MakeNoZero gives, as the walk spells its number, and plainly
  have made : ∀ z : Int, z = n → (callFunc 96 #[.int .i64 z]).run Tryd.prog w.drew = .ok (.value (.slice (some ⟨w.drew.heap.size, 0, none⟩) n cs.size)) (w.drew.drew.drew.alloc (.cells cs 5)) := fun z hz => by
    subst hz
    have q := run_callFunc_extern (w := w.drew) (args := #[.int .i64 (n : Int)]) Tryd.func96 (by kernel_rfl) (by kernel_rfl) (by kernel_rfl) (e := Extern.BytealgMakeNoZero.makeNoZero #[3] #[62]) (by kernel_rfl)
    rw [q, hrun]
    rfl
  have m1 := made _ rfl
  have m2 := made _ hn2
  have hA : NilB b (w.alloc (.cells cs 5)) := h.but ((But.refl (fun _ => False) w).alloc _) id
  have k0 : w.drew.cell? ⟨b, 1, none⟩ = some (.slice none 0 0) := h.two
  have k1 := hA.two
  have k2 := hA.free 1
  have cp : ∀ W : World, (Builtin.copy_ #[62, 62] 3 #[.slice (some ⟨w.heap.size, 0, none⟩) 0 cs.size, .slice none 0 0]).run Tryd.prog W = .ok (goInt 0) W := fun W => by
    obtain ⟨i0, hi, _, hz1, _⟩ := info_parts info8
    exact run_copy_none W _ _ _ 5 _ _ 0 cs.size 0 0 Tryd.underlying62 (by rw [hi, ← hz1]; rfl) rfl
  have HF : Hid (Bld B b [] ((w.alloc (.cells cs 5)).setCell ⟨b, 1, none⟩ (.slice (some ⟨w.heap.size, 0, none⟩) 0 cs.size))) := Bld.of hB hA rfl (room_nil hBw (hmax (by unfold maxLen; omega)))
  have HG : Hid (Below B w ((w.alloc (.cells cs 5)).setCell ⟨b, 1, none⟩ (.slice (some ⟨w.heap.size, 0, none⟩) 0 cs.size))) := ((Below.refl B w).alloc hBw _).setCell (p := ⟨b, 1, none⟩) hB _
  clear made hrun hmax hn2 h hA
  go_enter Tryd.func77, Tryd.ntmps77
  go_wp2
  go_region
  all_goals (go_wp2; go_end0; exact ⟨rfl, HF.out.drew.drew.drew, HG.out.drew.drew.drew⟩)
set_option maxHeartbeats 2000000 in
set_option maxRecDepth 1000000 in
/-- Grow of a fresh one: behind it there is a buffer, or nothing is to be written -/
theorem bGrow {B b n : Nat} {w : World} (hB : B ≤ b) (h : Two 104 b (.pointer none) (.slice none 0 0) w) (hBw : B ≤ w.heap.size) (hn : n ≤ 100000) :
    Calls Tryd.prog 61 #[.pointer (some ⟨b, 0, none⟩), .int .i64 n] w fun e w' => e = .returned (.tuple #[]) ∧ Bld B b [] w' ∧ Below B w w' ∧ (n = 0 → NilB b w') := by
  have C := bcheck_new h
  have hN := h.set0 (.pointer (some ⟨b, 0, none⟩))
  have hb : Below B w (w.setCell ⟨b, 0, none⟩ (.pointer (some ⟨b, 0, none⟩))) := (Below.refl B w).setCell (p := ⟨b, 0, none⟩) hB _
  generalize w.setCell ⟨b, 0, none⟩ (.pointer (some ⟨b, 0, none⟩)) = v at *
  have HN : Hid (NilB b v) := hN
  have HB : Hid (Below B w v) := hb
  have hv : B ≤ v.heap.size := Nat.le_trans hBw hb.size
  have c1 := hN.two
  have c2 : v.drew.cell? ⟨b, 1, none⟩ = some (.slice none 0 0) := c1
  clear h hN hb
  have dr : ∀ q, But (fun _ => False) v (v.drewN q) := fun q => (But.refl _ v).drewN q
  by_cases h0 : n = 0
  · subst h0
    go_enter Tryd.func61, Tryd.ntmps61
    go_wp2_with fail
    refine C.mono ?_
    rintro e v' ⟨rfl, hv'⟩
    obtain rfl := hv'.symm
    clear C
    go_wp2
    go_quiet (fail)
    have HZ : Hid (NilB b (v.drewN nq)) := HN.out.but (dr nq) id
    clear c1 c2 dr
    go_wp2
    go_end0
    exact ⟨rfl, ⟨hB, _, HZ.out, World.ownsRow_nil _ _ _ _⟩, below_drewN HB.out nq, fun _ => HZ.out⟩
  · have h0' : (0 : Int) < (n : Int) := by omega
    have HG : Hid (∀ q, Calls Tryd.prog 77 #[.pointer (some ⟨b, 0, none⟩), .int .i64 n] (v.drewN q) fun e w' => e = .returned (.tuple #[]) ∧ Bld B b [] w' ∧ Below B (v.drewN q) w') := fun q => bgrow hB (HN.out.but (dr q) id) hv hn
    clear dr
    go_enter Tryd.func61, Tryd.ntmps61
    go_wp2_with fail
    refine C.mono ?_
    rintro e v' ⟨rfl, hv'⟩
    obtain rfl := hv'.symm
    clear C
    go_wp2
    go_quiet (fail)
    have G := HG.out nq
    clear c1 c2 HG
    go_wp2_with fail
    refine G.mono ?_
    rintro e w3 ⟨rfl, q1, q2⟩
    have HF : Hid (Below B w w3) := (below_drewN HB.out nq).trans q2
    clear G q2
    go_wp2
    go_end0
    exact ⟨rfl, q1, HF.out, fun z => absurd z h0⟩
end Go.Proofs.YtdbanimlnjhhlaaDoor
