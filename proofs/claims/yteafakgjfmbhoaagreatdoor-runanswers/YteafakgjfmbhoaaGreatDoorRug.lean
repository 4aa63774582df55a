/- Texts of plain mathematics, of memory and of walks, in one. -/
import Derived.Test.YteafakgjfmbhoaaGreatDoorPa
import Derived.Test.YteafakgjfmbhoaaGreatDoorRub
import Derived.Test.YteafakgjfmbhoaaGreatDoorRr
import Derived.BigQuiet
/- What a law has of the array while the program asks it: more writes, and all blocks but its. -/
namespace Go.Proofs.YteafakgjfmbhoaaGreatDoor
open Go.RowKit El Pol
theorem AL.more {w wr : World} {x : PAd} {a : Arr} {N M : Nat} (h : AL w x a N wr) (hM : N ≤ M) : AL w x a M wr := ⟨h.low, h.pa.more hM, h.out⟩
/-- a call on the array, from a world that is as it was -/
theorem AL.call {w0 w V w' : World} {x : PAd} {a a' : Arr} {N M K : Nat} (h : AL w0 x a N w) (hb : Below w.heap.size w V) (hp : PA w' x a' M) (hbut : But (x.F a.n) V w') (hn : a'.n = a.n) (hM : M ≤ K) : AL w0 x a' K w' ∧ But (x.F a.n) w w' :=
  ⟨((h.old hb).next hp hbut hn).more hM, (Below.but hb _).trans hbut (Grows.refl _ _)⟩
theorem AL.still {w0 w V w' : World} {x : PAd} {a : Arr} {N K : Nat} (h : AL w0 x a N w) (hb : Below w.heap.size w V) (hbut : Below V.heap.size V w') (hM : N ≤ K) : AL w0 x a K w' ∧ But (x.F a.n) w w' :=
  ⟨((h.old hb).old hbut).more hM, Below.but (hb.trans (hbut.mono hb.size)) _⟩
theorem Arr.readT_len {a : Arr} (ho : a.ok) (b : Int) : (a.readT b).length ≤ 16 := by
  unfold Arr.readT
  split
  · rename_i h
    have hb : ¬ a.noB b := fun q => by rw [(read_no q).1] at h; cases h
    obtain ⟨_, _, _, _, _, _, _, _, hr, _, _⟩ := block_facts ho hb
    have h16 := ho.2.2.1.2
    split
    · rename_i hl
      rw [Arr.part_len ho hr hl]
      exact h16
    · rw [Arr.heal_len]
      exact h16
  · exact Nat.zero_le _
theorem still2 {w0 w V w' : World} {x : PAd} {a a' : Arr} {K : Nat} (h : AL w0 x a' K V ∧ But (x.F a.n) w V) (hb : Below V.heap.size V w') : AL w0 x a' K w' ∧ But (x.F a.n) w w' :=
  ⟨h.1.old hb, h.2.trans (Below.but hb _) (Grows.refl _ _)⟩
end Go.Proofs.YteafakgjfmbhoaaGreatDoor

/- The program's do at the word write: a walk over the program. -/
namespace Go.Proofs.YteafakgjfmbhoaaGreatDoor
open Go.RowKit El Pol
set_option maxHeartbeats 8000000 in
set_option maxRecDepth 100000 in
theorem do_write {w0 w : World} {x : PAd} {a : Arr} {N : Nat} (h : AL w0 x a N w) (ho : a.ok) (hN : N < 700000) (mb n0 n1 : Nat) (z : List El) (h0 : n0 < 100000) :
    Calls Tryz.prog 44 #[.agg #[.pointer (some ⟨x.p, 0, none⟩), .map (some mb)], .agg #[.string ⟨#[119, 114, 105, 116, 101]⟩, .int .i64 (n0 : Int), .int .i64 (n1 : Int), st z]] w fun e w' => e = .returned (.tuple #[st tOk, errV (a.writeE (n0 : Int) z.length)]) ∧ AL w0 x (a.write (n0 : Int) z) (N + 4) w' ∧ But (x.F a.n) w w' := by
  have HC : Hid (∀ V, Below w.heap.size w V → Calls Tryz.prog 66 #[.pointer (some ⟨x.p, 0, none⟩), .int .i64 (n0 : Int), st z] V fun e w' => e = .returned (errV (a.writeE (n0 : Int) z.length)) ∧ AL w0 x (a.write (n0 : Int) z) (N + 4) w' ∧ But (x.F a.n) w w') := fun V hb => by
    exact (pa_write (h.pa.old hb) ho (by omega) (n0 : Int) (by omega) z).mono fun e w' ⟨he, hp, hbut⟩ => ⟨he, h.call hb hp hbut (Arr.write_n a _ _) (by omega)⟩
  clear h
  generalize errV (a.writeE (n0 : Int) z.length) = ev at *
  unfold st at *
  generalize sb z = sz at *
  go_enter Tryz.func44, Tryz.ntmps44
  go_wp2
  go_quiet (fail)
  go_wp2_with fail
  refine (HC.out _ (by repeat (first | exact Below.refl _ _ | refine below_drewN ?_ _ | refine Below.drew ?_ | refine Below.alloc ?_ (by simp) _))).mono ?_
  rintro e w2 ⟨rfl, hal⟩
  have HA : Hid (_ ∧ _) := hal
  clear hal HC
  go_wp2
  go_ret2
  exact ⟨rfl, HA.out⟩
end Go.Proofs.YteafakgjfmbhoaaGreatDoor

/- The program's do at the word fail: a walk over the program. -/
namespace Go.Proofs.YteafakgjfmbhoaaGreatDoor
open Go.RowKit El Pol
set_option maxHeartbeats 8000000 in
set_option maxRecDepth 100000 in
theorem do_fail {w0 w : World} {x : PAd} {a : Arr} {N : Nat} (h : AL w0 x a N w) (_ho : a.ok) (_hN : N < 700000) (mb n0 n1 : Nat) (z : List El) (_h0 : n0 < 100000) :
    Calls Tryz.prog 44 #[.agg #[.pointer (some ⟨x.p, 0, none⟩), .map (some mb)], .agg #[.string ⟨#[102, 97, 105, 108]⟩, .int .i64 (n0 : Int), .int .i64 (n1 : Int), st z]] w fun e w' => e = .returned (.tuple #[st tOk, errV (a.failE (n0 : Int))]) ∧ AL w0 x (a.fail (n0 : Int)) (N + 4) w' ∧ But (x.F a.n) w w' := by
  have HC : Hid (∀ V, Below w.heap.size w V → Calls Tryz.prog 67 #[.pointer (some ⟨x.p, 0, none⟩), .int .i64 (n0 : Int)] V fun e w' => e = .returned (errV (a.failE (n0 : Int))) ∧ AL w0 x (a.fail (n0 : Int)) (N + 4) w' ∧ But (x.F a.n) w w') := fun V hb => by
    exact (pa_fail (h.pa.old hb) (n0 : Int)).mono fun e w' ⟨he, hp, hbut⟩ => ⟨he, h.call hb hp hbut ((Arr.fail_same a _).1) (by omega)⟩
  clear h
  generalize errV (a.failE (n0 : Int)) = ev at *
  unfold st
  generalize sb z = sz at *
  go_enter Tryz.func44, Tryz.ntmps44
  go_wp2
  go_quiet (fail)
  go_wp2_with fail
  refine (HC.out _ (by repeat (first | exact Below.refl _ _ | refine below_drewN ?_ _ | refine Below.drew ?_ | refine Below.alloc ?_ (by simp) _))).mono ?_
  rintro e w2 ⟨rfl, hal⟩
  have HA : Hid (_ ∧ _) := hal
  clear hal HC
  go_wp2
  go_ret2
  exact ⟨rfl, HA.out⟩
end Go.Proofs.YteafakgjfmbhoaaGreatDoor

/- The program's do at the word replace: a walk over the program. -/
namespace Go.Proofs.YteafakgjfmbhoaaGreatDoor
open Go.RowKit El Pol
set_option maxHeartbeats 8000000 in
set_option maxRecDepth 100000 in
theorem do_replace {w0 w : World} {x : PAd} {a : Arr} {N : Nat} (h : AL w0 x a N w) (_ho : a.ok) (_hN : N < 700000) (mb n0 n1 : Nat) (z : List El) (_h0 : n0 < 100000) :
    Calls Tryz.prog 44 #[.agg #[.pointer (some ⟨x.p, 0, none⟩), .map (some mb)], .agg #[.string ⟨#[114, 101, 112, 108, 97, 99, 101]⟩, .int .i64 (n0 : Int), .int .i64 (n1 : Int), st z]] w fun e w' => e = .returned (.tuple #[st tOk, errV (a.replaceE (n0 : Int))]) ∧ AL w0 x (a.replace (n0 : Int)) (N + 4) w' ∧ But (x.F a.n) w w' := by
  have HC : Hid (∀ V, Below w.heap.size w V → Calls Tryz.prog 68 #[.pointer (some ⟨x.p, 0, none⟩), .int .i64 (n0 : Int)] V fun e w' => e = .returned (errV (a.replaceE (n0 : Int))) ∧ AL w0 x (a.replace (n0 : Int)) (N + 4) w' ∧ But (x.F a.n) w w') := fun V hb => by
    exact (pa_replace (h.pa.old hb) (n0 : Int)).mono fun e w' ⟨he, hp, hbut⟩ => ⟨he, h.call hb hp hbut (by unfold Arr.replace; split <;> rfl) (by omega)⟩
  clear h
  generalize errV (a.replaceE (n0 : Int)) = ev at *
  unfold st
  generalize sb z = sz at *
  go_enter Tryz.func44, Tryz.ntmps44
  go_wp2
  go_quiet (fail)
  go_wp2_with fail
  refine (HC.out _ (by repeat (first | exact Below.refl _ _ | refine below_drewN ?_ _ | refine Below.drew ?_ | refine Below.alloc ?_ (by simp) _))).mono ?_
  rintro e w2 ⟨rfl, hal⟩
  have HA : Hid (_ ∧ _) := hal
  clear hal HC
  go_wp2
  go_ret2
  exact ⟨rfl, HA.out⟩
end Go.Proofs.YteafakgjfmbhoaaGreatDoor

/- The program's do at the word poke: a walk over the program. -/
namespace Go.Proofs.YteafakgjfmbhoaaGreatDoor
open Go.RowKit El Pol
set_option maxHeartbeats 8000000 in
set_option maxRecDepth 100000 in
theorem do_poke {w0 w : World} {x : PAd} {a : Arr} {N : Nat} (h : AL w0 x a N w) (ho : a.ok) (hN : N < 700000) (mb n0 n1 : Nat) (z : List El) (_h0 : n0 < 100000) (_h1 : n1 < 100000) :
    Calls Tryz.prog 44 #[.agg #[.pointer (some ⟨x.p, 0, none⟩), .map (some mb)], .agg #[.string ⟨#[112, 111, 107, 101]⟩, .int .i64 (n0 : Int), .int .i64 (n1 : Int), st z]] w fun e w' => e = .returned (.tuple #[st tOk, errV (a.pokeE (n0 : Int) (n1 : Int) z.length)]) ∧ AL w0 x (a.poke (n0 : Int) (n1 : Int) z) (N + 4) w' ∧ But (x.F a.n) w w' := by
  have HC : Hid (∀ V, Below w.heap.size w V → Calls Tryz.prog 69 #[.pointer (some ⟨x.p, 0, none⟩), .int .i64 (n0 : Int), .int .i64 (n1 : Int), st z] V fun e w' => e = .returned (errV (a.pokeE (n0 : Int) (n1 : Int) z.length)) ∧ AL w0 x (a.poke (n0 : Int) (n1 : Int) z) (N + 4) w' ∧ But (x.F a.n) w w') := fun V hb => by
    exact (pa_poke (h.pa.old hb) ho (by omega) (n0 : Int) (n1 : Int) z).mono fun e w' ⟨he, hp, hbut⟩ => ⟨he, h.call hb hp hbut (by unfold Arr.poke; split <;> rfl) (by omega)⟩
  clear h
  generalize errV (a.pokeE (n0 : Int) (n1 : Int) z.length) = ev at *
  unfold st at *
  generalize sb z = sz at *
  go_enter Tryz.func44, Tryz.ntmps44
  go_wp2
  go_quiet (fail)
  go_wp2_with fail
  refine (HC.out _ (by repeat (first | exact Below.refl _ _ | refine below_drewN ?_ _ | refine Below.drew ?_ | refine Below.alloc ?_ (by simp) _))).mono ?_
  rintro e w2 ⟨rfl, hal⟩
  have HA : Hid (_ ∧ _) := hal
  clear hal HC
  go_wp2
  go_ret2
  exact ⟨rfl, HA.out⟩
end Go.Proofs.YteafakgjfmbhoaaGreatDoor
