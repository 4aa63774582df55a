/- Texts of plain mathematics, of memory and of walks, in one. -/
import Derived.Test.YteafakgjfmbhoaaGreatDoorRug
import Derived.Test.YteafakgjfmbhoaaGreatDoorPa
import Derived.Test.YteafakgjfmbhoaaGreatDoorRuf
import Derived.BigQuiet
import Derived.Test.YteafakgjfmbhoaaGreatDoorSc
import Derived.Test.YteafakgjfmbhoaaGreatDoorRue
/- The program's do at the word read: a walk over the program. -/
namespace Go.Proofs.YteafakgjfmbhoaaGreatDoor
open Go.RowKit El Pol
set_option maxHeartbeats 8000000 in
set_option maxRecDepth 100000 in
theorem do_read {w0 w : World} {x : PAd} {a : Arr} {N : Nat} (h : AL w0 x a N w) (ho : a.ok) (_hN : N < 700000) (mb n0 n1 : Nat) (z : List El) (h0 : n0 < 100000) :
    Calls Tryz.prog 44 #[.agg #[.pointer (some ⟨x.p, 0, none⟩), .map (some mb)], .agg #[.string ⟨#[114, 101, 97, 100]⟩, .int .i64 (n0 : Int), .int .i64 (n1 : Int), st z]] w fun e w' => e = .returned (.tuple #[st (hx (a.readT (n0 : Int))), errV (a.readE (n0 : Int))]) ∧ AL w0 x a (N + 4) w' ∧ But (x.F a.n) w w' := by
  have HC : Hid (∀ V, Below w.heap.size w V → Calls Tryz.prog 64 #[.pointer (some ⟨x.p, 0, none⟩), .int .i64 (n0 : Int)] V fun e w' => e = .returned (.tuple #[.string (sb (a.readT (n0 : Int))), errV (a.readE (n0 : Int))]) ∧ AL w0 x a (N + 4) w' ∧ But (x.F a.n) w w') := fun V hb => by
    exact (pa_read (h.pa.old hb) ho (n0 : Int) (by omega)).mono fun e w' ⟨he, hbel⟩ => ⟨he, h.still hb hbel (by omega)⟩
  have HX : Hid (∀ V, Calls Tryz.prog 65 #[.string (sb (a.readT (n0 : Int)))] V fun e w' => e = .returned (.string (sb (hx (a.readT (n0 : Int))))) ∧ Below V.heap.size V w') := fun V => hex_any _ (by have := Arr.readT_len ho (n0 : Int); omega) V
  clear h
  unfold st
  generalize errV (a.readE (n0 : Int)) = ev at *
  generalize sb (hx (a.readT (n0 : Int))) = o at *
  generalize sb (a.readT (n0 : Int)) = i at *
  generalize sb z = sz at *
  go_enter Tryz.func44, Tryz.ntmps44
  go_wp2
  go_quiet (fail)
  go_wp2_with fail
  refine (HC.out _ (by repeat (first | exact Below.refl _ _ | refine below_drewN ?_ _ | refine Below.drew ?_ | refine Below.alloc ?_ (by simp) _))).mono ?_
  rintro e w2 ⟨rfl, hal⟩
  have HA : Hid (AL w0 x a (N + 4) w2 ∧ But (x.F a.n) w w2) := hal
  clear hal HC
  go_wp2_with fail
  refine (HX.out _).mono ?_
  rintro e w3 ⟨rfl, hb3⟩
  have HA3 : Hid (AL w0 x a (N + 4) w3 ∧ But (x.F a.n) w w3) := still2 HA.out hb3
  clear hb3 HA HX
  go_wp2
  go_ret2
  exact ⟨rfl, HA3.out⟩
end Go.Proofs.YteafakgjfmbhoaaGreatDoor

/- The program's do at the word rebuild: a walk over the program. -/
namespace Go.Proofs.YteafakgjfmbhoaaGreatDoor
open Go.RowKit El Pol
set_option maxHeartbeats 8000000 in
set_option maxRecDepth 100000 in
theorem do_rebuild {w0 w : World} {x : PAd} {a : Arr} {N : Nat} (h : AL w0 x a N w) (ho : a.ok) (hN : N < 700000) (mb n0 n1 : Nat) (z : List El) (_h0 : n0 < 100000) (hten : a.rebuildN (n0 : Int) < 10) :
    Calls Tryz.prog 44 #[.agg #[.pointer (some ⟨x.p, 0, none⟩), .map (some mb)], .agg #[.string ⟨#[114, 101, 98, 117, 105, 108, 100]⟩, .int .i64 (n0 : Int), .int .i64 (n1 : Int), st z]] w fun e w' => e = .returned (.tuple #[st (dgs (a.rebuildN (n0 : Int))), errV (a.rebuildE (n0 : Int))]) ∧ AL w0 x (a.rebuild (n0 : Int)) (N + 4) w' ∧ But (x.F a.n) w w' := by
  have HC : Hid (∀ V, Below w.heap.size w V → Calls Tryz.prog 70 #[.pointer (some ⟨x.p, 0, none⟩), .int .i64 (n0 : Int)] V fun e w' => e = .returned (.tuple #[.int .i64 ((a.rebuildN (n0 : Int) : Nat) : Int), errV (a.rebuildE (n0 : Int))]) ∧ AL w0 x (a.rebuild (n0 : Int)) (N + 4) w' ∧ But (x.F a.n) w w') := fun V hb => by
    exact (pa_rebuild (h.pa.old hb) ho (by omega) (n0 : Int)).mono fun e w' ⟨he, hp, hbut⟩ => ⟨he, h.call hb hp hbut (Arr.rebuild_n a _) (by omega)⟩
  have HX : Hid (∀ V, Calls Tryz.prog 71 #[.int .i64 ((a.rebuildN (n0 : Int) : Nat) : Int)] V fun e w' => e = .returned (.string (sb (dgs (a.rebuildN (n0 : Int))))) ∧ w' = V) := fun V => itoa_any _ hten V
  clear h hten
  unfold st
  generalize errV (a.rebuildE (n0 : Int)) = ev at *
  generalize sb (dgs (a.rebuildN (n0 : Int))) = o at *
  generalize a.rebuildN (n0 : Int) = i at *
  generalize sb z = sz at *
  go_enter Tryz.func44, Tryz.ntmps44
  go_wp2
  go_quiet (fail)
  go_wp2_with fail
  refine (HC.out _ (by repeat (first | exact Below.refl _ _ | refine below_drewN ?_ _ | refine Below.drew ?_ | refine Below.alloc ?_ (by simp) _))).mono ?_
  rintro e w2 ⟨rfl, hal⟩
  have HA : Hid (AL w0 x (a.rebuild (n0 : Int)) (N + 4) w2 ∧ But (x.F a.n) w w2) := hal
  clear hal HC
  go_wp2_with fail
  refine (HX.out _).mono ?_
  rintro e w3 ⟨rfl, hw3⟩
  obtain rfl := hw3.symm
  clear HX
  go_wp2
  go_ret2
  exact ⟨rfl, HA.out⟩
end Go.Proofs.YteafakgjfmbhoaaGreatDoor

/- The program's do at the word lost: a walk over the program. -/
namespace Go.Proofs.YteafakgjfmbhoaaGreatDoor
open Go.RowKit El Pol
set_option maxHeartbeats 8000000 in
set_option maxRecDepth 100000 in
theorem do_lost {w0 w : World} {x : PAd} {a : Arr} {N : Nat} (h : AL w0 x a N w) (ho : a.ok) (_hN : N < 700000) (mb n0 n1 : Nat) (z : List El) (_h0 : n0 < 100000) (hten : a.lostN (n0 : Int) < 10) :
    Calls Tryz.prog 44 #[.agg #[.pointer (some ⟨x.p, 0, none⟩), .map (some mb)], .agg #[.string ⟨#[108, 111, 115, 116]⟩, .int .i64 (n0 : Int), .int .i64 (n1 : Int), st z]] w fun e w' => e = .returned (.tuple #[st (dgs (a.lostN (n0 : Int))), errV (a.lostE (n0 : Int))]) ∧ AL w0 x a (N + 4) w' ∧ But (x.F a.n) w w' := by
  have HC : Hid (∀ V, Below w.heap.size w V → Calls Tryz.prog 72 #[.pointer (some ⟨x.p, 0, none⟩), .int .i64 (n0 : Int)] V fun e w' => e = .returned (.tuple #[.int .i64 ((a.lostN (n0 : Int) : Nat) : Int), errV (a.lostE (n0 : Int))]) ∧ AL w0 x a (N + 4) w' ∧ But (x.F a.n) w w') := fun V hb => by
    exact (pa_lostN (h.pa.old hb) ho (n0 : Int)).mono fun e w' ⟨he, hw⟩ => ⟨he, h.still hb (by rw [hw]; exact Below.refl _ _) (by omega)⟩
  have HX : Hid (∀ V, Calls Tryz.prog 71 #[.int .i64 ((a.lostN (n0 : Int) : Nat) : Int)] V fun e w' => e = .returned (.string (sb (dgs (a.lostN (n0 : Int))))) ∧ w' = V) := fun V => itoa_any _ hten V
  clear h hten
  unfold st
  generalize errV (a.lostE (n0 : Int)) = ev at *
  generalize sb (dgs (a.lostN (n0 : Int))) = o at *
  generalize a.lostN (n0 : Int) = i at *
  generalize sb z = sz at *
  go_enter Tryz.func44, Tryz.ntmps44
  go_wp2
  go_quiet (fail)
  go_wp2_with fail
  refine (HC.out _ (by repeat (first | exact Below.refl _ _ | refine below_drewN ?_ _ | refine Below.drew ?_ | refine Below.alloc ?_ (by simp) _))).mono ?_
  rintro e w2 ⟨rfl, hal⟩
  have HA : Hid (AL w0 x a (N + 4) w2 ∧ But (x.F a.n) w w2) := hal
  clear hal HC
  go_wp2_with fail
  refine (HX.out _).mono ?_
  rintro e w3 ⟨rfl, hw3⟩
  obtain rfl := hw3.symm
  clear HX
  go_wp2
  go_ret2
  exact ⟨rfl, HA.out⟩
end Go.Proofs.YteafakgjfmbhoaaGreatDoor

/- The program's do at the word scrub: a walk over the program. -/
namespace Go.Proofs.YteafakgjfmbhoaaGreatDoor
open Go.RowKit El Pol
set_option maxHeartbeats 8000000 in
set_option maxRecDepth 100000 in
theorem do_scrub {w0 w : World} {x : PAd} {a : Arr} {N : Nat} (h : AL w0 x a N w) (ho : a.ok) (hN : N < 700000) (HG : Hid (Handle w0)) (h5 : a.n = 5) (h4 : a.rows = 4) (hsp : ∀ p, p ∈ a.spots 4 → p.1 < 10 ∧ p.2 < 10) (mb n0 n1 : Nat) (z : List El) (_h0 : n0 < 100000) :
    Calls Tryz.prog 44 #[.agg #[.pointer (some ⟨x.p, 0, none⟩), .map (some mb)], .agg #[.string ⟨#[115, 99, 114, 117, 98]⟩, .int .i64 (n0 : Int), .int .i64 (n1 : Int), st z]] w fun e w' => e = .returned (.tuple #[st (scT (a.spots 4)), .nilIface]) ∧ AL w0 x (a.all 4) (N + 4) w' ∧ But (x.F a.n) w w' := by
  have HC : Hid (∀ V, Below w.heap.size w V → Calls Tryz.prog 73 #[.pointer (some ⟨x.p, 0, none⟩), .int .i64 5, .int .i64 4] V fun e w' => ∃ ao cap, e = .returned (.tuple #[.slice ao (a.spots 4).length cap, .nilIface]) ∧ OwS V.heap.size w' (.slice ao (a.spots 4).length cap) (a.spots 4) ∧ AL w0 x (a.all 4) (N + 4) w' ∧ But (x.F a.n) w w') := fun V hb => by
    refine (sall_is (n := 5) (rows := 4) (h.old hb) ho (by omega) HG h5 h4).mono fun e w' ⟨ao, cap, he, h1, h2, h3⟩ => ⟨ao, cap, he, h3, h1, ?_⟩
    exact (Below.but hb _).trans (by rw [h5]; exact h2) (Grows.refl _ _)
  have HX : Hid (∀ V v, RdS V v (a.spots 4) → Calls Tryz.prog 74 #[v] V fun e w' => e = .returned (.string (sb (scT (a.spots 4)))) ∧ Below V.heap.size V w') := fun V v hv => spots_any v _ V (by have := Arr.spots_len a 4; omega) hsp hv
  clear h hsp
  unfold st
  generalize sb (scT (a.spots 4)) = o at *
  generalize sb z = sz at *
  go_enter Tryz.func44, Tryz.ntmps44
  go_wp2
  go_quiet (fail)
  go_wp2_with fail
  refine (HC.out _ (by repeat (first | exact Below.refl _ _ | refine below_drewN ?_ _ | refine Below.drew ?_ | refine Below.alloc ?_ (by simp) _))).mono ?_
  rintro e w2 ⟨ao, cap, rfl, hsl, hal⟩
  have C := HX.out w2 _ hsl.rd
  have HA : Hid (AL w0 x (a.all 4) (N + 4) w2 ∧ But (x.F a.n) w w2) := hal
  clear hal HC HX hsl
  go_wp2_with fail
  refine C.mono ?_
  rintro e w3 ⟨rfl, hb3⟩
  have HA3 : Hid (AL w0 x (a.all 4) (N + 4) w3 ∧ But (x.F a.n) w w3) := still2 HA.out hb3
  clear hb3 HA C
  go_wp2
  go_ret2
  exact ⟨rfl, HA3.out⟩
end Go.Proofs.YteafakgjfmbhoaaGreatDoor

/- The program's do, whichever the word. -/
namespace Go.Proofs.YteafakgjfmbhoaaGreatDoor
open Go.RowKit El Pol
theorem do_any {w0 w : World} {x : PAd} {a : Arr} {N : Nat} (h : AL w0 x a N w) (hM : Mill a) (hN : N < 700000) (HG : Hid (Handle w0)) (mb : Nat) (o : OrdT) (hw : tbB wTab o.1 = true) (h0 : o.2.1 < 100000) (h1 : o.2.2.1 < 100000) :
    Calls Tryz.prog 44 #[.agg #[.pointer (some ⟨x.p, 0, none⟩), .map (some mb)], ordV o] w fun e w' => e = .returned (.tuple #[st (tolT a (ordC o)), errV (errN a (ordC o))]) ∧ AL w0 x (nxt a (ordC o)) (N + 4) w' ∧ But (x.F a.n) w w' := by
  obtain ⟨wo, n0, n1, z⟩ := o
  have hn := hM.n
  have hr := hM.rows
  have e0 : errV 0 = .nilIface := rfl
  rcases tb_eight hw with q | q | q | q | q | q | q | q
  · subst q
    exact do_scrub h hM.ok hN HG hn hr (fun p hp => by have := spots_low hM.ok 4 p hp; omega) mb n0 n1 z h0
  · subst q
    exact do_lost h hM.ok hN mb n0 n1 z h0 (by have := lostN_le a (n0 : Int); omega)
  · subst q
    exact do_rebuild h hM.ok hN mb n0 n1 z h0 (by have := rebuildN_le a (n0 : Int); omega)
  · subst q
    exact do_poke h hM.ok hN mb n0 n1 z h0 h1
  · subst q
    exact do_replace h hM.ok hN mb n0 n1 z h0
  · subst q
    exact do_fail h hM.ok hN mb n0 n1 z h0
  · subst q
    exact do_write h hM.ok hN mb n0 n1 z h0
  · subst q
    exact do_read h hM.ok hN mb n0 n1 z h0
end Go.Proofs.YteafakgjfmbhoaaGreatDoor
