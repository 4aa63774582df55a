/- A disk is read, written, replaced and made: walks over the program. -/
import Derived.Test.YtmeihdjcifhcpaaDoorDskB
import Derived.Test.YtmeihdjcifhcpaaDoorReg
namespace Go.Proofs.YtmeihdjcifhcpaaDoor
open Go.RowKit El Pol
theorem IsD.drewN {w : World} {p : Nat} {d : Dsk} (h : IsD w p d) (n : Nat) : IsD (w.drewN n) p d := h
/-- what is read -/
def Dsk.readT (d : Dsk) (row : Int) : List El := if d.readE row = 0 then d.row row.toNat else []
set_option maxRecDepth 100000 in
theorem dread {w : World} {p : Nat} {d : Dsk} (h : IsD w p d) (hk : d.ok) (row : Int) :
    Calls Tryd.prog 12 #[.pointer (some ⟨p, 0, none⟩), .int .i64 row] w fun e w' => e = .returned (.tuple #[st (d.readT row), errV (d.readE row)]) ∧ ∃ n, w' = w.drewN n := by
  have C := dcheck h row
  have c1 := h.c1
  have HD : Hid (IsD w p d) := h
  clear h
  unfold Dsk.readT
  by_cases he : d.readE row = 0
  · have hb : 0 ≤ row ∧ row < d.rows := by
      unfold Dsk.readE at he
      split at he
      · omega
      · split at he <;> omega
    obtain ⟨r, rfl⟩ : ∃ r : Nat, row = r := ⟨row.toNat, by omega⟩
    obtain ⟨⟨hr1, hr2⟩, hs1, hs2⟩ := hk
    have hR : ∀ n, (convert 44 9 (.slice (some ⟨p, 4 + r * 16, none⟩) d.size 16)).run Tryd.prog (w.drewN n) = .ok (st (d.row r)) (w.drewN n) := fun n => by
      have := (HD.out.drewN n).rd ⟨⟨hr1, hr2⟩, hs1, hs2⟩ r (by omega)
      rw [Nat.mul_comm] at this
      exact run_text this _ _ Tryd.underlying44 Tryd.underlying9
    rw [if_pos he, Int.toNat_natCast]
    rw [he] at C ⊢
    rw [errV, if_pos rfl] at C ⊢
    have hr20 : (r : Int) < 20 := by omega
    have hs16 : (d.size : Int) ≤ 16 := by omega
    have hr0 : (0 : Int) ≤ (r : Int) := Int.natCast_nonneg _
    have hs0 : (0 : Int) ≤ (d.size : Int) := Int.natCast_nonneg _
    generalize d.row r = xs at *
    generalize d.size = s at *
    clear he hb HD
    go_enter Tryd.func12, Tryd.ntmps12
    go_wp2_with fail
    refine C.mono ?_
    rintro e w1 ⟨rfl, hw⟩
    obtain rfl := hw.symm
    clear C hw
    go_wp2_with fail
    go_quiet (fail)
    go_wp2
    go_ret2
    exact ⟨rfl, nq, rfl⟩
  · rw [if_neg he]
    rw [errV, if_neg he] at C ⊢
    clear HD hk
    generalize d.readE row = k at *
    go_enter Tryd.func12, Tryd.ntmps12
    go_wp2_with fail
    refine C.mono ?_
    rintro e w1 ⟨rfl, hw⟩
    obtain rfl := hw.symm
    clear C hw
    go_wp2
    go_ret2
    exact ⟨rfl, 0, rfl⟩
/-- what is written -/
def Dsk.writeE (d : Dsk) (row : Int) (n : Nat) : Nat := if d.readE row = 0 then (if n = d.size then 0 else 3) else d.readE row
def Dsk.write (d : Dsk) (row : Int) (xs : List El) : Dsk := if d.writeE row xs.length = 0 then { d.put row.toNat xs with writes := d.writes + 1 } else d
theorem readE_row {d : Dsk} {row : Int} (he : d.readE row = 0) : 0 ≤ row ∧ row < d.rows := by
  unfold Dsk.readE at he
  split at he
  · omega
  · split at he <;> omega
set_option maxRecDepth 100000 in
theorem dwrite {w : World} {p : Nat} {d : Dsk} (h : IsD w p d) (hk : d.ok) (hn : d.writes < 4611686018427387904) (row : Int) (xs : List El) :
    Calls Tryd.prog 13 #[.pointer (some ⟨p, 0, none⟩), .int .i64 row, st xs] w fun e w' => e = .returned (errV (d.writeE row xs.length)) ∧ IsD w' p (d.write row xs) ∧ But (· = p) w w' := by
  have C := dcheck h row
  have c1 := h.c1
  have HD : Hid (IsD w p d) := h
  have hlen : (sb xs).size = xs.length := sb_size xs
  clear h
  unfold Dsk.write
  by_cases he : d.readE row = 0
  · have hb := readE_row he
    obtain ⟨r, rfl⟩ : ∃ r : Nat, row = r := ⟨row.toNat, by omega⟩
    obtain ⟨⟨hr1, hr2⟩, hs1, hs2⟩ := hk
    by_cases hx : xs.length = d.size
    · have hwe : d.writeE r xs.length = 0 := by unfold Dsk.writeE; rw [if_pos he, if_pos hx]
      obtain ⟨w2, hw2⟩ : ∃ w2, w2 = w.setCells p (4 + r * 16) (xs.map eb) := ⟨_, rfl⟩
      have hcp : ∀ ty, (Builtin.copy_ #[44, 9] ty #[.slice (some ⟨p, 4 + r * 16, none⟩) 16 16, st xs]).run Tryd.prog w = .ok (goInt xs.length) w2 := fun ty => by
        rw [hw2]
        exact run_copy_text w _ _ ty _ p (4 + r * 16) 16 16 xs Tryd.underlying44 Tryd.sizeOf5 (by omega) (fun j hj => by rw [Nat.add_assoc, HD.out.byte _ (by omega)]; rfl) (fun j _ => HD.out.frozen _)
      have hD2 : IsD w2 p (d.put r xs) := by rw [hw2, Nat.mul_comm]; exact isD_row HD.out r xs
      have hB2 : But (· = p) w w2 := by rw [hw2]; exact but_setCells (F := (· = p)) rfl _ _ _ (But.refl _ _)
      have c3 : w2.cell? ⟨p, 3, none⟩ = some (.int .i64 d.writes) := hD2.c3
      have f3 := hD2.frozen 3
      have hP : IsD (w2.setCell ⟨p, 3, none⟩ (.int .i64 ((d.writes : Int) + 1))) p { d.put r xs with writes := d.writes + 1 } := isD_put hD2 3 _ (by
        simp [Dsk.cells, Dsk.put])
      have HW : Hid (IsD (w2.setCell ⟨p, 3, none⟩ (.int .i64 ((d.writes : Int) + 1))) p { d.put r xs with writes := d.writes + 1 } ∧ But (· = p) w (w2.setCell ⟨p, 3, none⟩ (.int .i64 ((d.writes : Int) + 1)))) := ⟨hP, hB2.setCell (p := ⟨p, 3, none⟩) rfl _⟩
      rw [hwe, if_pos rfl, Int.toNat_natCast]
      rw [he] at C
      rw [errV, if_pos rfl] at C ⊢
      have hr20 : (r : Int) < 20 := by omega
      have hr0 : (0 : Int) ≤ (r : Int) := Int.natCast_nonneg _
      clear hP hD2 hB2 hw2 HD he hb hwe
      have hwn : ((d.writes : Nat) : Int) < 4611686018427387904 := by omega
      generalize d.writes = n at *
      rw [hx] at hcp hlen
      generalize d.size = s at *
      clear hx
      go_enter Tryd.func13, Tryd.ntmps13
      go_wp2_with fail
      refine C.mono ?_
      rintro e w1 ⟨rfl, hw⟩
      obtain rfl := hw.symm
      clear C hw
      go_wp2
      go_ret
      exact ⟨rfl, HW.out⟩
    · have hwe : d.writeE r xs.length = 3 := by unfold Dsk.writeE; rw [if_pos he, if_neg hx]
      rw [hwe, if_neg (by omega)]
      rw [he] at C
      rw [errV, if_pos rfl] at C
      have hne : ¬ (xs.length : Int) = (d.size : Int) := by omega
      go_enter Tryd.func13, Tryd.ntmps13
      go_wp2_with fail
      refine C.mono ?_
      rintro e w1 ⟨rfl, hw⟩
      obtain rfl := hw.symm
      clear C hw
      go_wp2
      go_ret
      exact ⟨rfl, HD.out, But.refl _ _⟩
  · have hwe : d.writeE row xs.length = d.readE row := by unfold Dsk.writeE; rw [if_neg he]
    rw [hwe, if_neg he]
    rw [errV, if_neg he] at C ⊢
    generalize d.readE row = k at *
    go_enter Tryd.func13, Tryd.ntmps13
    go_wp2_with fail
    refine C.mono ?_
    rintro e w1 ⟨rfl, hw⟩
    obtain rfl := hw.symm
    clear C hw
    go_wp2
    go_ret
    exact ⟨rfl, HD.out, But.refl _ _⟩
end Go.Proofs.YtmeihdjcifhcpaaDoor
