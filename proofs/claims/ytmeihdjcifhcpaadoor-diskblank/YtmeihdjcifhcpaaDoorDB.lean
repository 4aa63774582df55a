/- DiskBlank: a walk over the program. -/
import Derived.Test.YtmeihdjcifhcpaaDoorDskF
import Derived.Test.YtmeihdjcifhcpaaDoorDskD
import Derived.Test.YtmeihdjcifhcpaaDoorErrw
import Derived.Test.YtmeihdjcifhcpaaDoorDskW
import Derived.Test.YtmeihdjcifhcpaaDoorDskR
namespace Go.Proofs.YtmeihdjcifhcpaaDoor
open Go.RowKit El Pol
theorem IsD.new (w : World) (d : Dsk) : IsD (w.alloc (.cells d.cells.toArray 63)) w.heap.size d := heap_alloc_new w _
theorem But.on {p : Nat} {w0 a b : World} (h : But (· = p) a b) (hB : Below w0.heap.size w0 a) (hp : w0.heap.size ≤ p) : Below w0.heap.size w0 b :=
  hB.trans (h.below hB.size (fun k hk => by rw [hk]; exact hp))
theorem two_noughts (d : Dsk) (r : Nat) (h : d.size = 2) (hz : d.byte = fun _ => 0) : sb (d.row r) = ⟨#[0, 0]⟩ := by
  unfold Dsk.row
  rw [h, hz]
  rfl
set_option maxRecDepth 100000 in
set_option maxHeartbeats 1000000 in
theorem blank_ok (rows row : Nat) (hr : 1 ≤ rows ∧ rows ≤ 20) (hrow : row < rows) (xs : List El) (hx : xs.length = 2) (w : World) (hg : Handle w) :
    Calls Tryd.prog 4 #[.int .i64 rows, .int .i64 row, st xs] w fun e w' => e = .returned (.bool true) ∧ Below w.heap.size w w' := by
  have HG : Hid (Handle w) := hg
  clear hg
  have N := dnew_ok rows 2 hr (by omega) w
  obtain ⟨hr1, hr2⟩ := hr
  have hlen : (sb xs).size = 2 := by rw [sb_size, hx]
  have hri : (row : Int) < (rows : Int) := by omega
  obtain ⟨p, hp⟩ : ∃ p, p = w.heap.size := ⟨_, rfl⟩
  obtain ⟨w1, hw1⟩ : ∃ w1, w1 = w.alloc (.cells (Dsk.fresh rows 2).cells.toArray 63) := ⟨_, rfl⟩
  have D1 : IsD w1 p (Dsk.fresh rows 2) := by rw [hw1, hp]; exact IsD.new w _
  have B1 : Below w.heap.size w w1 := by rw [hw1]; exact al_below w _
  have HP : Hid (p = w.heap.size) := hp
  rw [← hp, ← hw1] at N
  clear hp hw1
  have e0 : (Dsk.fresh rows 2).readE row = 0 := by
    unfold Dsk.readE
    rw [if_neg (by simp [Dsk.fresh]), if_neg (by simp [Dsk.fresh]; omega)]
  have e1 : (Dsk.fresh rows 2).writeE row xs.length = 0 := by
    unfold Dsk.writeE
    rw [if_pos e0]; exact if_pos hx
  have W := dwrite D1 ⟨⟨hr1, hr2⟩, (by omega : 1 ≤ 2 ∧ 2 ≤ 16)⟩ (by show 0 < _; omega) row xs
  rw [e1] at W
  obtain ⟨d2, hd2⟩ : ∃ d, d = (Dsk.fresh rows 2).write row xs := ⟨_, rfl⟩
  rw [← hd2] at W
  have hd2' : d2 = { (Dsk.fresh rows 2).put row xs with writes := 1 } := by rw [hd2]; unfold Dsk.write; rw [if_pos e1]; rfl
  have f2 : d2.failE = 0 := by rw [hd2']; rfl
  have e3 : d2.fail.readE row = 6 := by rw [hd2']; rfl
  have k3 : d2.fail.ok := by rw [hd2']; exact ⟨⟨hr1, hr2⟩, (by omega : 1 ≤ 2 ∧ 2 ≤ 16)⟩
  have r3 : d2.fail.replaceE = 0 := by rw [hd2']; rfl
  obtain ⟨d4, hd4⟩ : ∃ d, d = d2.fail.replace := ⟨_, rfl⟩
  have hd4' : d4 = d2.fail.blank := by rw [hd4]; rfl
  have k4 : d4.ok := by rw [hd4', hd2']; exact ⟨⟨hr1, hr2⟩, (by omega : 1 ≤ 2 ∧ 2 ≤ 16)⟩
  have e4 : d4.readE row = 0 := by
    unfold Dsk.readE
    rw [hd4', hd2', if_neg (by simp [Dsk.blank]), if_neg (by simp [Dsk.blank, Dsk.fail, Dsk.put, Dsk.fresh]; omega)]
  have t4 : st (d4.readT row) = .string ⟨#[0, 0]⟩ := congrArg Value.string (by
    unfold Dsk.readT
    rw [if_pos e4]
    exact two_noughts _ _ (by rw [hd4', hd2']; rfl) (by rw [hd4']; rfl))
  have w4 : d4.writes = 1 := by rw [hd4', hd2']; rfl
  have g4 : d4.failed = false := by rw [hd4']; rfl
  clear hd2 hd2' hd4' e0 e1 D1
  rw [errV, if_pos rfl] at W
  go_enter Tryd.func4, Tryd.ntmps4
  go_wp2_with fail
  refine N.mono ?_
  rintro e wx ⟨rfl, hwx⟩
  obtain rfl := hwx.symm
  clear N hwx
  go_wp2_with fail
  refine W.mono ?_
  rintro e w2 ⟨rfl, D2, b2⟩
  clear W
  replace B1 := b2.on B1 (by rw [HP.out]; exact Nat.le_refl _)
  clear b2
  have F := dfail D2
  rw [f2, errV, if_pos rfl] at F
  clear D2 f2
  go_wp2_with fail
  refine F.mono ?_
  rintro e w3 ⟨rfl, D3, b3⟩
  replace B1 := b3.on B1 (by rw [HP.out]; exact Nat.le_refl _)
  clear F b3
  have R := dread D3 k3 row
  rw [e3, errV, if_neg (by omega)] at R
  generalize d2.fail.readT row = t3 at R
  go_wp2_with fail
  refine R.mono ?_
  rintro e w4' ⟨rfl, n4, rfl⟩
  clear R
  have P := dreplace (D3.drewN n4)
  rw [r3, errV, if_pos rfl, ← hd4] at P
  replace B1 := below_drewN B1 n4
  clear D3 hd4 r3 k3 e3
  generalize d2.fail = d3 at *
  go_wp2_with fail
  refine P.mono ?_
  rintro e w5 ⟨rfl, D5, b5⟩
  replace B1 := b5.on B1 (by rw [HP.out]; exact Nat.le_refl _)
  clear P b5
  have R := dread D5 k4 row
  rw [e4, errV, if_pos rfl, t4] at R
  go_wp2_with fail
  refine R.mono ?_
  rintro e w6' ⟨rfl, n6, rfl⟩
  clear R t4 e4
  replace B1 := below_drewN B1 n6
  have D6 := D5.drewN n6
  have E := err_same 6 _ (HG.out.old B1)
  clear D5
  generalize w5.drewN n6 = w6 at *
  go_wp2_with fail
  refine E.mono ?_
  rintro e w7 ⟨rfl, b7⟩
  have D7 := D6.old b7
  replace B1 := B1.trans (b7.mono B1.size)
  clear E b7 D6
  have X := dwrites D7
  rw [w4] at X
  go_wp2_with fail
  refine X.mono ?_
  rintro e wx ⟨rfl, hwx⟩
  obtain rfl := hwx.symm
  clear X hwx
  have X := dworks D7
  rw [g4] at X
  go_wp2_with fail
  refine X.mono ?_
  rintro e wx ⟨rfl, hwx⟩
  obtain rfl := hwx.symm
  clear X hwx
  go_wp2
  go_ret
  exact ⟨rfl, B1⟩
set_option maxRecDepth 100000 in
theorem blank_bad (rows row : Int) (xs : List El) (h : rows < 1 ∨ 20 < rows) (w : World) :
    Calls Tryd.prog 4 #[.int .i64 rows, .int .i64 row, st xs] w fun e w' => e = .returned (.bool true) ∧ Below w.heap.size w w' := by
  have N := dnew_bad rows 2 (by omega) w
  rw [errV, if_neg (by omega)] at N
  by_cases h1 : rows < 1
  · go_enter Tryd.func4, Tryd.ntmps4
    go_wp2_with fail
    refine N.mono ?_
    rintro e wx ⟨rfl, hwx⟩
    obtain rfl := hwx.symm
    clear N hwx
    go_wp2
    go_ret
    exact ⟨rfl, Below.refl _ _⟩
  · have h2 : 20 < rows := by omega
    clear h
    go_enter Tryd.func4, Tryd.ntmps4
    go_wp2_with fail
    refine N.mono ?_
    rintro e wx ⟨rfl, hwx⟩
    obtain rfl := hwx.symm
    clear N hwx
    go_wp2
    go_ret
    exact ⟨rfl, Below.refl _ _⟩
set_option maxRecDepth 100000 in
theorem blank_shape (rows : Nat) (row : Int) (hr : 1 ≤ rows ∧ rows ≤ 20) (xs : List El) (hx : xs.length ≠ 2) (w : World) :
    Calls Tryd.prog 4 #[.int .i64 rows, .int .i64 row, st xs] w fun e w' => e = .returned (.bool true) ∧ Below w.heap.size w w' := by
  have N := dnew_ok rows 2 hr (by omega) w
  have hlen : (sb xs).size = xs.length := sb_size xs
  have hx' : ¬ (xs.length : Int) = 2 := by omega
  obtain ⟨w1, hw1⟩ : ∃ w1, w1 = w.alloc (.cells (Dsk.fresh rows 2).cells.toArray 63) := ⟨_, rfl⟩
  have B1 : Below w.heap.size w w1 := by rw [hw1]; exact al_below w _
  rw [← hw1] at N
  clear hw1 hr
  go_enter Tryd.func4, Tryd.ntmps4
  go_wp2_with fail
  refine N.mono ?_
  rintro e wx ⟨rfl, hwx⟩
  obtain rfl := hwx.symm
  clear N hwx
  go_wp2
  go_ret
  exact ⟨rfl, B1⟩
set_option maxRecDepth 100000 in
theorem blank_row (rows : Nat) (row : Int) (hr : 1 ≤ rows ∧ rows ≤ 20) (xs : List El) (hx : xs.length = 2) (h : row < 0 ∨ (rows : Int) ≤ row) (w : World) (hg : Handle w) :
    Calls Tryd.prog 4 #[.int .i64 rows, .int .i64 row, st xs] w fun e w' => e = .returned (.bool true) ∧ Below w.heap.size w w' := by
  have N := dnew_ok rows 2 hr (by omega) w
  have hlen : (sb xs).size = 2 := by rw [sb_size, hx]
  obtain ⟨p, hp⟩ : ∃ p, p = w.heap.size := ⟨_, rfl⟩
  obtain ⟨w1, hw1⟩ : ∃ w1, w1 = w.alloc (.cells (Dsk.fresh rows 2).cells.toArray 63) := ⟨_, rfl⟩
  have D1 : IsD w1 p (Dsk.fresh rows 2) := by rw [hw1, hp]; exact IsD.new w _
  have B1 : Below w.heap.size w w1 := by rw [hw1]; exact al_below w _
  rw [← hp, ← hw1] at N
  have e0 : (Dsk.fresh rows 2).readE row = 1 := by
    unfold Dsk.readE
    rw [if_neg (by simp [Dsk.fresh])]
    exact if_pos h
  have R := dread D1 ⟨hr, (by omega : 1 ≤ 2 ∧ 2 ≤ 16)⟩ row
  rw [e0, errV, if_neg (by omega)] at R
  have HG : Hid (Handle w) := hg
  clear hg hp hw1 D1 hr e0
  generalize (Dsk.fresh rows 2).readT row = t at *
  by_cases h1 : row < 0
  ·
    go_enter Tryd.func4, Tryd.ntmps4
    go_wp2_with fail
    refine N.mono ?_
    rintro e wx ⟨rfl, hwx⟩
    obtain rfl := hwx.symm
    clear N hwx
    go_wp2_with fail
    refine R.mono ?_
    rintro e wx ⟨rfl, n4, rfl⟩
    clear R
    replace B1 := below_drewN B1 n4
    go_wp2_with fail
    refine (err_same 1 _ (HG.out.old B1)).mono ?_
    rintro e w7 ⟨rfl, b7⟩
    replace B1 := B1.trans (b7.mono B1.size)
    go_wp2
    go_ret
    exact ⟨rfl, B1⟩
  · have h2 : (rows : Int) ≤ row := by omega
    clear h
    go_enter Tryd.func4, Tryd.ntmps4
    go_wp2_with fail
    refine N.mono ?_
    rintro e wx ⟨rfl, hwx⟩
    obtain rfl := hwx.symm
    clear N hwx
    go_wp2_with fail
    refine R.mono ?_
    rintro e wx ⟨rfl, n4, rfl⟩
    clear R
    replace B1 := below_drewN B1 n4
    go_wp2_with fail
    refine (err_same 1 _ (HG.out.old B1)).mono ?_
    rintro e w7 ⟨rfl, b7⟩
    replace B1 := B1.trans (b7.mono B1.size)
    go_wp2
    go_ret
    exact ⟨rfl, B1⟩
theorem blank_any (rows row : Int) (xs : List El) (w : World) (hg : Handle w) :
    Calls Tryd.prog 4 #[.int .i64 rows, .int .i64 row, st xs] w fun e w' => e = .returned (.bool true) ∧ Below w.heap.size w w' := by
  by_cases h : rows < 1 ∨ 20 < rows
  · exact blank_bad rows row xs h w
  · obtain ⟨n, rfl⟩ : ∃ n : Nat, rows = n := ⟨rows.toNat, by omega⟩
    by_cases hx : xs.length = 2
    · by_cases hr : row < 0 ∨ (n : Int) ≤ row
      · exact blank_row n row (by omega) xs hx hr w hg
      · obtain ⟨r, rfl⟩ : ∃ r : Nat, row = r := ⟨row.toNat, by omega⟩
        exact blank_ok n r (by omega) (by omega) xs hx w hg
    · exact blank_shape n row (by omega) xs hx w
end Go.Proofs.YtmeihdjcifhcpaaDoor
