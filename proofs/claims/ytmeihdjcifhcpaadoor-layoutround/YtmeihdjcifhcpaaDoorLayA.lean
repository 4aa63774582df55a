/- Where blocks, P and Q stand: plain numbers. -/
namespace Go.Proofs.YtmeihdjcifhcpaaDoor.Lay
/-- the disk of P -/
def dP (n r : Nat) : Nat := n - 1 - r % n
/-- the i-th of a row: data first, then P, then Q -/
def ord (n r i : Nat) : Nat := (dP n r + 2 + i) % n
/-- which of a row a disk is -/
def pos (n r d : Nat) : Nat := (d + 2 * n - dP n r - 2) % n
/-- what a disk has: data from 0 on, -1, -2 -/
def rol (n : Nat) (i : Nat) : Int := if i = n - 2 then -1 else if i = n - 1 then -2 else i
theorem eight {n : Nat} (h1 : 3 ≤ n) (h2 : n ≤ 10) : n = 3 ∨ n = 4 ∨ n = 5 ∨ n = 6 ∨ n = 7 ∨ n = 8 ∨ n = 9 ∨ n = 10 := by omega
theorem dP_lt {n r : Nat} (h1 : 3 ≤ n) : dP n r < n := by unfold dP; omega
theorem ord_lt {n r i : Nat} (h1 : 3 ≤ n) : ord n r i < n := Nat.mod_lt _ (by omega)
theorem pos_lt {n r d : Nat} (h1 : 3 ≤ n) : pos n r d < n := Nat.mod_lt _ (by omega)
theorem pos_ord {n r i : Nat} (h1 : 3 ≤ n) (h2 : n ≤ 10) (hi : i < n) : pos n r (ord n r i) = i := by
  have hp := dP_lt (r := r) h1
  unfold pos ord
  generalize dP n r = p at *
  rcases eight h1 h2 with rfl | rfl | rfl | rfl | rfl | rfl | rfl | rfl <;> omega
theorem ord_pos {n r d : Nat} (h1 : 3 ≤ n) (h2 : n ≤ 10) (hd : d < n) : ord n r (pos n r d) = d := by
  have hp := dP_lt (r := r) h1
  unfold pos ord
  generalize dP n r = p at *
  rcases eight h1 h2 with rfl | rfl | rfl | rfl | rfl | rfl | rfl | rfl <;> omega
theorem ord_inj {n r i j : Nat} (h1 : 3 ≤ n) (h2 : n ≤ 10) (hi : i < n) (hj : j < n) (h : ord n r i = ord n r j) : i = j := by
  rw [← pos_ord h1 h2 hi (r := r), h, pos_ord h1 h2 hj]
theorem ord_data {n r i : Nat} : (dP n r + (i + 2)) % n = ord n r i := by unfold ord; rw [Nat.add_assoc, Nat.add_comm i 2]
theorem ord_P {n r : Nat} (h1 : 3 ≤ n) (h2 : n ≤ 10) : ord n r (n - 2) = dP n r := by
  have hp := dP_lt (r := r) h1
  unfold ord
  generalize dP n r = p at *
  rcases eight h1 h2 with rfl | rfl | rfl | rfl | rfl | rfl | rfl | rfl <;> omega
theorem ord_Q {n r : Nat} (h1 : 3 ≤ n) (h2 : n ≤ 10) : ord n r (n - 1) = (dP n r + 1) % n := by
  have hp := dP_lt (r := r) h1
  unfold ord
  generalize dP n r = p at *
  rcases eight h1 h2 with rfl | rfl | rfl | rfl | rfl | rfl | rfl | rfl <;> omega
/-- how far behind P: 0 is P, 1 is Q, then data -/
theorem behind {n r d : Nat} (h1 : 3 ≤ n) (h2 : n ≤ 10) (hd : d < n) :
    (d + n - dP n r) % n = (if pos n r d = n - 2 then 0 else if pos n r d = n - 1 then 1 else pos n r d + 2) := by
  have hp := dP_lt (r := r) h1
  unfold pos
  generalize dP n r = p at *
  rcases eight h1 h2 with rfl | rfl | rfl | rfl | rfl | rfl | rfl | rfl
  all_goals
    split
    · omega
    · split <;> omega
/-- P stands on each disk once -/
theorem dP_inj {n r s : Nat} (hr : r < n) (hs : s < n) (h : dP n r = dP n s) : r = s := by
  unfold dP at h
  rw [Nat.mod_eq_of_lt hr, Nat.mod_eq_of_lt hs] at h
  omega
end Go.Proofs.YtmeihdjcifhcpaaDoor.Lay
