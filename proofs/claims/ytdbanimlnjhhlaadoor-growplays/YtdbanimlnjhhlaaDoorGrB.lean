/- A grow, plainly: its cells, how many have moved; what Step, Read, Write make of it; its disks. -/
import Derived.Test.YtdbanimlnjhhlaaDoorGrA
import Derived.Test.YtdbanimlnjhhlaaDoorMa
namespace Go.Proofs.YtdbanimlnjhhlaaDoor
structure Grw where
  n : Nat
  m : Nat
  t : Nat
  c : Nat → List El
namespace Grw
def noC (g : Grw) (i : Int) : Prop := i < 0 ∨ (g.m : Int) ≤ i
instance (g : Grw) (i : Int) : Decidable (g.noC i) := inferInstanceAs (Decidable (_ ∨ _))
structure ok (g : Grw) : Prop where
  n1 : 1 ≤ g.n
  n9 : g.n ≤ 9
  m40 : g.m ≤ 40
  tm : g.t ≤ g.m
  short : ∀ i, i < g.m → (g.c i).length ≤ 16
def fresh (n m : Nat) (c : Nat → List El) : Grw := ⟨n, m, 0, c⟩
def newE (n : Int) (e : Nat) : Nat := if e ≠ 0 then e else if n < 1 ∨ 9 < n then 1 else 0
def stepE (g : Grw) : Nat := if g.t = g.m then 6 else 0
def more (g : Grw) : Bool := decide (g.t + 1 < g.m)
def step (g : Grw) : Grw := if g.t = g.m then g else ⟨g.n, g.m, g.t + 1, g.c⟩
def readE (g : Grw) (i : Int) : Nat := if g.noC i then 1 else 0
def readT (g : Grw) (i : Int) : List El := if g.noC i then [] else g.c i.toNat
def writeE (g : Grw) (i : Int) (b : List El) : Nat := if g.noC i ∨ 16 < b.length then 1 else 0
def write (g : Grw) (i : Int) (b : List El) : Grw := if g.noC i ∨ 16 < b.length then g else ⟨g.n, g.m, g.t, up g.c i.toNat b⟩
def ht (g : Grw) (d : Nat) : Nat := ght g.n g.t d g.m
def row (g : Grw) (d r : Nat) : List El := gen [] g.c g.n g.t d r g.m
theorem noC_nat {g : Grw} {i : Nat} (h : i < g.m) : ¬ g.noC (i : Int) := fun q => by unfold noC at q; omega
theorem nat_of {g : Grw} {i : Int} (h : ¬ g.noC i) : ∃ k : Nat, i = (k : Int) ∧ k < g.m := by
  unfold noC at h
  exact ⟨i.toNat, by omega, by omega⟩
theorem readE_nat {g : Grw} {i : Nat} (h : i < g.m) : g.readE (i : Int) = 0 := if_neg (noC_nat h)
theorem readT_nat {g : Grw} {i : Nat} (h : i < g.m) : g.readT (i : Int) = g.c i := by unfold readT; rw [if_neg (noC_nat h), Int.toNat_natCast]
theorem writeE_nat {g : Grw} {i : Nat} {b : List El} (h : i < g.m) (hb : b.length ≤ 16) : g.writeE (i : Int) b = 0 := if_neg (fun q => q.elim (noC_nat h) (fun z => by omega))
theorem write_nat {g : Grw} {i : Nat} {b : List El} (h : i < g.m) (hb : b.length ≤ 16) : g.write (i : Int) b = ⟨g.n, g.m, g.t, up g.c i b⟩ := by
  unfold write
  rw [if_neg (fun q => q.elim (noC_nat h) (fun z => by omega)), Int.toNat_natCast]
theorem step_more {g : Grw} (h : g.t < g.m) : g.step = ⟨g.n, g.m, g.t + 1, g.c⟩ := if_neg (by omega)
theorem stepE_more {g : Grw} (h : g.t < g.m) : g.stepE = 0 := if_neg (by omega)
theorem step_end {g : Grw} (h : g.t = g.m) : g.step = g := if_pos h
theorem stepE_end {g : Grw} (h : g.t = g.m) : g.stepE = 6 := if_pos h
theorem ok.fresh {n m : Nat} {c : Nat → List El} (h1 : 1 ≤ n) (h2 : n ≤ 9) (h3 : m ≤ 40) (h4 : ∀ i, i < m → (c i).length ≤ 16) : (Grw.fresh n m c).ok := ⟨h1, h2, h3, Nat.zero_le _, h4⟩
theorem ok.step {g : Grw} (h : g.ok) : g.step.ok := by
  by_cases e : g.t = g.m
  · rw [step_end e]; exact h
  · have := h.tm
    rw [step_more (by omega)]
    exact ⟨h.n1, h.n9, h.m40, by show g.t + 1 ≤ g.m; omega, h.short⟩
theorem ok.write {g : Grw} (h : g.ok) (i : Int) (b : List El) : (g.write i b).ok := by
  unfold Grw.write
  split
  · exact h
  · rename_i q
    refine ⟨h.n1, h.n9, h.m40, h.tm, fun k hk => ?_⟩
    show (up g.c i.toNat b k).length ≤ 16
    unfold up
    split
    · have := fun z => q (.inr z)
      omega
    · exact h.short k hk
theorem step_n (g : Grw) : g.step.n = g.n := by unfold step; split <;> rfl
theorem step_m (g : Grw) : g.step.m = g.m := by unfold step; split <;> rfl
theorem step_c (g : Grw) : g.step.c = g.c := by unfold step; split <;> rfl
theorem write_n (g : Grw) (i : Int) (b : List El) : (g.write i b).n = g.n := by unfold write; split <;> rfl
theorem write_m (g : Grw) (i : Int) (b : List El) : (g.write i b).m = g.m := by unfold write; split <;> rfl
theorem write_t (g : Grw) (i : Int) (b : List El) : (g.write i b).t = g.t := by unfold write; split <;> rfl
/-- where a cell stands it is -/
theorem row_is {g : Grw} (h : g.ok) {i : Nat} (hi : i < g.m) : g.row (gd g.n g.t i) (gr g.n g.t i) = g.c i := gen_at h.n1 hi
theorem ht_gt {g : Grw} {i : Nat} (hi : i < g.m) : gr g.n g.t i < g.ht (gd g.n g.t i) := ght_lt hi
theorem row_past {g : Grw} {d r : Nat} (h : g.ht d ≤ r) : g.row d r = [] := gen_past h
theorem ht_le (g : Grw) (d : Nat) : g.ht d ≤ g.m := ght_max
/-- all have moved -/
theorem ht_all {g : Grw} (h : g.t = g.m) {d : Nat} (hd : d ≤ g.n) : g.ht d = (g.m + g.n - d) / (g.n + 1) := ght_all (by omega) hd
theorem ht_even {g : Grw} (h : g.t = g.m) {d : Nat} (hd : d ≤ g.n) : g.ht d ≤ g.ht 0 ∧ g.ht 0 ≤ g.ht d + 1 := ght_even (by omega) hd
theorem ht_sum {g : Grw} (h : g.t = g.m) : sm g.ht (g.n + 1) = g.m := ght_sum g.n g.t g.m (by omega)
end Grw
end Go.Proofs.YtdbanimlnjhhlaaDoor
