/- A cache: contracts in one form, whether there is a fault or not. -/
import Derived.Test.YtfeikmmojilmbaaDoorChH
namespace Go.Proofs.YtfeikmmojilmbaaDoor
open Go.RowKit Go.Maps El Pol
variable {B : Nat} {w : World} {x : CP} {c : Che} {N : Nat}
theorem Che.cell_nat {c : Che} {z : Int} (h : c.cellE z = 0) : ∃ m : Nat, z = (m : Int) ∧ m < c.n := by
  unfold Che.cellE at h
  by_cases q : z < 0 ∨ (c.n : Int) ≤ z
  · rw [if_pos q] at h; omega
  · exact ⟨z.toNat, by omega, by omega⟩
theorem Che.cell_bad {c : Che} {z : Int} (h : c.cellE z ≠ 0) : noCell c.n z ∧ c.cellE z = 1 := by
  unfold Che.cellE at h ⊢
  by_cases q : z < 0 ∨ (c.n : Int) ≤ z
  · exact ⟨q, if_pos q⟩
  · rw [if_neg q] at h; exact absurd rfl h
theorem cwrite_all (h : MC B w x c N) (hN : N ≤ 100000) (z : Int) (b : List El) :
    Calls Tryd.prog 12 #[.pointer (some ⟨x.p, 0, none⟩), .int .i64 z, st b] w fun e w' => e = .returned (errV (c.writeE z b)) ∧ MC B w' x (c.writeI z b) (N + 2) ∧ But x.F w w' := by
  by_cases hw : c.writeE z b = 0
  · have hc : c.cellE z = 0 ∧ b.length ≤ 16 := by
      unfold Che.writeE at hw
      by_cases q : c.cellE z ≠ 0 ∨ 16 < b.length
      · rw [if_pos q] at hw; omega
      · omega
    obtain ⟨m, rfl, hm⟩ := Che.cell_nat hc.1
    have e : c.writeI (m : Int) b = c.write m b := by unfold Che.writeI; rw [if_pos hw, Int.toNat_natCast]
    rw [hw, e]
    exact cwrite_ok h hN hm b hc.2
  · have e1 : c.writeE z b = 1 := by
      unfold Che.writeE at hw ⊢
      by_cases q : c.cellE z ≠ 0 ∨ 16 < b.length
      · rw [if_pos q]
      · rw [if_neg q] at hw; exact absurd rfl hw
    have e : c.writeI z b = c := by unfold Che.writeI; rw [if_neg hw]
    rw [e, e1]
    exact (cwrite_no h b hw).mono (fun e w' ⟨he, hw'⟩ => ⟨he, by rw [hw']; exact h.mono (Nat.le_add_right _ _), by rw [hw']; exact But.refl _ _⟩)
theorem cread_all (h : MC B w x c N) (hN : N ≤ 100000) (z : Int) :
    Calls Tryd.prog 10 #[.pointer (some ⟨x.p, 0, none⟩), .int .i64 z] w fun e w' => e = .returned (.tuple #[st (c.readT z), errV (c.cellE z)]) ∧ MC B w' x (c.readI z) (N + 1) ∧ But x.F w w' := by
  by_cases hw : c.cellE z = 0
  · obtain ⟨m, rfl, hm⟩ := Che.cell_nat hw
    have e : c.readI (m : Int) = c.read m := by unfold Che.readI; rw [if_pos hw, Int.toNat_natCast]
    have e2 : c.readT (m : Int) = c.now m := by unfold Che.readT; rw [if_pos hw, Int.toNat_natCast]
    rw [hw, e, e2]
    exact cread_ok h hN hm
  · obtain ⟨q1, q2⟩ := Che.cell_bad hw
    have e : c.readI z = c := by unfold Che.readI; rw [if_neg hw]
    have e2 : c.readT z = [] := by unfold Che.readT; rw [if_neg hw]
    rw [e, e2, q2]
    exact (cread_no h q1).mono (fun e w' ⟨he, hw'⟩ => ⟨he, by rw [hw']; exact h.mono (Nat.le_add_right _ _), by rw [hw']; exact But.refl _ _⟩)
theorem cflush_all (h : MC B w x c N) (z : Int) :
    Calls Tryd.prog 14 #[.pointer (some ⟨x.p, 0, none⟩), .int .i64 z] w fun e w' => ∃ v, e = .returned (.tuple #[v, errV (Che.flushE z)]) ∧ RdN w' v (c.flushL z) ∧ (∀ k, v.ownBlock = some k → w.heap.size ≤ k) ∧ MC B w' x (c.flushI z) N ∧ But x.F w w' := by
  by_cases hz : z < 0
  · have e1 : Che.flushE z = 1 := if_pos hz
    have e2 : c.flushL z = [] := if_pos hz
    have e3 : c.flushI z = c := if_pos hz
    rw [e1, e2, e3]
    exact (cflush_no x.p hz w).mono (fun e w' ⟨he, hw'⟩ => ⟨_, he, .inl ⟨rfl, rfl⟩, fun k hk => (by cases hk), by rw [hw']; exact h, by rw [hw']; exact But.refl _ _⟩)
  · obtain ⟨m, rfl⟩ : ∃ m : Nat, z = m := ⟨z.toNat, by omega⟩
    have e1 : Che.flushE (m : Int) = 0 := if_neg hz
    have e2 : c.flushL (m : Int) = c.dirty.take m := by unfold Che.flushL; rw [if_neg hz, Int.toNat_natCast]
    have e3 : c.flushI (m : Int) = c.flush m := by unfold Che.flushI; rw [if_neg hz, Int.toNat_natCast]
    rw [e1, e2, e3]
    exact cflush_ok h m
theorem errV_two (k : Nat) (h : k = 0 ∨ k = 1) : errV k = .nilIface ∨ errV k = .iface 78 (.int .i64 1) := by
  rcases h with rfl | rfl
  · exact .inl rfl
  · exact .inr rfl
theorem Che.writeE_two (c : Che) (z : Int) (b : List El) : c.writeE z b = 0 ∨ c.writeE z b = 1 := by unfold Che.writeE; split <;> simp
theorem Che.flushE_two (z : Int) : Che.flushE z = 0 ∨ Che.flushE z = 1 := by unfold Che.flushE; split <;> simp
theorem writeI_n {c : Che} (h : c.ok) (z : Int) (b : List El) : (c.writeI z b).n = c.n := by
  unfold Che.writeI
  split
  · exact (Che.use_in h _ b).2.1
  · rfl
end Go.Proofs.YtfeikmmojilmbaaDoor
