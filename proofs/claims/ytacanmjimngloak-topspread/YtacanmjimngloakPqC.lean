/- What healed data are, by equations, and that these tell them. -/
import Derived.Test.YtacanmjimngloakPqB
namespace Go.Proofs.Ytacanmjimngloak
namespace Mx
open El Pol
/-- the blocks of data that are lost -/
def gn (lost : Nat → Bool) (k : Nat) : List Nat := (List.range k).filter (fun i => lost i)
theorem mem_gn {lost : Nat → Bool} {k i : Nat} : i ∈ gn lost k ↔ i < k ∧ lost i = true := by
  unfold gn
  rw [List.mem_filter, List.mem_range]
theorem gn_nodup (lost : Nat → Bool) (k : Nat) : (gn lost k).Pairwise (· < ·) := List.Pairwise.filter _ List.pairwise_lt_range
/-- D are the data of the parts A, of which some are lost, healed: those that are there; one by P, if that is there, else by Q; two by both -/
structure Healed (k L : Nat) (A : M) (lost : Nat → Bool) (D : M) : Prop where
  there : ∀ i, i < k → lost i = false → ∀ l, l < L → D i l = A i l
  byP : (gn lost k).length = 1 → lost k = false → ∀ l, l < L → pp k D l = A k l
  byQ : (gn lost k).length = 1 → lost k = true → ∀ l, l < L → qq k D l = A (k + 1) l
  both : (gn lost k).length = 2 → ∀ l, l < L → pp k D l = A k l ∧ qq k D l = A (k + 1) l
theorem Healed.same {k L : Nat} {A : M} {lost : Nat → Bool} {D E : M} (hk : k ≤ 10) (h2 : (gn lost k).length ≤ 2) (h : Healed k L A lost D) (g : Healed k L A lost E) : Eqm k L D E := by
  intro i l hi hl
  cases hi0 : lost i with
  | false => rw [h.there i hi hi0 l hl, g.there i hi hi0 l hl]
  | true =>
    have hm := mem_gn.2 ⟨hi, hi0⟩
    have hoth : ∀ j, j < k → j ∉ gn lost k → D j l = E j l := fun j hj hn => by
      have : lost j = false := by
        cases q : lost j with
        | false => rfl
        | true => exact absurd (mem_gn.2 ⟨hj, q⟩) hn
      rw [h.there j hj this l hl, g.there j hj this l hl]
    match hg : gn lost k with
    | [] => rw [hg] at hm; cases hm
    | [x] =>
      rw [hg] at hm
      obtain rfl : i = x := by simpa using hm
      have hl1 : (gn lost k).length = 1 := by rw [hg]; rfl
      have hs : ∀ j, j < k → j ≠ i → D j l = E j l := fun j hj hne => hoth j hj (by rw [hg]; simpa using hne)
      cases hp : lost k with
      | false => exact one_by_p hi hs ((h.byP hl1 hp l hl).trans (g.byP hl1 hp l hl).symm)
      | true => exact one_by_q hi hk hs ((h.byQ hl1 hp l hl).trans (g.byQ hl1 hp l hl).symm)
    | [x, y] =>
      have hl2 : (gn lost k).length = 2 := by rw [hg]; rfl
      have hxy : x < y := by
        have := gn_nodup lost k
        rw [hg] at this
        simpa using this
      have hx := (mem_gn.1 (show x ∈ gn lost k by rw [hg]; simp)).1
      have hy := (mem_gn.1 (show y ∈ gn lost k by rw [hg]; simp)).1
      have hb := two_by_pq (D := D) (E := E) (l := l) hx hy (by omega) hk (fun j hj h1 h2 => hoth j hj (by rw [hg]; simp [h1, h2])) ((h.both hl2 l hl).1.trans (g.both hl2 l hl).1.symm) ((h.both hl2 l hl).2.trans (g.both hl2 l hl).2.symm)
      rw [hg] at hm
      rcases List.mem_cons.1 hm with rfl | hm
      · exact hb.1
      · obtain rfl : i = y := by simpa using hm
        exact hb.2
    | x :: y :: z :: t => rw [hg] at h2; simp at h2
/-- parts that were right: what is healed is what it was -/
theorem Healed.back {k L : Nat} {A : M} {lost : Nat → Bool} {D0 : M} (h : ∀ i, i < k → lost i = false → ∀ l, l < L → D0 i l = A i l) (hp : lost k = false → ∀ l, l < L → A k l = pp k D0 l) (hq : lost (k + 1) = false → ∀ l, l < L → A (k + 1) l = qq k D0 l)
    (h1 : (gn lost k).length = 1 → lost k = true → lost (k + 1) = false) (h2 : (gn lost k).length = 2 → lost k = false ∧ lost (k + 1) = false) : Healed k L A lost D0 :=
  ⟨h, fun _ q l hl => (hp q l hl).symm, fun q1 q2 l hl => (hq (h1 q1 q2) l hl).symm, fun q l hl => ⟨(hp (h2 q).1 l hl).symm, (hq (h2 q).2 l hl).symm⟩⟩
end Mx
end Go.Proofs.Ytacanmjimngloak
