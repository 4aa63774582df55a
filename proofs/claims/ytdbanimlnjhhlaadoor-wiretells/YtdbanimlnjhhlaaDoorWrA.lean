/- A row as bytes, plainly: the sum of bytes; with one byte another one it is another one; what is packed, and what that is of. -/
import Derived.Test.YtdbanimlnjhhlaaDoorElem
namespace Go.Proofs.YtdbanimlnjhhlaaDoor
/-- bytes as one number, from n on -/
def wval (n : Nat) (xs : List El) : Nat := xs.foldl (fun n x => n * 256 + x.val) n
/-- their sum, from n on, as it is reckoned byte by byte -/
def wsm (n : Nat) (xs : List El) : Nat := xs.foldl (fun n x => (n * 256 + x.val) % 65521) n
def wsum (xs : List El) : Nat := wsm 0 xs
theorem wval_add : ∀ (xs : List El) (n : Nat), wval n xs = n * 256 ^ xs.length + wval 0 xs
  | [], n => by show n = n * 256 ^ 0 + 0; omega
  | x :: xs, n => by
    have h1 : wval n (x :: xs) = wval (n * 256 + x.val) xs := rfl
    have h2 : wval 0 (x :: xs) = wval (0 * 256 + x.val) xs := rfl
    rw [h1, h2, wval_add xs (n * 256 + x.val), wval_add xs (0 * 256 + x.val), List.length_cons, Nat.pow_succ, Nat.zero_mul, Nat.zero_add, Nat.add_mul, Nat.mul_assoc, Nat.mul_comm 256, Nat.add_assoc]
theorem wsm_mod : ∀ (xs : List El) (n : Nat), n < 65521 → wsm n xs = wval n xs % 65521
  | [], n, h => (Nat.mod_eq_of_lt h).symm
  | x :: xs, n, _ => by
    have h1 : wsm n (x :: xs) = wsm ((n * 256 + x.val) % 65521) xs := rfl
    have h2 : wval n (x :: xs) = wval (n * 256 + x.val) xs := rfl
    rw [h1, h2, wsm_mod xs _ (Nat.mod_lt _ (by omega)), wval_add xs ((n * 256 + x.val) % 65521), wval_add xs (n * 256 + x.val), Nat.add_mod, Nat.mul_mod, Nat.mod_mod, ← Nat.mul_mod, ← Nat.add_mod]
theorem wsum_is (xs : List El) : wsum xs = wval 0 xs % 65521 := wsm_mod xs 0 (by omega)
theorem wsum_lt (xs : List El) : wsum xs < 65521 := by rw [wsum_is]; exact Nat.mod_lt _ (by omega)
theorem wsm_append (n : Nat) (xs ys : List El) : wsm n (xs ++ ys) = wsm (wsm n xs) ys := List.foldl_append
theorem wval_append (n : Nat) (xs ys : List El) : wval n (xs ++ ys) = wval (wval n xs) ys := List.foldl_append
/-- with one byte another one the sum is another one -/
theorem wsum_inj {a b : List El} {x y : El} (h : wsum (a ++ x :: b) = wsum (a ++ y :: b)) : x = y := by
  rw [wsum_is, wsum_is, wval_append, wval_append] at h
  have e : ∀ z : El, wval (wval 0 a) (z :: b) = (wval 0 a * 256 + z.val) * 256 ^ b.length + wval 0 b := fun z => wval_add b _
  rw [e, e] at h
  have hc : Nat.Coprime 65521 (256 ^ b.length) := Nat.Coprime.pow_right _ (by decide)
  have key : ∀ u v : Nat, u ≤ v → v < u + 256 → ((wval 0 a * 256 + u) * 256 ^ b.length + wval 0 b) % 65521 = ((wval 0 a * 256 + v) * 256 ^ b.length + wval 0 b) % 65521 → u = v := fun u v huv hv hm => by
    obtain ⟨d, rfl⟩ := Nat.exists_eq_add_of_le huv
    have h1 : (wval 0 a * 256 + (u + d)) * 256 ^ b.length + wval 0 b = ((wval 0 a * 256 + u) * 256 ^ b.length + wval 0 b) + d * 256 ^ b.length := by
      rw [← Nat.add_assoc, Nat.add_mul _ d]
      omega
    rw [h1] at hm
    generalize (wval 0 a * 256 + u) * 256 ^ b.length + wval 0 b = p at hm
    have h2 : 65521 ∣ d * 256 ^ b.length := by
      have : (p + d * 256 ^ b.length - p) % 65521 = 0 := Nat.sub_mod_eq_zero_of_mod_eq hm.symm
      rw [Nat.add_sub_cancel_left] at this
      exact Nat.dvd_of_mod_eq_zero this
    have h3 : 65521 ∣ d := hc.dvd_of_dvd_mul_right h2
    have h4 : d = 0 := Nat.eq_zero_of_dvd_of_lt h3 (by omega)
    omega
  have hx := x.isLt
  have hy := y.isLt
  apply Fin.ext
  rcases Nat.le_total x.val y.val with q | q
  · exact key _ _ q (by omega) h
  · exact (key _ _ q (by omega) h.symm).symm
end Go.Proofs.YtdbanimlnjhhlaaDoor
