/- LayoutEach: a walk over the program. -/
import Derived.Test.YtmeihdjcifhcpaaLayAt
import Derived.Test.YtmeihdjcifhcpaaLayE
import Derived.Test.YtmeihdjcifhcpaaRowAt
import Derived.BigCall
import Derived.BigGuard
namespace Go.Proofs.Ytmeihdjcifhcpaa
open Go.RowKit Lay
def ten1 : Array Value := Array.replicate 10 (.bool false)
theorem zero_tenb (w : World) : (zeroValue 33).run Try.prog w = .ok (.agg ten1) w := by kernel_rfl
/-- Order of three, row 0 -/
theorem order3 (w : World) : Calls Try.prog 4 #[.int .i64 3, .int .i64 0] w fun e w' => ∃ g cap, e = .returned (.tuple #[.slice (some ⟨g, 0, none⟩) 3 cap, .nilIface]) ∧ 3 ≤ cap ∧ cap ≤ 9223372036854775807 ∧ w'.cell? ⟨g, 0, none⟩ = some (.int .i64 1) ∧ w'.cell? ⟨g, 1, none⟩ = some (.int .i64 2) ∧ w'.cell? ⟨g, 2, none⟩ = some (.int .i64 0) ∧ Below w.heap.size w w' :=
  (order_ok 3 0 (by omega) (by omega) (by omega) w).mono fun e w' ⟨v', he, hO, hB⟩ => by
    obtain ⟨g, cap, rfl, _, _, h1, h2, hc⟩ := hO.at (by omega)
    exact ⟨g, cap, he, h1, h2, hc 0 (by omega), hc 1 (by omega), hc 2 (by omega), hB⟩
/-- of a block that is there: Data, Block, Role -/
theorem data_back (n b : Nat) (h1 : 3 ≤ n) (h2 : n ≤ 10) (hb : b < 20 * (n - 2)) : ∃ (z : Nat) (q i : Int), 0 ≤ i ∧ i < n ∧ i = (b : Int) % ((n : Int) - 2) ∧
    (∀ w, Calls Try.prog 5 #[.int .i64 n, .int .i64 b] w fun e w' => e = .returned (.tuple #[spt z q, .nilIface]) ∧ Below w.heap.size w w') ∧
    (∀ w, Calls Try.prog 6 #[.int .i64 n, spt z q] w fun e w' => e = .returned (.tuple #[.int .i64 b, .nilIface]) ∧ Below w.heap.size w w') ∧
    (∀ w, Calls Try.prog 7 #[.int .i64 n, spt z q] w fun e w' => e = .returned (.tuple #[.int .i64 i, .nilIface]) ∧ Below w.heap.size w w') := by
  have hm0 : 0 < n - 2 := by omega
  have hq : b / (n - 2) < 20 := (Nat.div_lt_iff_lt_mul hm0).2 hb
  have hr : b % (n - 2) < n - 2 := Nat.mod_lt _ hm0
  have hz := ord_lt (n := n) (r := b / (n - 2)) (i := b % (n - 2)) h1
  have hpo := pos_ord (n := n) (r := b / (n - 2)) (i := b % (n - 2)) h1 h2 (by omega)
  refine ⟨ord n (b / (n - 2)) (b % (n - 2)), ((b / (n - 2) : Nat) : Int), ((b % (n - 2) : Nat) : Int), Int.natCast_nonneg _, Int.ofNat_lt.2 (by omega), by rw [Int.natCast_emod, Int.natCast_sub (by omega)]; rfl, data_ok n b h1 h2 hb, fun w => ?_, fun w => ?_⟩
  · have := block_ok n _ (b / (n - 2)) h1 h2 hz hq (by rw [hpo]; exact hr) w
    rw [hpo, Nat.div_add_mod'] at this
    exact this
  · have := role_ok n _ (b / (n - 2)) h1 h2 hz hq w
    rw [hpo, show rol n (b % (n - 2)) = ((b % (n - 2) : Nat) : Int) by unfold rol; rw [if_neg (by omega), if_neg (by omega)]] at this
    exact this
set_option maxRecDepth 100000 in
set_option maxHeartbeats 2000000 in
theorem each_bb (n b r : Int) (hb : b ≤ 9223372036854775807) (h1 : dbd n b ≠ 0) (h2 : obd n r ≠ 0) (w : World) :
    Calls Try.prog 3 #[.int .i64 n, .int .i64 b, .int .i64 r] w fun e w' => e = .returned (.bool true) ∧ Below w.heap.size w w' := by
  have D := data_bad n b hb h1
  have O := order_bad n r h2
  clear h1 h2
  go_enter Try.func3, Try.ntmps3
  go_wp2_with fail
  refine (order3 _).mono ?_
  rintro e w1 ⟨g3, cap3, rfl, k1, k2, c0, c1, c2, hB1⟩
  go_wp2_with fail
  clear c0 c1 c2 k1 k2
  refine (D _).mono ?_
  rintro e w2 ⟨rfl, hB2⟩
  have hB3 := hB1.trans (hB2.mono hB1.size)
  have hB4 := fun o => hB3.alloc hB3.size o
  clear hB1 hB2 hB3 D
  go_wp2_with fail
  refine (O _).mono ?_
  rintro e w3 ⟨rfl, hw⟩
  obtain rfl := hw.symm
  clear O
  go_wp2
  go_ret
  exact ⟨rfl, hB4 _⟩
set_option maxRecDepth 100000 in
set_option maxHeartbeats 2000000 in
theorem each_ob (n b : Nat) (r : Int) (h1 : 3 ≤ n) (h2 : n ≤ 10) (hb : b < 20 * (n - 2)) (h3 : obd n r ≠ 0) (w : World) :
    Calls Try.prog 3 #[.int .i64 n, .int .i64 b, .int .i64 r] w fun e w' => e = .returned (.bool true) ∧ Below w.heap.size w w' := by
  obtain ⟨z, q, i, i1, i2, hi, D, K, L⟩ := data_back n b h1 h2 hb
  have O := order_bad n r h3
  clear h3
  obtain ⟨c, hs⟩ : ∃ c : Int, (n : Int) - 2 = c := ⟨_, rfl⟩
  rw [hs] at hi
  have hz0 : (c == 0) = false := by rw [beq_eq_false_iff_ne]; omega
  subst hi
  go_enter Try.func3, Try.ntmps3
  go_wp2_with fail
  refine (order3 _).mono ?_
  rintro e w1 ⟨g3, cap3, rfl, k1, k2, c0, c1, c2, hB1⟩
  go_wp2_with fail
  clear c0 c1 c2 k1 k2
  refine (D _).mono ?_
  rintro e w2 ⟨rfl, hB2⟩
  have hB3 := hB1.trans (hB2.mono hB1.size)
  have hB4 := fun o => hB3.alloc hB3.size o
  clear hB1 hB2 hB3 D
  go_wp2_with fail
  refine (K _).mono ?_
  rintro e w3 ⟨rfl, hB3⟩
  have d0 : w3.cell? ⟨w2.heap.size, 0, none⟩ = some (.int .i64 z) := by rw [hB3.cell (p := ⟨w2.heap.size, 0, none⟩) (by simp)]; simp
  have d1 : w3.cell? ⟨w2.heap.size, 1, none⟩ = some (.int .i64 q) := by rw [hB3.cell (p := ⟨w2.heap.size, 1, none⟩) (by simp)]; simp
  have hB5 := (hB4 _).trans (hB3.mono (hB4 _).size)
  clear hB3 hB4 K
  go_wp2_with fail
  refine (L _).mono ?_
  rintro e w4 ⟨rfl, hB6⟩
  have hB7 := hB5.trans (hB6.mono hB5.size)
  clear hB5 hB6 L d0 d1
  go_wp2_with fail
  refine (O _).mono ?_
  rintro e w5 ⟨rfl, hw⟩
  obtain rfl := hw.symm
  clear O
  go_wp2
  go_ret
  exact ⟨rfl, hB7⟩
end Go.Proofs.Ytmeihdjcifhcpaa
