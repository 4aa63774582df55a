/- What wire.cut answers: parts of so many bytes: a walk over the program. -/
import Derived.Test.YtdbanimlnjhhlaaDoorWrC
import Derived.Test.YtdbanimlnjhhlaaDoorWrD
import Derived.Test.YtdbanimlnjhhlaaDoorOwTx
import Derived.Test.YtdbanimlnjhhlaaDoorCloT
namespace Go.Proofs.YtdbanimlnjhhlaaDoor
open Go.RowKit El Pol
/-- the i-th of parts of z bytes -/
def wct (z : Nat) (xs : List El) (i : Nat) : List El := (xs.drop (i * z)).take z
theorem wct_ext (z : Nat) (xs : List El) (i : Nat) : (sb xs).extract (i * z) ((i + 1) * z) = sb (wct z xs i) := by
  rw [sb_extract, wct, List.drop_take, Nat.add_mul, Nat.one_mul, Nat.add_sub_cancel_left]
set_option maxHeartbeats 2000000 in
theorem cut_any (xs : List El) (c z : Nat) (w : World) (hl : xs.length = c * z) (hc : c ≤ 255) (hz : z ≤ 255) :
    Calls Tryd.prog 45 #[st xs, .int .i64 (c : Int), .int .i64 (z : Int)] w fun e w' => ∃ u, e = .returned u ∧ OwT w.heap.size w' u c (wct z xs) ∧ Below w.heap.size w w' := by
  obtain ⟨j0, hj, hy0, hy1, hy2⟩ := info_parts infoT
  have hs := sb_size xs
  rw [hl] at hs
  have HX : Hid (∀ i, (sb xs).extract (i * z) ((i + 1) * z) = sb (wct z xs i)) := wct_ext z xs
  have hcz : c * z ≤ 65025 := Nat.mul_le_mul hc hz
  unfold st
  generalize sb xs = t at *
  go_enter Tryd.func45, Tryd.ntmps45
  go_wp2
  go_loopw [7, 10] (fun o q wr => ∃ k : Nat, k ≤ c ∧ q = .int .i64 k ∧ OwT w.heap.size wr o k (wct z xs) ∧ Below w.heap.size w wr) (fun _ q _ => c - (intOf q).toNat)
  case atStart => exact ⟨0, Nat.zero_le _, rfl, World.ownsRow_nil _ _ _ _, Below.refl _ _⟩
  case round =>
    obtain ⟨k, hk, rfl, hO, hB⟩ := hrel
    obtain ⟨a1, c1, rfl⟩ := OwT.len hO
    have hsz := hB.size
    by_cases hlt : k < c
    · have g1 : (k + 1) * z ≤ c * z := Nat.mul_le_mul_right _ (by omega)
      have g2 : (k + 1) * z = k * z + z := by rw [Nat.add_mul, Nat.one_mul]
      have m1 : (k : Int) * (z : Int) = ((k * z : Nat) : Int) := by simp
      have m2 : ((k : Int) + 1) * (z : Int) = (((k + 1) * z : Nat) : Int) := by simp
      have hx := HX.out k
      obtain ⟨lo, hlo⟩ : ∃ lo, lo = k * z := ⟨_, rfl⟩
      obtain ⟨hi, hhi⟩ : ∃ hi, hi = (k + 1) * z := ⟨_, rfl⟩
      obtain ⟨cz, hcz'⟩ : ∃ cz, cz = c * z := ⟨_, rfl⟩
      rw [← hlo] at g2 m1 hx
      rw [← hhi] at g1 g2 m2 hx
      rw [← hcz'] at g1 hs hcz
      have hle : lo ≤ hi := by omega
      have hhs : hi ≤ t.size := by omega
      have hes : (t.extract lo hi).size ≤ 140737488355328 := by rw [ByteArray.size_extract]; omega
      have C := clone_any (t.extract lo hi) wr hes
      have HXX : Hid (t.extract lo hi = sb (wct z xs k)) := hx
      clear hx hlo hhi hcz' hes
      have i1 : (lo : Int) ≤ (hi : Int) := by omega
      have i2 : (hi : Int) ≤ (t.size : Int) := by omega
      clear g1 g2
      go_wp2_with fail
      refine C.mono ?_
      rintro e w2 ⟨rfl, hB2⟩
      have hO2 : w2.ownsRow w.heap.size 9 1 (.slice a1 k c1) k ((List.range k).map (fun i => st (wct z xs i))) := ownsRow_old hO hB2
      have hB2' : Below w.heap.size w w2 := hB.trans (hB2.mono hsz)
      have hsz2 := hB2'.size
      have hll : ((List.range k).map (fun i => st (wct z xs i))).length = k := by simp
      clear C hO hB hB2 i1 i2 m1 m2
      generalize t.extract lo hi = s at *
      obtain ⟨ys, hys⟩ : ∃ ys, ys = (List.range k).map (fun i => st (wct z xs i)) := ⟨_, rfl⟩
      have HYS : Hid (ys = (List.range k).map (fun i => st (wct z xs i))) := hys
      rw [← hys] at hO2 hll
      clear hys
      go_wp2_with (first | (at_builtin; refine wpList_append_own _ rfl _ _ 33 rfl w.heap.size 9 j0 (.string ⟨#[]⟩) 1 16 Tryd.underlying33 hj hy0 hy1 hy2 rfl (by decide) _ _ _ rfl (World.ownsRow.alloc hO2 _) ⟨w2.heap.size, 0, none⟩ 1 1 [.string s] rfl rfl (one_cell _) (by intro u hu; simp at hu; subst hu; rfl) (by unfold maxLen; omega) (by omega) (by simp; omega) ?_))
      intro v' w3 hown hgrow _
      have HO3 : Hid (OwT w.heap.size w3 v' (k + 1) (wct z xs)) := by
        rw [HYS.out] at hown
        exact OwT.snoc hown (by rw [HXX.out])
      have hB3 : Below w.heap.size w w3 := (hB2'.alloc hsz2 _).grown hgrow (by simp; omega) (fun g hg => (World.ownsRow.lt hO2 g hg).1)
      clear hown hgrow hO2 hB2' HYS HXX
      go_wp2
      go_roundw
      case rel => exact ⟨k + 1, by omega, by go_num, HO3.out, hB3⟩
      case measure => simp [intOf]; omega
    · have e : k = c := by omega
      have HO : Hid (OwT w.heap.size wr (.slice a1 k c1) c (wct z xs)) := by
        have h2 := hO
        rw [e] at h2
        rw [e]
        exact h2
      have hkc : ¬ (k : Int) < (c : Int) := by omega
      clear hO e
      go_wp2
      go_ret
      exact ⟨_, rfl, HO.out, hB⟩
end Go.Proofs.YtdbanimlnjhhlaaDoor
