/- Whether a stripe loses too much: walks over the program. -/
import Derived.Test.YtfnbpljgmchhbaaOdS
namespace Go.Proofs.Ytfnbpljgmchhbaa
open Go.RowKit
theorem lose1_any (s h1 h2 : Nat) (f par : Nat) (w : World) (hs : s < 1024) (hf : f < 1024) (c1 : w.cell? ⟨h1, 0, none⟩ = some (.int .u64 (f : Int))) (c2 : w.cell? ⟨h2, 0, none⟩ = some (.int .i64 (par : Int))) :
    Calls Try.prog 57 #[.int .u64 (s : Int), .pointer (some ⟨h1, 0, none⟩), .pointer (some ⟨h2, 0, none⟩)] w fun e w' => e = .returned (.bool (decide (par < szs 10 (s &&& f)))) ∧ ∃ q, w' = w.drewN q := by
  have y1 : bits BinOp.and IntKind.u64 (s : Int) (f : Int) = ((s &&& f : Nat) : Int) := bits_and_u64_nat _ _ (by omega) (by omega)
  have C : ∀ n, Calls Try.prog 34 #[.int .u64 ((s &&& f : Nat) : Int)] (w.drewN n) fun e w' => e = .returned (.int .i64 (szs 10 (s &&& f) : Int)) ∧ w' = w.drewN n := fun n => ones_any _ (and_lt hs) _
  clear hs hf
  generalize (s &&& f) = z at *
  generalize szs 10 z = y at *
  go_enter Try.func57, Try.ntmps57
  go_wp2_with fail
  go_quiet ((go_at_call 34; exact Calls.quiet_of_same (C _)))
  go_wp2
  go_ret
  exact ⟨rfl, _, rfl⟩
section
variable {g m f par h1 h2 : Nat} {S : Nat → Nat} {w : World}
abbrev loseF (h1 h2 : Nat) : Value := .func (.func 57) #[] #[.pointer (some ⟨h1, 0, none⟩), .pointer (some ⟨h2, 0, none⟩)]
set_option maxRecDepth 100000 in
set_option maxHeartbeats 1000000 in
theorem loseIndex_any (hr : RowAt w g m (fun i => .int .u64 (S i : Int))) (hS : ∀ i, i < m → S i < 1024) (hf : f < 1024) (hm : m ≤ 40) (c1 : w.cell? ⟨h1, 0, none⟩ = some (.int .u64 (f : Int))) (c2 : w.cell? ⟨h2, 0, none⟩ = some (.int .i64 (par : Int))) :
    Calls Try.prog 78 #[.slice (some ⟨g, 0, none⟩) m m, loseF h1 h2] w fun e w' => ∃ z, e = .returned (.int .i64 z) ∧ Fst (fun i => decide (par < szs 10 (S i &&& f))) m z ∧ ∃ q, w' = w.drewN q := by
  have HR : Hid (RowAt w g m (fun i => .int .u64 (S i : Int))) := hr
  have HS : Hid (∀ i, i < m → S i < 1024) := hS
  have HC : Hid (w.cell? ⟨h1, 0, none⟩ = some (.int .u64 (f : Int)) ∧ w.cell? ⟨h2, 0, none⟩ = some (.int .i64 (par : Int))) := ⟨c1, c2⟩
  clear hr hS c1 c2
  go_enter Try.func78, Try.ntmps78
  go_wp2
  go_loopw [8] (fun t wr => ∃ k : Nat, k ≤ m ∧ t = .int .i64 k ∧ Hid (∀ i, i < k → decide (par < szs 10 (S i &&& f)) = false) ∧ ∃ q, wr = w.drewN q) (fun t _ => m - (intOf t).toNat)
  case atStart => exact ⟨0, Nat.zero_le _, rfl, fun i hi => absurd hi (Nat.not_lt_zero _), 0, rfl⟩
  case round =>
    obtain ⟨k, hk, rfl, HF, q, rfl⟩ := hrel
    by_cases hlt : k < m
    · have hck := ((HR.out.old (below_drewN (Below.refl _ _) q)).2 k hlt).1
      have C := lose1_any (S k) h1 h2 f par (w.drewN q) (HS.out k hlt) hf HC.out.1 HC.out.2
      obtain ⟨b, hb⟩ : ∃ b, b = decide (par < szs 10 (S k &&& f)) := ⟨_, rfl⟩
      rw [← hb] at C
      have HB : Hid (b = decide (par < szs 10 (S k &&& f))) := hb
      dsimp only at hck
      obtain ⟨y, hy⟩ : ∃ y, y = S k := ⟨_, rfl⟩
      rw [← hy] at C hck
      clear hb hy
      cases b
      all_goals
        go_wp2_with fail
        refine C.mono ?_
        rintro e w1 ⟨rfl, q2, rfl⟩
        clear C
        go_wp2
      · go_roundw
        case rel => exact ⟨k + 1, by omega, by go_num, fun i hi => by
          by_cases e : i = k
          · rw [e]; exact HB.out.symm
          · exact HF.out i (by omega), ⟨_, rfl⟩⟩
        case measure => simp [intOf]; omega
      · go_ret
        exact ⟨_, rfl, .inr ⟨k, hlt, rfl, HB.out.symm⟩, ⟨_, rfl⟩⟩
    · go_wp2
      go_ret
      exact ⟨_, rfl, .inl ⟨rfl, fun i hi => HF.out i (by omega)⟩, q, rfl⟩
theorem loseContains_any (hr : RowAt w g m (fun i => .int .u64 (S i : Int))) (hS : ∀ i, i < m → S i < 1024) (hf : f < 1024) (hm : m ≤ 40) (c1 : w.cell? ⟨h1, 0, none⟩ = some (.int .u64 (f : Int))) (c2 : w.cell? ⟨h2, 0, none⟩ = some (.int .i64 (par : Int))) :
    Calls Try.prog 56 #[.slice (some ⟨g, 0, none⟩) m m, loseF h1 h2] w fun e w' => e = .returned (.bool (anyB (fun i => decide (par < szs 10 (S i &&& f))) m)) ∧ ∃ q, w' = w.drewN q := by
  have C := loseIndex_any hr hS hf hm c1 c2
  clear hr hS c1 c2
  go_enter Try.func56, Try.ntmps56
  go_wp2_with fail
  refine C.mono ?_
  rintro e w1 ⟨z, rfl, hz, hq⟩
  have HZ : Hid (decide (0 ≤ z) = anyB (fun i => decide (par < szs 10 (S i &&& f))) m) := hz.any
  have HQ : Hid (∃ q, w1 = w.drewN q) := hq
  clear C hz hq
  go_wp2
  go_ret
  exact ⟨by rw [← HZ.out]; rfl, HQ.out⟩
theorem lose_any (hr : RowAt w g m (fun i => .int .u64 (S i : Int))) (hS : ∀ i, i < m → S i < 1024) (hf : f < 1024) (hm : m ≤ 40) :
    Calls Try.prog 35 #[.slice (some ⟨g, 0, none⟩) m m, .int .u64 (f : Int), .int .i64 (par : Int)] w fun e w' => e = .returned (.bool (anyB (fun i => decide (par < szs 10 (S i &&& f))) m)) ∧ Below w.heap.size w w' := by
  have a1 : Below w.heap.size w (w.alloc (.cells #[.int .u64 (f : Int)] 69)) := al_below _ _
  have a2 := al_below (w.alloc (.cells #[.int .u64 (f : Int)] 69)) (.cells #[.int .i64 (par : Int)] 3)
  have hsz : (w.alloc (.cells #[.int .u64 (f : Int)] 69)).heap.size = w.heap.size + 1 := alloc_more _ _
  have c1 : ((w.alloc (.cells #[.int .u64 (f : Int)] 69)).alloc (.cells #[.int .i64 (par : Int)] 3)).cell? ⟨w.heap.size, 0, none⟩ = some (.int .u64 (f : Int)) := by
    rw [a2.cell (p := ⟨w.heap.size, 0, none⟩) (by (show w.heap.size < _); rw [hsz]; omega)]
    exact cell_new _ _ _
  have C := loseContains_any (h1 := w.heap.size) ((hr.old a1).old a2) hS hf hm c1 (cell_new _ (.int .i64 (par : Int)) 3)
  rw [hsz] at C
  have HB : Hid (Below w.heap.size w ((w.alloc (.cells #[.int .u64 (f : Int)] 69)).alloc (.cells #[.int .i64 (par : Int)] 3))) := a1.trans (a2.mono a1.size)
  clear hr hS hf hm a1 a2 c1 hsz
  generalize anyB (fun i => decide (par < szs 10 (S i &&& f))) m = b at *
  go_enter Try.func35, Try.ntmps35
  go_wp2_with fail
  refine C.mono ?_
  rintro e w1 ⟨rfl, q, rfl⟩
  have HB2 : Hid (Below w.heap.size w _) := below_drewN HB.out q
  clear C HB
  go_wp2
  go_ret
  exact ⟨rfl, HB2.out⟩
end
end Go.Proofs.Ytfnbpljgmchhbaa
