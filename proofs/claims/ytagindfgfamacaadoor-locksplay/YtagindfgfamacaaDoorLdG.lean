/- The document's Free, in one form; two lists of locks are the same: walks over the program. -/
import Derived.Test.YtagindfgfamacaaDoorLdF
namespace Go.Proofs.YtagindfgfamacaaDoor
open Go.RowKit
theorem dfree_any {B : Nat} {w : World} {x : LP} {t : Lks} (h : IsK 50 B w x t) (hn : t.many ≤ 30) (hB : B ≤ w.heap.size) (z : Int) :
    Calls Tryd.prog 20 #[.pointer (some ⟨x.p, 0, none⟩), .int .i64 z] w fun e w' => ∃ (x' : LP) (u : Value), x'.p = x.p ∧ e = .returned (.tuple #[u, .int .i64 ((t.freeE z : Nat) : Int)]) ∧ OwZ w.heap.size w' u (t.freeW z) ∧ IsK 50 B w' x' (t.free z) ∧ But x.F w w' ∧ Grows x.F x'.F w := by
  by_cases hz : t.freeE z = 0
  · rw [hz]
    exact dfree_some h hn hB z hz
  · have e5 : t.freeE z = 5 := by
      unfold Lks.freeE at hz ⊢
      split at hz
      · omega
      · rename_i q; rw [if_neg q]
    have e1 : t.free z = t := by unfold Lks.free; rw [if_neg hz]
    have e2 : t.freeW z = [] := by unfold Lks.freeW; rw [if_neg hz]
    refine (dfree_none h hn z hz).mono ?_
    rintro e w' ⟨rfl, rfl⟩
    exact ⟨x, .slice none 0 0, rfl, by rw [e5]; rfl, by rw [e2]; exact OwZ.nil _ _, by rw [e1]; exact h, But.refl _ _, Grows.refl _ _⟩
set_option maxRecDepth 100000 in
set_option maxHeartbeats 1000000 in
theorem locks_same (u v : Value) (l : List Lk) (w : World) (hl : l.length ≤ 1000) (hu : RdLk w u l) (hv : RdLk w v l) :
    Calls Tryd.prog 25 #[u, v] w fun e w' => e = .returned (.bool true) ∧ Below w.heap.size w w' := by
  have HU : Hid (RdLk w u l) := hu
  have HV : Hid (RdLk w v l) := hv
  obtain ⟨a1, c1, rfl, h1, h2⟩ := hu.len
  obtain ⟨a2, c2, rfl, h3, h4⟩ := hv.len
  clear hu hv h1 h2 h3 h4
  obtain ⟨n, hn⟩ : ∃ n, l.length = n := ⟨_, rfl⟩
  have HN : Hid (l.length = n) := hn
  rw [hn] at hl HU HV ⊢
  clear hn
  go_enter Tryd.func25, Tryd.ntmps25
  go_wp2
  go_loopw [5] (fun t wr => ∃ k : Nat, k ≤ n ∧ t = .int .i64 k ∧ Below w.heap.size w wr) (fun t _ => n - (intOf t).toNat)
  case atStart => exact ⟨0, Nat.zero_le _, rfl, Below.refl _ _⟩
  case round =>
    obtain ⟨k, hk, rfl, hB⟩ := hrel
    by_cases hlt : k < n
    · obtain ⟨ad1, rfl, g0, g1, g2, g3⟩ := (HU.out.old hB).at k (by rw [HN.out]; exact hlt)
      obtain ⟨ad2, rfl, h0, h1, h2, h3⟩ := (HV.out.old hB).at k (by rw [HN.out]; exact hlt)
      generalize (lka l k).who = y0 at *
      generalize (lka l k).fr = y1 at *
      generalize (lka l k).to = y2 at *
      generalize (lka l k).al = y3 at *
      go_wp2
      go_quiet (fail)
      have hB2 := below_drewN hB nq
      clear hB g0 g1 g2 g3 h0 h1 h2 h3
      go_wp2
      go_roundw
      case rel => exact ⟨k + 1, by omega, by go_num, hB2⟩
      case measure => simp [intOf]; omega
    · go_wp2
      go_ret
      exact ⟨rfl, hB⟩
end Go.Proofs.YtagindfgfamacaaDoor
