/- Lists of writes, and what copied answers: walks over the program. -/
import Derived.Test.YtdbanimlnjhhlaaDoorRoA
import Derived.Test.YtdbanimlnjhhlaaDoorOwTx
import Derived.Test.YtdbanimlnjhhlaaDoorCloT
import Derived.Test.YtdbanimlnjhhlaaDoorErrv
import Derived.Test.YtdbanimlnjhhlaaDoorFoot
namespace Go.Proofs.YtdbanimlnjhhlaaDoor
open Go.RowKit El Pol
/-- the slice v reads as the writes l -/
def wat (l : List Wr) (i : Nat) : Wr := l.getD i (0, [])
def RdW (w : World) (v : Value) (l : List Wr) : Prop :=
  (v = .slice none 0 0 ∧ l = []) ∨
  ∃ ad cap, v = .slice (some ad) l.length cap ∧ l.length ≤ cap ∧ cap ≤ 9223372036854775807 ∧ ∀ i, i < l.length → w.cell? (ad.add (i * 2)) = some (.int .i64 (wat l i).1) ∧ w.cell? ((ad.add (i * 2)).add 1) = some (st (wat l i).2)
theorem RdW.old {w w' : World} {v : Value} {l : List Wr} (h : RdW w v l) (hb : Below w.heap.size w w') : RdW w' v l := by
  rcases h with h | ⟨ad, cap, rfl, h1, h2, h3⟩
  · exact .inl h
  · refine .inr ⟨ad, cap, rfl, h1, h2, fun i hi => ?_⟩
    have hc := h3 i hi
    rw [hb.cell (World.block_lt_of_cell? w _ hc.1), hb.cell (World.block_lt_of_cell? w _ hc.2)]
    exact hc
theorem RdW.but {F : Nat → Prop} {w w' : World} {v : Value} {l : List Wr} (h : RdW w v l) (hb : But F w w') (hn : ∀ k, v.ownBlock = some k → ¬ F k) : RdW w' v l := by
  rcases h with h | ⟨ad, cap, rfl, h1, h2, h3⟩
  · exact .inl h
  · refine .inr ⟨ad, cap, rfl, h1, h2, fun i hi => ?_⟩
    have hc := h3 i hi
    have e1 : ¬ F (ad.add (i * 2)).block := by rw [add_block]; exact hn _ rfl
    have e2 : ¬ F ((ad.add (i * 2)).add 1).block := by rw [add_block, add_block]; exact hn _ rfl
    rw [hb.cell (World.block_lt_of_cell? w _ hc.1) e1, hb.cell (World.block_lt_of_cell? w _ hc.2) e2]
    exact hc
theorem RdW.len {w : World} {v : Value} {l : List Wr} (h : RdW w v l) : ∃ ao cap, v = .slice ao l.length cap ∧ l.length ≤ cap ∧ cap ≤ 9223372036854775807 := by
  rcases h with ⟨rfl, rfl⟩ | ⟨ad, cap, rfl, h1, h2, _⟩
  · exact ⟨none, 0, rfl, Nat.le_refl _, by omega⟩
  · exact ⟨some ad, cap, rfl, h1, h2⟩
theorem RdW.at {w : World} {ao : Option Addr} {n cap : Nat} {l : List Wr} (h : RdW w (.slice ao n cap) l) (i : Nat) (hi : i < l.length) :
    ∃ ad, ao = some ad ∧ w.cell? (ad.add (i * 2)) = some (.int .i64 (wat l i).1) ∧ w.cell? ((ad.add (i * 2)).add 1) = some (st (wat l i).2) := by
  rcases h with ⟨_, rfl⟩ | ⟨ad, cap', he, _, _, h3⟩
  · exact absurd hi (Nat.not_lt_zero _)
  · simp only [Value.slice.injEq] at he
    obtain ⟨rfl, _, rfl⟩ := he
    exact ⟨ad, rfl, h3 i hi⟩
set_option maxHeartbeats 1000000 in
/-- copied: the same texts, the call's own -/
theorem copied_any (v : Value) (n : Nat) (f : Nat → List El) (w : World) (hr : RdT w v n f) (hn : n ≤ 1000) (hs : ∀ i, i < n → (f i).length ≤ 100000) :
    Calls Tryd.prog 57 #[v] w fun e w' => ∃ u, e = .returned u ∧ OwT w.heap.size w' u n f ∧ Below w.heap.size w w' := by
  obtain ⟨j0, hj, hy0, hy1, hy2⟩ := info_parts infoT
  obtain ⟨ao, cap, rfl, _, _⟩ := hr.len
  have HR : Hid (RdT w (.slice ao n cap) n f) := hr
  have HS : Hid (∀ i, i < n → (f i).length ≤ 100000) := hs
  clear hr hs
  go_enter Tryd.func57, Tryd.ntmps57
  go_wp2
  go_loopw [3, 8] (fun o c wr => ∃ k : Nat, k ≤ n ∧ c = .int .i64 k ∧ OwT w.heap.size wr o k f ∧ Below w.heap.size w wr) (fun _ c _ => n - (intOf c).toNat)
  case atStart => exact ⟨0, Nat.zero_le _, rfl, World.ownsRow_nil _ _ _ _, Below.refl _ _⟩
  case round =>
    obtain ⟨k, hk, rfl, hO, hB⟩ := hrel
    obtain ⟨a1, c1, rfl⟩ := OwT.len hO
    have hsz := hB.size
    by_cases hlt : k < n
    · obtain ⟨ad, rfl, hc⟩ := (HR.out.old hB).at k hlt
      have hl := HS.out k hlt
      have C := clone_any (sb (f k)) wr (by rw [sb_size]; omega)
      have HF : Hid (∀ x, x = sb (f k) → Value.string x = st (f k)) := fun x hx => by rw [hx]
      have HE : Hid (sb (f k) = sb (f k)) := rfl
      unfold st at hc
      obtain ⟨s, hs⟩ : ∃ s, s = sb (f k) := ⟨_, rfl⟩
      have HSs : Hid (s = sb (f k)) := hs
      rw [← hs] at C hc
      clear hs
      go_wp2_with fail
      refine C.mono ?_
      rintro e w2 ⟨rfl, hB2⟩
      have hO2 : w2.ownsRow w.heap.size 9 1 (.slice a1 k c1) k ((List.range k).map (fun i => st (f i))) := ownsRow_old hO hB2
      have hB2' : Below w.heap.size w w2 := hB.trans (hB2.mono hsz)
      have hsz2 := hB2'.size
      have hll : ((List.range k).map (fun i => st (f i))).length = k := by simp
      clear C hO hB hB2
      obtain ⟨xs, hxs⟩ : ∃ xs, xs = (List.range k).map (fun i => st (f i)) := ⟨_, rfl⟩
      have HXS : Hid (xs = (List.range k).map (fun i => st (f i))) := hxs
      rw [← hxs] at hO2 hll
      clear hxs
      go_wp2_with (first | (at_builtin; refine wpList_append_own _ rfl _ _ 33 rfl w.heap.size 9 j0 (.string ⟨#[]⟩) 1 16 Tryd.underlying33 hj hy0 hy1 hy2 rfl (by decide) _ _ _ rfl (World.ownsRow.alloc hO2 _) ⟨w2.heap.size, 0, none⟩ 1 1 [.string s] rfl rfl (one_cell _) (by intro u hu; simp at hu; subst hu; rfl) (by unfold maxLen; omega) (by omega) (by simp; omega) ?_))
      intro v' w3 hown hgrow _
      have HO3 : Hid (OwT w.heap.size w3 v' (k + 1) f) := by
        rw [HXS.out] at hown
        exact OwT.snoc hown (by rw [HSs.out])
      have hB3 : Below w.heap.size w w3 := (hB2'.alloc hsz2 _).grown hgrow (by simp; omega) (fun g hg => (World.ownsRow.lt hO2 g hg).1)
      clear hown hgrow hO2 hB2' HXS HSs HF HE
      go_wp2
      go_roundw
      case rel => exact ⟨k + 1, by omega, by go_num, HO3.out, hB3⟩
      case measure => simp [intOf]; omega
    · have e : k = n := by omega
      have HO : Hid (OwT w.heap.size wr (.slice a1 k c1) n f) := by
        have h2 := hO
        rw [e] at h2
        rw [e]
        exact h2
      clear hO e
      go_wp2
      go_ret
      exact ⟨_, rfl, HO.out, hB⟩
end Go.Proofs.YtdbanimlnjhhlaaDoor
