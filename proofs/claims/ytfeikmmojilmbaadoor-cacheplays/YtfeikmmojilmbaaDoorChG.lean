/- A cache: New, Below: walks over the program. -/
import Derived.Test.YtfeikmmojilmbaaDoorChF
namespace Go.Proofs.YtfeikmmojilmbaaDoor
open Go.RowKit Go.Maps El Pol
variable {B : Nat} {w : World} {x : CP} {c : Che} {N : Nat}
set_option maxHeartbeats 1000000 in
theorem cbelows_any (h : MC B w x c N) :
    Calls Tryd.prog 20 #[.pointer (some ⟨x.p, 0, none⟩)] w fun e w' => ∃ u, e = .returned u ∧ OwT w.heap.size w' u c.n c.below ∧ Below w.heap.size w w' := by
  obtain ⟨us, si, T, hM, _⟩ := h.is
  obtain ⟨j0, hj, hy0, hy1, hy2⟩ := info_parts infoT
  have c0 := hM.c0
  have hn40 := h.ok.n40
  obtain ⟨ao, cap, hvb⟩ := OwT.len hM.bl
  rw [hvb] at c0
  have HR : Hid (RdT w (.slice ao c.n cap) c.n c.below) := by have := OwT.rd hM.bl; rw [hvb] at this; exact this
  have HS : Hid (∀ i, i < c.n → (c.below i).length ≤ 16) := h.ok.sb
  clear h hM hvb
  generalize c.below = f at *
  generalize c.n = n at *
  go_enter Tryd.func20, Tryd.ntmps20
  go_wp2
  go_loopw [3, 11] (fun o c wr => ∃ k : Nat, k ≤ n ∧ c = .int .i64 k ∧ OwT w.heap.size wr o k f ∧ Below w.heap.size w wr) (fun _ c _ => n - (intOf c).toNat)
  case atStart => exact ⟨0, Nat.zero_le _, rfl, World.ownsRow_nil _ _ _ _, Below.refl _ _⟩
  case round =>
    clear c0
    obtain ⟨k, hk, rfl, hO, hB⟩ := hrel
    obtain ⟨a1, c1, rfl⟩ := OwT.len hO
    have hsz := hB.size
    by_cases hlt : k < n
    · obtain ⟨ad, rfl, hc⟩ := (HR.out.old hB).at k hlt
      have hl := HS.out k hlt
      have C := clone_any (sb (f k)) wr (by rw [sb_size]; omega)
      unfold st at hc
      obtain ⟨s, hs⟩ : ∃ s, s = sb (f k) := ⟨_, rfl⟩
      have HSs : Hid (s = sb (f k)) := hs
      rw [← hs] at C hc
      clear hs
      go_wp2_with fail
      refine C.mono ?_
      rintro e w2 ⟨rfl, hB2⟩
      have hO2 : w2.ownsRow w.heap.size 9 1 (.slice a1 k c1) k ((List.range k).map (fun i => st (f i))) := ownsRow_old hO hB2
      have hB2' : Below w.heap.size w w2 := hB.trans (hB2.mono hsz)
      have hsz2 := hB2'.size
      have hll : ((List.range k).map (fun i => st (f i))).length = k := by simp
      clear C hO hB hB2
      obtain ⟨xs, hxs⟩ : ∃ xs, xs = (List.range k).map (fun i => st (f i)) := ⟨_, rfl⟩
      have HXS : Hid (xs = (List.range k).map (fun i => st (f i))) := hxs
      rw [← hxs] at hO2 hll
      clear hxs
      go_wp2_with (first | (at_builtin; refine wpList_append_own _ rfl _ _ 22 rfl w.heap.size 9 j0 (.string ⟨#[]⟩) 1 16 Tryd.underlying22 hj hy0 hy1 hy2 rfl (by decide) _ _ _ rfl (World.ownsRow.alloc hO2 _) ⟨w2.heap.size, 0, none⟩ 1 1 [.string s] rfl rfl (one_cell _) (by intro u hu; simp at hu; subst hu; rfl) (by unfold maxLen; omega) (by omega) (by simp; omega) ?_))
      intro v' w3 hown hgrow _
      have HO3 : Hid (OwT w.heap.size w3 v' (k + 1) f) := by
        rw [HXS.out] at hown
        exact OwT.snoc hown (by rw [HSs.out])
      have hB3 : Below w.heap.size w w3 := (hB2'.alloc hsz2 _).grown hgrow (by simp; omega) (fun g hg => (World.ownsRow.lt hO2 g hg).1)
      clear hown hgrow hO2 hB2' HXS HSs
      go_wp2
      go_roundw
      case rel => exact ⟨k + 1, by omega, by go_num, HO3.out, hB3⟩
      case measure => simp [intOf]; omega
    · have e : k = n := by omega
      have HO : Hid (OwT w.heap.size wr (.slice a1 k c1) n f) := by
        have h2 := hO
        rw [e] at h2
        rw [e]
        exact h2
      clear hO e
      go_wp2
      go_ret
      exact ⟨_, rfl, HO.out, hB⟩
/-- what is wrong with a new one -/
def chE (n : Nat) (f : Nat → List El) (room : Int) : Nat := if cellsE n f ≠ 0 then cellsE n f else if room < 1 ∨ 12 < room then 1 else 0
theorem chE_ok {n : Nat} {f : Nat → List El} {room : Int} (h : chE n f room = 0) : cellsE n f = 0 ∧ ∃ r : Nat, room = r ∧ 1 ≤ r ∧ r ≤ 12 := by
  unfold chE at h
  split at h
  · rename_i q; exact absurd h q
  · rename_i q
    split at h
    · omega
    · rename_i z
      exact ⟨by omega, room.toNat, by omega, by omega, by omega⟩
set_option maxRecDepth 100000 in
set_option maxHeartbeats 1000000 in
theorem cnew_bad (v : Value) (n : Nat) (f : Nat → List El) (room : Int) (w : World) (hr : RdT w v n f) (he : chE n f room ≠ 0) :
    Calls Tryd.prog 6 #[v, .int .i64 room] w fun e w' => e = .returned (.tuple #[.pointer none, errV (chE n f room)]) ∧ Below w.heap.size w w' := by
  by_cases h1 : cellsE n f = 0
  · have h2 : room < 1 ∨ 12 < room := by
      unfold chE at he
      rw [if_neg (by omega)] at he
      by_cases q : room < 1 ∨ 12 < room
      · exact q
      · rw [if_neg q] at he; exact absurd rfl he
    have e1 : chE n f room = 1 := by unfold chE; rw [if_neg (by omega), if_pos h2]
    have C := rnew_ok v n f w hr h1
    obtain ⟨ao, cap, rfl, _, _⟩ := hr.len
    rw [e1, errV, if_neg (by omega)]
    clear hr he h1 e1
    by_cases h3 : room < 1
    · clear h2
      go_enter Tryd.func6, Tryd.ntmps6
      go_wp2_with fail
      refine C.mono ?_
      rintro e w1 ⟨y, rfl, _, hB⟩
      clear C
      go_wp2
      go_ret2
      exact ⟨rfl, hB⟩
    · have h4 : 12 < room := h2.resolve_left h3
      clear h2
      go_enter Tryd.func6, Tryd.ntmps6
      go_wp2_with fail
      refine C.mono ?_
      rintro e w1 ⟨y, rfl, _, hB⟩
      clear C
      go_wp2
      go_ret2
      exact ⟨rfl, hB⟩
  · have e1 : chE n f room = cellsE n f := by unfold chE; rw [if_pos h1]
    have C := rnew_bad v n f w hr h1
    obtain ⟨ao, cap, rfl, _, _⟩ := hr.len
    rw [e1]
    rw [errV, if_neg h1] at *
    generalize cellsE n f = k at *
    have hk : ¬ k = 0 := h1
    clear hr he h1 e1
    go_enter Tryd.func6, Tryd.ntmps6
    go_wp2_with fail
    refine C.mono ?_
    rintro e w1 ⟨rfl, hw⟩
    obtain rfl := hw.symm
    clear C hw
    go_wp2
    go_ret2
    exact ⟨rfl, Below.refl _ _⟩
set_option maxRecDepth 100000 in
set_option maxHeartbeats 1000000 in
theorem cnew_ok (v : Value) (n : Nat) (f : Nat → List El) (r : Nat) (w : World) (hr : RdT w v n f) (he : cellsE n f = 0) (h1 : 1 ≤ r) (h12 : r ≤ 12) :
    Calls Tryd.prog 6 #[v, .int .i64 (r : Int)] w fun e w' => ∃ x : CP, e = .returned (.tuple #[.pointer (some ⟨x.p, 0, none⟩), .nilIface]) ∧ MC w.heap.size w' x (Che.fresh n f r) 0 ∧ Below w.heap.size w w' := by
  have C := rnew_ok v n f w hr he
  obtain ⟨hn, hs⟩ := cellsE_ok he
  obtain ⟨ao, cap, rfl, _, _⟩ := hr.len
  have hz1 : ¬ (r : Int) < 1 := by omega
  have hz2 : ¬ (12 : Int) < (r : Int) := by omega
  have HO : Hid (Che.fresh n f r).ok := Che.fresh_ok hn hs h1 h12
  have HRo : Hid (Rdo.fresh n f).ok := Rdo.fresh_ok hn hs
  have hmm := @run_makeMap Tryd.prog
  clear hr he hs
  go_enter Tryd.func6, Tryd.ntmps6
  go_wp2_with fail
  refine C.mono ?_
  rintro e w1 ⟨y, rfl, hY, hB1⟩
  have A := rall_any hY HRo.out
  have HB1 : Hid (Below w.heap.size w w1) := hB1
  clear C hY hB1
  go_wp2_with fail
  refine A.mono ?_
  rintro e w2 ⟨u, rfl, hO2, hB2⟩
  have HO2 : Hid (OwT w1.heap.size w2 u n f) := hO2
  have HB2 : Hid (Below w.heap.size w w2) := HB1.out.trans (hB2.mono HB1.out.size)
  have HS1 : Hid (w.heap.size ≤ w1.heap.size) := HB1.out.size
  obtain ⟨a2, k2, rfl⟩ := OwT.len hO2
  clear A hO2 hB2 HB1
  go_wp2
  go_ret2
  have hB3 : Below w2.heap.size w2 ((w2.alloc (.map #[] 0)).alloc (.cells #[.slice a2 n k2, .int .i64 (r : Int), .map (some w2.heap.size), .int .i64 0, .int .i64 0] 81)) := (al_below _ _).alloc (by simp) _
  have hsz : (w2.alloc (.map #[] 0)).heap.size = w2.heap.size + 1 := by simp
  have hs2 := HB2.out.size
  refine ⟨⟨w2.heap.size + 1, .slice a2 n k2, w2.heap.size⟩, rfl, ⟨⟨fun _ => 0, fun _ => 0, 0, ⟨?_, OwT.base (ownsRow_old HO2.out hB3) HS1.out, ⟨_, (HasH.new w2 _).old (al_below _ _)⟩, Tns.fresh n f r, by show w.heap.size ≤ w2.heap.size + 1; omega, by show w.heap.size ≤ w2.heap.size; omega⟩, Nat.le_refl _⟩, HO.out, Nat.le_refl _⟩, HB2.out.trans (hB3.mono hs2)⟩
  show ((w2.alloc (.map #[] 0)).alloc (.cells #[.slice a2 n k2, .int .i64 (r : Int), .map (some w2.heap.size), .int .i64 0, .int .i64 0] 81)).heap[w2.heap.size + 1]? = _
  rw [← hsz]
  exact heap_alloc_new _ _
end Go.Proofs.YtfeikmmojilmbaaDoor
