/- Lists of texts of the call's own in a row of the call's own, each in its block: what keeps them, and what one more text, or another one, makes of them. -/
import Derived.Test.YtdbanimlnjhhlaaDoorGrX
import Derived.Test.YtdbanimlnjhhlaaDoorGrC
import Derived.Deep.AppendLies
namespace Go.Proofs.YtdbanimlnjhhlaaDoor
open Go.RowKit El Pol
/-- n lists of texts: block q has them, rv i is the i-th -/
structure OTT (B : Nat) (w : World) (q cap n : Nat) (rv : Nat → Value) (L : Nat → Nat) (F : Nat → Nat → List El) : Prop where
  row : w.ownsRow B 33 1 (.slice (some ⟨q, 0, none⟩) n cap) n ((List.range n).map rv)
  each : ∀ i, i < n → OwT B w (rv i) (L i) (F i)
  apart : ∀ i j k, i < n → j < n → i ≠ j → (rv i).ownBlock = some k → (rv j).ownBlock ≠ some k
namespace OTT
variable {B : Nat} {w w' : World} {q cap n : Nat} {rv : Nat → Value} {L : Nat → Nat} {F : Nat → Nat → List El}
theorem rd (h : OTT B w q cap n rv L F) : RdTT w (.slice (some ⟨q, 0, none⟩) n cap) n L F := ⟨rv, OwL.rdM h.row, fun i hi => OwT.rd (h.each i hi)⟩
theorem qlt (h : OTT B w q cap n rv L F) : B ≤ q ∧ q < w.heap.size := World.ownsRow.lt h.row _ rfl
theorem old (h : OTT B w q cap n rv L F) (hb : Below w.heap.size w w') : OTT B w' q cap n rv L F := ⟨ownsRow_old h.row hb, fun i hi => ownsRow_old (h.each i hi) hb, h.apart⟩
theorem cell (h : OTT B w q cap n rv L F) {i : Nat} (hi : i < n) : w.cell? ⟨q, i, none⟩ = some (rv i) := by
  rw [World.ownsRow.cellAt h.row i (by omega)]
  exact range_map_at _ n i hi
theorem free (h : OTT B w q cap n rv L F) (i : Nat) : w.frozen? ⟨q, i, none⟩ = false := World.ownsRow.frozenAt h.row i
theorem vq (h : OTT B w q cap n rv L F) {i k : Nat} (hi : i < n) (hk : (rv i).ownBlock = some k) : k ≠ q := fun e => by
  subst e
  rcases h.row.2 with ⟨z, _⟩ | ⟨g, cp, cur, z, _, hg, _⟩
  · cases z
  · simp only [Value.slice.injEq, Option.some.injEq, Addr.mk.injEq, and_true, true_and] at z
    obtain ⟨rfl, _⟩ := z
    exact gr_type (h.each i hi) hk hg (by decide)
theorem congr (h : OTT B w q cap n rv L F) {F' : Nat → Nat → List El} {L' : Nat → Nat} (e1 : ∀ i, i < n → L i = L' i) (e : ∀ i r, i < n → r < L i → F i r = F' i r) : OTT B w q cap n rv L' F' :=
  ⟨h.row, fun i hi => by rw [← e1 i hi]; exact OwT.congr (h.each i hi) (fun r hr => e i r hi hr), h.apart⟩
/-- the i-th another one: it lies where it lay, or in new memory -/
theorem on (h : OTT B w q cap n rv L F) {i l : Nat} {f : Nat → List El} {u : Value} (hi : i < n) (hO : OwT B w' u l f) (hg : w.grownBy w' (rv i).ownBlock) (hl : ∀ k, u.ownBlock = some k → (rv i).ownBlock = some k ∨ w.heap.size ≤ k) :
    OTT B (w'.setCell ⟨q, i, none⟩ u) q cap n (up rv i u) (up L i l) (up F i f) ∧ Below B w (w'.setCell ⟨q, i, none⟩ u) := by
  have hrow : w'.ownsRow B 33 1 (.slice (some ⟨q, 0, none⟩) n cap) n ((List.range n).map rv) := World.ownsRow.kept h.row hg (.inr (fun e => h.vq hi e.symm rfl))
  have S := World.ownsRow.stored hrow i u
  rw [set_map_up] at S
  have hql := h.qlt
  refine ⟨⟨S.1, fun j hj => ?_, fun a b k ha hb hab e1 e2 => ?_⟩, ?_⟩
  · by_cases e : j = i
    · subst e
      rw [up_at, up_at, up_at]
      refine World.ownsRow.kept hO S.2 (.inr (fun z => ?_))
      rcases hl q z with k | k
      · exact h.vq hj k rfl
      · omega
    · rw [up_ne _ _ e, up_ne _ _ e, up_ne _ _ e]
      refine World.ownsRow.kept (World.ownsRow.kept (h.each j hj) hg ?_) S.2 (.inr (fun z => h.vq hj z rfl))
      rcases hq : (rv j).ownBlock with _ | k
      · exact .inl rfl
      · exact .inr (fun z => h.apart j i k hj hi e hq z.symm)
  · by_cases ea : a = i
    · have eb : b ≠ i := fun z => hab (by rw [ea, z])
      rw [ea, up_at] at e1
      rw [up_ne _ _ eb] at e2
      rcases hl k e1 with z | z
      · exact h.apart b i k hb hi eb e2 z
      · have := (World.ownsRow.lt (h.each b hb) k e2).2
        omega
    · rw [up_ne _ _ ea] at e1
      by_cases eb : b = i
      · rw [eb, up_at] at e2
        rcases hl k e2 with z | z
        · exact h.apart a i k ha hi ea e1 z
        · have := (World.ownsRow.lt (h.each a ha) k e1).2
          omega
      · rw [up_ne _ _ eb] at e2
        exact h.apart a b k ha hb hab e1 e2
  · refine (below_of_grownR hg (by omega) (fun k hk => (World.ownsRow.lt (h.each i hi) k hk).1)).setCell ?_ _
    exact hql.1
/-- a text of the i-th another one -/
theorem put (h : OTT B w q cap n rv L F) {i g c : Nat} (hi : i < n) (hv : rv i = .slice (some ⟨g, 0, none⟩) (L i) c) (r : Nat) (b : List El) :
    OTT B (w.setCell ⟨g, r, none⟩ (st b)) q cap n rv L (up F i (up (F i) r b)) ∧ Below B w (w.setCell ⟨g, r, none⟩ (st b)) := by
  have hE := h.each i hi
  have hb : (rv i).ownBlock = some g := by rw [hv]; rfl
  rw [hv] at hE
  have S := OwT.stored hE r b
  refine ⟨⟨World.ownsRow.kept h.row S.2 (.inr (fun e => h.vq hi hb (Option.some.inj e).symm)), fun j hj => ?_, h.apart⟩, ?_⟩
  · by_cases e : j = i
    · subst e
      rw [up_at, hv]
      exact S.1
    · rw [up_ne _ _ e]
      refine World.ownsRow.kept (h.each j hj) S.2 ?_
      rcases hq : (rv j).ownBlock with _ | k
      · exact .inl rfl
      · exact .inr (fun z => h.apart j i k hj hi e hq (by rw [hb]; exact z.symm))
  · refine (Below.refl B w).setCell ?_ _
    exact (World.ownsRow.lt hE g rfl).1
end OTT
theorem infoST : (Tryd.prog.info? 33).map (fun i => (i.zero, i.size, i.bytes)) = some (some (.slice none 0 0), 1, 24) := by kernel_rfl
/-- made: all without texts -/
theorem OTT.made {B n q : Nat} {w : World} (h : w.ownsRow B 33 1 (.slice (some ⟨q, 0, none⟩) n n) n (madeCells #[Value.slice none 0 0] n).toList) (F : Nat → Nat → List El) : OTT B w q n n (fun _ => .slice none 0 0) (fun _ => 0) F := by
  refine ⟨?_, fun i _ => World.ownsRow_nil _ _ _ _, fun _ _ _ _ _ _ e => by cases e⟩
  rw [toList_madeCells_one] at h
  rw [show (List.range n).map (fun _ => Value.slice none 0 0) = List.replicate n (Value.slice none 0 0) by simp [List.map_const']]
  exact h
end Go.Proofs.YtdbanimlnjhhlaaDoor
