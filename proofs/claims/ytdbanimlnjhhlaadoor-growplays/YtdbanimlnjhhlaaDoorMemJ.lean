/- What a made, an appended and a drawn piece of memory is: small laws that all walks share. -/
import Derived.Test.YtdbanimlnjhhlaaDoorMem
import Derived.ProofKit
import Derived.OpenShut
import Derived.Deep.QuietTactic
import Derived.BigQuiet
import Derived.Laws.AppendOwnNone
namespace Go.Proofs.YtdbanimlnjhhlaaDoor
open Go.ChangeShapes Go.WideShapes Go.ChangeAt Go.RowKit El Pol
theorem el_zero {x : El} (h : x.val = 0) : x = 0 := Fin.ext h
theorem info8 : (Tryd.prog.info? 5).map (fun i => (i.zero, i.size, i.bytes)) = some (some (.int .u8 0), 1, 1) := by kernel_rfl
theorem cells_take {w : World} {ad : Addr} {xs : List El} (m : Nat) (hc : ∀ i, i < xs.length → w.cell? (ad.add i) = some (.int .u8 (((co xs i).val : Nat) : Int))) :
    ∀ j u, ((xs.take m).map eb)[j]? = some u → w.cell? (ad.add j) = some u := by
  intro j u hj
  rw [List.getElem?_map, List.getElem?_take] at hj
  split at hj
  · cases hx : xs[j]? with
    | none => rw [hx] at hj; cases hj
    | some y =>
      rw [hx] at hj
      obtain ⟨hlt, rfl⟩ := List.getElem?_eq_some_iff.1 hx
      rw [hc j hlt]
      rw [← hj]
      simp [co, List.getD_eq_getElem?_getD, hlt]
  · cases hj
theorem eb_one (xs : List El) : ∀ u ∈ xs.map eb, u.oneCell' = true := by
  intro u hu
  obtain ⟨x, _, rfl⟩ := List.mem_map.1 hu
  rfl
theorem Ow.made {B n : Nat} {w : World} {v : Value} (h : w.ownsRow B 5 1 v n (madeCells #[Value.int .u8 0] n).toList) : Ow B w v (List.replicate n 0) := by
  unfold Ow
  rw [toList_madeCells_one] at h
  rw [List.length_replicate, List.map_replicate]
  exact h
theorem own_snoc {B : Nat} {w : World} {v : Value} {f : Nat → El} {k : Nat} {s : El} (h : w.ownsRow B 5 1 v ((row f k).length + 1) ((row f k).map eb ++ [.int .u8 ((s.val : Nat) : Int)])) (hs : s = f k) : Ow B w v (row f (k + 1)) := by
  unfold Ow
  rw [row_succ, ← hs, List.length_append, List.map_append]
  exact h
theorem one_one (s : El) : ∀ u ∈ [Value.int .u8 ((s.val : Nat) : Int)], u.oneCell' = true := by
  intro u hu; simp at hu; subst hu; rfl
end Go.Proofs.YtdbanimlnjhhlaaDoor
