/- An argument that is a text, opened once. -/
import Derived.Test.YtdbanimlnjhhlaaDoorView
import Derived.Test.YtdbanimlnjhhlaaDoorTxt
import Derived.Deep.Strs
namespace Go.Proofs.YtdbanimlnjhhlaaDoor
open Go.ChangeShapes Go.WideShapes Go.ChangeAt Go.RowKit El Pol
theorem cellsT : Tryd.prog.cellsOf 9 = 1 := by kernel_rfl
theorem bytesT : Tryd.prog.bytesOf 9 = 16 := by kernel_rfl
set_option maxRecDepth 100000 in
theorem viewT {H : Type} {enc : TypeId × Value → H} {W : World} {r : Reach} {b0 : Nat} {v : Value} {d : DataW H} {p : List MemPlace} (hval : Value.okWide Tryd.prog W r b0 9 v)
    (hd : DataW.Trod enc Tryd.prog W 0 (fun _ => true) true 9 v d p) : ∃ xs : List El, v = st xs ∧ xs.length ≤ 9223372036854775807 ∧ p = [] := by
  obtain ⟨s, rfl⟩ := okWide_string Tryd.underlying9 hval
  obtain ⟨fuel, hf⟩ := hd
  obtain ⟨s', h, hx, hw⟩ := DataW.trod_string Tryd.underlying9 hf
  simp [Value.cells] at h
  subst h
  simp only [Prod.mk.injEq] at hx
  obtain ⟨xs, rfl⟩ := sb_of s
  rw [sb_size] at hw
  unfold maxLen at hw
  exact ⟨xs, rfl, hw, hx.2⟩
end Go.Proofs.YtdbanimlnjhhlaaDoor
