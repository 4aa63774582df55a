/- The whole's own block of two bytes of a number: a walk over the program. -/
import Derived.Test.YticgapgggoklfaaMe
namespace Go.Proofs.Yticgapgggoklfaa
open Go.RowKit El Pol
/-- the byte of a number -/
def ofZ (z : Int) : El := ⟨(z % 256).toNat, by omega⟩
theorem ofZ_is (z : Int) : z % 256 = (((ofZ z).val : Nat) : Int) := by
  show z % 256 = (((z % 256).toNat : Nat) : Int)
  omega
/-- its two bytes -/
def bk (z : Int) : List El := [ofZ z, ofZ (z / 7)]
set_option maxRecDepth 100000 in
theorem tblk {z : Int} (h0 : 0 ≤ z) (h1 : z ≤ 9223372036854775807) (w : World) :
    Calls Try.prog 16 #[.int .i64 z] w fun e w' => e = .returned (st (bk z)) ∧ Below w.heap.size w w' := by
  have e0 := ofZ_is z
  have e1 := ofZ_is (z / 7)
  have q0 : 0 ≤ z / 7 := by omega
  have q1 : z / 7 ≤ 9223372036854775807 := by omega
  unfold bk
  generalize ofZ z = a at *
  generalize ofZ (z / 7) = b at *
  have hO : Ow w.heap.size (w.alloc (.cells #[.int .u8 ((a.val : Nat) : Int), .int .u8 ((b.val : Nat) : Int)] 5)) (.slice (some ⟨w.heap.size, 0, none⟩) 2 2) [a, b] := own_lit (w := w) (e := 5) [eb a, eb b] (Nat.le_refl _) (by simp)
  have hcv := run_text hO.rd 78 9 Try.underlying78 Try.underlying9
  have HB : Hid (Below w.heap.size w (w.alloc (.cells #[.int .u8 ((a.val : Nat) : Int), .int .u8 ((b.val : Nat) : Int)] 5))) := al_below _ _
  clear hO
  go_enter Try.func16, Try.ntmps16
  go_wp2
  go_ret
  exact ⟨rfl, HB.out⟩
end Go.Proofs.Yticgapgggoklfaa
