/- Two lists of bytes that read alike are told to be the same. -/
import Derived.Test.YtikhjhbohkaajaaDoorMem
import Derived.ProofKit
namespace Go.Proofs.YtikhjhbohkaajaaDoor
open Go.ChangeShapes Go.WideShapes Go.ChangeAt Go.RowKit El Pol
def strOf (xs : List El) : ByteArray := strOfNums (xs.map fun x => ((x.val : Nat) : Int))
theorem conv_rd {w : World} {v : Value} {xs : List El} (h : Rd w v xs) : (convert 35 9 v).run Tryd.prog w = .ok (.string (strOf xs)) w := by
  rcases h with ⟨rfl, rfl⟩ | ⟨ad, cap, rfl, h1, h2, h3⟩
  · exact run_convert_bytes_nil w _ _ Tryd.underlying35 Tryd.underlying5 0 0 _ Tryd.underlying9
  · have hl : (loadCells ad xs.length).run Tryd.prog w = .ok ((xs.map fun x => ((x.val : Nat) : Int)).map (Value.int .u8)).toArray w := by
      have := run_loadCells_list (P := Tryd.prog) w ad ((xs.map fun x => ((x.val : Nat) : Int)).map (Value.int .u8)) (fun j v hj => by
        have hjl : j < xs.length := by
          rcases Nat.lt_or_ge j xs.length with h | h
          · exact h
          · rw [List.getElem?_eq_none (by simpa using h)] at hj; cases hj
        rw [h3 j hjl]
        rw [← hj]
        simp [co, List.getElem?_map, List.getElem?_eq_getElem hjl])
      simpa using this
    rw [run_convert_bytes_string w _ _ _ _ _ cap Tryd.underlying35 Tryd.underlying5 Tryd.underlying9, run_bytesToString w _ _ cap _ hl, foldl_push_bytes]
    simp [strOf, strOfNums, ByteArray.empty, ByteArray.emptyWithCapacity]
    rfl
theorem bytes_same (u v : Value) (xs : List El) (w : World) (hu : Rd w u xs) (hv : Rd w v xs) :
    Calls Tryd.prog 16 #[u, v] w fun e w' => e = .returned (.bool true) ∧ w' = w := by
  have c1 := conv_rd hu
  have c2 := conv_rd hv
  obtain ⟨a1, k1, rfl, _, _⟩ := hu.len
  obtain ⟨a2, k2, rfl, _, _⟩ := hv.len
  generalize strOf xs = s at *
  clear hu hv
  generalize xs.length = n at *
  go_enter Tryd.func16, Tryd.ntmps16
  go_wp2
  go_ret
  exact ⟨rfl, rfl⟩
end Go.Proofs.YtikhjhbohkaajaaDoor
