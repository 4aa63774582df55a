/- Texts of plain mathematics, of memory and of walks, in one. -/
import Derived.Test.YteafakgjfmbhoaaGreatDoorEr
import Derived.Test.YteafakgjfmbhoaaGreatDoorRuc
import Derived.Test.YteafakgjfmbhoaaGreatDoorRub
import Derived.Test.YteafakgjfmbhoaaGreatDoorRuh
/- What the calls of package reflectlite answer at a badLine of the program and a pointer to one; what errors.As answers then: walks over the program. -/
namespace Go.Proofs.YteafakgjfmbhoaaGreatDoor
open Go.RowKit Go.Extern.Stop Go.Stop Go.Extern
theorem valueOfPL (t : Addr) (w : World) : (ReflectliteValue.unpack (.iface 90 (.pointer (some t)))).run Tryz.prog w
    = .ok (.agg #[.pointer (some ⟨7, 90, none⟩), .pointer (some ⟨w.heap.size, 0, none⟩), .int .u64 150]) (w.alloc (.cells #[.pointer (some t)] 90)) := by kernel_rfl
theorem typePL (a : Addr) (w : World) : (ReflectliteValue.methodAny (ReflectliteValue.valueError "reflectlite.Value.Type" 0) (fun t _ _ _ => ReflectliteType.toType t) #[.agg #[.pointer (some ⟨7, 90, none⟩), .pointer (some a), .int .u64 150]]).run Tryz.prog w
    = .ok (.iface 152 (.agg #[.pointer (some ⟨7, 90, none⟩)])) w := by kernel_rfl
theorem kindPL (w : World) : ((ReflectliteType.abiMethod fun t => (fun a : Nat => Value.int IntKind.u8 (a : Int)) <$> Rtype.kind t) #[.pointer (some ⟨7, 90, none⟩)]).run Tryz.prog w = .ok (.int .u8 22) w := by kernel_rfl
theorem kindEL (w : World) : ((ReflectliteType.abiMethod fun t => (fun a : Nat => Value.int IntKind.u8 (a : Int)) <$> Rtype.kind t) #[.pointer (some ⟨7, 88, none⟩)]).run Tryz.prog w = .ok (.int .u8 25) w := by kernel_rfl
theorem partsPL (a : Addr) (w : World) : (ReflectliteValue.parts (.agg #[.pointer (some ⟨7, 90, none⟩), .pointer (some a), .int .u64 150])).run Tryz.prog w = .ok (some (90, a, 150)) w := by kernel_rfl
theorem isNilPL (a p : Addr) (W : World) (ha : W.cell? a = some (.pointer (some p))) :
    (ReflectliteValue.method (ReflectliteValue.valueError "reflectlite.Value.IsNil" 0) ReflectliteValue.isNil #[.agg #[.pointer (some ⟨7, 90, none⟩), .pointer (some a), .int .u64 150]]).run Tryz.prog W = .ok (.bool false) W := by
  rw [rlm]
  simp only [Sem.run_bind, partsPL, Result.andThen]
  simp [ReflectliteValue.isNil, loadVar, isAgg, underlying, Tryz.underlying90, ha, Result.andThen]
theorem elemPL (w : World) : (ReflectliteType.method ReflectliteType.elem #[.agg #[.pointer (some ⟨7, 90, none⟩)]]).run Tryz.prog w = .ok (.iface 152 (.agg #[.pointer (some ⟨7, 88, none⟩)])) w := by kernel_rfl
theorem implementsEL (w : World) : (ReflectliteType.relation "Implements" ReflectliteType.implements_ #[.agg #[.pointer (some ⟨7, 88, none⟩)], .iface 152 (.agg #[.pointer (some ⟨7, 32, none⟩)])]).run Tryz.prog w = .ok (.bool true) w := by kernel_rfl
theorem typeOfEL (v : Value) (w : World) : (ReflectliteType.typeOf #[.iface 88 v]).run Tryz.prog w = .ok (.iface 152 (.agg #[.pointer (some ⟨7, 88, none⟩)])) w := by kernel_rfl
theorem assignableEL (w : World) : (ReflectliteType.relation "AssignableTo" ReflectliteType.assignableTo #[.agg #[.pointer (some ⟨7, 88, none⟩)], .iface 152 (.agg #[.pointer (some ⟨7, 88, none⟩)])]).run Tryz.prog w = .ok (.bool true) w := by kernel_rfl
theorem valueOfEL (n : Int) (w : World) : (ReflectliteValue.unpack (.iface 88 (.agg #[.int .i64 n]))).run Tryz.prog w
    = .ok (.agg #[.pointer (some ⟨7, 88, none⟩), .pointer (some ⟨w.heap.size, 0, none⟩), .int .u64 153]) (w.alloc (.cells #[.int .i64 n] 88)) := by kernel_rfl
theorem elemOfPL (w : World) : (Rtype.elem? 90).run Tryz.prog w = .ok (some 88) w := by kernel_rfl
theorem mkEL (p : Addr) (w : World) : (ReflectliteValue.mk 88 p ReflectliteValue.flagAddr).run Tryz.prog w = .ok (.agg #[.pointer (some ⟨7, 88, none⟩), .pointer (some p), .int .u64 409]) w := by kernel_rfl
theorem elemVPL (a p : Addr) (W : World) (ha : W.cell? a = some (.pointer (some p))) :
    (ReflectliteValue.method (ReflectliteValue.valueError "reflectlite.Value.Elem" 0) ReflectliteValue.elem #[.agg #[.pointer (some ⟨7, 90, none⟩), .pointer (some a), .int .u64 150]]).run Tryz.prog W
      = .ok (.agg #[.pointer (some ⟨7, 88, none⟩), .pointer (some p), .int .u64 409]) W := by
  rw [rlm]
  simp only [Sem.run_bind, partsPL, Result.andThen]
  simp [ReflectliteValue.elem, loadVar, isAgg, underlying, Tryz.underlying90, ha, Result.andThen, elemOfPL, mkEL]
theorem partsEaL (a : Addr) (w : World) : (ReflectliteValue.parts (.agg #[.pointer (some ⟨7, 88, none⟩), .pointer (some a), .int .u64 409])).run Tryz.prog w = .ok (some (88, a, 409)) w := by kernel_rfl
theorem partsEL (a : Addr) (w : World) : (ReflectliteValue.parts (.agg #[.pointer (some ⟨7, 88, none⟩), .pointer (some a), .int .u64 153])).run Tryz.prog w = .ok (some (88, a, 153)) w := by kernel_rfl
theorem directEL (w : World) : (Rtype.directlyAssignable 88 88).run Tryz.prog w = .ok true w := by kernel_rfl
theorem setEL (ta b : Addr) (n : Int) (old : Value) (W : World) (hb : W.cell? b = some (.int .i64 n)) (ht : W.cell? ta = some old) (hf : W.frozen? ta = false) :
    (ReflectliteValue.set #[.agg #[.pointer (some ⟨7, 88, none⟩), .pointer (some ta), .int .u64 409], .agg #[.pointer (some ⟨7, 88, none⟩), .pointer (some b), .int .u64 153]]).run Tryz.prog W
      = .ok (.tuple #[]) (W.setCell ta (.int .i64 n)) := by
  change Sem.run _ (ReflectliteValue.parts (.agg #[.pointer (some ⟨7, 88, none⟩), .pointer (some ta), .int .u64 409]) >>= fun p => ReflectliteValue.parts (.agg #[.pointer (some ⟨7, 88, none⟩), .pointer (some b), .int .u64 153]) >>= fun q => _) W = _
  simp only [Sem.run_bind, partsEaL, partsEL, Result.andThen]
  have hlc : (loadCells b 1).run Tryz.prog W = .ok #[.int .i64 n] W := run_loadCells_list (P := Tryz.prog) W b [.int .i64 n] (fun j v hj => by
    match j, hj with
    | 0, hj =>
      have : Value.int .i64 n = v := by simpa using hj
      rw [← this, Addr.add, if_pos rfl]
      exact hb
    | j + 1, hj => simp at hj)
  simp [ReflectliteValue.flagAddr, loadVar, isAgg, underlying, Tryz.underlying88, hlc, Result.andThen, directEL, storeVar, Value.cells, storeCells, Addr.add]
  rw [run_store Tryz.prog W ta _ _ (by rfl)]
  simp [ht, hf]
set_option maxHeartbeats 4000000 in
theorem as_line (n : Int) (t : Addr) (old : Value) (w : World) (hg : Handle w) (ht0 : w.cell? t = some old) (hf0 : w.frozen? t = false) :
    Calls Tryz.prog 38 #[.iface 88 (.agg #[.int .i64 n]), .iface 90 (.pointer (some t))] w fun ev w' => ev = .returned (.bool true) ∧ w' = ((((w.alloc (.cells #[.pointer (some t)] 90)).alloc (.cells #[.pointer (some ⟨7, 90, none⟩), .pointer (some ⟨w.heap.size, 0, none⟩), .int .u64 150] 123)).alloc (.cells #[.pointer (some ⟨7, 90, none⟩), .pointer (some ⟨w.heap.size, 0, none⟩), .int .u64 150] 123)).alloc (.cells #[.int .i64 n] 88)).setCell t (.int .i64 n) := by
  have h20 := @run_callFunc_extern Tryz.prog 55 _ (fun args => ReflectliteValue.unpack (args.getD 0 (.tuple #[]))) Tryz.func55 (by kernel_rfl) (by kernel_rfl) (by kernel_rfl) (by kernel_rfl)
  have h21 := @run_callFunc_extern Tryz.prog 56 _ (ReflectliteValue.methodAny (ReflectliteValue.valueError "reflectlite.Value.Type" 0) (fun t _ _ _ => ReflectliteType.toType t)) Tryz.func56 (by kernel_rfl) (by kernel_rfl) (by kernel_rfl) (by kernel_rfl)
  have h22 := @run_callFunc_extern Tryz.prog 57 _ (ReflectliteValue.method (ReflectliteValue.valueError "reflectlite.Value.IsNil" 0) ReflectliteValue.isNil) Tryz.func57 (by kernel_rfl) (by kernel_rfl) (by kernel_rfl) (by kernel_rfl)
  have h41 := @run_callFunc_extern Tryz.prog 210 _ (ReflectliteType.abiMethod fun t => do pure (.int .u8 (← Rtype.kind t))) Tryz.func210 (by kernel_rfl) (by kernel_rfl) (by kernel_rfl) (by kernel_rfl)
  have h51 := @run_callFunc_extern Tryz.prog 220 _ (ReflectliteType.method ReflectliteType.elem) Tryz.func220 (by kernel_rfl) (by kernel_rfl) (by kernel_rfl) (by kernel_rfl)
  have h52 := @run_callFunc_extern Tryz.prog 221 _ (ReflectliteType.relation "Implements" ReflectliteType.implements_) Tryz.func221 (by kernel_rfl) (by kernel_rfl) (by kernel_rfl) (by kernel_rfl)
  have h24 := @run_callFunc_extern Tryz.prog 84 _ ReflectliteType.typeOf Tryz.func84 (by kernel_rfl) (by kernel_rfl) (by kernel_rfl) (by kernel_rfl)
  have h49 := @run_callFunc_extern Tryz.prog 218 _ (ReflectliteType.relation "AssignableTo" ReflectliteType.assignableTo) Tryz.func218 (by kernel_rfl) (by kernel_rfl) (by kernel_rfl) (by kernel_rfl)
  have h25 := @run_callFunc_extern Tryz.prog 85 _ (ReflectliteValue.method (ReflectliteValue.valueError "reflectlite.Value.Elem" 0) ReflectliteValue.elem) Tryz.func85 (by kernel_rfl) (by kernel_rfl) (by kernel_rfl) (by kernel_rfl)
  have h26 := @run_callFunc_extern Tryz.prog 86 _ ReflectliteValue.set Tryz.func86 (by kernel_rfl) (by kernel_rfl) (by kernel_rfl) (by kernel_rfl)
  have tO := typeOfEL
  have mA := methodAssignableTo
  have aE := assignableEL
  have vE := valueOfEL
  have fP := valueOfPL
  have yP := typePL
  have mK := methodKind
  have mE := methodElem
  have mI := methodImplements
  have kP := kindPL
  have kE := kindEL
  have eP := elemPL
  have iE := implementsEL
  have n8 := isNilPL ⟨w.heap.size, 0, none⟩ t ((w.alloc (.cells #[.pointer (some t)] 90)).alloc (.cells #[.pointer (some ⟨7, 90, none⟩), .pointer (some ⟨w.heap.size, 0, none⟩), .int .u64 150] 123)) (by simp)
  have hlt := hg.lt
  have hg2 : ((w.alloc (.cells #[.pointer (some t)] 90)).alloc (.cells #[.pointer (some ⟨7, 90, none⟩), .pointer (some ⟨w.heap.size, 0, none⟩), .int .u64 150] 123)).cell? ⟨0, 0, none⟩ = some (.iface 152 (.agg #[.pointer (some ⟨7, 32, none⟩)])) := by
    rw [World.cell?_alloc_lt _ _ ⟨0, 0, none⟩ (by first | (simp; done) | (simp; omega)), World.cell?_alloc_lt _ _ ⟨0, 0, none⟩ hlt]; exact hg
  have htl : t.block < w.heap.size := by
    rcases Nat.lt_or_ge t.block w.heap.size with h | h
    · exact h
    · simp [World.cell?, Array.getElem?_eq_none h] at ht0
  have el := elemVPL ⟨w.heap.size, 0, none⟩ t (((w.alloc (.cells #[.pointer (some t)] 90)).alloc (.cells #[.pointer (some ⟨7, 90, none⟩), .pointer (some ⟨w.heap.size, 0, none⟩), .int .u64 150] 123)).alloc (.cells #[.pointer (some ⟨7, 90, none⟩), .pointer (some ⟨w.heap.size, 0, none⟩), .int .u64 150] 123)) (by rw [World.cell?_alloc_lt _ _ ⟨w.heap.size, 0, none⟩ (by simp; omega)]; simp)
  have st := setEL t ⟨w.heap.size + 1 + 1 + 1, 0, none⟩ n old ((((w.alloc (.cells #[.pointer (some t)] 90)).alloc (.cells #[.pointer (some ⟨7, 90, none⟩), .pointer (some ⟨w.heap.size, 0, none⟩), .int .u64 150] 123)).alloc (.cells #[.pointer (some ⟨7, 90, none⟩), .pointer (some ⟨w.heap.size, 0, none⟩), .int .u64 150] 123)).alloc (.cells #[.int .i64 n] 88))
    (by rw [World.cell?_alloc_at _ _ _ _ (by simp)]; rfl)
    (by rw [World.cell?_alloc_lt _ _ t (by simp; omega), World.cell?_alloc_lt _ _ t (by simp; omega), World.cell?_alloc_lt _ _ t (by simp; omega), World.cell?_alloc_lt _ _ t htl]; exact ht0)
    (by rw [World.frozen?_alloc_old _ _ t (by simp; omega), World.frozen?_alloc_old _ _ t (by simp; omega), World.frozen?_alloc_old _ _ t (by simp; omega), World.frozen?_alloc_old _ _ t (Nat.ne_of_lt htl)]; exact hf0)
  clear hg
  go_enter Tryz.func38, Tryz.ntmps38
  go_wp2
  refine wp_loop_rounds 1 ?_
  rw [rounds_succ]
  go_wp2
  go_ret
  exact ⟨rfl, rfl⟩
end Go.Proofs.YteafakgjfmbhoaaGreatDoor

/- What errors.As answers of a plain api.Errno, where a badLine is asked for: a walk over the program. -/
namespace Go.Proofs.YteafakgjfmbhoaaGreatDoor
open Go.RowKit Go.Extern.Stop Go.Stop Go.Extern
/-- an api.Errno has not these methods -/
theorem no_as (v : Value) (x : TypeId) (w : World) : (Instr.typeAssert (.iface 75 v) x 157 true).run Tryz.prog w = .ok (.tuple #[.nilIface, .bool false]) w := run_typeAssert_lacksB Tryz.underlying157 (by kernel_rfl) (by kernel_rfl) v x w
theorem no_wrap (v : Value) (x : TypeId) (w : World) : (Instr.typeAssert (.iface 75 v) x 160 true).run Tryz.prog w = .ok (.tuple #[.nilIface, .bool false]) w := run_typeAssert_lacksB Tryz.underlying160 (by kernel_rfl) (by kernel_rfl) v x w
theorem no_wraps (v : Value) (x : TypeId) (w : World) : (Instr.typeAssert (.iface 75 v) x 162 true).run Tryz.prog w = .ok (.tuple #[.nilIface, .bool false]) w := run_typeAssert_lacksB Tryz.underlying162 (by kernel_rfl) (by kernel_rfl) v x w
theorem assignableN (w : World) : (ReflectliteType.relation "AssignableTo" ReflectliteType.assignableTo #[.agg #[.pointer (some ⟨7, 75, none⟩)], .iface 152 (.agg #[.pointer (some ⟨7, 88, none⟩)])]).run Tryz.prog w = .ok (.bool false) w := by kernel_rfl
set_option maxHeartbeats 4000000 in
set_option maxRecDepth 100000 in
theorem as_other (n : Int) (t : Addr) (old : Value) (w : World) (hg : Handle w) (ht0 : w.cell? t = some old) :
    Calls Tryz.prog 38 #[.iface 75 (.int .i64 n), .iface 90 (.pointer (some t))] w fun ev w' => ev = .returned (.bool false) ∧ Kept w w' := by
  have h20 := @run_callFunc_extern Tryz.prog 55 _ (fun args => ReflectliteValue.unpack (args.getD 0 (.tuple #[]))) Tryz.func55 (by kernel_rfl) (by kernel_rfl) (by kernel_rfl) (by kernel_rfl)
  have h21 := @run_callFunc_extern Tryz.prog 56 _ (ReflectliteValue.methodAny (ReflectliteValue.valueError "reflectlite.Value.Type" 0) (fun t _ _ _ => ReflectliteType.toType t)) Tryz.func56 (by kernel_rfl) (by kernel_rfl) (by kernel_rfl) (by kernel_rfl)
  have h22 := @run_callFunc_extern Tryz.prog 57 _ (ReflectliteValue.method (ReflectliteValue.valueError "reflectlite.Value.IsNil" 0) ReflectliteValue.isNil) Tryz.func57 (by kernel_rfl) (by kernel_rfl) (by kernel_rfl) (by kernel_rfl)
  have h41 := @run_callFunc_extern Tryz.prog 210 _ (ReflectliteType.abiMethod fun t => do pure (.int .u8 (← Rtype.kind t))) Tryz.func210 (by kernel_rfl) (by kernel_rfl) (by kernel_rfl) (by kernel_rfl)
  have h51 := @run_callFunc_extern Tryz.prog 220 _ (ReflectliteType.method ReflectliteType.elem) Tryz.func220 (by kernel_rfl) (by kernel_rfl) (by kernel_rfl) (by kernel_rfl)
  have h52 := @run_callFunc_extern Tryz.prog 221 _ (ReflectliteType.relation "Implements" ReflectliteType.implements_) Tryz.func221 (by kernel_rfl) (by kernel_rfl) (by kernel_rfl) (by kernel_rfl)
  have h24 := @run_callFunc_extern Tryz.prog 84 _ ReflectliteType.typeOf Tryz.func84 (by kernel_rfl) (by kernel_rfl) (by kernel_rfl) (by kernel_rfl)
  have h49 := @run_callFunc_extern Tryz.prog 218 _ (ReflectliteType.relation "AssignableTo" ReflectliteType.assignableTo) Tryz.func218 (by kernel_rfl) (by kernel_rfl) (by kernel_rfl) (by kernel_rfl)
  have h25 := @run_callFunc_extern Tryz.prog 85 _ (ReflectliteValue.method (ReflectliteValue.valueError "reflectlite.Value.Elem" 0) ReflectliteValue.elem) Tryz.func85 (by kernel_rfl) (by kernel_rfl) (by kernel_rfl) (by kernel_rfl)
  have h26 := @run_callFunc_extern Tryz.prog 86 _ ReflectliteValue.set Tryz.func86 (by kernel_rfl) (by kernel_rfl) (by kernel_rfl) (by kernel_rfl)
  have tO := typeOfE
  have mA := methodAssignableTo
  have aE := assignableN
  have vE := valueOfE
  have fP := valueOfPL
  have yP := typePL
  have mK := methodKind
  have mE := methodElem
  have mI := methodImplements
  have kP := kindPL
  have kE := kindEL
  have eP := elemPL
  have iE := implementsEL
  have n8 := isNilPL ⟨w.heap.size, 0, none⟩ t ((w.alloc (.cells #[.pointer (some t)] 90)).alloc (.cells #[.pointer (some ⟨7, 90, none⟩), .pointer (some ⟨w.heap.size, 0, none⟩), .int .u64 150] 123)) (by simp)
  have hlt := hg.lt
  have hg2 : ((w.alloc (.cells #[.pointer (some t)] 90)).alloc (.cells #[.pointer (some ⟨7, 90, none⟩), .pointer (some ⟨w.heap.size, 0, none⟩), .int .u64 150] 123)).cell? ⟨0, 0, none⟩ = some (.iface 152 (.agg #[.pointer (some ⟨7, 32, none⟩)])) := by
    rw [World.cell?_alloc_lt _ _ ⟨0, 0, none⟩ (by first | (simp; done) | (simp; omega)), World.cell?_alloc_lt _ _ ⟨0, 0, none⟩ hlt]; exact hg
  have htl : t.block < w.heap.size := by
    rcases Nat.lt_or_ge t.block w.heap.size with h | h
    · exact h
    · simp [World.cell?, Array.getElem?_eq_none h] at ht0
  have el := elemVPL ⟨w.heap.size, 0, none⟩ t (((w.alloc (.cells #[.pointer (some t)] 90)).alloc (.cells #[.pointer (some ⟨7, 90, none⟩), .pointer (some ⟨w.heap.size, 0, none⟩), .int .u64 150] 123)).alloc (.cells #[.pointer (some ⟨7, 90, none⟩), .pointer (some ⟨w.heap.size, 0, none⟩), .int .u64 150] 123)) (by rw [World.cell?_alloc_lt _ _ ⟨w.heap.size, 0, none⟩ (by simp; omega)]; simp)
  have n1 := no_as
  have n2 := no_wrap
  have n3 := no_wraps
  clear hg
  go_enter Tryz.func38, Tryz.ntmps38
  go_wp2
  refine wp_loop_rounds 1 ?_
  rw [rounds_succ]
  go_wp2
  go_ret
  exact ⟨rfl, by repeat (first | exact Kept.refl _ | apply Kept.alloc)⟩
end Go.Proofs.YteafakgjfmbhoaaGreatDoor

/- Which name the program tells of a fault: walks over the program. -/
namespace Go.Proofs.YteafakgjfmbhoaaGreatDoor
open Go.RowKit El Pol
set_option maxRecDepth 100000 in
theorem errno_name (k : Fin 10) (w : World) :
    Calls Tryz.prog 39 #[.int .i64 ((k.val : Nat) : Int)] w fun e w' => e = .returned (st (ern k.val)) ∧ w' = w := by
  match k with
  | 0 => go_enter Tryz.func39, Tryz.ntmps39; go_wp2; go_ret; exact ⟨rfl, rfl⟩
  | 1 => go_enter Tryz.func39, Tryz.ntmps39; go_wp2; go_ret; exact ⟨rfl, rfl⟩
  | 2 => go_enter Tryz.func39, Tryz.ntmps39; go_wp2; go_ret; exact ⟨rfl, rfl⟩
  | 3 => go_enter Tryz.func39, Tryz.ntmps39; go_wp2; go_ret; exact ⟨rfl, rfl⟩
  | 4 => go_enter Tryz.func39, Tryz.ntmps39; go_wp2; go_ret; exact ⟨rfl, rfl⟩
  | 5 => go_enter Tryz.func39, Tryz.ntmps39; go_wp2; go_ret; exact ⟨rfl, rfl⟩
  | 6 => go_enter Tryz.func39, Tryz.ntmps39; go_wp2; go_ret; exact ⟨rfl, rfl⟩
  | 7 => go_enter Tryz.func39, Tryz.ntmps39; go_wp2; go_ret; exact ⟨rfl, rfl⟩
  | 8 => go_enter Tryz.func39, Tryz.ntmps39; go_wp2; go_ret; exact ⟨rfl, rfl⟩
  | 9 => go_enter Tryz.func39, Tryz.ntmps39; go_wp2; go_ret; exact ⟨rfl, rfl⟩
set_option maxHeartbeats 2000000 in
set_option maxRecDepth 100000 in
theorem name_line (n : Int) (w : World) (hg : Handle w) :
    Calls Tryz.prog 15 #[.iface 88 (.agg #[.int .i64 n])] w fun e w' => e = .returned (st tBad) ∧ Below w.heap.size w w' := by
  have hk : Kept w (w.alloc (.cells #[.int .i64 0] 88)) := (Kept.refl w).alloc _ _
  have htA : (w.alloc (.cells #[.int .i64 0] 88)).cell? ⟨w.heap.size, 0, none⟩ = some (.int .i64 0) := by simp
  have hfA : (w.alloc (.cells #[.int .i64 0] 88)).frozen? ⟨w.heap.size, 0, none⟩ = false := by simp
  have A := as_line n _ (.int .i64 0) _ (hg.kept hk) htA hfA
  clear htA hfA hk
  go_enter Tryz.func15, Tryz.ntmps15
  go_wp2_with fail
  refine A.mono ?_
  rintro e w' ⟨rfl, rfl⟩
  clear A
  go_wp2_with fail
  go_ret
  exact ⟨rfl, by repeat (first | exact Below.refl _ _ | refine Below.setCell ?_ (by simp) _ | refine Below.alloc ?_ (by first | omega | (simp; done) | (simp; omega)) _)⟩
set_option maxHeartbeats 2000000 in
set_option maxRecDepth 100000 in
theorem name_errno (k : Nat) (hk9 : k ≤ 9) (w : World) (hg : Handle w) :
    Calls Tryz.prog 15 #[.iface 75 (.int .i64 (k : Int))] w fun e w' => e = .returned (st (ern k)) ∧ Below w.heap.size w w' := by
  have hk : Kept w (w.alloc (.cells #[.int .i64 0] 88)) := (Kept.refl w).alloc _ _
  have htA : (w.alloc (.cells #[.int .i64 0] 88)).cell? ⟨w.heap.size, 0, none⟩ = some (.int .i64 0) := by simp
  have A := as_other (k : Int) _ (.int .i64 0) _ (hg.kept hk) htA
  have HN : Hid (∀ W, Calls Tryz.prog 39 #[.int .i64 (k : Int)] W fun e w' => e = .returned (.string (sb (ern k))) ∧ w' = W) := fun W => errno_name ⟨k, by omega⟩ W
  have HK : Hid (Kept w (w.alloc (.cells #[.int .i64 0] 88))) := hk
  have HH : Hid (Handle w) := hg
  clear htA hk hg
  unfold st
  generalize sb (ern k) = o at *
  go_enter Tryz.func15, Tryz.ntmps15
  go_wp2_with fail
  refine A.mono ?_
  rintro e w1 ⟨rfl, hk1⟩
  have HK1 : Hid (Kept w w1) := HK.out.trans hk1
  have hk2 : Kept w1 (w1.alloc (.cells #[.int .i64 0] 75)) := (Kept.refl w1).alloc _ _
  have htA : (w1.alloc (.cells #[.int .i64 0] 75)).cell? ⟨w1.heap.size, 0, none⟩ = some (.int .i64 0) := by simp
  have hfA : (w1.alloc (.cells #[.int .i64 0] 75)).frozen? ⟨w1.heap.size, 0, none⟩ = false := by simp
  have A2 := as_hit (k : Int) _ (.int .i64 0) _ ((HH.out.kept HK1.out).kept hk2) htA hfA
  have hs1 := HK1.out.below.size
  clear htA hfA hk2 hk1 A HK
  go_wp2_with fail
  refine A2.mono ?_
  rintro e w2 ⟨rfl, rfl⟩
  clear A2
  go_wp2_with fail
  refine (HN.out _).mono ?_
  rintro e w3 ⟨rfl, rfl⟩
  go_wp2_with fail
  go_ret
  exact ⟨rfl, by repeat (first | exact HK1.out.below | refine Below.setCell ?_ (by first | omega | (simp; done) | (simp; omega)) _ | refine Below.alloc ?_ (by first | omega | (simp; done) | (simp; omega)) _)⟩
end Go.Proofs.YteafakgjfmbhoaaGreatDoor

/- What the program answers a line: a walk over the program. -/
namespace Go.Proofs.YteafakgjfmbhoaaGreatDoor
open Go.RowKit El Pol
theorem tld_no0 {k : Nat} (h : k ≠ 0) (s : List El) : tld k s = ern k := if_neg h
set_option maxHeartbeats 8000000 in
set_option maxRecDepth 100000 in
theorem answer_of {w0 w : World} {x : PAd} {a : Arr} {N : Nat} (h : AL w0 x a N w) (hM : Mill a) (hN : N < 700000) (HG : Hid (Handle w0)) (mb : Nat) (s : List El)
    (hrd : ∀ V, Below w.heap.size w V → Calls Tryz.prog 43 #[.agg #[.pointer (some ⟨x.p, 0, none⟩), .map (some mb)], st s] V fun e w' => e = .returned (rdV s) ∧ Below V.heap.size V w') :
    Calls Tryz.prog 19 #[.agg #[.pointer (some ⟨x.p, 0, none⟩), .map (some mb)], st s] w fun e w' => e = .returned (st (ans a (cml s))) ∧ AL w0 x (nxt a (cml s)) (N + 4) w' ∧ But (x.F a.n) w w' := by
  have C := hrd (w.alloc (.cells #[.pointer (some ⟨x.p, 0, none⟩), .map (some mb)] 45)) ((Below.refl _ w).alloc (Nat.le_refl _) _)
  rw [cml_rd s]
  have hrv : rdV s = .tuple #[ordV ((rdO s).getD ord0), lnV (rdO s).isNone] := rfl
  rw [hrv] at C
  have HAL : Hid (AL w0 x a N w) := h
  have HMM : Hid (Mill a) := hM
  have hok : ∀ o, rdO s = some o → tbB wTab o.1 = true ∧ o.2.1 < 100000 ∧ o.2.2.1 < 100000 := fun o e => rdO_ok e
  clear hrd hrv
  cases hr : rdO s with
  | none =>
    rw [hr] at C
    have HR : Hid (st (ans a .bad) = .string (sb tBad)) := rfl
    have HN2 : Hid (∀ V, Below w.heap.size w V → Calls Tryz.prog 15 #[.iface 88 (.agg #[.int .i64 2])] V fun e w' => e = .returned (.string (sb tBad)) ∧ AL w0 x a (N + 4) w' ∧ But (x.F a.n) w w') := fun V hb =>
      (name_line 2 V (HG.out.old ((HAL.out.low).trans (hb.mono HAL.out.low.size)))).mono fun e w' ⟨he, hbel⟩ => ⟨he, HAL.out.still hb hbel (by omega)⟩
    clear h hM hok hr
    (show Calls _ _ _ _ fun e w' => e = .returned (st (ans a .bad)) ∧ AL w0 x a (N + 4) w' ∧ But (x.F a.n) w w')
    have C2 : Calls Tryz.prog 43 #[.agg #[.pointer (some ⟨x.p, 0, none⟩), .map (some mb)], st s] (w.alloc (.cells #[.pointer (some ⟨x.p, 0, none⟩), .map (some mb)] 45)) fun e w' => e = .returned (.tuple #[.agg #[.string ⟨#[]⟩, .int .i64 0, .int .i64 0, .string ⟨#[]⟩], eline]) ∧ Below (w.alloc (.cells #[.pointer (some ⟨x.p, 0, none⟩), .map (some mb)] 45)).heap.size (w.alloc (.cells #[.pointer (some ⟨x.p, 0, none⟩), .map (some mb)] 45)) w' := C
    clear C
    go_enter Tryz.func19, Tryz.ntmps19
    go_wp2_with fail
    refine C2.mono ?_
    rintro e w2 ⟨rfl, hb2⟩
    have HB2 : Hid (Below w.heap.size w w2) := ((Below.refl _ w).alloc (Nat.le_refl _) _).trans (hb2.mono (by simp))
    have hs2 := HB2.out.size
    clear C2 hb2
    go_wp2_with fail
    refine (HN2.out _ (by repeat (first | exact HB2.out | refine below_drewN ?_ _ | refine Below.setCell ?_ (by first | omega | (simp; done) | (simp; omega)) _ | refine Below.alloc ?_ (by first | omega | (simp; done) | (simp; omega)) _))).mono ?_
    rintro e w3 ⟨rfl, hal⟩
    have HA : Hid (AL w0 x a (N + 4) w3 ∧ But (x.F a.n) w w3) := hal
    clear hal HN2
    go_wp2
    go_ret
    exact ⟨by rw [HR.out]; rfl, HA.out⟩
  | some o =>
    rw [hr] at C
    obtain ⟨hk1, hk2, hk3⟩ := hok o hr
    have HDO : Hid (∀ V, Below w.heap.size w V → Calls Tryz.prog 44 #[.agg #[.pointer (some ⟨x.p, 0, none⟩), .map (some mb)], .agg #[.string (sb o.1), .int .i64 ((o.2.1 : Nat) : Int), .int .i64 ((o.2.2.1 : Nat) : Int), .string (sb o.2.2.2)]] V fun e w' => e = .returned (.tuple #[st (tolT a (ordC o)), errV (errN a (ordC o))]) ∧ AL w0 x (nxt a (ordC o)) (N + 4) w' ∧ But (x.F a.n) w w') := fun V hb =>
      (do_any (HAL.out.old hb) HMM.out hN HG mb o hk1 hk2 hk3).mono fun e w' ⟨he, h1, h2⟩ => ⟨he, h1, (Below.but hb _).trans h2 (Grows.refl _ _)⟩
    have hcb : ordC o ≠ .bad := by
      rcases tb_eight hk1 with q | q | q | q | q | q | q | q <;> (unfold ordC cm1; rw [q]; intro e; revert e; simp (decide := true))
    have HTL : Hid (ans a (ordC o) = tld (errN a (ordC o)) (tolT a (ordC o))) := ans_tld a hcb
    have hle := errN_le a (ordC o)
    have HNM : Hid (∀ V, AL w0 x (nxt a (ordC o)) (N + 4) V ∧ But (x.F a.n) w V → Calls Tryz.prog 15 #[.iface 75 (.int .i64 ((errN a (ordC o) : Nat) : Int))] V fun e w' => e = .returned (.string (sb (ern (errN a (ordC o))))) ∧ AL w0 x (nxt a (ordC o)) (N + 4) w' ∧ But (x.F a.n) w w') := fun V hv =>
      (name_errno _ hle V (HG.out.old hv.1.low)).mono fun e w' ⟨he, hb⟩ => ⟨he, still2 hv hb⟩
    (show Calls _ _ _ _ fun e w' => e = .returned (st (ans a (ordC o))) ∧ AL w0 x (nxt a (ordC o)) (N + 4) w' ∧ But (x.F a.n) w w')
    have C2 : Calls Tryz.prog 43 #[.agg #[.pointer (some ⟨x.p, 0, none⟩), .map (some mb)], st s] (w.alloc (.cells #[.pointer (some ⟨x.p, 0, none⟩), .map (some mb)] 45)) fun e w' => e = .returned (.tuple #[.agg #[.string (sb o.1), .int .i64 ((o.2.1 : Nat) : Int), .int .i64 ((o.2.2.1 : Nat) : Int), .string (sb o.2.2.2)], .nilIface]) ∧ Below (w.alloc (.cells #[.pointer (some ⟨x.p, 0, none⟩), .map (some mb)] 45)).heap.size (w.alloc (.cells #[.pointer (some ⟨x.p, 0, none⟩), .map (some mb)] 45)) w' := C
    clear C hr hok h hM hk1 hk2 hk3 hcb
    generalize sb o.1 = s1 at *
    generalize sb o.2.2.2 = s4 at *
    generalize o.2.1 = n1 at *
    generalize o.2.2.1 = n2 at *
    go_enter Tryz.func19, Tryz.ntmps19
    go_wp2_with fail
    refine C2.mono ?_
    rintro e w2 ⟨rfl, hb2⟩
    have HB2 : Hid (Below w.heap.size w w2) := ((Below.refl _ w).alloc (Nat.le_refl _) _).trans (hb2.mono (by simp))
    have hs2 : w.heap.size + 1 ≤ w2.heap.size := by
      have := hb2.size
      simp only [World.size_alloc] at this
      exact this
    have m0 : w2.cell? ⟨w.heap.size, 0, none⟩ = some (.pointer (some ⟨x.p, 0, none⟩)) := by rw [hb2.cell (by simp)]; simp
    have m1 : w2.cell? ⟨w.heap.size, 1, none⟩ = some (.map (some mb)) := by rw [hb2.cell (by simp)]; simp
    have hob1 : ¬ w.heap.size = w2.heap.size := by omega
    have hob3 : w.heap.size < w2.heap.size := by omega
    clear C2 hb2
    go_wp2_with fail
    refine (HDO.out _ (by repeat (first | exact HB2.out | refine below_drewN ?_ _ | refine Below.setCell ?_ (by first | omega | (simp; done) | (simp; omega)) _ | refine Below.alloc ?_ (by first | omega | (simp; done) | (simp; omega)) _))).mono ?_
    rintro e w3 ⟨rfl, hal⟩
    have HA : Hid (AL w0 x (nxt a (ordC o)) (N + 4) w3 ∧ But (x.F a.n) w w3) := hal
    clear hal HDO m0 m1 hob1 hob3 hs2
    by_cases hz : errN a (ordC o) = 0
    · have HT2 : Hid (st (ans a (ordC o)) = st (tolT a (ordC o))) := by
        (show _ = _)
        rw [HTL.out, hz]
        rfl
      rw [hz, errV, if_pos rfl]
      clear HNM HTL hle hz
      unfold st at *
      obtain ⟨ot, hto⟩ : ∃ ot, ot = sb (tolT a (ordC o)) := ⟨_, rfl⟩
      rw [← hto] at HT2 ⊢
      clear hto
      go_wp2
      go_ret
      exact ⟨by (show _ = Ending.returned (Value.string (sb (ans a (ordC o))))); rw [HT2.out]; rfl, HA.out⟩
    · have HT2 : Hid (st (ans a (ordC o)) = st (ern (errN a (ordC o)))) := by
        (show _ = _)
        rw [HTL.out, tld_no0 hz]
      rw [errV, if_neg hz]
      have CN := HNM.out _ HA.out
      clear HNM HTL hle hz HA
      unfold st at *
      obtain ⟨ot, hto⟩ : ∃ ot, ot = sb (ern (errN a (ordC o))) := ⟨_, rfl⟩
      rw [← hto] at HT2 CN
      clear hto
      generalize sb (tolT a (ordC o)) = tt at *
      generalize errN a (ordC o) = k at *
      go_wp2_with fail
      refine CN.mono ?_
      rintro e w4 ⟨rfl, hal⟩
      have HA4 : Hid (AL w0 x (nxt a (ordC o)) (N + 4) w4 ∧ But (x.F a.n) w w4) := hal
      clear hal CN
      go_wp2
      go_ret
      exact ⟨by (show _ = Ending.returned (Value.string (sb (ans a (ordC o))))); rw [HT2.out]; rfl, HA4.out⟩
end Go.Proofs.YteafakgjfmbhoaaGreatDoor
