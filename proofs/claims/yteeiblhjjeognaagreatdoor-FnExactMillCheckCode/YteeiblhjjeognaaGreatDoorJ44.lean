import Derived.Test.YteeiblhjjeognaaGreatDoorJ43
/-! errors.As, where the error is a flaw. -/
namespace Go.Proofs.YteeiblhjjeognaaGreatDoor.C
open Go.RowKit Go.Extern.Stop Go.Stop Go.Extern
set_option maxRecDepth 20000
theorem rls (v x : Value) : ReflectliteValue.set #[v, x] = (do
    let (some (dst, a, fl), some (src, b, _)) := (← ReflectliteValue.parts v, ← ReflectliteValue.parts x)
      | unsupported (.noEntry "extern/(internal/reflectlite.Value).Set.zeroValue")
    if fl / ReflectliteValue.flagAddr % 2 == 0 then unsupported (.noEntry "extern/(internal/reflectlite.Value).Set.unaddressable")
    let val ← loadVar src b
    if ← Rtype.directlyAssignable dst src then storeVar dst a val
    else if ← Rtype.implements dst src then
      if (← Rtype.kind src) == 20 then
        match val with
        | .nilIface => unsupported (.noEntry "extern/reflectlite: a nil value of one interface type handed on as a value of another")
        | _ => storeVar dst a val
      else storeVar dst a (.iface src val)
    else panicString ("reflectlite.Set: value of type " ++ (← Rtype.spelt src) ++ " is not assignable to type " ++ (← Rtype.spelt dst))
    pure (.tuple #[])) := rfl
theorem rSet (t g : Nat) (c k i : Nat) (W : World) (x0 x1 x2 : Value) (hg : W.heap[g]? = some (.cells #[.int .i64 c, .int .i64 k, .int .i64 i] 50)) (ht : W.heap[t]? = some (.cells #[x0, x1, x2] 50)) :
    (ReflectliteValue.set #[.agg #[.pointer (some ⟨3, 50, none⟩), .pointer (some ⟨t, 0, none⟩), .int .u64 409], .agg #[.pointer (some ⟨3, 50, none⟩), .pointer (some ⟨g, 0, none⟩), .int .u64 153]]).run Tryz.prog W
      = .ok (.tuple #[]) (W.setRow t #[.int .i64 c, .int .i64 k, .int .i64 i]) := by
  have hsz : ∀ w, (sizeOf 50).run Tryz.prog w = .ok 3 w := fun w => by kernel_rfl
  have hld : (loadCells ⟨g, 0, none⟩ 3).run Tryz.prog W = .ok #[.int .i64 c, .int .i64 k, .int .i64 i] W := by
    have := run_loadCells_list (P := Tryz.prog) W ⟨g, 0, none⟩ [.int .i64 c, .int .i64 k, .int .i64 i] (fun j v hj => by
      have hj3 : j < 3 := by have := (List.getElem?_eq_some_iff.1 hj).1; simpa using this
      have ea : (⟨g, 0, none⟩ : Addr).add j = ⟨g, j, none⟩ := by simp [Addr.add]; exact fun h => h.symm
      rw [ea, cell_hp hg j]
      simpa using hj)
    simpa using this
  have hst : (storeCells ⟨t, 0, none⟩ [.int .i64 c, .int .i64 k, .int .i64 i] 0).run Tryz.prog W = .ok () (W.setRow t #[.int .i64 c, .int .i64 k, .int .i64 i]) := by
    have := run_storeCells_at (P := Tryz.prog) t 0 50 [.int .i64 c, .int .i64 k, .int .i64 i] 0 #[x0, x1, x2] W ht (by simp) (by simp [Value.oneCell'])
    simpa using this
  rw [rls]
  simp only [Sem.run_bind, rPartsFa, rPartsF, Result.andThen]
  simp [ReflectliteValue.flagAddr, loadVar, isAgg, underlying, Tryz.underlying50, hld, hsz, Result.andThen, rDirect, storeVar, Value.cells, hst]
end Go.Proofs.YteeiblhjjeognaaGreatDoor.C
