import Derived.Test.YteeiblhjjeognaaGreatDoorJ44
/-! errors.As, where the error is a flaw. -/
namespace Go.Proofs.YteeiblhjjeognaaGreatDoor.C
open Go.RowKit Go.Extern.Stop Go.Stop Go.Extern
set_option maxRecDepth 20000
def vP (b : Nat) : Obj := .cells #[.pointer (some ⟨3, 55, none⟩), .pointer (some ⟨b, 0, none⟩), .int .u64 150] 87
def vF (c k i : Nat) : Obj := .cells #[.int .i64 c, .int .i64 k, .int .i64 i] 50
set_option maxHeartbeats 4000000 in
theorem as_flaw (c k i b : Nat) (w : World) (hb : w.heap[b]? = some (.cells #[.int .i64 0, .int .i64 0, .int .i64 0] 50)) (hg : w.cell? ⟨0, 0, none⟩ = some (.iface 127 (.agg #[.pointer (some ⟨3, 53, none⟩)]))) : Calls Tryz.prog 21 #[.iface 50 (.agg #[.int .i64 c, .int .i64 k, .int .i64 i]), .iface 55 (.pointer (some ⟨b, 0, none⟩))] w fun e w' => e = .returned (.bool true) ∧ w' = ((((w.alloc (.cells #[.pointer (some ⟨b, 0, none⟩)] 55)).alloc (vP w.heap.size)).alloc (vP w.heap.size)).alloc (vF c k i)).setRow b #[.int .i64 c, .int .i64 k, .int .i64 i] := by
  have h6 := @run_callFunc_extern Tryz.prog 40 _ (fun args => ReflectliteValue.unpack (args.getD 0 (.tuple #[]))) Tryz.func40 (by kernel_rfl) (by kernel_rfl) (by kernel_rfl) (by kernel_rfl)
  have h7 := @run_callFunc_extern Tryz.prog 41 _ (ReflectliteValue.methodAny (ReflectliteValue.valueError "reflectlite.Value.Type" 0) (fun t _ _ _ => ReflectliteType.toType t)) Tryz.func41 (by kernel_rfl) (by kernel_rfl) (by kernel_rfl) (by kernel_rfl)
  have h8 := @run_callFunc_extern Tryz.prog 42 _ (ReflectliteValue.method (ReflectliteValue.valueError "reflectlite.Value.IsNil" 0) ReflectliteValue.isNil) Tryz.func42 (by kernel_rfl) (by kernel_rfl) (by kernel_rfl) (by kernel_rfl)
  have h27 := @run_callFunc_extern Tryz.prog 145 _ (ReflectliteType.abiMethod fun t => do pure (.int .u8 (← Rtype.kind t))) Tryz.func145 (by kernel_rfl) (by kernel_rfl) (by kernel_rfl) (by kernel_rfl)
  have h37 := @run_callFunc_extern Tryz.prog 155 _ (ReflectliteType.method ReflectliteType.elem) Tryz.func155 (by kernel_rfl) (by kernel_rfl) (by kernel_rfl) (by kernel_rfl)
  have h38 := @run_callFunc_extern Tryz.prog 156 _ (ReflectliteType.relation "Implements" ReflectliteType.implements_) Tryz.func156 (by kernel_rfl) (by kernel_rfl) (by kernel_rfl) (by kernel_rfl)
  have h10 := @run_callFunc_extern Tryz.prog 72 _ ReflectliteType.typeOf Tryz.func72 (by kernel_rfl) (by kernel_rfl) (by kernel_rfl) (by kernel_rfl)
  have h35 := @run_callFunc_extern Tryz.prog 153 _ (ReflectliteType.relation "AssignableTo" ReflectliteType.assignableTo) Tryz.func153 (by kernel_rfl) (by kernel_rfl) (by kernel_rfl) (by kernel_rfl)
  have h11 := @run_callFunc_extern Tryz.prog 73 _ (ReflectliteValue.method (ReflectliteValue.valueError "reflectlite.Value.Elem" 0) ReflectliteValue.elem) Tryz.func73 (by kernel_rfl) (by kernel_rfl) (by kernel_rfl) (by kernel_rfl)
  have h12 := @run_callFunc_extern Tryz.prog 74 _ ReflectliteValue.set Tryz.func74 (by kernel_rfl) (by kernel_rfl) (by kernel_rfl) (by kernel_rfl)
  have tO := rTypeOf
  have a25 := rAssign
  have v25 := rValueF c k i
  unfold flaw at v25
  have f6 := rValueP
  have f7 := rTypeP
  have mK : ∀ (h : Value) (w : World), (Go.method 319 127 (.agg #[h]) "Kind").run Tryz.prog w = .ok (145, h) w := fun h w => by kernel_rfl
  have mE : ∀ (h : Value) (w : World), (Go.method 319 127 (.agg #[h]) "Elem").run Tryz.prog w = .ok (155, .agg #[h]) w := fun h w => by kernel_rfl
  have mI : ∀ (h : Value) (w : World), (Go.method 319 127 (.agg #[h]) "Implements").run Tryz.prog w = .ok (156, .agg #[h]) w := fun h w => by kernel_rfl
  have mA : ∀ (h : Value) (w : World), (Go.method 319 127 (.agg #[h]) "AssignableTo").run Tryz.prog w = .ok (153, .agg #[h]) w := fun h w => by kernel_rfl
  have k27 := rKindP
  have k25 := rKindF
  have e27 := rElemP
  have i25 := rImpl
  have n8 := rIsNil ⟨w.heap.size, 0, none⟩ ⟨b, 0, none⟩ ((w.alloc (.cells #[.pointer (some ⟨b, 0, none⟩)] 55)).alloc (vP w.heap.size)) (by simp)
  have hbl := lt_hp hb
  have el := rElemV ⟨w.heap.size, 0, none⟩ ⟨b, 0, none⟩ (((w.alloc (.cells #[.pointer (some ⟨b, 0, none⟩)] 55)).alloc (vP w.heap.size)).alloc (vP w.heap.size)) (by rw [World.cell?_alloc_lt _ _ ⟨w.heap.size, 0, none⟩ (by simp; omega)]; simp)
  have st := rSet b (w.heap.size + 1 + 1 + 1) c k i ((((w.alloc (.cells #[.pointer (some ⟨b, 0, none⟩)] 55)).alloc (vP w.heap.size)).alloc (vP w.heap.size)).alloc (vF c k i)) (.int .i64 0) (.int .i64 0) (.int .i64 0) (by have h9 := heap_alloc_new (((w.alloc (.cells #[.pointer (some ⟨b, 0, none⟩)] 55)).alloc (vP w.heap.size)).alloc (vP w.heap.size)) (vF c k i); simpa [vF] using h9) (hp_next hb ((((Below.refl w.heap.size w).alloc (Nat.le_refl _) _).alloc (by simp) _ |>.alloc (by simp; omega) _).alloc (by simp; omega) _))
  have hlt : 0 < w.heap.size := Nat.lt_of_le_of_lt (Nat.zero_le _) hbl
  have hg2 : ((w.alloc (.cells #[.pointer (some ⟨b, 0, none⟩)] 55)).alloc (vP w.heap.size)).cell? ⟨0, 0, none⟩ = some (.iface 127 (.agg #[.pointer (some ⟨3, 53, none⟩)])) := by
    rw [World.cell?_alloc_lt _ _ ⟨0, 0, none⟩ (by simp), World.cell?_alloc_lt _ _ ⟨0, 0, none⟩ hlt]; exact hg
  unfold vP vF at *
  go_enter Tryz.func21, Tryz.ntmps21
  go_wp2
  refine wp_loop_rounds 1 ?_
  rw [rounds_succ]
  go_wp2
  go_ret
  exact ⟨rfl, rfl⟩
end Go.Proofs.YteeiblhjjeognaaGreatDoor.C
