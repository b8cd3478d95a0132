import Derived.Test.YtcjgcipacfcjnaaGreatDoorJ42
namespace Go.Proofs.YtcjgcipacfcjnaaGreatDoor.C.D
open Go.RowKit Go.Extern.Stop Go.Stop Go.Extern
set_option maxRecDepth 20000
def vP (b : Nat) : Obj := .cells #[.pointer (some ⟨7, 72, none⟩), .pointer (some ⟨b, 0, none⟩), .int .u64 150] 109
def vF (a9 : Int) (t9 : TypeId) (u9 : Value) : Obj := .cells #[.int .i64 a9, .iface t9 u9] 70
set_option maxHeartbeats 4000000 in
theorem as_flaw (a9 : Int) (t9 : TypeId) (u9 : Value) (b : Nat) (w : World) (hb : w.heap[b]? = some (.cells #[.int .i64 0, .nilIface] 70)) (hg : w.cell? ⟨2, 0, none⟩ = some (.iface 151 (.agg #[.pointer (some ⟨7, 43, none⟩)]))) : Calls Tryz.prog 28 #[.iface 70 (.agg #[.int .i64 a9, .iface t9 u9]), .iface 72 (.pointer (some ⟨b, 0, none⟩))] w fun e w' => e = .returned (.bool true) ∧ w' = ((((w.alloc (.cells #[.pointer (some ⟨b, 0, none⟩)] 72)).alloc (vP w.heap.size)).alloc (vP w.heap.size)).alloc (vF a9 t9 u9)).setRow b #[.int .i64 a9, .iface t9 u9] := by
 have h6 := @run_callFunc_extern Tryz.prog 52 _ (fun args => ReflectliteValue.unpack (args.getD 0 (.tuple #[]))) Tryz.func52 (by kernel_rfl) (by kernel_rfl) (by kernel_rfl) (by kernel_rfl)
 have h7 := @run_callFunc_extern Tryz.prog 53 _ (ReflectliteValue.methodAny (ReflectliteValue.valueError "reflectlite.Value.Type" 0) (fun t _ _ _ => ReflectliteType.toType t)) Tryz.func53 (by kernel_rfl) (by kernel_rfl) (by kernel_rfl) (by kernel_rfl)
 have h8 := @run_callFunc_extern Tryz.prog 54 _ (ReflectliteValue.method (ReflectliteValue.valueError "reflectlite.Value.IsNil" 0) ReflectliteValue.isNil) Tryz.func54 (by kernel_rfl) (by kernel_rfl) (by kernel_rfl) (by kernel_rfl)
 have h27 := @run_callFunc_extern Tryz.prog 180 _ (ReflectliteType.abiMethod fun t => do pure (.int .u8 (← Rtype.kind t))) Tryz.func180 (by kernel_rfl) (by kernel_rfl) (by kernel_rfl) (by kernel_rfl)
 have h37 := @run_callFunc_extern Tryz.prog 193 _ (ReflectliteType.method ReflectliteType.elem) Tryz.func193 (by kernel_rfl) (by kernel_rfl) (by kernel_rfl) (by kernel_rfl)
 have h38 := @run_callFunc_extern Tryz.prog 194 _ (ReflectliteType.relation "Implements" ReflectliteType.implements_) Tryz.func194 (by kernel_rfl) (by kernel_rfl) (by kernel_rfl) (by kernel_rfl)
 have h10 := @run_callFunc_extern Tryz.prog 82 _ ReflectliteType.typeOf Tryz.func82 (by kernel_rfl) (by kernel_rfl) (by kernel_rfl) (by kernel_rfl)
 have h35 := @run_callFunc_extern Tryz.prog 191 _ (ReflectliteType.relation "AssignableTo" ReflectliteType.assignableTo) Tryz.func191 (by kernel_rfl) (by kernel_rfl) (by kernel_rfl) (by kernel_rfl)
 have h11 := @run_callFunc_extern Tryz.prog 83 _ (ReflectliteValue.method (ReflectliteValue.valueError "reflectlite.Value.Elem" 0) ReflectliteValue.elem) Tryz.func83 (by kernel_rfl) (by kernel_rfl) (by kernel_rfl) (by kernel_rfl)
 have h12 := @run_callFunc_extern Tryz.prog 84 _ ReflectliteValue.set Tryz.func84 (by kernel_rfl) (by kernel_rfl) (by kernel_rfl) (by kernel_rfl)
 have tO := rTypeOf
 have a25 := rAssign
 have v25 := rValueF a9 t9 u9
 have f6 := rValueP
 have f7 := rTypeP
 have mK : ∀ (h : Value) (w : World), (Go.method 371 151 (.agg #[h]) "Kind").run Tryz.prog w = .ok (180, h) w := fun h w => by kernel_rfl
 have mE : ∀ (h : Value) (w : World), (Go.method 371 151 (.agg #[h]) "Elem").run Tryz.prog w = .ok (193, .agg #[h]) w := fun h w => by kernel_rfl
 have mI : ∀ (h : Value) (w : World), (Go.method 371 151 (.agg #[h]) "Implements").run Tryz.prog w = .ok (194, .agg #[h]) w := fun h w => by kernel_rfl
 have mA : ∀ (h : Value) (w : World), (Go.method 371 151 (.agg #[h]) "AssignableTo").run Tryz.prog w = .ok (191, .agg #[h]) w := fun h w => by kernel_rfl
 have k27 := rKindP
 have k25 := rKindF
 have e27 := rElemP
 have i25 := rImpl
 have n8 := rIsNil ⟨w.heap.size, 0, none⟩ ⟨b, 0, none⟩ ((w.alloc (.cells #[.pointer (some ⟨b, 0, none⟩)] 72)).alloc (vP w.heap.size)) (by simp)
 have hbl := lt_hp hb
 have el := rElemV ⟨w.heap.size, 0, none⟩ ⟨b, 0, none⟩ (((w.alloc (.cells #[.pointer (some ⟨b, 0, none⟩)] 72)).alloc (vP w.heap.size)).alloc (vP w.heap.size)) (by rw [World.cell?_alloc_lt _ _ ⟨w.heap.size, 0, none⟩ (by simp; omega)]; simp)
 have st := rSet b (w.heap.size + 1 + 1 + 1) a9 t9 u9 ((((w.alloc (.cells #[.pointer (some ⟨b, 0, none⟩)] 72)).alloc (vP w.heap.size)).alloc (vP w.heap.size)).alloc (vF a9 t9 u9)) (.int .i64 0) .nilIface (by have h9 := heap_alloc_new (((w.alloc (.cells #[.pointer (some ⟨b, 0, none⟩)] 72)).alloc (vP w.heap.size)).alloc (vP w.heap.size)) (vF a9 t9 u9); simpa [vF] using h9) (hp_next hb ((((Below.refl w.heap.size w).alloc (Nat.le_refl _) _).alloc (by simp) _ |>.alloc (by simp; omega) _).alloc (by simp; omega) _))
 have hlt : 2 < w.heap.size := cell_in hg
 have hg2 : ((w.alloc (.cells #[.pointer (some ⟨b, 0, none⟩)] 72)).alloc (vP w.heap.size)).cell? ⟨2, 0, none⟩ = some (.iface 151 (.agg #[.pointer (some ⟨7, 43, none⟩)])) := by
  rw [World.cell?_alloc_lt _ _ ⟨2, 0, none⟩ (by simp; omega), World.cell?_alloc_lt _ _ ⟨2, 0, none⟩ hlt]; exact hg
 unfold vP vF at *
 go_enter Tryz.func28, Tryz.ntmps28
 go_wp2
 refine wp_loop_rounds 1 ?_
 rw [rounds_succ]
 go_wp2
 go_ret
 exact ⟨rfl, rfl⟩
end Go.Proofs.YtcjgcipacfcjnaaGreatDoor.C.D
