import Derived.Deep.RegionHeld3
import Derived.Test.YtkngjbpbjjoneaaGreatDoorJ08
/-! A node put over its kids. Printed by gen_wof.py. -/
namespace Go.Proofs.YtkngjbpbjjoneaaGreatDoor.Q
open Go.RowKit Go.Shelf
set_option maxRecDepth 20000
/-- The call answered the part of x. -/
def PartEnd (S : Nat → Prop) (e : Ending) (W : World) (x : Nd) (ks : List Nat) (pv : Nat → Value) : Prop := ∃ v, e = .returned v ∧ PartAt S W x ks pv v
/-- The values of kids are parts. -/
def Ifs (ks : List Nat) (pv : Nat → Value) : Prop := ∀ k ∈ ks, ∃ T y, pv k = .iface T y
theorem Ifs.get {ks : List Nat} {pv : Nat → Value} (h : Ifs ks pv) (i : Nat) (hi : i < ks.length) : ∃ T y, pv (ks.getD i 0) = .iface T y := h _ (by rw [List.getD_eq_getElem?_getD, List.getElem?_eq_getElem hi]; exact List.getElem_mem hi)
set_option maxHeartbeats 1000000 in
theorem kidOr_some (g n cap i : Nat) (T : TypeId) (y : Value) (w : World) (hi : i < n) (hc : w.cell? ⟨g, i, none⟩ = some (.iface T y)) :
    Calls Tryz.prog 80 #[.slice (some ⟨g, 0, none⟩) n cap, .int .i64 i] w fun e w' => e = .returned (.iface T y) ∧ w' = w := by
  have h1 : (i : Int) < (n : Int) := by omega
  go_enter Tryz.func80, Tryz.ntmps80
  go_wp2
  go_ret
  exact ⟨rfl, rfl⟩
set_option maxHeartbeats 1000000 in
theorem kidOr_none (ad : Option Addr) (n cap i : Nat) (w : World) (hi : n ≤ i) :
    Calls Tryz.prog 80 #[.slice ad n cap, .int .i64 i] w fun e w' => e = .returned .nilIface ∧ w' = w := by
  have h1 : (n : Int) ≤ (i : Int) := by omega
  go_enter Tryz.func80, Tryz.ntmps80
  go_wp2
  go_ret
  exact ⟨rfl, rfl⟩
set_option maxHeartbeats 1000000 in
theorem sof_10 (S : Nat → Prop) (op ty n kids : Int) (t : ByteArray) (ks : List Nat) (pv : Nat → Value) (ad : Option Addr) (cap : Nat) (kd : Nat → Int) (w : World) (hr : RowP S w ad (ks.map pv)) (hf : Ifs ks pv) (hk : KidsOk ⟨10, op, ty, n, t, kids⟩ ks.length kd) (_hn : ks.length ≤ 12001) :
    Calls Tryz.prog 59 #[.agg #[.int .i64 10, .int .i64 op, .int .i64 ty, .int .i64 n, .string t, .int .i64 kids], .slice ad ks.length cap] w fun e w' => PartEnd S e w' ⟨10, op, ty, n, t, kids⟩ ks pv ∧ Below w.heap.size w w' := by
  have hko := (ko_10 _ _ _ _ _ _ _).1 hk
  clear hk
  have hm : ks.length = 1 := hko.1
  clear hko
  obtain ⟨g, rfl, hgl, hc⟩ := hr.get (by omega)
  have c0 := hc 0 (by omega)
  obtain ⟨T0, y0, e0⟩ := hf.get 0 (by omega)
  rw [e0] at c0
  have E0 := hid e0
  have C0 := hid c0
  clear hc hr hf e0
  have HM := hid hm
  rw [hm]
  clear hm
  have HB0 := hid ((Below.refl w.heap.size w).alloc (Nat.le_refl _) (.cells #[.int .i64 10, .int .i64 op, .int .i64 ty, .int .i64 n, .string t, .int .i64 kids] 63))
  go_enter Tryz.func59, Tryz.ntmps59
  go_wp2
  try (go_quiet (fail); go_wp2)
  go_ret
  exact ⟨⟨_, rfl, pa_10.2 (by (rw [E0.out]) <;> rfl)⟩, by first | exact HB0.out | exact below_drewN HB0.out _⟩
set_option maxHeartbeats 1000000 in
theorem sof_11 (S : Nat → Prop) (op ty n kids : Int) (t : ByteArray) (ks : List Nat) (pv : Nat → Value) (ad : Option Addr) (cap : Nat) (kd : Nat → Int) (w : World) (hr : RowP S w ad (ks.map pv)) (hf : Ifs ks pv) (hk : KidsOk ⟨11, op, ty, n, t, kids⟩ ks.length kd) (_hn : ks.length ≤ 12001) :
    Calls Tryz.prog 59 #[.agg #[.int .i64 11, .int .i64 op, .int .i64 ty, .int .i64 n, .string t, .int .i64 kids], .slice ad ks.length cap] w fun e w' => PartEnd S e w' ⟨11, op, ty, n, t, kids⟩ ks pv ∧ Below w.heap.size w w' := by
  have hko := (ko_11 _ _ _ _ _ _ _).1 hk
  clear hk
  have hm : ks.length = 1 := hko.1
  clear hko
  obtain ⟨g, rfl, hgl, hc⟩ := hr.get (by omega)
  have c0 := hc 0 (by omega)
  obtain ⟨T0, y0, e0⟩ := hf.get 0 (by omega)
  rw [e0] at c0
  have E0 := hid e0
  have C0 := hid c0
  clear hc hr hf e0
  have HM := hid hm
  rw [hm]
  clear hm
  have HB0 := hid ((Below.refl w.heap.size w).alloc (Nat.le_refl _) (.cells #[.int .i64 11, .int .i64 op, .int .i64 ty, .int .i64 n, .string t, .int .i64 kids] 63))
  go_enter Tryz.func59, Tryz.ntmps59
  go_wp2
  try (go_quiet (fail); go_wp2)
  go_ret
  exact ⟨⟨_, rfl, pa_11.2 (by (rw [E0.out]) <;> rfl)⟩, by first | exact HB0.out | exact below_drewN HB0.out _⟩
set_option maxHeartbeats 1000000 in
theorem sof_12 (S : Nat → Prop) (op ty n kids : Int) (t : ByteArray) (ks : List Nat) (pv : Nat → Value) (ad : Option Addr) (cap : Nat) (kd : Nat → Int) (w : World) (hr : RowP S w ad (ks.map pv)) (hf : Ifs ks pv) (hk : KidsOk ⟨12, op, ty, n, t, kids⟩ ks.length kd) (_hn : ks.length ≤ 12001) :
    Calls Tryz.prog 59 #[.agg #[.int .i64 12, .int .i64 op, .int .i64 ty, .int .i64 n, .string t, .int .i64 kids], .slice ad ks.length cap] w fun e w' => PartEnd S e w' ⟨12, op, ty, n, t, kids⟩ ks pv ∧ Below w.heap.size w w' := by
  have hko := (ko_12 _ _ _ _ _ _ _).1 hk
  have hm : ks.length = 2 ∨ ks.length = 3 := by omega
  clear hko hk
  rcases hm with hm | hm
  · obtain ⟨g, rfl, hgl, hc⟩ := hr.get (by omega)
    have c0 := hc 0 (by omega)
    obtain ⟨T0, y0, e0⟩ := hf.get 0 (by omega)
    rw [e0] at c0
    have E0 := hid e0
    have C0 := hid c0
    have c1 := hc 1 (by omega)
    obtain ⟨T1, y1, e1⟩ := hf.get 1 (by omega)
    rw [e1] at c1
    have E1 := hid e1
    have C1 := hid c1
    clear hc hr hf e0 e1
    have HM := hid hm
    rw [hm]
    clear hm
    have HB0 := hid ((Below.refl w.heap.size w).alloc (Nat.le_refl _) (.cells #[.int .i64 12, .int .i64 op, .int .i64 ty, .int .i64 n, .string t, .int .i64 kids] 63))
    go_enter Tryz.func59, Tryz.ntmps59
    go_wp2_with fail
    go_quiet (first | (go_at_call 80; exact Calls.quiet_of_same (kidOr_none _ 2 cap 2 _ (by omega))))
    go_wp2
    go_ret
    exact ⟨⟨_, rfl, pa_12.2 (by rw [HM.out, E0.out, E1.out]; rfl)⟩, by first | exact HB0.out | exact below_drewN HB0.out _⟩
  · obtain ⟨g, rfl, hgl, hc⟩ := hr.get (by omega)
    have c0 := hc 0 (by omega)
    obtain ⟨T0, y0, e0⟩ := hf.get 0 (by omega)
    rw [e0] at c0
    have E0 := hid e0
    have C0 := hid c0
    have c1 := hc 1 (by omega)
    obtain ⟨T1, y1, e1⟩ := hf.get 1 (by omega)
    rw [e1] at c1
    have E1 := hid e1
    have C1 := hid c1
    have c2 := hc 2 (by omega)
    obtain ⟨T2, y2, e2⟩ := hf.get 2 (by omega)
    rw [e2] at c2
    have E2 := hid e2
    have C2 := hid c2
    clear hc hr hf e0 e1 e2
    have HM := hid hm
    rw [hm]
    clear hm
    have HB0 := hid ((Below.refl w.heap.size w).alloc (Nat.le_refl _) (.cells #[.int .i64 12, .int .i64 op, .int .i64 ty, .int .i64 n, .string t, .int .i64 kids] 63))
    go_enter Tryz.func59, Tryz.ntmps59
    go_wp2_with fail
    go_quiet (first | (go_at_call 80; exact Calls.quiet_of_same (kidOr_some g 3 cap 2 T2 y2 _ (by omega) (((below_drewN HB0.out _).cell (p := ⟨g, 2, none⟩) hgl).trans C2.out))))
    go_wp2
    go_ret
    exact ⟨⟨_, rfl, pa_12.2 (by rw [HM.out, E0.out, E1.out, E2.out]; rfl)⟩, by first | exact HB0.out | exact below_drewN HB0.out _⟩
set_option maxHeartbeats 1000000 in
theorem sof_13 (S : Nat → Prop) (op ty n kids : Int) (t : ByteArray) (ks : List Nat) (pv : Nat → Value) (ad : Option Addr) (cap : Nat) (kd : Nat → Int) (w : World) (hr : RowP S w ad (ks.map pv)) (hf : Ifs ks pv) (hk : KidsOk ⟨13, op, ty, n, t, kids⟩ ks.length kd) (_hn : ks.length ≤ 12001) :
    Calls Tryz.prog 59 #[.agg #[.int .i64 13, .int .i64 op, .int .i64 ty, .int .i64 n, .string t, .int .i64 kids], .slice ad ks.length cap] w fun e w' => PartEnd S e w' ⟨13, op, ty, n, t, kids⟩ ks pv ∧ Below w.heap.size w w' := by
  have hko := (ko_13 _ _ _ _ _ _ _).1 hk
  clear hk
  have hm : ks.length = 2 := hko.1
  clear hko
  obtain ⟨g, rfl, hgl, hc⟩ := hr.get (by omega)
  have c0 := hc 0 (by omega)
  obtain ⟨T0, y0, e0⟩ := hf.get 0 (by omega)
  rw [e0] at c0
  have E0 := hid e0
  have C0 := hid c0
  have c1 := hc 1 (by omega)
  obtain ⟨T1, y1, e1⟩ := hf.get 1 (by omega)
  rw [e1] at c1
  have E1 := hid e1
  have C1 := hid c1
  clear hc hr hf e0 e1
  have HM := hid hm
  rw [hm]
  clear hm
  have HB0 := hid ((Below.refl w.heap.size w).alloc (Nat.le_refl _) (.cells #[.int .i64 13, .int .i64 op, .int .i64 ty, .int .i64 n, .string t, .int .i64 kids] 63))
  go_enter Tryz.func59, Tryz.ntmps59
  go_wp2
  try (go_quiet (fail); go_wp2)
  go_ret
  exact ⟨⟨_, rfl, pa_13.2 (by (rw [E0.out, E1.out]) <;> rfl)⟩, by first | exact HB0.out | exact below_drewN HB0.out _⟩
set_option maxHeartbeats 1000000 in
theorem sof_14 (S : Nat → Prop) (op ty n kids : Int) (t : ByteArray) (ks : List Nat) (pv : Nat → Value) (ad : Option Addr) (cap : Nat) (kd : Nat → Int) (w : World) (hr : RowP S w ad (ks.map pv)) (_hf : Ifs ks pv) (hk : KidsOk ⟨14, op, ty, n, t, kids⟩ ks.length kd) (_hn : ks.length ≤ 12001) :
    Calls Tryz.prog 59 #[.agg #[.int .i64 14, .int .i64 op, .int .i64 ty, .int .i64 n, .string t, .int .i64 kids], .slice ad ks.length cap] w fun e w' => PartEnd S e w' ⟨14, op, ty, n, t, kids⟩ ks pv ∧ Below w.heap.size w w' := by
  have hko := (ko_14 _ _ _ _ _ _ _).1 hk
  clear hk
  clear hko
  have HR := hid hr
  clear hr
  have HB0 := hid ((Below.refl w.heap.size w).alloc (Nat.le_refl _) (.cells #[.int .i64 14, .int .i64 op, .int .i64 ty, .int .i64 n, .string t, .int .i64 kids] 63))
  go_enter Tryz.func59, Tryz.ntmps59
  go_wp2
  try (go_quiet (fail); go_wp2)
  go_ret
  exact ⟨⟨_, rfl, pa_14.2 rfl⟩, by first | exact HB0.out | exact below_drewN HB0.out _⟩
set_option maxHeartbeats 1000000 in
theorem sof_15 (S : Nat → Prop) (op ty n kids : Int) (t : ByteArray) (ks : List Nat) (pv : Nat → Value) (ad : Option Addr) (cap : Nat) (kd : Nat → Int) (w : World) (hr : RowP S w ad (ks.map pv)) (_hf : Ifs ks pv) (hk : KidsOk ⟨15, op, ty, n, t, kids⟩ ks.length kd) (_hn : ks.length ≤ 12001) :
    Calls Tryz.prog 59 #[.agg #[.int .i64 15, .int .i64 op, .int .i64 ty, .int .i64 n, .string t, .int .i64 kids], .slice ad ks.length cap] w fun e w' => PartEnd S e w' ⟨15, op, ty, n, t, kids⟩ ks pv ∧ Below w.heap.size w w' := by
  have hko := (ko_15 _ _ _ _ _ _ _).1 hk
  clear hk
  clear hko
  have HR := hid hr
  clear hr
  have HB0 := hid ((Below.refl w.heap.size w).alloc (Nat.le_refl _) (.cells #[.int .i64 15, .int .i64 op, .int .i64 ty, .int .i64 n, .string t, .int .i64 kids] 63))
  go_enter Tryz.func59, Tryz.ntmps59
  go_wp2
  try (go_quiet (fail); go_wp2)
  go_ret
  exact ⟨⟨_, rfl, pa_15.2 rfl⟩, by first | exact HB0.out | exact below_drewN HB0.out _⟩
set_option maxHeartbeats 1000000 in
theorem sof_16 (S : Nat → Prop) (op ty n kids : Int) (t : ByteArray) (ks : List Nat) (pv : Nat → Value) (ad : Option Addr) (cap : Nat) (kd : Nat → Int) (w : World) (hr : RowP S w ad (ks.map pv)) (hf : Ifs ks pv) (hk : KidsOk ⟨16, op, ty, n, t, kids⟩ ks.length kd) (_hn : ks.length ≤ 12001) :
    Calls Tryz.prog 59 #[.agg #[.int .i64 16, .int .i64 op, .int .i64 ty, .int .i64 n, .string t, .int .i64 kids], .slice ad ks.length cap] w fun e w' => PartEnd S e w' ⟨16, op, ty, n, t, kids⟩ ks pv ∧ Below w.heap.size w w' := by
  have hko := (ko_16 _ _ _ _ _ _ _).1 hk
  have hm : ks.length = 0 ∨ ks.length = 1 := by omega
  clear hko hk
  rcases hm with hm | hm
  · have HM := hid hm
    clear hr hf
    rw [hm]
    clear hm
    have HB0 := hid ((Below.refl w.heap.size w).alloc (Nat.le_refl _) (.cells #[.int .i64 16, .int .i64 op, .int .i64 ty, .int .i64 n, .string t, .int .i64 kids] 63))
    go_enter Tryz.func59, Tryz.ntmps59
    go_wp2_with (go_at_call 80; refine (kidOr_none _ 0 cap 0 _ (by omega)).mono ?_; rintro e w1 ⟨rfl, rfl⟩)
    go_ret
    exact ⟨⟨_, rfl, pa_16.2 (by rw [HM.out]; rfl)⟩, by first | exact HB0.out | exact below_drewN HB0.out _⟩
  · obtain ⟨g, rfl, hgl, hc⟩ := hr.get (by omega)
    have c0 := hc 0 (by omega)
    obtain ⟨T0, y0, e0⟩ := hf.get 0 (by omega)
    rw [e0] at c0
    have E0 := hid e0
    have C0 := hid c0
    clear hc hr hf e0
    have HM := hid hm
    rw [hm]
    clear hm
    have HB0 := hid ((Below.refl w.heap.size w).alloc (Nat.le_refl _) (.cells #[.int .i64 16, .int .i64 op, .int .i64 ty, .int .i64 n, .string t, .int .i64 kids] 63))
    go_enter Tryz.func59, Tryz.ntmps59
    go_wp2_with (go_at_call 80; refine (kidOr_some g 1 cap 0 T0 y0 _ (by omega) ((HB0.out.cell (p := ⟨g, 0, none⟩) hgl).trans C0.out)).mono ?_; rintro e w1 ⟨rfl, rfl⟩)
    go_ret
    exact ⟨⟨_, rfl, pa_16.2 (by rw [HM.out, E0.out]; rfl)⟩, by first | exact HB0.out | exact below_drewN HB0.out _⟩
set_option maxHeartbeats 1000000 in
theorem sof_17 (S : Nat → Prop) (op ty n kids : Int) (t : ByteArray) (ks : List Nat) (pv : Nat → Value) (ad : Option Addr) (cap : Nat) (kd : Nat → Int) (w : World) (hr : RowP S w ad (ks.map pv)) (hf : Ifs ks pv) (hk : KidsOk ⟨17, op, ty, n, t, kids⟩ ks.length kd) (_hn : ks.length ≤ 12001) :
    Calls Tryz.prog 59 #[.agg #[.int .i64 17, .int .i64 op, .int .i64 ty, .int .i64 n, .string t, .int .i64 kids], .slice ad ks.length cap] w fun e w' => PartEnd S e w' ⟨17, op, ty, n, t, kids⟩ ks pv ∧ Below w.heap.size w w' := by
  have hko := (ko_17 _ _ _ _ _ _ _).1 hk
  clear hk
  have hm : ks.length = 1 := hko.1
  clear hko
  obtain ⟨g, rfl, hgl, hc⟩ := hr.get (by omega)
  have c0 := hc 0 (by omega)
  obtain ⟨T0, y0, e0⟩ := hf.get 0 (by omega)
  rw [e0] at c0
  have E0 := hid e0
  have C0 := hid c0
  clear hc hr hf e0
  have HM := hid hm
  rw [hm]
  clear hm
  have HB0 := hid ((Below.refl w.heap.size w).alloc (Nat.le_refl _) (.cells #[.int .i64 17, .int .i64 op, .int .i64 ty, .int .i64 n, .string t, .int .i64 kids] 63))
  go_enter Tryz.func59, Tryz.ntmps59
  go_wp2
  try (go_quiet (fail); go_wp2)
  go_ret
  exact ⟨⟨_, rfl, pa_17.2 (by (rw [E0.out]) <;> rfl)⟩, by first | exact HB0.out | exact below_drewN HB0.out _⟩
set_option maxHeartbeats 1000000 in
theorem sof_18 (S : Nat → Prop) (op ty n kids : Int) (t : ByteArray) (ks : List Nat) (pv : Nat → Value) (ad : Option Addr) (cap : Nat) (kd : Nat → Int) (w : World) (hr : RowP S w ad (ks.map pv)) (hf : Ifs ks pv) (hk : KidsOk ⟨18, op, ty, n, t, kids⟩ ks.length kd) (_hn : ks.length ≤ 12001) :
    Calls Tryz.prog 59 #[.agg #[.int .i64 18, .int .i64 op, .int .i64 ty, .int .i64 n, .string t, .int .i64 kids], .slice ad ks.length cap] w fun e w' => PartEnd S e w' ⟨18, op, ty, n, t, kids⟩ ks pv ∧ Below w.heap.size w w' := by
  have hko := (ko_18 _ _ _ _ _ _ _).1 hk
  clear hk
  have hm : ks.length = 2 := hko.1
  clear hko
  obtain ⟨g, rfl, hgl, hc⟩ := hr.get (by omega)
  have c0 := hc 0 (by omega)
  obtain ⟨T0, y0, e0⟩ := hf.get 0 (by omega)
  rw [e0] at c0
  have E0 := hid e0
  have C0 := hid c0
  have c1 := hc 1 (by omega)
  obtain ⟨T1, y1, e1⟩ := hf.get 1 (by omega)
  rw [e1] at c1
  have E1 := hid e1
  have C1 := hid c1
  clear hc hr hf e0 e1
  have HM := hid hm
  rw [hm]
  clear hm
  have HB0 := hid ((Below.refl w.heap.size w).alloc (Nat.le_refl _) (.cells #[.int .i64 18, .int .i64 op, .int .i64 ty, .int .i64 n, .string t, .int .i64 kids] 63))
  go_enter Tryz.func59, Tryz.ntmps59
  go_wp2
  try (go_quiet (fail); go_wp2)
  go_ret
  exact ⟨⟨_, rfl, pa_18.2 (by (rw [E0.out, E1.out]) <;> rfl)⟩, by first | exact HB0.out | exact below_drewN HB0.out _⟩
set_option maxHeartbeats 1000000 in
theorem sof_19 (S : Nat → Prop) (op ty n kids : Int) (t : ByteArray) (ks : List Nat) (pv : Nat → Value) (ad : Option Addr) (cap : Nat) (kd : Nat → Int) (w : World) (hr : RowP S w ad (ks.map pv)) (hf : Ifs ks pv) (hk : KidsOk ⟨19, op, ty, n, t, kids⟩ ks.length kd) (_hn : ks.length ≤ 12001) :
    Calls Tryz.prog 59 #[.agg #[.int .i64 19, .int .i64 op, .int .i64 ty, .int .i64 n, .string t, .int .i64 kids], .slice ad ks.length cap] w fun e w' => PartEnd S e w' ⟨19, op, ty, n, t, kids⟩ ks pv ∧ Below w.heap.size w w' := by
  have hko := (ko_19 _ _ _ _ _ _ _).1 hk
  clear hk
  have hm : ks.length = 1 := hko.1
  clear hko
  obtain ⟨g, rfl, hgl, hc⟩ := hr.get (by omega)
  have c0 := hc 0 (by omega)
  obtain ⟨T0, y0, e0⟩ := hf.get 0 (by omega)
  rw [e0] at c0
  have E0 := hid e0
  have C0 := hid c0
  clear hc hr hf e0
  have HM := hid hm
  rw [hm]
  clear hm
  have HB0 := hid ((Below.refl w.heap.size w).alloc (Nat.le_refl _) (.cells #[.int .i64 19, .int .i64 op, .int .i64 ty, .int .i64 n, .string t, .int .i64 kids] 63))
  go_enter Tryz.func59, Tryz.ntmps59
  go_wp2
  try (go_quiet (fail); go_wp2)
  go_ret
  exact ⟨⟨_, rfl, pa_19.2 (by (rw [E0.out]) <;> rfl)⟩, by first | exact HB0.out | exact below_drewN HB0.out _⟩
set_option maxHeartbeats 1000000 in
theorem sof_20 (S : Nat → Prop) (op ty n kids : Int) (t : ByteArray) (ks : List Nat) (pv : Nat → Value) (ad : Option Addr) (cap : Nat) (kd : Nat → Int) (w : World) (hr : RowP S w ad (ks.map pv)) (hf : Ifs ks pv) (hk : KidsOk ⟨20, op, ty, n, t, kids⟩ ks.length kd) (_hn : ks.length ≤ 12001) :
    Calls Tryz.prog 59 #[.agg #[.int .i64 20, .int .i64 op, .int .i64 ty, .int .i64 n, .string t, .int .i64 kids], .slice ad ks.length cap] w fun e w' => PartEnd S e w' ⟨20, op, ty, n, t, kids⟩ ks pv ∧ Below w.heap.size w w' := by
  have hko := (ko_20 _ _ _ _ _ _ _).1 hk
  clear hk
  have hm : ks.length = 1 := hko.1
  clear hko
  obtain ⟨g, rfl, hgl, hc⟩ := hr.get (by omega)
  have c0 := hc 0 (by omega)
  obtain ⟨T0, y0, e0⟩ := hf.get 0 (by omega)
  rw [e0] at c0
  have E0 := hid e0
  have C0 := hid c0
  clear hc hr hf e0
  have HM := hid hm
  rw [hm]
  clear hm
  have HB0 := hid ((Below.refl w.heap.size w).alloc (Nat.le_refl _) (.cells #[.int .i64 20, .int .i64 op, .int .i64 ty, .int .i64 n, .string t, .int .i64 kids] 63))
  go_enter Tryz.func59, Tryz.ntmps59
  go_wp2
  try (go_quiet (fail); go_wp2)
  go_ret
  exact ⟨⟨_, rfl, pa_20.2 (by (rw [E0.out]) <;> rfl)⟩, by first | exact HB0.out | exact below_drewN HB0.out _⟩
set_option maxHeartbeats 1000000 in
theorem of_1 (S : Nat → Prop) (op ty n kids : Int) (t : ByteArray) (ks : List Nat) (pv : Nat → Value) (ad : Option Addr) (cap : Nat) (kd : Nat → Int) (w : World) (hr : RowP S w ad (ks.map pv)) (_hf : Ifs ks pv) (hk : KidsOk ⟨1, op, ty, n, t, kids⟩ ks.length kd) (_hn : ks.length ≤ 12001) :
    Calls Tryz.prog 35 #[.agg #[.int .i64 1, .int .i64 op, .int .i64 ty, .int .i64 n, .string t, .int .i64 kids], .slice ad ks.length cap] w fun e w' => PartEnd S e w' ⟨1, op, ty, n, t, kids⟩ ks pv ∧ Below w.heap.size w w' := by
  have hko := (ko_1 _ _ _ _ _ _ _).1 hk
  clear hk
  clear hko
  have HR := hid hr
  clear hr
  have HB0 := hid ((Below.refl w.heap.size w).alloc (Nat.le_refl _) (.cells #[.int .i64 1, .int .i64 op, .int .i64 ty, .int .i64 n, .string t, .int .i64 kids] 63))
  go_enter Tryz.func35, Tryz.ntmps35
  go_wp2
  try (go_quiet (fail); go_wp2)
  go_ret
  exact ⟨⟨_, rfl, pa_1.2 rfl⟩, by first | exact HB0.out | exact below_drewN HB0.out _⟩
set_option maxHeartbeats 1000000 in
theorem of_2 (S : Nat → Prop) (op ty n kids : Int) (t : ByteArray) (ks : List Nat) (pv : Nat → Value) (ad : Option Addr) (cap : Nat) (kd : Nat → Int) (w : World) (hr : RowP S w ad (ks.map pv)) (_hf : Ifs ks pv) (hk : KidsOk ⟨2, op, ty, n, t, kids⟩ ks.length kd) (_hn : ks.length ≤ 12001) :
    Calls Tryz.prog 35 #[.agg #[.int .i64 2, .int .i64 op, .int .i64 ty, .int .i64 n, .string t, .int .i64 kids], .slice ad ks.length cap] w fun e w' => PartEnd S e w' ⟨2, op, ty, n, t, kids⟩ ks pv ∧ Below w.heap.size w w' := by
  have hko := (ko_2 _ _ _ _ _ _ _).1 hk
  clear hk
  clear hko
  have HR := hid hr
  clear hr
  have HB0 := hid ((Below.refl w.heap.size w).alloc (Nat.le_refl _) (.cells #[.int .i64 2, .int .i64 op, .int .i64 ty, .int .i64 n, .string t, .int .i64 kids] 63))
  go_enter Tryz.func35, Tryz.ntmps35
  go_wp2
  try (go_quiet (fail); go_wp2)
  go_ret
  exact ⟨⟨_, rfl, pa_2.2 rfl⟩, by first | exact HB0.out | exact below_drewN HB0.out _⟩
set_option maxHeartbeats 1000000 in
theorem of_3 (S : Nat → Prop) (op ty n kids : Int) (t : ByteArray) (ks : List Nat) (pv : Nat → Value) (ad : Option Addr) (cap : Nat) (kd : Nat → Int) (w : World) (hr : RowP S w ad (ks.map pv)) (_hf : Ifs ks pv) (hk : KidsOk ⟨3, op, ty, n, t, kids⟩ ks.length kd) (_hn : ks.length ≤ 12001) :
    Calls Tryz.prog 35 #[.agg #[.int .i64 3, .int .i64 op, .int .i64 ty, .int .i64 n, .string t, .int .i64 kids], .slice ad ks.length cap] w fun e w' => PartEnd S e w' ⟨3, op, ty, n, t, kids⟩ ks pv ∧ Below w.heap.size w w' := by
  have hko := (ko_3 _ _ _ _ _ _ _).1 hk
  clear hk
  clear hko
  have HR := hid hr
  clear hr
  have HB0 := hid ((Below.refl w.heap.size w).alloc (Nat.le_refl _) (.cells #[.int .i64 3, .int .i64 op, .int .i64 ty, .int .i64 n, .string t, .int .i64 kids] 63))
  go_enter Tryz.func35, Tryz.ntmps35
  go_wp2
  try (go_quiet (fail); go_wp2)
  go_ret
  exact ⟨⟨_, rfl, pa_3.2 rfl⟩, by first | exact HB0.out | exact below_drewN HB0.out _⟩
set_option maxHeartbeats 1000000 in
theorem of_4 (S : Nat → Prop) (op ty n kids : Int) (t : ByteArray) (ks : List Nat) (pv : Nat → Value) (ad : Option Addr) (cap : Nat) (kd : Nat → Int) (w : World) (hr : RowP S w ad (ks.map pv)) (_hf : Ifs ks pv) (hk : KidsOk ⟨4, op, ty, n, t, kids⟩ ks.length kd) (_hn : ks.length ≤ 12001) :
    Calls Tryz.prog 35 #[.agg #[.int .i64 4, .int .i64 op, .int .i64 ty, .int .i64 n, .string t, .int .i64 kids], .slice ad ks.length cap] w fun e w' => PartEnd S e w' ⟨4, op, ty, n, t, kids⟩ ks pv ∧ Below w.heap.size w w' := by
  have hko := (ko_4 _ _ _ _ _ _ _).1 hk
  clear hk
  clear hko
  have HR := hid hr
  clear hr
  have HB0 := hid ((Below.refl w.heap.size w).alloc (Nat.le_refl _) (.cells #[.int .i64 4, .int .i64 op, .int .i64 ty, .int .i64 n, .string t, .int .i64 kids] 63))
  go_enter Tryz.func35, Tryz.ntmps35
  go_wp2
  try (go_quiet (fail); go_wp2)
  go_ret
  exact ⟨⟨_, rfl, pa_4.2 rfl⟩, by first | exact HB0.out | exact below_drewN HB0.out _⟩
set_option maxHeartbeats 1000000 in
theorem of_5 (S : Nat → Prop) (op ty n kids : Int) (t : ByteArray) (ks : List Nat) (pv : Nat → Value) (ad : Option Addr) (cap : Nat) (kd : Nat → Int) (w : World) (hr : RowP S w ad (ks.map pv)) (hf : Ifs ks pv) (hk : KidsOk ⟨5, op, ty, n, t, kids⟩ ks.length kd) (_hn : ks.length ≤ 12001) :
    Calls Tryz.prog 35 #[.agg #[.int .i64 5, .int .i64 op, .int .i64 ty, .int .i64 n, .string t, .int .i64 kids], .slice ad ks.length cap] w fun e w' => PartEnd S e w' ⟨5, op, ty, n, t, kids⟩ ks pv ∧ Below w.heap.size w w' := by
  have hko := (ko_5 _ _ _ _ _ _ _).1 hk
  clear hk
  have hm : ks.length = 1 := hko.1
  clear hko
  obtain ⟨g, rfl, hgl, hc⟩ := hr.get (by omega)
  have c0 := hc 0 (by omega)
  obtain ⟨T0, y0, e0⟩ := hf.get 0 (by omega)
  rw [e0] at c0
  have E0 := hid e0
  have C0 := hid c0
  clear hc hr hf e0
  have HM := hid hm
  rw [hm]
  clear hm
  have HB0 := hid ((Below.refl w.heap.size w).alloc (Nat.le_refl _) (.cells #[.int .i64 5, .int .i64 op, .int .i64 ty, .int .i64 n, .string t, .int .i64 kids] 63))
  go_enter Tryz.func35, Tryz.ntmps35
  go_wp2
  try (go_quiet (fail); go_wp2)
  go_ret
  exact ⟨⟨_, rfl, pa_5.2 (by (rw [E0.out]) <;> rfl)⟩, by first | exact HB0.out | exact below_drewN HB0.out _⟩
set_option maxHeartbeats 1000000 in
theorem of_6 (S : Nat → Prop) (op ty n kids : Int) (t : ByteArray) (ks : List Nat) (pv : Nat → Value) (ad : Option Addr) (cap : Nat) (kd : Nat → Int) (w : World) (hr : RowP S w ad (ks.map pv)) (hf : Ifs ks pv) (hk : KidsOk ⟨6, op, ty, n, t, kids⟩ ks.length kd) (_hn : ks.length ≤ 12001) :
    Calls Tryz.prog 35 #[.agg #[.int .i64 6, .int .i64 op, .int .i64 ty, .int .i64 n, .string t, .int .i64 kids], .slice ad ks.length cap] w fun e w' => PartEnd S e w' ⟨6, op, ty, n, t, kids⟩ ks pv ∧ Below w.heap.size w w' := by
  have hko := (ko_6 _ _ _ _ _ _ _).1 hk
  clear hk
  have hm : ks.length = 2 := hko.1
  clear hko
  obtain ⟨g, rfl, hgl, hc⟩ := hr.get (by omega)
  have c0 := hc 0 (by omega)
  obtain ⟨T0, y0, e0⟩ := hf.get 0 (by omega)
  rw [e0] at c0
  have E0 := hid e0
  have C0 := hid c0
  have c1 := hc 1 (by omega)
  obtain ⟨T1, y1, e1⟩ := hf.get 1 (by omega)
  rw [e1] at c1
  have E1 := hid e1
  have C1 := hid c1
  clear hc hr hf e0 e1
  have HM := hid hm
  rw [hm]
  clear hm
  have HB0 := hid ((Below.refl w.heap.size w).alloc (Nat.le_refl _) (.cells #[.int .i64 6, .int .i64 op, .int .i64 ty, .int .i64 n, .string t, .int .i64 kids] 63))
  go_enter Tryz.func35, Tryz.ntmps35
  go_wp2
  try (go_quiet (fail); go_wp2)
  go_ret
  exact ⟨⟨_, rfl, pa_6.2 (by (rw [E0.out, E1.out]) <;> rfl)⟩, by first | exact HB0.out | exact below_drewN HB0.out _⟩
set_option maxHeartbeats 1000000 in
theorem of_7 (S : Nat → Prop) (op ty n kids : Int) (t : ByteArray) (ks : List Nat) (pv : Nat → Value) (ad : Option Addr) (cap : Nat) (kd : Nat → Int) (w : World) (hr : RowP S w ad (ks.map pv)) (_hf : Ifs ks pv) (hk : KidsOk ⟨7, op, ty, n, t, kids⟩ ks.length kd) (_hn : ks.length ≤ 12001) :
    Calls Tryz.prog 35 #[.agg #[.int .i64 7, .int .i64 op, .int .i64 ty, .int .i64 n, .string t, .int .i64 kids], .slice ad ks.length cap] w fun e w' => PartEnd S e w' ⟨7, op, ty, n, t, kids⟩ ks pv ∧ Below w.heap.size w w' := by
  have hko := (ko_7 _ _ _ _ _ _ _).1 hk
  clear hk
  clear hko
  have HR := hid hr
  clear hr
  have HB0 := hid ((Below.refl w.heap.size w).alloc (Nat.le_refl _) (.cells #[.int .i64 7, .int .i64 op, .int .i64 ty, .int .i64 n, .string t, .int .i64 kids] 63))
  go_enter Tryz.func35, Tryz.ntmps35
  go_wp2
  try (go_quiet (fail); go_wp2)
  go_ret
  exact ⟨⟨_, rfl, pa_7.2 ⟨_, _, rfl, HR.out.below (by first | exact HB0.out | exact below_drewN HB0.out _)⟩⟩, by first | exact HB0.out | exact below_drewN HB0.out _⟩
set_option maxHeartbeats 1000000 in
theorem of_8 (S : Nat → Prop) (op ty n kids : Int) (t : ByteArray) (ks : List Nat) (pv : Nat → Value) (ad : Option Addr) (cap : Nat) (kd : Nat → Int) (w : World) (hr : RowP S w ad (ks.map pv)) (_hf : Ifs ks pv) (hk : KidsOk ⟨8, op, ty, n, t, kids⟩ ks.length kd) (_hn : ks.length ≤ 12001) :
    Calls Tryz.prog 35 #[.agg #[.int .i64 8, .int .i64 op, .int .i64 ty, .int .i64 n, .string t, .int .i64 kids], .slice ad ks.length cap] w fun e w' => PartEnd S e w' ⟨8, op, ty, n, t, kids⟩ ks pv ∧ Below w.heap.size w w' := by
  have hko := (ko_8 _ _ _ _ _ _ _).1 hk
  clear hk
  clear hko
  have HR := hid hr
  clear hr
  have HB0 := hid ((Below.refl w.heap.size w).alloc (Nat.le_refl _) (.cells #[.int .i64 8, .int .i64 op, .int .i64 ty, .int .i64 n, .string t, .int .i64 kids] 63))
  go_enter Tryz.func35, Tryz.ntmps35
  go_wp2
  try (go_quiet (fail); go_wp2)
  go_ret
  exact ⟨⟨_, rfl, pa_8.2 ⟨_, _, rfl, HR.out.below (by first | exact HB0.out | exact below_drewN HB0.out _)⟩⟩, by first | exact HB0.out | exact below_drewN HB0.out _⟩
set_option maxHeartbeats 1000000 in
theorem of_9 (S : Nat → Prop) (op ty n kids : Int) (t : ByteArray) (ks : List Nat) (pv : Nat → Value) (ad : Option Addr) (cap : Nat) (kd : Nat → Int) (w : World) (hr : RowP S w ad (ks.map pv)) (hf : Ifs ks pv) (hk : KidsOk ⟨9, op, ty, n, t, kids⟩ ks.length kd) (_hn : ks.length ≤ 12001) :
    Calls Tryz.prog 35 #[.agg #[.int .i64 9, .int .i64 op, .int .i64 ty, .int .i64 n, .string t, .int .i64 kids], .slice ad ks.length cap] w fun e w' => PartEnd S e w' ⟨9, op, ty, n, t, kids⟩ ks pv ∧ Below w.heap.size w w' := by
  have hko := (ko_9 _ _ _ _ _ _ _).1 hk
  clear hk
  have hm : ks.length = 1 := hko.1
  clear hko
  obtain ⟨g, rfl, hgl, hc⟩ := hr.get (by omega)
  have c0 := hc 0 (by omega)
  obtain ⟨T0, y0, e0⟩ := hf.get 0 (by omega)
  rw [e0] at c0
  have E0 := hid e0
  have C0 := hid c0
  clear hc hr hf e0
  have HM := hid hm
  rw [hm]
  clear hm
  have HB0 := hid ((Below.refl w.heap.size w).alloc (Nat.le_refl _) (.cells #[.int .i64 9, .int .i64 op, .int .i64 ty, .int .i64 n, .string t, .int .i64 kids] 63))
  go_enter Tryz.func35, Tryz.ntmps35
  go_wp2
  try (go_quiet (fail); go_wp2)
  go_ret
  exact ⟨⟨_, rfl, pa_9.2 (by (rw [E0.out]) <;> rfl)⟩, by first | exact HB0.out | exact below_drewN HB0.out _⟩
set_option maxHeartbeats 1000000 in
theorem of_21 (S : Nat → Prop) (op ty n kids : Int) (t : ByteArray) (ks : List Nat) (pv : Nat → Value) (ad : Option Addr) (cap : Nat) (kd : Nat → Int) (w : World) (hr : RowP S w ad (ks.map pv)) (_hf : Ifs ks pv) (hk : KidsOk ⟨21, op, ty, n, t, kids⟩ ks.length kd) (_hn : ks.length ≤ 12001) :
    Calls Tryz.prog 35 #[.agg #[.int .i64 21, .int .i64 op, .int .i64 ty, .int .i64 n, .string t, .int .i64 kids], .slice ad ks.length cap] w fun e w' => PartEnd S e w' ⟨21, op, ty, n, t, kids⟩ ks pv ∧ Below w.heap.size w w' := by
  have hko := (ko_21 _ _ _ _ _ _ _).1 hk
  clear hk
  clear hko
  have HR := hid hr
  clear hr
  have HB0 := hid ((Below.refl w.heap.size w).alloc (Nat.le_refl _) (.cells #[.int .i64 21, .int .i64 op, .int .i64 ty, .int .i64 n, .string t, .int .i64 kids] 63))
  go_enter Tryz.func35, Tryz.ntmps35
  go_wp2
  try (go_quiet (fail); go_wp2)
  go_ret
  exact ⟨⟨_, rfl, pa_21.2 ⟨_, _, rfl, HR.out.below (by first | exact HB0.out | exact below_drewN HB0.out _)⟩⟩, by first | exact HB0.out | exact below_drewN HB0.out _⟩
set_option maxHeartbeats 1000000 in
theorem of_22 (S : Nat → Prop) (op ty n kids : Int) (t : ByteArray) (ks : List Nat) (pv : Nat → Value) (ad : Option Addr) (cap : Nat) (kd : Nat → Int) (w : World) (hr : RowP S w ad (ks.map pv)) (_hf : Ifs ks pv) (hk : KidsOk ⟨22, op, ty, n, t, kids⟩ ks.length kd) (_hn : ks.length ≤ 12001) :
    Calls Tryz.prog 35 #[.agg #[.int .i64 22, .int .i64 op, .int .i64 ty, .int .i64 n, .string t, .int .i64 kids], .slice ad ks.length cap] w fun e w' => PartEnd S e w' ⟨22, op, ty, n, t, kids⟩ ks pv ∧ Below w.heap.size w w' := by
  have hko := (ko_22 _ _ _ _ _ _ _).1 hk
  clear hk
  clear hko
  have HR := hid hr
  clear hr
  have HB0 := hid ((Below.refl w.heap.size w).alloc (Nat.le_refl _) (.cells #[.int .i64 22, .int .i64 op, .int .i64 ty, .int .i64 n, .string t, .int .i64 kids] 63))
  go_enter Tryz.func35, Tryz.ntmps35
  go_wp2
  try (go_quiet (fail); go_wp2)
  go_ret
  exact ⟨⟨_, rfl, pa_22.2 rfl⟩, by first | exact HB0.out | exact below_drewN HB0.out _⟩
set_option maxHeartbeats 1000000 in
theorem of_23 (S : Nat → Prop) (op ty n kids : Int) (t : ByteArray) (ks : List Nat) (pv : Nat → Value) (ad : Option Addr) (cap : Nat) (kd : Nat → Int) (w : World) (hr : RowP S w ad (ks.map pv)) (hf : Ifs ks pv) (hk : KidsOk ⟨23, op, ty, n, t, kids⟩ ks.length kd) (hn : ks.length ≤ 12001) (hcp : ks.length ≤ cap) :
    Calls Tryz.prog 35 #[.agg #[.int .i64 23, .int .i64 op, .int .i64 ty, .int .i64 n, .string t, .int .i64 kids], .slice ad ks.length cap] w fun e w' => PartEnd S e w' ⟨23, op, ty, n, t, kids⟩ ks pv ∧ Below w.heap.size w w' := by
  have hko := (ko_23 _ _ _ _ _ _ _).1 hk
  clear hk
  have hm : 1 ≤ ks.length := hko.1
  clear hko
  obtain ⟨g, rfl, hgl, hc⟩ := hr.get (by omega)
  have cl := hc (ks.length - 1) (by omega)
  obtain ⟨Tl, yl, el⟩ := hf.get (ks.length - 1) (by omega)
  rw [el] at cl
  have EL := hid el
  have HR := hid hr
  clear el hc hr hf
  obtain ⟨q, hq⟩ : ∃ q, ks.length = q + 1 := ⟨ks.length - 1, by omega⟩
  have HQ := hid hq
  rw [hq] at cl hn hcp ⊢
  have hcp2 : (q : Int) ≤ (cap : Int) := by omega
  rw [Nat.add_sub_cancel] at cl
  clear hq hm
  have hl1 : ((q + 1 : Nat) : Int) - 1 = (q : Int) := by omega
  have hwq : wrap64 (q : Int) = (q : Int) := by unfold wrap64; omega
  have hne : ¬ cap = 0 := by omega
  have HB0 := hid ((Below.refl w.heap.size w).alloc (Nat.le_refl _) (.cells #[.int .i64 23, .int .i64 op, .int .i64 ty, .int .i64 n, .string t, .int .i64 kids] 63))
  go_enter Tryz.func35, Tryz.ntmps35
  go_wp2
  try (go_quiet (fail); go_wp2)
  go_ret
  exact ⟨⟨_, rfl, pa_23.2 ⟨_, _, by (rw [EL.out, HQ.out]) <;> rfl, HR.out.below (by first | exact HB0.out | exact below_drewN HB0.out _)⟩⟩, by first | exact HB0.out | exact below_drewN HB0.out _⟩
set_option maxHeartbeats 1000000 in
theorem of_24 (S : Nat → Prop) (op ty n kids : Int) (t : ByteArray) (ks : List Nat) (pv : Nat → Value) (ad : Option Addr) (cap : Nat) (kd : Nat → Int) (w : World) (hr : RowP S w ad (ks.map pv)) (_hf : Ifs ks pv) (hk : KidsOk ⟨24, op, ty, n, t, kids⟩ ks.length kd) (_hn : ks.length ≤ 12001) :
    Calls Tryz.prog 35 #[.agg #[.int .i64 24, .int .i64 op, .int .i64 ty, .int .i64 n, .string t, .int .i64 kids], .slice ad ks.length cap] w fun e w' => PartEnd S e w' ⟨24, op, ty, n, t, kids⟩ ks pv ∧ Below w.heap.size w w' := by
  have hko := (ko_24 _ _ _ _ _ _ _).1 hk
  clear hk
  clear hko
  have HR := hid hr
  clear hr
  have HB0 := hid ((Below.refl w.heap.size w).alloc (Nat.le_refl _) (.cells #[.int .i64 24, .int .i64 op, .int .i64 ty, .int .i64 n, .string t, .int .i64 kids] 63))
  go_enter Tryz.func35, Tryz.ntmps35
  go_wp2
  try (go_quiet (fail); go_wp2)
  go_ret
  exact ⟨⟨_, rfl, pa_24.2 ⟨_, _, rfl, HR.out.below (by first | exact HB0.out | exact below_drewN HB0.out _)⟩⟩, by first | exact HB0.out | exact below_drewN HB0.out _⟩
set_option maxHeartbeats 1000000 in
theorem of_10 (S : Nat → Prop) (op ty n kids : Int) (t : ByteArray) (ks : List Nat) (pv : Nat → Value) (ad : Option Addr) (cap : Nat) (kd : Nat → Int) (w : World) (hr : RowP S w ad (ks.map pv)) (hf : Ifs ks pv) (hk : KidsOk ⟨10, op, ty, n, t, kids⟩ ks.length kd) (hn : ks.length ≤ 12001) :
    Calls Tryz.prog 35 #[.agg #[.int .i64 10, .int .i64 op, .int .i64 ty, .int .i64 n, .string t, .int .i64 kids], .slice ad ks.length cap] w fun e w' => PartEnd S e w' ⟨10, op, ty, n, t, kids⟩ ks pv ∧ Below w.heap.size w w' := by
  have HB0 := hid ((Below.refl w.heap.size w).alloc (Nat.le_refl _) (.cells #[.int .i64 10, .int .i64 op, .int .i64 ty, .int .i64 n, .string t, .int .i64 kids] 63))
  have H := hid (sof_10 S op ty n kids t ks pv ad cap kd _ (hr.below HB0.out) hf hk hn)
  clear hr hf hk
  go_enter Tryz.func35, Tryz.ntmps35
  go_wp2_with (go_at_call 59; refine H.out.mono ?_; rintro e w1 ⟨⟨v, rfl, hp⟩, hb1⟩; obtain ⟨T, y, rfl⟩ := hp.iface; have HP := hid hp; have HB1 := hid (HB0.out.trans (hb1.mono (by simp))); clear hp hb1)
  go_ret
  exact ⟨⟨_, rfl, HP.out⟩, HB1.out⟩
set_option maxHeartbeats 1000000 in
theorem of_11 (S : Nat → Prop) (op ty n kids : Int) (t : ByteArray) (ks : List Nat) (pv : Nat → Value) (ad : Option Addr) (cap : Nat) (kd : Nat → Int) (w : World) (hr : RowP S w ad (ks.map pv)) (hf : Ifs ks pv) (hk : KidsOk ⟨11, op, ty, n, t, kids⟩ ks.length kd) (hn : ks.length ≤ 12001) :
    Calls Tryz.prog 35 #[.agg #[.int .i64 11, .int .i64 op, .int .i64 ty, .int .i64 n, .string t, .int .i64 kids], .slice ad ks.length cap] w fun e w' => PartEnd S e w' ⟨11, op, ty, n, t, kids⟩ ks pv ∧ Below w.heap.size w w' := by
  have HB0 := hid ((Below.refl w.heap.size w).alloc (Nat.le_refl _) (.cells #[.int .i64 11, .int .i64 op, .int .i64 ty, .int .i64 n, .string t, .int .i64 kids] 63))
  have H := hid (sof_11 S op ty n kids t ks pv ad cap kd _ (hr.below HB0.out) hf hk hn)
  clear hr hf hk
  go_enter Tryz.func35, Tryz.ntmps35
  go_wp2_with (go_at_call 59; refine H.out.mono ?_; rintro e w1 ⟨⟨v, rfl, hp⟩, hb1⟩; obtain ⟨T, y, rfl⟩ := hp.iface; have HP := hid hp; have HB1 := hid (HB0.out.trans (hb1.mono (by simp))); clear hp hb1)
  go_ret
  exact ⟨⟨_, rfl, HP.out⟩, HB1.out⟩
set_option maxHeartbeats 1000000 in
theorem of_12 (S : Nat → Prop) (op ty n kids : Int) (t : ByteArray) (ks : List Nat) (pv : Nat → Value) (ad : Option Addr) (cap : Nat) (kd : Nat → Int) (w : World) (hr : RowP S w ad (ks.map pv)) (hf : Ifs ks pv) (hk : KidsOk ⟨12, op, ty, n, t, kids⟩ ks.length kd) (hn : ks.length ≤ 12001) :
    Calls Tryz.prog 35 #[.agg #[.int .i64 12, .int .i64 op, .int .i64 ty, .int .i64 n, .string t, .int .i64 kids], .slice ad ks.length cap] w fun e w' => PartEnd S e w' ⟨12, op, ty, n, t, kids⟩ ks pv ∧ Below w.heap.size w w' := by
  have HB0 := hid ((Below.refl w.heap.size w).alloc (Nat.le_refl _) (.cells #[.int .i64 12, .int .i64 op, .int .i64 ty, .int .i64 n, .string t, .int .i64 kids] 63))
  have H := hid (sof_12 S op ty n kids t ks pv ad cap kd _ (hr.below HB0.out) hf hk hn)
  clear hr hf hk
  go_enter Tryz.func35, Tryz.ntmps35
  go_wp2_with (go_at_call 59; refine H.out.mono ?_; rintro e w1 ⟨⟨v, rfl, hp⟩, hb1⟩; obtain ⟨T, y, rfl⟩ := hp.iface; have HP := hid hp; have HB1 := hid (HB0.out.trans (hb1.mono (by simp))); clear hp hb1)
  go_ret
  exact ⟨⟨_, rfl, HP.out⟩, HB1.out⟩
set_option maxHeartbeats 1000000 in
theorem of_13 (S : Nat → Prop) (op ty n kids : Int) (t : ByteArray) (ks : List Nat) (pv : Nat → Value) (ad : Option Addr) (cap : Nat) (kd : Nat → Int) (w : World) (hr : RowP S w ad (ks.map pv)) (hf : Ifs ks pv) (hk : KidsOk ⟨13, op, ty, n, t, kids⟩ ks.length kd) (hn : ks.length ≤ 12001) :
    Calls Tryz.prog 35 #[.agg #[.int .i64 13, .int .i64 op, .int .i64 ty, .int .i64 n, .string t, .int .i64 kids], .slice ad ks.length cap] w fun e w' => PartEnd S e w' ⟨13, op, ty, n, t, kids⟩ ks pv ∧ Below w.heap.size w w' := by
  have HB0 := hid ((Below.refl w.heap.size w).alloc (Nat.le_refl _) (.cells #[.int .i64 13, .int .i64 op, .int .i64 ty, .int .i64 n, .string t, .int .i64 kids] 63))
  have H := hid (sof_13 S op ty n kids t ks pv ad cap kd _ (hr.below HB0.out) hf hk hn)
  clear hr hf hk
  go_enter Tryz.func35, Tryz.ntmps35
  go_wp2_with (go_at_call 59; refine H.out.mono ?_; rintro e w1 ⟨⟨v, rfl, hp⟩, hb1⟩; obtain ⟨T, y, rfl⟩ := hp.iface; have HP := hid hp; have HB1 := hid (HB0.out.trans (hb1.mono (by simp))); clear hp hb1)
  go_ret
  exact ⟨⟨_, rfl, HP.out⟩, HB1.out⟩
set_option maxHeartbeats 1000000 in
theorem of_14 (S : Nat → Prop) (op ty n kids : Int) (t : ByteArray) (ks : List Nat) (pv : Nat → Value) (ad : Option Addr) (cap : Nat) (kd : Nat → Int) (w : World) (hr : RowP S w ad (ks.map pv)) (hf : Ifs ks pv) (hk : KidsOk ⟨14, op, ty, n, t, kids⟩ ks.length kd) (hn : ks.length ≤ 12001) :
    Calls Tryz.prog 35 #[.agg #[.int .i64 14, .int .i64 op, .int .i64 ty, .int .i64 n, .string t, .int .i64 kids], .slice ad ks.length cap] w fun e w' => PartEnd S e w' ⟨14, op, ty, n, t, kids⟩ ks pv ∧ Below w.heap.size w w' := by
  have HB0 := hid ((Below.refl w.heap.size w).alloc (Nat.le_refl _) (.cells #[.int .i64 14, .int .i64 op, .int .i64 ty, .int .i64 n, .string t, .int .i64 kids] 63))
  have H := hid (sof_14 S op ty n kids t ks pv ad cap kd _ (hr.below HB0.out) hf hk hn)
  clear hr hf hk
  go_enter Tryz.func35, Tryz.ntmps35
  go_wp2_with (go_at_call 59; refine H.out.mono ?_; rintro e w1 ⟨⟨v, rfl, hp⟩, hb1⟩; obtain ⟨T, y, rfl⟩ := hp.iface; have HP := hid hp; have HB1 := hid (HB0.out.trans (hb1.mono (by simp))); clear hp hb1)
  go_ret
  exact ⟨⟨_, rfl, HP.out⟩, HB1.out⟩
set_option maxHeartbeats 1000000 in
theorem of_15 (S : Nat → Prop) (op ty n kids : Int) (t : ByteArray) (ks : List Nat) (pv : Nat → Value) (ad : Option Addr) (cap : Nat) (kd : Nat → Int) (w : World) (hr : RowP S w ad (ks.map pv)) (hf : Ifs ks pv) (hk : KidsOk ⟨15, op, ty, n, t, kids⟩ ks.length kd) (hn : ks.length ≤ 12001) :
    Calls Tryz.prog 35 #[.agg #[.int .i64 15, .int .i64 op, .int .i64 ty, .int .i64 n, .string t, .int .i64 kids], .slice ad ks.length cap] w fun e w' => PartEnd S e w' ⟨15, op, ty, n, t, kids⟩ ks pv ∧ Below w.heap.size w w' := by
  have HB0 := hid ((Below.refl w.heap.size w).alloc (Nat.le_refl _) (.cells #[.int .i64 15, .int .i64 op, .int .i64 ty, .int .i64 n, .string t, .int .i64 kids] 63))
  have H := hid (sof_15 S op ty n kids t ks pv ad cap kd _ (hr.below HB0.out) hf hk hn)
  clear hr hf hk
  go_enter Tryz.func35, Tryz.ntmps35
  go_wp2_with (go_at_call 59; refine H.out.mono ?_; rintro e w1 ⟨⟨v, rfl, hp⟩, hb1⟩; obtain ⟨T, y, rfl⟩ := hp.iface; have HP := hid hp; have HB1 := hid (HB0.out.trans (hb1.mono (by simp))); clear hp hb1)
  go_ret
  exact ⟨⟨_, rfl, HP.out⟩, HB1.out⟩
set_option maxHeartbeats 1000000 in
theorem of_16 (S : Nat → Prop) (op ty n kids : Int) (t : ByteArray) (ks : List Nat) (pv : Nat → Value) (ad : Option Addr) (cap : Nat) (kd : Nat → Int) (w : World) (hr : RowP S w ad (ks.map pv)) (hf : Ifs ks pv) (hk : KidsOk ⟨16, op, ty, n, t, kids⟩ ks.length kd) (hn : ks.length ≤ 12001) :
    Calls Tryz.prog 35 #[.agg #[.int .i64 16, .int .i64 op, .int .i64 ty, .int .i64 n, .string t, .int .i64 kids], .slice ad ks.length cap] w fun e w' => PartEnd S e w' ⟨16, op, ty, n, t, kids⟩ ks pv ∧ Below w.heap.size w w' := by
  have HB0 := hid ((Below.refl w.heap.size w).alloc (Nat.le_refl _) (.cells #[.int .i64 16, .int .i64 op, .int .i64 ty, .int .i64 n, .string t, .int .i64 kids] 63))
  have H := hid (sof_16 S op ty n kids t ks pv ad cap kd _ (hr.below HB0.out) hf hk hn)
  clear hr hf hk
  go_enter Tryz.func35, Tryz.ntmps35
  go_wp2_with (go_at_call 59; refine H.out.mono ?_; rintro e w1 ⟨⟨v, rfl, hp⟩, hb1⟩; obtain ⟨T, y, rfl⟩ := hp.iface; have HP := hid hp; have HB1 := hid (HB0.out.trans (hb1.mono (by simp))); clear hp hb1)
  go_ret
  exact ⟨⟨_, rfl, HP.out⟩, HB1.out⟩
set_option maxHeartbeats 1000000 in
theorem of_17 (S : Nat → Prop) (op ty n kids : Int) (t : ByteArray) (ks : List Nat) (pv : Nat → Value) (ad : Option Addr) (cap : Nat) (kd : Nat → Int) (w : World) (hr : RowP S w ad (ks.map pv)) (hf : Ifs ks pv) (hk : KidsOk ⟨17, op, ty, n, t, kids⟩ ks.length kd) (hn : ks.length ≤ 12001) :
    Calls Tryz.prog 35 #[.agg #[.int .i64 17, .int .i64 op, .int .i64 ty, .int .i64 n, .string t, .int .i64 kids], .slice ad ks.length cap] w fun e w' => PartEnd S e w' ⟨17, op, ty, n, t, kids⟩ ks pv ∧ Below w.heap.size w w' := by
  have HB0 := hid ((Below.refl w.heap.size w).alloc (Nat.le_refl _) (.cells #[.int .i64 17, .int .i64 op, .int .i64 ty, .int .i64 n, .string t, .int .i64 kids] 63))
  have H := hid (sof_17 S op ty n kids t ks pv ad cap kd _ (hr.below HB0.out) hf hk hn)
  clear hr hf hk
  go_enter Tryz.func35, Tryz.ntmps35
  go_wp2_with (go_at_call 59; refine H.out.mono ?_; rintro e w1 ⟨⟨v, rfl, hp⟩, hb1⟩; obtain ⟨T, y, rfl⟩ := hp.iface; have HP := hid hp; have HB1 := hid (HB0.out.trans (hb1.mono (by simp))); clear hp hb1)
  go_ret
  exact ⟨⟨_, rfl, HP.out⟩, HB1.out⟩
set_option maxHeartbeats 1000000 in
theorem of_18 (S : Nat → Prop) (op ty n kids : Int) (t : ByteArray) (ks : List Nat) (pv : Nat → Value) (ad : Option Addr) (cap : Nat) (kd : Nat → Int) (w : World) (hr : RowP S w ad (ks.map pv)) (hf : Ifs ks pv) (hk : KidsOk ⟨18, op, ty, n, t, kids⟩ ks.length kd) (hn : ks.length ≤ 12001) :
    Calls Tryz.prog 35 #[.agg #[.int .i64 18, .int .i64 op, .int .i64 ty, .int .i64 n, .string t, .int .i64 kids], .slice ad ks.length cap] w fun e w' => PartEnd S e w' ⟨18, op, ty, n, t, kids⟩ ks pv ∧ Below w.heap.size w w' := by
  have HB0 := hid ((Below.refl w.heap.size w).alloc (Nat.le_refl _) (.cells #[.int .i64 18, .int .i64 op, .int .i64 ty, .int .i64 n, .string t, .int .i64 kids] 63))
  have H := hid (sof_18 S op ty n kids t ks pv ad cap kd _ (hr.below HB0.out) hf hk hn)
  clear hr hf hk
  go_enter Tryz.func35, Tryz.ntmps35
  go_wp2_with (go_at_call 59; refine H.out.mono ?_; rintro e w1 ⟨⟨v, rfl, hp⟩, hb1⟩; obtain ⟨T, y, rfl⟩ := hp.iface; have HP := hid hp; have HB1 := hid (HB0.out.trans (hb1.mono (by simp))); clear hp hb1)
  go_ret
  exact ⟨⟨_, rfl, HP.out⟩, HB1.out⟩
set_option maxHeartbeats 1000000 in
theorem of_19 (S : Nat → Prop) (op ty n kids : Int) (t : ByteArray) (ks : List Nat) (pv : Nat → Value) (ad : Option Addr) (cap : Nat) (kd : Nat → Int) (w : World) (hr : RowP S w ad (ks.map pv)) (hf : Ifs ks pv) (hk : KidsOk ⟨19, op, ty, n, t, kids⟩ ks.length kd) (hn : ks.length ≤ 12001) :
    Calls Tryz.prog 35 #[.agg #[.int .i64 19, .int .i64 op, .int .i64 ty, .int .i64 n, .string t, .int .i64 kids], .slice ad ks.length cap] w fun e w' => PartEnd S e w' ⟨19, op, ty, n, t, kids⟩ ks pv ∧ Below w.heap.size w w' := by
  have HB0 := hid ((Below.refl w.heap.size w).alloc (Nat.le_refl _) (.cells #[.int .i64 19, .int .i64 op, .int .i64 ty, .int .i64 n, .string t, .int .i64 kids] 63))
  have H := hid (sof_19 S op ty n kids t ks pv ad cap kd _ (hr.below HB0.out) hf hk hn)
  clear hr hf hk
  go_enter Tryz.func35, Tryz.ntmps35
  go_wp2_with (go_at_call 59; refine H.out.mono ?_; rintro e w1 ⟨⟨v, rfl, hp⟩, hb1⟩; obtain ⟨T, y, rfl⟩ := hp.iface; have HP := hid hp; have HB1 := hid (HB0.out.trans (hb1.mono (by simp))); clear hp hb1)
  go_ret
  exact ⟨⟨_, rfl, HP.out⟩, HB1.out⟩
set_option maxHeartbeats 1000000 in
theorem of_20 (S : Nat → Prop) (op ty n kids : Int) (t : ByteArray) (ks : List Nat) (pv : Nat → Value) (ad : Option Addr) (cap : Nat) (kd : Nat → Int) (w : World) (hr : RowP S w ad (ks.map pv)) (hf : Ifs ks pv) (hk : KidsOk ⟨20, op, ty, n, t, kids⟩ ks.length kd) (hn : ks.length ≤ 12001) :
    Calls Tryz.prog 35 #[.agg #[.int .i64 20, .int .i64 op, .int .i64 ty, .int .i64 n, .string t, .int .i64 kids], .slice ad ks.length cap] w fun e w' => PartEnd S e w' ⟨20, op, ty, n, t, kids⟩ ks pv ∧ Below w.heap.size w w' := by
  have HB0 := hid ((Below.refl w.heap.size w).alloc (Nat.le_refl _) (.cells #[.int .i64 20, .int .i64 op, .int .i64 ty, .int .i64 n, .string t, .int .i64 kids] 63))
  have H := hid (sof_20 S op ty n kids t ks pv ad cap kd _ (hr.below HB0.out) hf hk hn)
  clear hr hf hk
  go_enter Tryz.func35, Tryz.ntmps35
  go_wp2_with (go_at_call 59; refine H.out.mono ?_; rintro e w1 ⟨⟨v, rfl, hp⟩, hb1⟩; obtain ⟨T, y, rfl⟩ := hp.iface; have HP := hid hp; have HB1 := hid (HB0.out.trans (hb1.mono (by simp))); clear hp hb1)
  go_ret
  exact ⟨⟨_, rfl, HP.out⟩, HB1.out⟩
theorem partOf_any (S : Nat → Prop) (x : Nd) (ks : List Nat) (pv : Nat → Value) (ad : Option Addr) (cap : Nat) (kd : Nat → Int) (w : World) (hr : RowP S w ad (ks.map pv)) (hf : Ifs ks pv) (hk : KidsOk x ks.length kd) (hn : ks.length ≤ 12001) (hcp : ks.length ≤ cap) :
    Calls Tryz.prog 35 #[ndV x, .slice ad ks.length cap] w fun e w' => PartEnd S e w' x ks pv ∧ Below w.heap.size w w' := by
  obtain ⟨k, op, ty, n, t, kids⟩ := x
  have hk24 : 1 ≤ k ∧ k ≤ 24 := by
    by_cases h : k < 1 ∨ 24 < k
    · exact absurd hk (ko_E k op ty n kids t _ _ h)
    · omega
  obtain rfl | rfl | rfl | rfl | rfl | rfl | rfl | rfl | rfl | rfl | rfl | rfl | rfl | rfl | rfl | rfl | rfl | rfl | rfl | rfl | rfl | rfl | rfl | rfl : k = 1 ∨ k = 2 ∨ k = 3 ∨ k = 4 ∨ k = 5 ∨ k = 6 ∨ k = 7 ∨ k = 8 ∨ k = 9 ∨ k = 10 ∨ k = 11 ∨ k = 12 ∨ k = 13 ∨ k = 14 ∨ k = 15 ∨ k = 16 ∨ k = 17 ∨ k = 18 ∨ k = 19 ∨ k = 20 ∨ k = 21 ∨ k = 22 ∨ k = 23 ∨ k = 24 := by omega
  · exact of_1 S op ty n kids t ks pv ad cap kd w hr hf hk hn
  · exact of_2 S op ty n kids t ks pv ad cap kd w hr hf hk hn
  · exact of_3 S op ty n kids t ks pv ad cap kd w hr hf hk hn
  · exact of_4 S op ty n kids t ks pv ad cap kd w hr hf hk hn
  · exact of_5 S op ty n kids t ks pv ad cap kd w hr hf hk hn
  · exact of_6 S op ty n kids t ks pv ad cap kd w hr hf hk hn
  · exact of_7 S op ty n kids t ks pv ad cap kd w hr hf hk hn
  · exact of_8 S op ty n kids t ks pv ad cap kd w hr hf hk hn
  · exact of_9 S op ty n kids t ks pv ad cap kd w hr hf hk hn
  · exact of_10 S op ty n kids t ks pv ad cap kd w hr hf hk hn
  · exact of_11 S op ty n kids t ks pv ad cap kd w hr hf hk hn
  · exact of_12 S op ty n kids t ks pv ad cap kd w hr hf hk hn
  · exact of_13 S op ty n kids t ks pv ad cap kd w hr hf hk hn
  · exact of_14 S op ty n kids t ks pv ad cap kd w hr hf hk hn
  · exact of_15 S op ty n kids t ks pv ad cap kd w hr hf hk hn
  · exact of_16 S op ty n kids t ks pv ad cap kd w hr hf hk hn
  · exact of_17 S op ty n kids t ks pv ad cap kd w hr hf hk hn
  · exact of_18 S op ty n kids t ks pv ad cap kd w hr hf hk hn
  · exact of_19 S op ty n kids t ks pv ad cap kd w hr hf hk hn
  · exact of_20 S op ty n kids t ks pv ad cap kd w hr hf hk hn
  · exact of_21 S op ty n kids t ks pv ad cap kd w hr hf hk hn
  · exact of_22 S op ty n kids t ks pv ad cap kd w hr hf hk hn
  · exact of_23 S op ty n kids t ks pv ad cap kd w hr hf hk hn hcp
  · exact of_24 S op ty n kids t ks pv ad cap kd w hr hf hk hn
end Go.Proofs.YtkngjbpbjjoneaaGreatDoor.Q
