import Derived.Shelf.Strings.Repeat
import Derived.Deep.RegionHeld3
import Derived.Test.YtkngjbpbjjoneaaGreatDoorJ38
/-! strings.Repeat; the spaces in front of a line. Printed by gen_wrep.py. -/
namespace Go.Proofs.YtkngjbpbjjoneaaGreatDoor.Q
open Go.RowKit Go.Shelf
set_option maxRecDepth 100000
def rp_ren : Go.Shelf.Ren := ⟨fun | 99 => 74 | 105 => 56 | 165 => 75 | 166 => 54 | 169 => 18 | 170 => 17 | 206 => 95 | 212 => 73 | 240 => 72 | 241 => 96 | 263 => 93 | 264 => 94 | 276 => 92 | 277 => 103 | n => n, fun | 0 => 0 | 3 => 3 | 4 => 4 | 5 => 5 | 9 => 9 | 20 => 20 | 37 => 41 | 46 => 164 | 51 => 184 | 53 => 98 | 70 => 46 | 72 => 48 | 75 => 113 | 76 => 114 | 80 => 58 | 109 => 165 | 127 => 92 | 146 => 185 | 148 => 187 | 164 => 182 | n => n, fun  | n => n⟩
theorem rp_lays : Go.Proofs.Lays.n105 Tryz.prog rp_ren where
  mixed := by kernel_rfl
  f99 := Tryz.func74.trans (congrArg some (by kernel_rfl))
  f105 := Tryz.func56.trans (congrArg some (by kernel_rfl))
  f165 := Tryz.func75.trans (congrArg some (by kernel_rfl))
  f166 := Tryz.func54.trans (congrArg some (by kernel_rfl))
  f169 := Tryz.func18.trans (congrArg some (by kernel_rfl))
  f170 := Tryz.func17.trans (congrArg some (by kernel_rfl))
  f206 := Tryz.func95.trans (congrArg some (by kernel_rfl))
  f212 := Tryz.func73.trans (congrArg some (by kernel_rfl))
  f240 := Tryz.func72.trans (congrArg some (by kernel_rfl))
  f241 := Tryz.func96.trans (congrArg some (by kernel_rfl))
  f263 := Tryz.func93.trans (congrArg some (by kernel_rfl))
  f264 := Tryz.func94.trans (congrArg some (by kernel_rfl))
  f276 := Tryz.func92.trans (congrArg some (by kernel_rfl))
  f277 := Tryz.func103.trans (congrArg some (by kernel_rfl))
  t0 := Tryz.underlying0
  a0 := Tryz.isAgg0
  z0 := Tryz.sizeOf0
  v0 := Tryz.zeroValue0
  t3 := Tryz.underlying3
  a3 := Tryz.isAgg3
  z3 := Tryz.sizeOf3
  v3 := Tryz.zeroValue3
  t4 := Tryz.underlying4
  a4 := Tryz.isAgg4
  z4 := Tryz.sizeOf4
  v4 := Tryz.zeroValue4
  t5 := Tryz.underlying5
  a5 := Tryz.isAgg5
  z5 := Tryz.sizeOf5
  v5 := Tryz.zeroValue5
  t9 := Tryz.underlying9
  a9 := Tryz.isAgg9
  z9 := Tryz.sizeOf9
  v9 := Tryz.zeroValue9
  t20 := Tryz.underlying20
  a20 := Tryz.isAgg20
  z20 := Tryz.sizeOf20
  v20 := Tryz.zeroValue20
  t37 := Tryz.underlying41
  a37 := Tryz.isAgg41
  z37 := Tryz.sizeOf41
  v37 := Tryz.zeroValue41
  t46 := Tryz.underlying164
  a46 := Tryz.isAgg164
  z46 := Tryz.sizeOf164
  v46 := Tryz.zeroValue164
  t51 := Tryz.underlying184
  a51 := Tryz.isAgg184
  z51 := Tryz.sizeOf184
  v51 := Tryz.zeroValue184
  t53 := Tryz.underlying98
  a53 := Tryz.isAgg98
  z53 := Tryz.sizeOf98
  v53 := Tryz.zeroValue98
  t70 := Tryz.underlying46
  a70 := Tryz.isAgg46
  z70 := Tryz.sizeOf46
  v70 := Tryz.zeroValue46
  t72 := Tryz.underlying48
  a72 := Tryz.isAgg48
  z72 := Tryz.sizeOf48
  v72 := Tryz.zeroValue48
  t75 := Tryz.underlying113
  a75 := Tryz.isAgg113
  z75 := Tryz.sizeOf113
  v75 := Tryz.zeroValue113
  t76 := Tryz.underlying114
  a76 := Tryz.isAgg114
  z76 := Tryz.sizeOf114
  v76 := Tryz.zeroValue114
  t109 := Tryz.underlying165
  a109 := Tryz.isAgg165
  z109 := Tryz.sizeOf165
  v109 := Tryz.zeroValue165
  t127 := Tryz.underlying92
  a127 := Tryz.isAgg92
  z127 := Tryz.sizeOf92
  v127 := Tryz.zeroValue92
  t146 := Tryz.underlying185
  a146 := Tryz.isAgg185
  z146 := Tryz.sizeOf185
  v146 := Tryz.zeroValue185
  t148 := Tryz.underlying187
  a148 := Tryz.isAgg187
  z148 := Tryz.sizeOf187
  v148 := Tryz.zeroValue187
  t164 := Tryz.underlying182
  a164 := Tryz.isAgg182
  z164 := Tryz.sizeOf182
  v164 := Tryz.zeroValue182
theorem rp_extra : Go.Proofs.Builder.Extra Tryz.prog rp_ren where
  sizeBuilder := by kernel_rfl
  liesBuilder := by kernel_rfl
  t5 := Tryz.underlying5
  a5 := Tryz.isAgg5
  z5 := Tryz.sizeOf5
  v5 := Tryz.zeroValue5
  infoByte := by kernel_rfl
  cellsByte := by kernel_rfl
  sizeByte := by kernel_rfl
  neB5 := by decide
theorem rep_gap (d : Nat) : Lib.repeatL [32, 32] d = gapB d := by
  induction d with
  | zero => rfl
  | succ d ih =>
    show [32, 32] ++ Lib.repeatL [32, 32] d = _
    rw [ih]
    unfold gapB
    rw [show ([32, 32] : List UInt8) = List.replicate 2 32 from rfl, List.replicate_append_replicate, Nat.mul_add, Nat.add_comm]
theorem rep_any (d : Nat) (w : World) (hd : d ≤ 20000) :
    Calls Tryz.prog 56 #[.string ⟨#[32, 32]⟩, .int .i64 d] w fun e w' => e = .returned (.string ⟨(gapB d).toArray⟩) ∧ Below w.heap.size w w' := by
  have := Any.strings_Repeat rp_lays rp_extra ⟨#[32, 32]⟩ d w (by omega) (by show 2 * d ≤ _; omega)
  rw [show (⟨#[32, 32]⟩ : ByteArray).data.toList = [32, 32] from rfl, rep_gap] at this
  exact this
set_option maxHeartbeats 1000000 in
theorem indent_any {nd : Nat → Nd} {O : List (List Nat)} {N : Nat} {pv : Nat → Value} {B b d : Nat} {l : List UInt8} (W : World) (h : St nd O N pv B b d l W) (hd : d ≤ 20000) (hl : l.length ≤ 900000000000) :
    Calls Tryz.prog 32 #[.pointer (some ⟨b, 0, none⟩)] W (Wrote nd O N pv B b d l (gapB d) W) := by
  have c2 := h.wr.x
  have H := hid h
  clear h
  go_enter Tryz.func32, Tryz.ntmps32
  go_wp2_with fail
  have H0 := hid (H.out.next (Below.refl _ _).drew)
  have HLE : Hid (l.length + (⟨(gapB d).toArray⟩ : ByteArray).size ≤ 1000000000000) := by
    show _ + (gapB d).toArray.size ≤ _
    have := gapB_len d
    simp
    omega
  go_region_held3 (fun V => V.cell? ⟨b, 2, none⟩ = some (.int .i64 d)) (first | (exact H2.out.wr.x) | (exact H1.out.wr.x) | (exact H0.out.wr.x) | go_keep) (first
    | (go_at_call 56; refine (rep_any d _ hd).mono ?_; rintro e w1 ⟨rfl, hb1⟩; have H1 := hid (H0.out.next hb1); have hbw : Below W.heap.size W w1 := (Below.trans (Below.refl W.heap.size W).drew hb1); have HB1 := hid hbw; clear hb1 hbw)
    | (go_at_call 30; refine (put1S ⟨(gapB d).toArray⟩ w1 H1.out HLE.out).mono ?_; rintro e w2 ⟨rfl, hs2, hk2⟩; have H2 := hid hs2; have HK2 := hid ((Wk.of_below (B := B) (b := b) HB1.out).trans hk2); clear hs2 hk2)
    | fail)
  go_wp2
  go_end0
  exact ⟨rfl, by have := H2.out; simpa using this, HK2.out⟩
end Go.Proofs.YtkngjbpbjjoneaaGreatDoor.Q
