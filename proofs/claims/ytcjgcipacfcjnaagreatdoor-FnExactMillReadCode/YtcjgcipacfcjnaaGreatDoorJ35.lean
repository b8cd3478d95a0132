import Derived.Shelf.Strings.Prefix
import Derived.Shelf.Strconv.Clone
import Derived.Test.YtcjgcipacfcjnaaGreatDoorJ30
import Derived.Test.YtcjgcipacfcjnaaGreatDoorJ33
import Derived.Test.YtcjgcipacfcjnaaGreatDoorJ34
namespace Go.Proofs.YtcjgcipacfcjnaaGreatDoor.C
open Go.RowKit
set_option maxRecDepth 20000
def ByEnd (fns : List Fn) (w : World) (e : Ending) (w' : World) : Prop := ((e = .returned .nilIface ∧ Chk fns 0 0 0) ∨ ∃ c k i : Nat, ¬ c = 0 ∧ e = .returned (flaw c k i) ∧ Chk fns c k i) ∧ Below w.heap.size w w'
theorem show_any (j : Int) (b : Nat) (w : World) : Calls Tryz.prog 38 #[.int .i64 j, .pointer (some ⟨b, 0, none⟩)] w fun e w' => e = .returned (.tuple #[]) ∧ w' = w := by
 go_enter Tryz.func38, Tryz.ntmps38
 go_wp2
 go_end0
 exact ⟨rfl, rfl⟩
set_option maxHeartbeats 8000000 in
theorem by_any {fns : List Fn} {w : World} {cv : Value} (h1 : FnsRow w cv fns) (hC : CodeS fns) (hE : EnvI w) :
  Calls Tryz.prog 37 #[.agg #[cv], .func (.func 38) #[] #[]] w (ByEnd fns w) := by
 have H1 := hid h1
 have HC := hid hC
 have HE := hid hE
 obtain ⟨aF, cF, hcv⟩ := h1.sl
 subst hcv
 clear h1 hC hE
 go_enter Tryz.func37, Tryz.ntmps37
 go_upto_region 1 with fail
 have HX0 := hid (PX.start w (.slice aF fns.length cF))
 obtain ⟨W1, hW1⟩ : ∃ W, w.alloc (.cells #[.slice aF fns.length cF] 29) = W := ⟨_, rfl⟩
 rw [hW1] at HX0 ⊢
 clear hW1
 have k0 := cx HX0.out.e0
 have HTX := hid (text_any (H1.out.next HX0.out.lo) HC.out (HE.out.next HX0.out.lo))
 go_upto_region 2 with (go_at_call 69; refine HTX.out.mono ?_; rintro e w2 ⟨hcs, hb2⟩; have HX := hid (HX0.out.next hb2); clear hb2; rcases hcs with ⟨rfl, hp⟩ | ⟨c, k, i, hc0, rfl, hp⟩ <;> have HPL := hid hp <;> clear hp)
 ·have HRT := hid (plain_right HPL.out)
  have h60 := HRT.out.2.2
  clear k0 HX0 HTX
  have k0 := cx HX.out.e0
  go_wp2_with fail
  clear k0
  go_loopw [17] (fun i wr => ∃ j : Nat, j ≤ fns.length ∧ i = .int .i64 j ∧ PX w (.slice aF fns.length cF) wr ∧ ∀ p, p < j → Fit fns (fns.getD p fn0)) (fun i _ => fns.length - (intOf i).toNat)
  case atStart => exact ⟨0, Nat.zero_le _, rfl, HX.out, fun p hp => absurd hp (Nat.not_lt_zero _)⟩
  case round =>
   obtain ⟨j, hj, rfl, hx, hall⟩ := hrel
   have HX3 := hid hx
   have HALL := hid hall
   clear hx hall HX
   have k0 := cx HX3.out.e0
   by_cases hlt : j < fns.length
   ·have hlti : (j : Int) < (fns.length : Int) := by omega
    have HFM : Hid (FnR fns (fns.getD j fn0)) := hid (HRT.out.1 _ (by rw [List.getD_eq_getElem?_getD, List.getElem?_eq_getElem hlt]; exact List.getElem_mem hlt))
    have HNW := hid (new_any (H1.out.next HX3.out.lo) (HE.out.next HX3.out.lo) hlt HRT.out.1)
    obtain ⟨f, hf⟩ : ∃ f, fns.getD j fn0 = f := ⟨_, rfl⟩
    rw [hf] at HFM HNW
    have HFE := hid hf
    clear hf
    go_upto_region 8 with (go_at_call 70; refine HNW.out.mono ?_; rintro e w4 ⟨W2, b, gL, cv4, pv, iv, A, wv, rfl, hb4, hsg, hsp, hcl, hlow⟩; have HLS : Hid (Least fns f A) := hid ⟨hcl, hlow⟩; have HX4 := hid (HX3.out.next (hb4.trans (hsp.lo.mono hb4.size))); have HFU := hid (unfit_any hsp hsg HRT.out.1 HFM.out hlow); clear hb4 hsg hsp hcl hlow)
    clear k0 HNW
    go_upto_region 9 with (go_at_call 71; refine HFU.out.mono ?_; rintro e w5 ⟨r, rfl, hor, hb5⟩; have HX5 := hid (HX4.out.next hb5); clear hb5; rcases hor with ⟨rfl, hno⟩ | ⟨i, rfl, hi, hno, hun⟩)
    ·have HFT : Hid (∀ p, p < j + 1 → Fit fns (fns.getD p fn0)) := hid fun p hp => by
      by_cases e : p = j
      ·subst e; rw [HFE.out]; exact ⟨A, HLS.out, hno⟩
      ·exact HALL.out p (by omega)
     clear hno
     go_wp2_with (go_at_call 38; refine (show_any _ _ _).mono ?_; rintro e w6 ⟨rfl, hw6⟩; have hw7 := hw6.symm; clear hw6; subst hw7)
     go_roundw
     case rel => exact ⟨j + 1, by omega, by go_num, HX5.out, HFT.out⟩
     case measure => simp [intOf]; omega
    ·have HCK : Hid (Chk fns 5 j i) := hid (.unfit HPL.out j i hlt (by rw [HFE.out]; exact hi) HALL.out A (by rw [HFE.out]; exact HLS.out) (by rw [HFE.out]; exact hno) (by rw [HFE.out]; exact hun))
     have hge : (0 : Int) ≤ (i : Int) := by omega
     clear hno hun
     go_wp2_with fail
     go_ret
     exact ⟨.inr ⟨5, j, i, by decide, rfl, HCK.out⟩, HX5.out.lo⟩
   ·obtain rfl : j = fns.length := by omega
    have hge : ¬ ((fns.length : Int) < (fns.length : Int)) := by omega
    go_wp2_with fail
    go_ret
    exact ⟨.inl ⟨rfl, .ok HPL.out HALL.out⟩, HX3.out.lo⟩
 ·unfold flaw
  go_wp2_with fail
  go_ret
  exact ⟨.inr ⟨c, k, i, hc0, rfl, .plain c k i HPL.out hc0⟩, HX.out.lo⟩
set_option maxHeartbeats 2000000 in
theorem code_any {fns : List Fn} {w : World} {cv : Value} (h1 : FnsRow w cv fns) (hC : CodeS fns) (hE : EnvI w) :
  Calls Tryz.prog 18 #[.agg #[cv]] w (ByEnd fns w) := by
 have HX0 := hid (PX.start w cv)
 have HBY := hid (by_any (h1.next HX0.out.lo) hC (hE.next HX0.out.lo))
 obtain ⟨aF, cF, hcv⟩ := h1.sl
 subst hcv
 clear h1 hC hE
 go_enter Tryz.func18, Tryz.ntmps18
 go_wp2_with (go_at_call 37; refine HBY.out.mono ?_; rintro e w2 ⟨hcs, hb2⟩; have HX := hid (HX0.out.next hb2); clear hb2; rcases hcs with ⟨rfl, hp⟩ | ⟨c, k, i, hc0, rfl, hp⟩ <;> have HCK := hid hp <;> clear hp)
 ·go_ret
  exact ⟨.inl ⟨rfl, HCK.out⟩, HX.out.lo⟩
 ·go_ret
  exact ⟨.inr ⟨c, k, i, hc0, rfl, HCK.out⟩, HX.out.lo⟩
end Go.Proofs.YtcjgcipacfcjnaaGreatDoor.C
namespace Go.Proofs.YtcjgcipacfcjnaaGreatDoor.C.D
open Go.RowKit Go.Shelf
set_option maxRecDepth 20000
def hp_ren : Go.Shelf.Ren := ⟨fun | 99 => 49 | 206 => 76 | n => n, fun | 3 => 3 | 4 => 4 | 9 => 9 | n => n, fun  | n => n⟩
theorem hp_lays : Go.Proofs.Lays.n99 Tryz.prog hp_ren where
 mixed := by kernel_rfl
 f99 := Tryz.func49.trans (congrArg some (by kernel_rfl))
 f206 := Tryz.func76.trans (congrArg some (by kernel_rfl))
 t3 := Tryz.underlying3
 a3 := Tryz.isAgg3
 z3 := Tryz.sizeOf3
 v3 := Tryz.zeroValue3
 t4 := Tryz.underlying4
 a4 := Tryz.isAgg4
 z4 := Tryz.sizeOf4
 v4 := Tryz.zeroValue4
 t9 := Tryz.underlying9
 a9 := Tryz.isAgg9
 z9 := Tryz.sizeOf9
 v9 := Tryz.zeroValue9
def cl_ren : Go.Shelf.Ren := ⟨fun | 316 => 133 | n => n, fun | 5 => 5 | 9 => 9 | 3 => 3 | 4 => 4 | 37 => 39 | 127 => 94 | n => n, fun n => n⟩
theorem laysCl : Go.Proofs.LaysM.n316 Tryz.prog cl_ren where
 mixed := by kernel_rfl
 f316 := Tryz.func133.trans (congrArg some (by kernel_rfl))
 t0 := Tryz.underlying0
 a0 := Tryz.isAgg0
 z0 := Tryz.sizeOf0
 v0 := Tryz.zeroValue0
 t3 := Tryz.underlying3
 a3 := Tryz.isAgg3
 z3 := Tryz.sizeOf3
 v3 := Tryz.zeroValue3
 t4 := Tryz.underlying4
 a4 := Tryz.isAgg4
 z4 := Tryz.sizeOf4
 v4 := Tryz.zeroValue4
 t9 := Tryz.underlying9
 a9 := Tryz.isAgg9
 z9 := Tryz.sizeOf9
 v9 := Tryz.zeroValue9
 t37 := Tryz.underlying39
 a37 := Tryz.isAgg39
 z37 := Tryz.sizeOf39
 v37 := Tryz.zeroValue39
 t127 := Tryz.underlying94
 a127 := Tryz.isAgg94
 z127 := Tryz.sizeOf94
 v127 := Tryz.zeroValue94
 t5 := Tryz.underlying5
 a5 := Tryz.isAgg5
 z5 := Tryz.sizeOf5
 v5 := Tryz.zeroValue5
 i0 := by kernel_rfl
 i3 := by kernel_rfl
 i4 := by kernel_rfl
 i9 := by kernel_rfl
 i37 := by kernel_rfl
 i127 := by kernel_rfl
 i5 := by kernel_rfl
theorem clone_any (s : ByteArray) (w : World) (hs : s.size ≤ 1048576) :
  Calls Tryz.prog 105 #[.string s] w fun e w' => e = .returned (.string s) ∧ Below w.heap.size w w' := by
 have HC : Hid (∀ W, Calls Tryz.prog 133 #[.string s] W fun e w' => e = .returned (.string s) ∧ Below W.heap.size W w') := fun W => Any.stringslite_Clone laysCl s W (by omega)
 go_enter Tryz.func105, Tryz.ntmps105
 go_wp2_with fail
 refine (HC.out _).mono ?_
 rintro e w1 ⟨rfl, hb⟩
 have HB := hid hb
 clear hb
 go_wp2
 go_ret
 exact ⟨rfl, HB.out⟩
theorem prefix_any (s p : ByteArray) (w : World) : Calls Tryz.prog 49 #[.string s, .string p] w fun e w' => e = .returned (.bool (Lib.hasPrefix s.data.toList p.data.toList)) ∧ w' = w := Any.strings_HasPrefix hp_lays s p w
end Go.Proofs.YtcjgcipacfcjnaaGreatDoor.C.D
