import Derived.Test.YtabbahpalemlhaaGreatDoorJ11
namespace Go.Proofs.YtabbahpalemlhaaGreatDoor
open Go.RowKit
set_option maxRecDepth 20000
theorem nd_box {B:Nat} {W w5:World} {x:Nd} (hg:Gk B (W.alloc (.cells #[.int .i64 x.kind,.int .i64 x.op,.int .i64 x.n,.string x.text,.int .i64 x.kids] 81)) w5) :
  w5.cell? ⟨W.heap.size,0,none⟩=some (.int .i64 x.kind)∧w5.cell? ⟨W.heap.size,1,none⟩=some (.int .i64 x.op)∧w5.cell? ⟨W.heap.size,2,none⟩=some (.int .i64 x.n)∧w5.cell? ⟨W.heap.size,3,none⟩=some (.string x.text)∧w5.cell? ⟨W.heap.size,4,none⟩=some (.int .i64 x.kids) :=
 have ht:¬ GenT 81:=by unfold GenT;decide
 ⟨lit_cell hg ht,lit_cell hg ht,lit_cell hg ht,lit_cell hg ht,lit_cell hg ht⟩
set_option maxHeartbeats 4000000 in
theorem each_at {d:Int} {K Ce:Nat} (he:EOk (d - 1) K Ce) (hK:K≤10000) (hd:1≤d) (hd2:d≤10) (s:Gs) (C:Nat) (w w':World) (h:At s C w w') (hr:Room (C+3 * Ce+50) s) (kind:Int) :
  Calls Tryz.prog 110 #[.pointer (some ⟨s.G,0,none⟩),.int .i64 kind,.int .i64 d] w' (NdEnd s (3 * K+8) (C+3 * Ce+20) w w'):=by
 have HE:=hid he
 have HA0:=hid h
 have HK0:=hid (Gk.refl s.R w')
 have HR:=hid hr
 clear he h hr
 go_enter Tryz.func110,Tryz.ntmps110
 go_wp2_with fail
 refine (fresh_at HA0.out (HR.out.sub (by omega))).mono ?_
 rintro e w1 ⟨tv,rfl,htv,at0,gk0⟩
 have HT:=hid htv
 clear htv
 have HA1:=hid at0
 have HK1:=hid (HK0.out.trans gk0)
 clear at0 gk0
 have HV2:=hid ((Below.refl w1.heap.size w1).alloc (Nat.le_refl _) (.cells #[.int .i64 16,.int .i64 0,.int .i64 0,.string tv,.int .i64 0] 81))
 have at0:=HA1.out.next HV2.out
 have gk0:=HA1.out.gk_next HV2.out
 have HBX:=hid (Gk.refl s.R (w1.alloc (.cells #[.int .i64 16,.int .i64 0,.int .i64 0,.string tv,.int .i64 0] 81)))
 have HA2:=hid at0
 have HK2:=hid (HK1.out.trans gk0)
 clear at0 gk0
 go_wp2_with fail
 refine (e_at HE.out HA2.out (HR.out.sub (by omega)) _).mono ?_
 rintro e w3 hh
 obtain ⟨g3,n3,k3,rfl,l0,at0,gk0⟩:=hh.get
 clear hh
 have HBX:=hid (HBX.out.trans gk0)
 have HA3:=hid at0
 have HK3:=hid (HK2.out.trans gk0)
 clear at0 gk0
 have HL3:=hid l0
 clear l0
 have hg3:=HA3.out.g0
 go_wp2_with fail
 refine (pick_at HA3.out (HR.out.sub (by omega)) 3 (by omega)).mono ?_
 rintro e w4 ⟨x4,rfl,hx4,at0,gk0⟩
 have hy4:x4 < 3:=by omega
 have hz4:(x4:Int) < 3:=by omega
 clear hx4
 have HBX:=hid (HBX.out.trans gk0)
 have HA4:=hid at0
 have HK4:=hid (HK3.out.trans gk0)
 have HL3:=hid (HL3.out.gk gk0)
 clear at0 gk0
 clear hg3
 have hf4:x4=0∨((x4:Int) == 0)=false:=by rcases Nat.eq_zero_or_pos x4 with h | h;exact .inl h;exact .inr (by simp;omega)
 rcases hf4 with rfl | hf4
 ·have hg4:=HA4.out.g0
  go_wp2_with fail
  refine (pick_at HA4.out (HR.out.sub (by omega)) 5 (by omega)).mono ?_
  rintro e w5 ⟨x5,rfl,hx5,at0,gk0⟩
  have hy5:x5 < 5:=by omega
  have hz5:(x5:Int) < 5:=by omega
  clear hx5
  have HBX:=hid (HBX.out.trans gk0)
  have HA5:=hid at0
  have HK5:=hid (HK4.out.trans gk0)
  have HL3:=hid (HL3.out.gk gk0)
  clear at0 gk0
  clear hg4
  go_wp2_with fail
  refine (int_at HA5.out _).mono ?_
  rintro e w6 hh
  obtain ⟨g6,n6,k6,rfl,l0,at0,gk0⟩:=hh.get
  clear hh
  have HBX:=hid (HBX.out.trans gk0)
  have HA6:=hid at0
  have HK6:=hid (HK5.out.trans gk0)
  have HL3:=hid (HL3.out.gk gk0)
  clear at0 gk0
  have HL6:=hid l0
  clear l0
  go_wp2_with fail
  refine (call1_at HA6.out ⟨#[114,97,110,103,101]⟩ _ HL6.out (by decide) (by omega)).mono ?_
  rintro e w7 hh
  obtain ⟨g7,n7,k7,rfl,l0,at0,gk0⟩:=hh.get
  clear hh
  clear HL6
  have HBX:=hid (HBX.out.trans gk0)
  have HA7:=hid at0
  have HK7:=hid (HK6.out.trans gk0)
  have HL3:=hid (HL3.out.gk gk0)
  clear at0 gk0
  have HL7:=hid l0
  clear l0
  clear HL3
  go_wp2_with fail
  refine (inside_at HE.out HA7.out (HR.out.sub (by omega)) tv HT.out _ _).mono ?_
  rintro e w8 hh
  obtain ⟨g8,n8,k8,rfl,l0,at0,gk0⟩:=hh.get
  clear hh
  have HBX:=hid (HBX.out.trans gk0)
  have HA8:=hid at0
  have HK8:=hid (HK7.out.trans gk0)
  have HL7:=hid (HL7.out.gk gk0)
  clear at0 gk0
  have HL8:=hid l0
  clear l0
  have hg8:=HA8.out.g0
  go_wp2_with fail
  refine (pick_at HA8.out (HR.out.sub (by omega)) 2 (by omega)).mono ?_
  rintro e w9 ⟨x9,rfl,hx9,at0,gk0⟩
  have hy9:x9 < 2:=by omega
  have hz9:(x9:Int) < 2:=by omega
  clear hx9
  have HBX:=hid (HBX.out.trans gk0)
  have HA9:=hid at0
  have HK9:=hid (HK8.out.trans gk0)
  have HL7:=hid (HL7.out.gk gk0)
  have HL8:=hid (HL8.out.gk gk0)
  clear at0 gk0
  clear hg8
  have hf9:x9=0∨((x9:Int) == 0)=false:=by rcases Nat.eq_zero_or_pos x9 with h | h;exact .inl h;exact .inr (by simp;omega)
  rcases hf9 with rfl | hf9
  ·obtain ⟨p0,p1,p2,p3,p4⟩:=nd_box (x:=⟨16,0,0,tv,0⟩) HBX.out
   go_wp2_with fail
   refine (over2_at HA9.out ⟨16,0,0,tv,0⟩ _ _ HL7.out HL8.out (by have:=HT.out;show tv.size≤1000;omega) (by omega)).mono ?_
   rintro e w10 hh
   obtain ⟨g10,n10,k10,rfl,l0,at0,gk0⟩:=hh.get
   clear hh
   clear HL7
   clear HL8
   have HBX:=hid (HBX.out.trans gk0)
   have HA10:=hid at0
   have HK10:=hid (HK9.out.trans gk0)
   clear at0 gk0
   have HL10:=hid l0
   clear l0
   go_wp2
   go_ret
   exact HL10.out.fin HA10.out HK10.out (by omega) (by omega)
  ·have HSB:Hid (∀ W,Gk s.R (w1.alloc (.cells #[.int .i64 16,.int .i64 0,.int .i64 0,.string tv,.int .i64 0] 81)) W→W.cell? ⟨w1.heap.size,0,none⟩=some (.int .i64 16)∧W.cell? ⟨w1.heap.size,1,none⟩=some (.int .i64 0)∧W.cell? ⟨w1.heap.size,2,none⟩=some (.int .i64 0)∧W.cell? ⟨w1.heap.size,3,none⟩=some (.string tv)∧W.cell? ⟨w1.heap.size,4,none⟩=some (.int .i64 0)):=fun W hW=>nd_box (x:=⟨16,0,0,tv,0⟩) hW
   obtain ⟨p0,p1,p2,p3,p4⟩:=HSB.out _ HBX.out
   have hwd:IntKind.i64.wrap (d - 1)=d - 1:=by rw [IntKind.wrap_i64];omega
   have HV11:=hid ((Below.refl w9.heap.size w9).drew)
   have HA11:=hid (HA9.out.next HV11.out)
   have HG11:=hid (HA9.out.gk_next HV11.out)
   go_wp2_with fail
   go_region_held3 (fun W=>W.cell? ⟨w1.heap.size,0,none⟩=some (.int .i64 16)∧W.cell? ⟨w1.heap.size,1,none⟩=some (.int .i64 0)∧W.cell? ⟨w1.heap.size,2,none⟩=some (.int .i64 0)∧W.cell? ⟨w1.heap.size,3,none⟩=some (.string tv)∧W.cell? ⟨w1.heap.size,4,none⟩=some (.int .i64 0)) (first | (exact HSB.out _ HGC.out) | (exact HSB.out _ HGB.out) | go_keep) (first
    | (have hgate:=HLX.out;clear hgate;go_at_call 61;refine (over3_at HAX.out ⟨16,0,0,tv,0⟩ _ _ _ HLP.out HLQ.out HLX.out (by have:=HT.out;show tv.size≤1000;omega) (by omega)).mono ?_;rintro e wy hh;have hq:=hh.get;obtain ⟨gy,ny,ky,rfl,l0,at0,gk0⟩:=hq;have HAY:=hid at0;have HKY:=hid (HKX.out.trans gk0);have HLY:=hid l0;have HGC:=hid (HGB.out.trans gk0);clear hh l0 at0 gk0)
    | (go_at_call 94;refine (inside_at HE.out HA11.out (HR.out.sub (by omega)) tv HT.out _ _).mono ?_;rintro e wx hh;have hq:=hh.get;obtain ⟨gx,nx,kx,rfl,l0,at0,gk0⟩:=hq;have HAX:=hid at0;have HKX:=hid (HK9.out.trans (HG11.out.trans gk0));have HLX:=hid l0;have HGB:=hid (HBX.out.trans (HG11.out.trans gk0));have HLP:=hid (HL7.out.gk (HG11.out.trans gk0));have HLQ:=hid (HL8.out.gk (HG11.out.trans gk0));clear hh l0 at0 gk0))
   go_wp2
   go_ret
   exact HLY.out.fin HAY.out HKY.out (by omega) (by omega)
 ·go_wp2_with fail
  refine (inside_at HE.out HA4.out (HR.out.sub (by omega)) tv HT.out _ _).mono ?_
  rintro e w5 hh
  obtain ⟨g5,n5,k5,rfl,l0,at0,gk0⟩:=hh.get
  clear hh
  have HBX:=hid (HBX.out.trans gk0)
  have HA5:=hid at0
  have HK5:=hid (HK4.out.trans gk0)
  have HL3:=hid (HL3.out.gk gk0)
  clear at0 gk0
  have HL5:=hid l0
  clear l0
  have hg5:=HA5.out.g0
  go_wp2_with fail
  refine (pick_at HA5.out (HR.out.sub (by omega)) 2 (by omega)).mono ?_
  rintro e w6 ⟨x6,rfl,hx6,at0,gk0⟩
  have hy6:x6 < 2:=by omega
  have hz6:(x6:Int) < 2:=by omega
  clear hx6
  have HBX:=hid (HBX.out.trans gk0)
  have HA6:=hid at0
  have HK6:=hid (HK5.out.trans gk0)
  have HL3:=hid (HL3.out.gk gk0)
  have HL5:=hid (HL5.out.gk gk0)
  clear at0 gk0
  clear hg5
  have hf6:x6=0∨((x6:Int) == 0)=false:=by rcases Nat.eq_zero_or_pos x6 with h | h;exact .inl h;exact .inr (by simp;omega)
  rcases hf6 with rfl | hf6
  ·obtain ⟨p0,p1,p2,p3,p4⟩:=nd_box (x:=⟨16,0,0,tv,0⟩) HBX.out
   go_wp2_with fail
   refine (over2_at HA6.out ⟨16,0,0,tv,0⟩ _ _ HL3.out HL5.out (by have:=HT.out;show tv.size≤1000;omega) (by omega)).mono ?_
   rintro e w7 hh
   obtain ⟨g7,n7,k7,rfl,l0,at0,gk0⟩:=hh.get
   clear hh
   clear HL3
   clear HL5
   have HBX:=hid (HBX.out.trans gk0)
   have HA7:=hid at0
   have HK7:=hid (HK6.out.trans gk0)
   clear at0 gk0
   have HL7:=hid l0
   clear l0
   go_wp2
   go_ret
   exact HL7.out.fin HA7.out HK7.out (by omega) (by omega)
  ·have HSB:Hid (∀ W,Gk s.R (w1.alloc (.cells #[.int .i64 16,.int .i64 0,.int .i64 0,.string tv,.int .i64 0] 81)) W→W.cell? ⟨w1.heap.size,0,none⟩=some (.int .i64 16)∧W.cell? ⟨w1.heap.size,1,none⟩=some (.int .i64 0)∧W.cell? ⟨w1.heap.size,2,none⟩=some (.int .i64 0)∧W.cell? ⟨w1.heap.size,3,none⟩=some (.string tv)∧W.cell? ⟨w1.heap.size,4,none⟩=some (.int .i64 0)):=fun W hW=>nd_box (x:=⟨16,0,0,tv,0⟩) hW
   obtain ⟨p0,p1,p2,p3,p4⟩:=HSB.out _ HBX.out
   have hwd:IntKind.i64.wrap (d - 1)=d - 1:=by rw [IntKind.wrap_i64];omega
   have HV11:=hid ((Below.refl w6.heap.size w6).drew)
   have HA11:=hid (HA6.out.next HV11.out)
   have HG11:=hid (HA6.out.gk_next HV11.out)
   go_wp2_with fail
   go_region_held3 (fun W=>W.cell? ⟨w1.heap.size,0,none⟩=some (.int .i64 16)∧W.cell? ⟨w1.heap.size,1,none⟩=some (.int .i64 0)∧W.cell? ⟨w1.heap.size,2,none⟩=some (.int .i64 0)∧W.cell? ⟨w1.heap.size,3,none⟩=some (.string tv)∧W.cell? ⟨w1.heap.size,4,none⟩=some (.int .i64 0)) (first | (exact HSB.out _ HGC.out) | (exact HSB.out _ HGB.out) | go_keep) (first
    | (have hgate:=HLX.out;clear hgate;go_at_call 61;refine (over3_at HAX.out ⟨16,0,0,tv,0⟩ _ _ _ HLP.out HLQ.out HLX.out (by have:=HT.out;show tv.size≤1000;omega) (by omega)).mono ?_;rintro e wy hh;have hq:=hh.get;obtain ⟨gy,ny,ky,rfl,l0,at0,gk0⟩:=hq;have HAY:=hid at0;have HKY:=hid (HKX.out.trans gk0);have HLY:=hid l0;have HGC:=hid (HGB.out.trans gk0);clear hh l0 at0 gk0)
    | (go_at_call 94;refine (inside_at HE.out HA11.out (HR.out.sub (by omega)) tv HT.out _ _).mono ?_;rintro e wx hh;have hq:=hh.get;obtain ⟨gx,nx,kx,rfl,l0,at0,gk0⟩:=hq;have HAX:=hid at0;have HKX:=hid (HK6.out.trans (HG11.out.trans gk0));have HLX:=hid l0;have HGB:=hid (HBX.out.trans (HG11.out.trans gk0));have HLP:=hid (HL3.out.gk (HG11.out.trans gk0));have HLQ:=hid (HL5.out.gk (HG11.out.trans gk0));clear hh l0 at0 gk0))
   go_wp2
   go_ret
   exact HLY.out.fin HAY.out HKY.out (by omega) (by omega)
end Go.Proofs.YtabbahpalemlhaaGreatDoor
