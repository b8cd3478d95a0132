import Derived.Test.YtabbahpalemlhaaGreatDoorJ11
namespace Go.Proofs.YtabbahpalemlhaaGreatDoor
open Go.RowKit
set_option maxRecDepth 20000
set_option maxHeartbeats 4000000 in
theorem ofKind0_at {d:Int} {K Ce:Nat} (he:EOk (d - 1) K Ce) (hK:K≤10000) (hd:1≤d) (hd2:d≤10) {s:Gs} {C:Nat} {w w':World} (h:At s C w w') (hr:Room (C+3 * Ce+60) s) :
  Calls Tryz.prog 96 #[.pointer (some ⟨s.G,0,none⟩),.int .i64 0,.int .i64 d] w' (NdEnd s (3 * K+8) (C+3 * Ce+40) w w'):=by
 have HE:=hid he
 have HA0:=hid h
 have HK0:=hid (Gk.refl s.R w')
 have HR:=hid hr
 have hg0:=h.g0
 clear he h hr
 go_enter Tryz.func96,Tryz.ntmps96
 go_wp2_with fail
 refine (pick_at HA0.out (HR.out.sub (by omega)) 6 (by omega)).mono ?_
 rintro e w1 ⟨x1,rfl,hx1,at0,gk0⟩
 have hy1:x1 < 6:=by omega
 have hz1:(x1:Int) < 6:=by omega
 clear hx1
 have HA1:=hid at0
 have HK1:=hid (HK0.out.trans gk0)
 clear at0 gk0
 have h7:x1=0∨x1=1∨x1=2∨x1=3∨x1=4∨x1=5:=by omega
 clear hy1 hz1
 rcases h7 with rfl | rfl | rfl | rfl | rfl | rfl
 ·have HV12:=hid ((Below.refl w1.heap.size w1).alloc (Nat.le_refl _) (.cells #[.int .i64 1,.int .i64 3,.int .i64 4] 3))
  have at0:=HA1.out.next HV12.out
  have gk0:=HA1.out.gk_next HV12.out
  have HA12:=hid at0
  have HK12:=hid (HK1.out.trans gk0)
  clear at0 gk0
  go_wp2_with fail
  refine (pick_at HA12.out (HR.out.sub (by omega)) 3 (by omega)).mono ?_
  rintro e w13 ⟨x13,rfl,hx13,at0,gk0⟩
  have hy13:x13 < 3:=by omega
  have hz13:(x13:Int) < 3:=by omega
  have hl13:=gk0
  clear hx13
  have HA13:=hid at0
  have HK13:=hid (HK12.out.trans gk0)
  clear at0 gk0
  obtain ⟨y13,c13⟩:∃ y:Int,w13.cell? ⟨w1.heap.size,x13,none⟩=some (.int .i64 y):=by
   rw [lit_cell hl13 (by unfold GenT;decide)]
   have h7:x13=0∨x13=1∨x13=2:=by omega
   rcases h7 with rfl | rfl | rfl <;> exact ⟨_,rfl⟩
  clear hl13
  go_wp2_with fail
  refine (e_at HE.out HA13.out (HR.out.sub (by omega)) _).mono ?_
  rintro e w14 hh
  obtain ⟨g14,n14,k14,rfl,l0,at0,gk0⟩:=hh.get
  clear hh
  have HA14:=hid at0
  have HK14:=hid (HK13.out.trans gk0)
  clear at0 gk0
  have HL14:=hid l0
  clear l0
  go_wp2_with fail
  refine (call1_at HA14.out ⟨#[108,101,110]⟩ _ HL14.out (by decide) (by omega)).mono ?_
  rintro e w15 hh
  obtain ⟨g15,n15,k15,rfl,l0,at0,gk0⟩:=hh.get
  clear hh
  clear HL14
  have HA15:=hid at0
  have HK15:=hid (HK14.out.trans gk0)
  clear at0 gk0
  have HL15:=hid l0
  clear l0
  go_wp2
  go_ret
  exact HL15.out.fin HA15.out HK15.out (by omega) (by omega)
 ·go_wp2_with fail
  refine (e_at HE.out HA1.out (HR.out.sub (by omega)) _).mono ?_
  rintro e w12 hh
  obtain ⟨g12,n12,k12,rfl,l0,at0,gk0⟩:=hh.get
  clear hh
  have HA12:=hid at0
  have HK12:=hid (HK1.out.trans gk0)
  clear at0 gk0
  have HL12:=hid l0
  clear l0
  go_wp2_with fail
  refine (over1_at HA12.out ⟨6,2,0,⟨#[]⟩,0⟩ _ HL12.out (by show (⟨#[]⟩:ByteArray).size≤1000;decide) (by omega)).mono ?_
  rintro e w13 hh
  obtain ⟨g13,n13,k13,rfl,l0,at0,gk0⟩:=hh.get
  clear hh
  clear HL12
  have HA13:=hid at0
  have HK13:=hid (HK12.out.trans gk0)
  clear at0 gk0
  have HL13:=hid l0
  clear l0
  go_wp2
  go_ret
  exact HL13.out.fin HA13.out HK13.out (by omega) (by omega)
 ·have HV12:=hid ((Below.refl w1.heap.size w1).alloc (Nat.le_refl _) (.cells #[.string ⟨#[48]⟩,.string ⟨#[45,53]⟩,.string ⟨#[49,50]⟩,.string ⟨#[120]⟩,.string ⟨#[57,50,50,51,51,55,50,48,51,54,56,53,52,55,55,53,56,48,56]⟩] 9))
  have at0:=HA1.out.next HV12.out
  have gk0:=HA1.out.gk_next HV12.out
  have HA12:=hid at0
  have HK12:=hid (HK1.out.trans gk0)
  clear at0 gk0
  go_wp2_with fail
  refine (pick_at HA12.out (HR.out.sub (by omega)) 5 (by omega)).mono ?_
  rintro e w13 ⟨x13,rfl,hx13,at0,gk0⟩
  have hy13:x13 < 5:=by omega
  have hz13:(x13:Int) < 5:=by omega
  have hl13:=gk0
  clear hx13
  have HA13:=hid at0
  have HK13:=hid (HK12.out.trans gk0)
  clear at0 gk0
  obtain ⟨y13,c13,b13⟩:∃ y:ByteArray,w13.cell? ⟨w1.heap.size,x13,none⟩=some (.string y)∧y.size≤1000:=by
   rw [lit_cell hl13 (by unfold GenT;decide)]
   have h7:x13=0∨x13=1∨x13=2∨x13=3∨x13=4:=by omega
   rcases h7 with rfl | rfl | rfl | rfl | rfl <;> exact ⟨_,rfl,by decide⟩
  clear hl13
  go_wp2_with fail
  refine (text_at HA13.out y13 b13).mono ?_
  rintro e w14 hh
  obtain ⟨g14,n14,k14,rfl,l0,at0,gk0⟩:=hh.get
  clear hh
  have HA14:=hid at0
  have HK14:=hid (HK13.out.trans gk0)
  clear at0 gk0
  have HL14:=hid l0
  clear l0
  go_wp2_with fail
  refine (call1_at HA14.out ⟨#[105,110,116]⟩ _ HL14.out (by decide) (by omega)).mono ?_
  rintro e w15 hh
  obtain ⟨g15,n15,k15,rfl,l0,at0,gk0⟩:=hh.get
  clear hh
  clear HL14
  have HA15:=hid at0
  have HK15:=hid (HK14.out.trans gk0)
  clear at0 gk0
  have HL15:=hid l0
  clear l0
  go_wp2
  go_ret
  exact HL15.out.fin HA15.out HK15.out (by omega) (by omega)
 ·go_wp2_with fail
  refine (pick_at HA1.out (HR.out.sub (by omega)) 5 (by omega)).mono ?_
  rintro e w12 ⟨x12,rfl,hx12,at0,gk0⟩
  have hy12:x12 < 5:=by omega
  have hz12:(x12:Int) < 5:=by omega
  clear hx12
  have HA12:=hid at0
  have HK12:=hid (HK1.out.trans gk0)
  clear at0 gk0
  go_wp2_with fail
  refine (e_at HE.out HA12.out (HR.out.sub (by omega)) _).mono ?_
  rintro e w13 hh
  obtain ⟨g13,n13,k13,rfl,l0,at0,gk0⟩:=hh.get
  clear hh
  have HA13:=hid at0
  have HK13:=hid (HK12.out.trans gk0)
  clear at0 gk0
  have HL13:=hid l0
  clear l0
  go_wp2_with fail
  refine (e_at HE.out HA13.out (HR.out.sub (by omega)) _).mono ?_
  rintro e w14 hh
  obtain ⟨g14,n14,k14,rfl,l0,at0,gk0⟩:=hh.get
  clear hh
  have HA14:=hid at0
  have HK14:=hid (HK13.out.trans gk0)
  have HL13:=hid (HL13.out.gk gk0)
  clear at0 gk0
  have HL14:=hid l0
  clear l0
  go_wp2_with fail
  refine (bin_at HA14.out _ _ _ HL13.out HL14.out (by omega)).mono ?_
  rintro e w15 hh
  obtain ⟨g15,n15,k15,rfl,l0,at0,gk0⟩:=hh.get
  clear hh
  clear HL13
  clear HL14
  have HA15:=hid at0
  have HK15:=hid (HK14.out.trans gk0)
  clear at0 gk0
  have HL15:=hid l0
  clear l0
  go_wp2
  go_ret
  exact HL15.out.fin HA15.out HK15.out (by omega) (by omega)
 ·go_wp2_with fail
  refine (pick_at HA1.out (HR.out.sub (by omega)) 5 (by omega)).mono ?_
  rintro e w12 ⟨x12,rfl,hx12,at0,gk0⟩
  have hy12:x12 < 5:=by omega
  have hz12:(x12:Int) < 5:=by omega
  clear hx12
  have HA12:=hid at0
  have HK12:=hid (HK1.out.trans gk0)
  clear at0 gk0
  go_wp2_with fail
  refine (e_at HE.out HA12.out (HR.out.sub (by omega)) _).mono ?_
  rintro e w13 hh
  obtain ⟨g13,n13,k13,rfl,l0,at0,gk0⟩:=hh.get
  clear hh
  have HA13:=hid at0
  have HK13:=hid (HK12.out.trans gk0)
  clear at0 gk0
  have HL13:=hid l0
  clear l0
  go_wp2_with fail
  refine (e_at HE.out HA13.out (HR.out.sub (by omega)) _).mono ?_
  rintro e w14 hh
  obtain ⟨g14,n14,k14,rfl,l0,at0,gk0⟩:=hh.get
  clear hh
  have HA14:=hid at0
  have HK14:=hid (HK13.out.trans gk0)
  have HL13:=hid (HL13.out.gk gk0)
  clear at0 gk0
  have HL14:=hid l0
  clear l0
  go_wp2_with fail
  refine (bin_at HA14.out _ _ _ HL13.out HL14.out (by omega)).mono ?_
  rintro e w15 hh
  obtain ⟨g15,n15,k15,rfl,l0,at0,gk0⟩:=hh.get
  clear hh
  clear HL13
  clear HL14
  have HA15:=hid at0
  have HK15:=hid (HK14.out.trans gk0)
  clear at0 gk0
  have HL15:=hid l0
  clear l0
  go_wp2
  go_ret
  exact HL15.out.fin HA15.out HK15.out (by omega) (by omega)
 ·go_wp2_with fail
  refine (pick_at HA1.out (HR.out.sub (by omega)) 5 (by omega)).mono ?_
  rintro e w12 ⟨x12,rfl,hx12,at0,gk0⟩
  have hy12:x12 < 5:=by omega
  have hz12:(x12:Int) < 5:=by omega
  clear hx12
  have HA12:=hid at0
  have HK12:=hid (HK1.out.trans gk0)
  clear at0 gk0
  go_wp2_with fail
  refine (e_at HE.out HA12.out (HR.out.sub (by omega)) _).mono ?_
  rintro e w13 hh
  obtain ⟨g13,n13,k13,rfl,l0,at0,gk0⟩:=hh.get
  clear hh
  have HA13:=hid at0
  have HK13:=hid (HK12.out.trans gk0)
  clear at0 gk0
  have HL13:=hid l0
  clear l0
  go_wp2_with fail
  refine (e_at HE.out HA13.out (HR.out.sub (by omega)) _).mono ?_
  rintro e w14 hh
  obtain ⟨g14,n14,k14,rfl,l0,at0,gk0⟩:=hh.get
  clear hh
  have HA14:=hid at0
  have HK14:=hid (HK13.out.trans gk0)
  have HL13:=hid (HL13.out.gk gk0)
  clear at0 gk0
  have HL14:=hid l0
  clear l0
  go_wp2_with fail
  refine (bin_at HA14.out _ _ _ HL13.out HL14.out (by omega)).mono ?_
  rintro e w15 hh
  obtain ⟨g15,n15,k15,rfl,l0,at0,gk0⟩:=hh.get
  clear hh
  clear HL13
  clear HL14
  have HA15:=hid at0
  have HK15:=hid (HK14.out.trans gk0)
  clear at0 gk0
  have HL15:=hid l0
  clear l0
  go_wp2
  go_ret
  exact HL15.out.fin HA15.out HK15.out (by omega) (by omega)
set_option maxHeartbeats 4000000 in
theorem ofKind1_at {d:Int} {K Ce:Nat} (he:EOk (d - 1) K Ce) (hK:K≤10000) (hd:1≤d) (hd2:d≤10) {s:Gs} {C:Nat} {w w':World} (h:At s C w w') (hr:Room (C+3 * Ce+60) s) :
  Calls Tryz.prog 96 #[.pointer (some ⟨s.G,0,none⟩),.int .i64 1,.int .i64 d] w' (NdEnd s (3 * K+8) (C+3 * Ce+40) w w'):=by
 have HE:=hid he
 have HA0:=hid h
 have HK0:=hid (Gk.refl s.R w')
 have HR:=hid hr
 have hg0:=h.g0
 clear he h hr
 go_enter Tryz.func96,Tryz.ntmps96
 go_wp2_with fail
 refine (pick_at HA0.out (HR.out.sub (by omega)) 7 (by omega)).mono ?_
 rintro e w1 ⟨x1,rfl,hx1,at0,gk0⟩
 have hy1:x1 < 7:=by omega
 have hz1:(x1:Int) < 7:=by omega
 clear hx1
 have HA1:=hid at0
 have HK1:=hid (HK0.out.trans gk0)
 clear at0 gk0
 have h7:x1=0∨x1=1∨x1=2∨x1=3∨x1=4∨x1=5∨x1=6:=by omega
 clear hy1 hz1
 rcases h7 with rfl | rfl | rfl | rfl | rfl | rfl | rfl
 ·go_wp2_with fail
  refine (pick_at HA1.out (HR.out.sub (by omega)) 6 (by omega)).mono ?_
  rintro e w12 ⟨x12,rfl,hx12,at0,gk0⟩
  have hy12:x12 < 6:=by omega
  have hz12:(x12:Int) < 6:=by omega
  clear hx12
  have HA12:=hid at0
  have HK12:=hid (HK1.out.trans gk0)
  clear at0 gk0
  go_wp2_with fail
  refine (e_at HE.out HA12.out (HR.out.sub (by omega)) _).mono ?_
  rintro e w13 hh
  obtain ⟨g13,n13,k13,rfl,l0,at0,gk0⟩:=hh.get
  clear hh
  have HA13:=hid at0
  have HK13:=hid (HK12.out.trans gk0)
  clear at0 gk0
  have HL13:=hid l0
  clear l0
  go_wp2_with fail
  refine (call1_at HA13.out ⟨#[116,101,120,116]⟩ _ HL13.out (by decide) (by omega)).mono ?_
  rintro e w14 hh
  obtain ⟨g14,n14,k14,rfl,l0,at0,gk0⟩:=hh.get
  clear hh
  clear HL13
  have HA14:=hid at0
  have HK14:=hid (HK13.out.trans gk0)
  clear at0 gk0
  have HL14:=hid l0
  clear l0
  go_wp2
  go_ret
  exact HL14.out.fin HA14.out HK14.out (by omega) (by omega)
 ·go_wp2_with fail
  refine (e_at HE.out HA1.out (HR.out.sub (by omega)) _).mono ?_
  rintro e w12 hh
  obtain ⟨g12,n12,k12,rfl,l0,at0,gk0⟩:=hh.get
  clear hh
  have HA12:=hid at0
  have HK12:=hid (HK1.out.trans gk0)
  clear at0 gk0
  have HL12:=hid l0
  clear l0
  go_wp2_with fail
  refine (e_at HE.out HA12.out (HR.out.sub (by omega)) _).mono ?_
  rintro e w13 hh
  obtain ⟨g13,n13,k13,rfl,l0,at0,gk0⟩:=hh.get
  clear hh
  have HA13:=hid at0
  have HK13:=hid (HK12.out.trans gk0)
  have HL12:=hid (HL12.out.gk gk0)
  clear at0 gk0
  have HL13:=hid l0
  clear l0
  go_wp2_with fail
  refine (call2_at HA13.out ⟨#[106,111,105,110]⟩ _ _ HL12.out HL13.out (by decide) (by omega)).mono ?_
  rintro e w14 hh
  obtain ⟨g14,n14,k14,rfl,l0,at0,gk0⟩:=hh.get
  clear hh
  clear HL12
  clear HL13
  have HA14:=hid at0
  have HK14:=hid (HK13.out.trans gk0)
  clear at0 gk0
  have HL14:=hid l0
  clear l0
  go_wp2
  go_ret
  exact HL14.out.fin HA14.out HK14.out (by omega) (by omega)
 ·go_wp2_with fail
  refine (e_at HE.out HA1.out (HR.out.sub (by omega)) _).mono ?_
  rintro e w12 hh
  obtain ⟨g12,n12,k12,rfl,l0,at0,gk0⟩:=hh.get
  clear hh
  have HA12:=hid at0
  have HK12:=hid (HK1.out.trans gk0)
  clear at0 gk0
  have HL12:=hid l0
  clear l0
  go_wp2_with fail
  refine (pick_at HA12.out (HR.out.sub (by omega)) 2 (by omega)).mono ?_
  rintro e w13 ⟨x13,rfl,hx13,at0,gk0⟩
  have hy13:x13 < 2:=by omega
  have hz13:(x13:Int) < 2:=by omega
  clear hx13
  have HA13:=hid at0
  have HK13:=hid (HK12.out.trans gk0)
  have HL12:=hid (HL12.out.gk gk0)
  clear at0 gk0
  go_wp2_with fail
  refine (int_at HA13.out _).mono ?_
  rintro e w14 hh
  obtain ⟨g14,n14,k14,rfl,l0,at0,gk0⟩:=hh.get
  clear hh
  have HA14:=hid at0
  have HK14:=hid (HK13.out.trans gk0)
  have HL12:=hid (HL12.out.gk gk0)
  clear at0 gk0
  have HL14:=hid l0
  clear l0
  go_wp2_with fail
  refine (pick_at HA14.out (HR.out.sub (by omega)) 3 (by omega)).mono ?_
  rintro e w15 ⟨x15,rfl,hx15,at0,gk0⟩
  have hy15:x15 < 3:=by omega
  have hz15:(x15:Int) < 3:=by omega
  clear hx15
  have HA15:=hid at0
  have HK15:=hid (HK14.out.trans gk0)
  have HL12:=hid (HL12.out.gk gk0)
  have HL14:=hid (HL14.out.gk gk0)
  clear at0 gk0
  go_wp2_with fail
  refine (int_at HA15.out _).mono ?_
  rintro e w16 hh
  obtain ⟨g16,n16,k16,rfl,l0,at0,gk0⟩:=hh.get
  clear hh
  have HA16:=hid at0
  have HK16:=hid (HK15.out.trans gk0)
  have HL12:=hid (HL12.out.gk gk0)
  have HL14:=hid (HL14.out.gk gk0)
  clear at0 gk0
  have HL16:=hid l0
  clear l0
  go_wp2_with fail
  refine (call3_at HA16.out ⟨#[99,117,116]⟩ _ _ _ HL12.out HL14.out HL16.out (by decide) (by omega)).mono ?_
  rintro e w17 hh
  obtain ⟨g17,n17,k17,rfl,l0,at0,gk0⟩:=hh.get
  clear hh
  clear HL12
  clear HL14
  clear HL16
  have HA17:=hid at0
  have HK17:=hid (HK16.out.trans gk0)
  clear at0 gk0
  have HL17:=hid l0
  clear l0
  go_wp2
  go_ret
  exact HL17.out.fin HA17.out HK17.out (by omega) (by omega)
 ·go_wp2_with fail
  refine (e_at HE.out HA1.out (HR.out.sub (by omega)) _).mono ?_
  rintro e w12 hh
  obtain ⟨g12,n12,k12,rfl,l0,at0,gk0⟩:=hh.get
  clear hh
  have HA12:=hid at0
  have HK12:=hid (HK1.out.trans gk0)
  clear at0 gk0
  have HL12:=hid l0
  clear l0
  go_wp2_with fail
  refine (pick_at HA12.out (HR.out.sub (by omega)) 2 (by omega)).mono ?_
  rintro e w13 ⟨x13,rfl,hx13,at0,gk0⟩
  have hy13:x13 < 2:=by omega
  have hz13:(x13:Int) < 2:=by omega
  clear hx13
  have HA13:=hid at0
  have HK13:=hid (HK12.out.trans gk0)
  have HL12:=hid (HL12.out.gk gk0)
  clear at0 gk0
  go_wp2_with fail
  refine (int_at HA13.out _).mono ?_
  rintro e w14 hh
  obtain ⟨g14,n14,k14,rfl,l0,at0,gk0⟩:=hh.get
  clear hh
  have HA14:=hid at0
  have HK14:=hid (HK13.out.trans gk0)
  have HL12:=hid (HL12.out.gk gk0)
  clear at0 gk0
  have HL14:=hid l0
  clear l0
  go_wp2_with fail
  refine (over2_at HA14.out ⟨10,0,0,⟨#[]⟩,0⟩ _ _ HL12.out HL14.out (by show (⟨#[]⟩:ByteArray).size≤1000;decide) (by omega)).mono ?_
  rintro e w15 hh
  obtain ⟨g15,n15,k15,rfl,l0,at0,gk0⟩:=hh.get
  clear hh
  clear HL12
  clear HL14
  have HA15:=hid at0
  have HK15:=hid (HK14.out.trans gk0)
  clear at0 gk0
  have HL15:=hid l0
  clear l0
  go_wp2
  go_ret
  exact HL15.out.fin HA15.out HK15.out (by omega) (by omega)
 ·go_wp2_with fail
  refine (e_at HE.out HA1.out (HR.out.sub (by omega)) _).mono ?_
  rintro e w12 hh
  obtain ⟨g12,n12,k12,rfl,l0,at0,gk0⟩:=hh.get
  clear hh
  have HA12:=hid at0
  have HK12:=hid (HK1.out.trans gk0)
  clear at0 gk0
  have HL12:=hid l0
  clear l0
  go_wp2_with fail
  refine (e_at HE.out HA12.out (HR.out.sub (by omega)) _).mono ?_
  rintro e w13 hh
  obtain ⟨g13,n13,k13,rfl,l0,at0,gk0⟩:=hh.get
  clear hh
  have HA13:=hid at0
  have HK13:=hid (HK12.out.trans gk0)
  have HL12:=hid (HL12.out.gk gk0)
  clear at0 gk0
  have HL13:=hid l0
  clear l0
  go_wp2_with fail
  refine (bin_at HA13.out _ _ _ HL12.out HL13.out (by omega)).mono ?_
  rintro e w14 hh
  obtain ⟨g14,n14,k14,rfl,l0,at0,gk0⟩:=hh.get
  clear hh
  clear HL12
  clear HL13
  have HA14:=hid at0
  have HK14:=hid (HK13.out.trans gk0)
  clear at0 gk0
  have HL14:=hid l0
  clear l0
  go_wp2
  go_ret
  exact HL14.out.fin HA14.out HK14.out (by omega) (by omega)
 ·go_wp2_with fail
  refine (e_at HE.out HA1.out (HR.out.sub (by omega)) _).mono ?_
  rintro e w12 hh
  obtain ⟨g12,n12,k12,rfl,l0,at0,gk0⟩:=hh.get
  clear hh
  have HA12:=hid at0
  have HK12:=hid (HK1.out.trans gk0)
  clear at0 gk0
  have HL12:=hid l0
  clear l0
  go_wp2_with fail
  refine (e_at HE.out HA12.out (HR.out.sub (by omega)) _).mono ?_
  rintro e w13 hh
  obtain ⟨g13,n13,k13,rfl,l0,at0,gk0⟩:=hh.get
  clear hh
  have HA13:=hid at0
  have HK13:=hid (HK12.out.trans gk0)
  have HL12:=hid (HL12.out.gk gk0)
  clear at0 gk0
  have HL13:=hid l0
  clear l0
  go_wp2_with fail
  refine (bin_at HA13.out _ _ _ HL12.out HL13.out (by omega)).mono ?_
  rintro e w14 hh
  obtain ⟨g14,n14,k14,rfl,l0,at0,gk0⟩:=hh.get
  clear hh
  clear HL12
  clear HL13
  have HA14:=hid at0
  have HK14:=hid (HK13.out.trans gk0)
  clear at0 gk0
  have HL14:=hid l0
  clear l0
  go_wp2
  go_ret
  exact HL14.out.fin HA14.out HK14.out (by omega) (by omega)
 ·go_wp2_with fail
  refine (e_at HE.out HA1.out (HR.out.sub (by omega)) _).mono ?_
  rintro e w12 hh
  obtain ⟨g12,n12,k12,rfl,l0,at0,gk0⟩:=hh.get
  clear hh
  have HA12:=hid at0
  have HK12:=hid (HK1.out.trans gk0)
  clear at0 gk0
  have HL12:=hid l0
  clear l0
  go_wp2_with fail
  refine (e_at HE.out HA12.out (HR.out.sub (by omega)) _).mono ?_
  rintro e w13 hh
  obtain ⟨g13,n13,k13,rfl,l0,at0,gk0⟩:=hh.get
  clear hh
  have HA13:=hid at0
  have HK13:=hid (HK12.out.trans gk0)
  have HL12:=hid (HL12.out.gk gk0)
  clear at0 gk0
  have HL13:=hid l0
  clear l0
  go_wp2_with fail
  refine (bin_at HA13.out _ _ _ HL12.out HL13.out (by omega)).mono ?_
  rintro e w14 hh
  obtain ⟨g14,n14,k14,rfl,l0,at0,gk0⟩:=hh.get
  clear hh
  clear HL12
  clear HL13
  have HA14:=hid at0
  have HK14:=hid (HK13.out.trans gk0)
  clear at0 gk0
  have HL14:=hid l0
  clear l0
  go_wp2
  go_ret
  exact HL14.out.fin HA14.out HK14.out (by omega) (by omega)
set_option maxHeartbeats 4000000 in
theorem ofKind2_at {d:Int} {K Ce:Nat} (he:EOk (d - 1) K Ce) (hK:K≤10000) (hd:1≤d) (hd2:d≤10) {s:Gs} {C:Nat} {w w':World} (h:At s C w w') (hr:Room (C+3 * Ce+60) s) :
  Calls Tryz.prog 96 #[.pointer (some ⟨s.G,0,none⟩),.int .i64 2,.int .i64 d] w' (NdEnd s (3 * K+8) (C+3 * Ce+40) w w'):=by
 have HE:=hid he
 have HA0:=hid h
 have HK0:=hid (Gk.refl s.R w')
 have HR:=hid hr
 have hg0:=h.g0
 clear he h hr
 go_enter Tryz.func96,Tryz.ntmps96
 go_wp2_with fail
 refine (pick_at HA0.out (HR.out.sub (by omega)) 5 (by omega)).mono ?_
 rintro e w1 ⟨x1,rfl,hx1,at0,gk0⟩
 have hy1:x1 < 5:=by omega
 have hz1:(x1:Int) < 5:=by omega
 clear hx1
 have HA1:=hid at0
 have HK1:=hid (HK0.out.trans gk0)
 clear at0 gk0
 go_wp2_with fail
 refine (pick_at HA1.out (HR.out.sub (by omega)) 6 (by omega)).mono ?_
 rintro e w2 ⟨x2,rfl,hx2,at0,gk0⟩
 have hy2:x2 < 6:=by omega
 have hz2:(x2:Int) < 6:=by omega
 clear hx2
 have HA2:=hid at0
 have HK2:=hid (HK1.out.trans gk0)
 clear at0 gk0
 have h7:x2=0∨x2=1∨x2=2∨x2=3∨x2=4∨x2=5:=by omega
 clear hy2 hz2
 rcases h7 with rfl | rfl | rfl | rfl | rfl | rfl
 ·go_wp2_with fail
  refine (e_at HE.out HA2.out (HR.out.sub (by omega)) _).mono ?_
  rintro e w13 hh
  obtain ⟨g13,n13,k13,rfl,l0,at0,gk0⟩:=hh.get
  clear hh
  have HA13:=hid at0
  have HK13:=hid (HK2.out.trans gk0)
  clear at0 gk0
  have HL13:=hid l0
  clear l0
  go_wp2_with fail
  refine (over1_at HA13.out ⟨6,1,0,⟨#[]⟩,0⟩ _ HL13.out (by show (⟨#[]⟩:ByteArray).size≤1000;decide) (by omega)).mono ?_
  rintro e w14 hh
  obtain ⟨g14,n14,k14,rfl,l0,at0,gk0⟩:=hh.get
  clear hh
  clear HL13
  have HA14:=hid at0
  have HK14:=hid (HK13.out.trans gk0)
  clear at0 gk0
  have HL14:=hid l0
  clear l0
  go_wp2
  go_ret
  exact HL14.out.fin HA14.out HK14.out (by omega) (by omega)
 ·go_wp2_with fail
  refine (pick_at HA2.out (HR.out.sub (by omega)) 2 (by omega)).mono ?_
  rintro e w13 ⟨x13,rfl,hx13,at0,gk0⟩
  have hy13:x13 < 2:=by omega
  have hz13:(x13:Int) < 2:=by omega
  clear hx13
  have HA13:=hid at0
  have HK13:=hid (HK2.out.trans gk0)
  clear at0 gk0
  go_wp2_with fail
  refine (e_at HE.out HA13.out (HR.out.sub (by omega)) _).mono ?_
  rintro e w14 hh
  obtain ⟨g14,n14,k14,rfl,l0,at0,gk0⟩:=hh.get
  clear hh
  have HA14:=hid at0
  have HK14:=hid (HK13.out.trans gk0)
  clear at0 gk0
  have HL14:=hid l0
  clear l0
  go_wp2_with fail
  refine (e_at HE.out HA14.out (HR.out.sub (by omega)) _).mono ?_
  rintro e w15 hh
  obtain ⟨g15,n15,k15,rfl,l0,at0,gk0⟩:=hh.get
  clear hh
  have HA15:=hid at0
  have HK15:=hid (HK14.out.trans gk0)
  have HL14:=hid (HL14.out.gk gk0)
  clear at0 gk0
  have HL15:=hid l0
  clear l0
  go_wp2_with fail
  refine (bin_at HA15.out _ _ _ HL14.out HL15.out (by omega)).mono ?_
  rintro e w16 hh
  obtain ⟨g16,n16,k16,rfl,l0,at0,gk0⟩:=hh.get
  clear hh
  clear HL14
  clear HL15
  have HA16:=hid at0
  have HK16:=hid (HK15.out.trans gk0)
  clear at0 gk0
  have HL16:=hid l0
  clear l0
  go_wp2
  go_ret
  exact HL16.out.fin HA16.out HK16.out (by omega) (by omega)
 ·go_wp2_with fail
  refine (pick_at HA2.out (HR.out.sub (by omega)) 2 (by omega)).mono ?_
  rintro e w13 ⟨x13,rfl,hx13,at0,gk0⟩
  have hy13:x13 < 2:=by omega
  have hz13:(x13:Int) < 2:=by omega
  clear hx13
  have HA13:=hid at0
  have HK13:=hid (HK2.out.trans gk0)
  clear at0 gk0
  go_wp2_with fail
  refine (e_at HE.out HA13.out (HR.out.sub (by omega)) _).mono ?_
  rintro e w14 hh
  obtain ⟨g14,n14,k14,rfl,l0,at0,gk0⟩:=hh.get
  clear hh
  have HA14:=hid at0
  have HK14:=hid (HK13.out.trans gk0)
  clear at0 gk0
  have HL14:=hid l0
  clear l0
  go_wp2_with fail
  refine (e_at HE.out HA14.out (HR.out.sub (by omega)) _).mono ?_
  rintro e w15 hh
  obtain ⟨g15,n15,k15,rfl,l0,at0,gk0⟩:=hh.get
  clear hh
  have HA15:=hid at0
  have HK15:=hid (HK14.out.trans gk0)
  have HL14:=hid (HL14.out.gk gk0)
  clear at0 gk0
  have HL15:=hid l0
  clear l0
  go_wp2_with fail
  refine (bin_at HA15.out _ _ _ HL14.out HL15.out (by omega)).mono ?_
  rintro e w16 hh
  obtain ⟨g16,n16,k16,rfl,l0,at0,gk0⟩:=hh.get
  clear hh
  clear HL14
  clear HL15
  have HA16:=hid at0
  have HK16:=hid (HK15.out.trans gk0)
  clear at0 gk0
  have HL16:=hid l0
  clear l0
  go_wp2
  go_ret
  exact HL16.out.fin HA16.out HK16.out (by omega) (by omega)
 ·have HV13:=hid ((Below.refl w2.heap.size w2).alloc (Nat.le_refl _) (.cells #[.int .i64 1,.int .i64 3,.int .i64 4] 3))
  have at0:=HA2.out.next HV13.out
  have gk0:=HA2.out.gk_next HV13.out
  have HA13:=hid at0
  have HK13:=hid (HK2.out.trans gk0)
  clear at0 gk0
  go_wp2_with fail
  refine (pick_at HA13.out (HR.out.sub (by omega)) 3 (by omega)).mono ?_
  rintro e w14 ⟨x14,rfl,hx14,at0,gk0⟩
  have hy14:x14 < 3:=by omega
  have hz14:(x14:Int) < 3:=by omega
  have hl14:=gk0
  clear hx14
  have HA14:=hid at0
  have HK14:=hid (HK13.out.trans gk0)
  clear at0 gk0
  obtain ⟨y14,c14⟩:∃ y:Int,w14.cell? ⟨w2.heap.size,x14,none⟩=some (.int .i64 y):=by
   rw [lit_cell hl14 (by unfold GenT;decide)]
   have h7:x14=0∨x14=1∨x14=2:=by omega
   rcases h7 with rfl | rfl | rfl <;> exact ⟨_,rfl⟩
  clear hl14
  go_wp2_with fail
  refine (e_at HE.out HA14.out (HR.out.sub (by omega)) _).mono ?_
  rintro e w15 hh
  obtain ⟨g15,n15,k15,rfl,l0,at0,gk0⟩:=hh.get
  clear hh
  have HA15:=hid at0
  have HK15:=hid (HK14.out.trans gk0)
  clear at0 gk0
  have HL15:=hid l0
  clear l0
  go_wp2_with fail
  refine (e_at HE.out HA15.out (HR.out.sub (by omega)) _).mono ?_
  rintro e w16 hh
  obtain ⟨g16,n16,k16,rfl,l0,at0,gk0⟩:=hh.get
  clear hh
  have HA16:=hid at0
  have HK16:=hid (HK15.out.trans gk0)
  have HL15:=hid (HL15.out.gk gk0)
  clear at0 gk0
  have HL16:=hid l0
  clear l0
  go_wp2_with fail
  refine (bin_at HA16.out _ _ _ HL15.out HL16.out (by omega)).mono ?_
  rintro e w17 hh
  obtain ⟨g17,n17,k17,rfl,l0,at0,gk0⟩:=hh.get
  clear hh
  clear HL15
  clear HL16
  have HA17:=hid at0
  have HK17:=hid (HK16.out.trans gk0)
  clear at0 gk0
  have HL17:=hid l0
  clear l0
  go_wp2
  go_ret
  exact HL17.out.fin HA17.out HK17.out (by omega) (by omega)
 ·go_wp2_with fail
  refine (e_at HE.out HA2.out (HR.out.sub (by omega)) _).mono ?_
  rintro e w13 hh
  obtain ⟨g13,n13,k13,rfl,l0,at0,gk0⟩:=hh.get
  clear hh
  have HA13:=hid at0
  have HK13:=hid (HK2.out.trans gk0)
  clear at0 gk0
  have HL13:=hid l0
  clear l0
  go_wp2_with fail
  refine (e_at HE.out HA13.out (HR.out.sub (by omega)) _).mono ?_
  rintro e w14 hh
  obtain ⟨g14,n14,k14,rfl,l0,at0,gk0⟩:=hh.get
  clear hh
  have HA14:=hid at0
  have HK14:=hid (HK13.out.trans gk0)
  have HL13:=hid (HL13.out.gk gk0)
  clear at0 gk0
  have HL14:=hid l0
  clear l0
  go_wp2_with fail
  refine (call2_at HA14.out ⟨#[98,101,103,105,110,115]⟩ _ _ HL13.out HL14.out (by decide) (by omega)).mono ?_
  rintro e w15 hh
  obtain ⟨g15,n15,k15,rfl,l0,at0,gk0⟩:=hh.get
  clear hh
  clear HL13
  clear HL14
  have HA15:=hid at0
  have HK15:=hid (HK14.out.trans gk0)
  clear at0 gk0
  have HL15:=hid l0
  clear l0
  go_wp2
  go_ret
  exact HL15.out.fin HA15.out HK15.out (by omega) (by omega)
 ·go_wp2_with fail
  refine (pick_at HA2.out (HR.out.sub (by omega)) 6 (by omega)).mono ?_
  rintro e w13 ⟨x13,rfl,hx13,at0,gk0⟩
  have hy13:x13 < 6:=by omega
  have hz13:(x13:Int) < 6:=by omega
  clear hx13
  have HA13:=hid at0
  have HK13:=hid (HK2.out.trans gk0)
  clear at0 gk0
  go_wp2_with fail
  refine (e_at HE.out HA13.out (HR.out.sub (by omega)) _).mono ?_
  rintro e w14 hh
  obtain ⟨g14,n14,k14,rfl,l0,at0,gk0⟩:=hh.get
  clear hh
  have HA14:=hid at0
  have HK14:=hid (HK13.out.trans gk0)
  clear at0 gk0
  have HL14:=hid l0
  clear l0
  go_wp2_with fail
  refine (e_at HE.out HA14.out (HR.out.sub (by omega)) _).mono ?_
  rintro e w15 hh
  obtain ⟨g15,n15,k15,rfl,l0,at0,gk0⟩:=hh.get
  clear hh
  have HA15:=hid at0
  have HK15:=hid (HK14.out.trans gk0)
  have HL14:=hid (HL14.out.gk gk0)
  clear at0 gk0
  have HL15:=hid l0
  clear l0
  go_wp2_with fail
  refine (bin_at HA15.out _ _ _ HL14.out HL15.out (by omega)).mono ?_
  rintro e w16 hh
  obtain ⟨g16,n16,k16,rfl,l0,at0,gk0⟩:=hh.get
  clear hh
  clear HL14
  clear HL15
  have HA16:=hid at0
  have HK16:=hid (HK15.out.trans gk0)
  clear at0 gk0
  have HL16:=hid l0
  clear l0
  go_wp2
  go_ret
  exact HL16.out.fin HA16.out HK16.out (by omega) (by omega)
set_option maxHeartbeats 4000000 in
theorem ofKind4_at {d:Int} {K Ce:Nat} (he:EOk (d - 1) K Ce) (hK:K≤10000) (hd:1≤d) (hd2:d≤10) (hrec:∀ (s:Gs) (C:Nat) (w w':World),At s C w w'→Room (C+3 * Ce+50) s→Calls Tryz.prog 111 #[.pointer (some ⟨s.G,0,none⟩),.int .i64 d] w' (NdEnd s (3 * K+8) (C+3 * Ce+20) w w')) {s:Gs} {C:Nat} {w w':World} (h:At s C w w') (hr:Room (C+3 * Ce+60) s) :
  Calls Tryz.prog 96 #[.pointer (some ⟨s.G,0,none⟩),.int .i64 4,.int .i64 d] w' (NdEnd s (3 * K+8) (C+3 * Ce+40) w w'):=by
 have HE:=hid he
 have HA0:=hid h
 have HK0:=hid (Gk.refl s.R w')
 have HR:=hid hr
 have HREC:=hid hrec
 clear hrec
 have hg0:=h.g0
 clear he h hr
 go_enter Tryz.func96,Tryz.ntmps96
 go_wp2_with fail
 refine (pick_at HA0.out (HR.out.sub (by omega)) 6 (by omega)).mono ?_
 rintro e w1 ⟨x1,rfl,hx1,at0,gk0⟩
 have hy1:x1 < 6:=by omega
 have hz1:(x1:Int) < 6:=by omega
 clear hx1
 have HA1:=hid at0
 have HK1:=hid (HK0.out.trans gk0)
 clear at0 gk0
 have h7:x1=0∨x1=1∨x1=2∨x1=3∨x1=4∨x1=5:=by omega
 clear hy1 hz1
 rcases h7 with rfl | rfl | rfl | rfl | rfl | rfl
 ·go_wp2_with fail
  refine (e_at HE.out HA1.out (HR.out.sub (by omega)) _).mono ?_
  rintro e w12 hh
  obtain ⟨g12,n12,k12,rfl,l0,at0,gk0⟩:=hh.get
  clear hh
  have HA12:=hid at0
  have HK12:=hid (HK1.out.trans gk0)
  clear at0 gk0
  have HL12:=hid l0
  clear l0
  go_wp2_with fail
  refine (e_at HE.out HA12.out (HR.out.sub (by omega)) _).mono ?_
  rintro e w13 hh
  obtain ⟨g13,n13,k13,rfl,l0,at0,gk0⟩:=hh.get
  clear hh
  have HA13:=hid at0
  have HK13:=hid (HK12.out.trans gk0)
  have HL12:=hid (HL12.out.gk gk0)
  clear at0 gk0
  have HL13:=hid l0
  clear l0
  go_wp2_with fail
  refine (bin_at HA13.out _ _ _ HL12.out HL13.out (by omega)).mono ?_
  rintro e w14 hh
  obtain ⟨g14,n14,k14,rfl,l0,at0,gk0⟩:=hh.get
  clear hh
  clear HL12
  clear HL13
  have HA14:=hid at0
  have HK14:=hid (HK13.out.trans gk0)
  clear at0 gk0
  have HL14:=hid l0
  clear l0
  go_wp2
  go_ret
  exact HL14.out.fin HA14.out HK14.out (by omega) (by omega)
 ·go_wp2_with fail
  refine (e_at HE.out HA1.out (HR.out.sub (by omega)) _).mono ?_
  rintro e w12 hh
  obtain ⟨g12,n12,k12,rfl,l0,at0,gk0⟩:=hh.get
  clear hh
  have HA12:=hid at0
  have HK12:=hid (HK1.out.trans gk0)
  clear at0 gk0
  have HL12:=hid l0
  clear l0
  go_wp2_with fail
  refine (text_at HA12.out ⟨#[97]⟩ (by decide)).mono ?_
  rintro e w13 hh
  obtain ⟨g13,n13,k13,rfl,l0,at0,gk0⟩:=hh.get
  clear hh
  have HA13:=hid at0
  have HK13:=hid (HK12.out.trans gk0)
  have HL12:=hid (HL12.out.gk gk0)
  clear at0 gk0
  have HL13:=hid l0
  clear l0
  go_wp2_with fail
  refine (call2_at HA13.out ⟨#[119,105,116,104,111,117,116]⟩ _ _ HL12.out HL13.out (by decide) (by omega)).mono ?_
  rintro e w14 hh
  obtain ⟨g14,n14,k14,rfl,l0,at0,gk0⟩:=hh.get
  clear hh
  clear HL12
  clear HL13
  have HA14:=hid at0
  have HK14:=hid (HK13.out.trans gk0)
  clear at0 gk0
  have HL14:=hid l0
  clear l0
  go_wp2
  go_ret
  exact HL14.out.fin HA14.out HK14.out (by omega) (by omega)
 ·go_wp2_with fail
  refine (fresh_at HA1.out (HR.out.sub (by omega))).mono ?_
  rintro e w12 ⟨t12,rfl,ht12,at0,gk0⟩
  have HA12:=hid at0
  have HK12:=hid (HK1.out.trans gk0)
  clear at0 gk0
  go_wp2_with fail
  refine (name_at HA12.out t12 (by omega)).mono ?_
  rintro e w13 hh
  obtain ⟨g13,n13,k13,rfl,l0,at0,gk0⟩:=hh.get
  clear hh
  have HA13:=hid at0
  have HK13:=hid (HK12.out.trans gk0)
  clear at0 gk0
  have HL13:=hid l0
  clear l0
  go_wp2_with fail
  refine (e_at HE.out HA13.out (HR.out.sub (by omega)) _).mono ?_
  rintro e w14 hh
  obtain ⟨g14,n14,k14,rfl,l0,at0,gk0⟩:=hh.get
  clear hh
  have HA14:=hid at0
  have HK14:=hid (HK13.out.trans gk0)
  have HL13:=hid (HL13.out.gk gk0)
  clear at0 gk0
  have HL14:=hid l0
  clear l0
  go_wp2_with fail
  refine (over2_at HA14.out ⟨8,0,0,⟨#[]⟩,0⟩ _ _ HL13.out HL14.out (by show (⟨#[]⟩:ByteArray).size≤1000;decide) (by omega)).mono ?_
  rintro e w15 hh
  obtain ⟨g15,n15,k15,rfl,l0,at0,gk0⟩:=hh.get
  clear hh
  clear HL13
  clear HL14
  have HA15:=hid at0
  have HK15:=hid (HK14.out.trans gk0)
  clear at0 gk0
  have HL15:=hid l0
  clear l0
  go_wp2_with fail
  refine (e_at HE.out HA15.out (HR.out.sub (by omega)) _).mono ?_
  rintro e w16 hh
  obtain ⟨g16,n16,k16,rfl,l0,at0,gk0⟩:=hh.get
  clear hh
  have HA16:=hid at0
  have HK16:=hid (HK15.out.trans gk0)
  have HL15:=hid (HL15.out.gk gk0)
  clear at0 gk0
  have HL16:=hid l0
  clear l0
  go_wp2_with fail
  refine (call1_at HA16.out ⟨#[117,110,105,113,117,101]⟩ _ HL16.out (by decide) (by omega)).mono ?_
  rintro e w17 hh
  obtain ⟨g17,n17,k17,rfl,l0,at0,gk0⟩:=hh.get
  clear hh
  clear HL16
  have HA17:=hid at0
  have HK17:=hid (HK16.out.trans gk0)
  have HL15:=hid (HL15.out.gk gk0)
  clear at0 gk0
  have HL17:=hid l0
  clear l0
  go_wp2_with fail
  refine (over2_at HA17.out ⟨16,0,0,t12,0⟩ _ _ HL17.out HL15.out (by show t12.size≤1000;omega) (by omega)).mono ?_
  rintro e w18 hh
  obtain ⟨g18,n18,k18,rfl,l0,at0,gk0⟩:=hh.get
  clear hh
  clear HL17
  clear HL15
  have HA18:=hid at0
  have HK18:=hid (HK17.out.trans gk0)
  clear at0 gk0
  have HL18:=hid l0
  clear l0
  go_wp2_with fail
  refine (call1_at HA18.out ⟨#[114,101,99,111,114,100]⟩ _ HL18.out (by decide) (by omega)).mono ?_
  rintro e w19 hh
  obtain ⟨g19,n19,k19,rfl,l0,at0,gk0⟩:=hh.get
  clear hh
  clear HL18
  have HA19:=hid at0
  have HK19:=hid (HK18.out.trans gk0)
  clear at0 gk0
  have HL19:=hid l0
  clear l0
  go_wp2
  go_ret
  exact HL19.out.fin HA19.out HK19.out (by omega) (by omega)
 ·go_wp2_with fail
  refine (HREC.out s _ w _ HA1.out (HR.out.sub (by omega))).mono ?_
  rintro e w12 hh
  obtain ⟨g12,n12,k12,rfl,l0,at0,gk0⟩:=hh.get
  clear hh
  have HA12:=hid at0
  have HK12:=hid (HK1.out.trans gk0)
  clear at0 gk0
  have HL12:=hid l0
  clear l0
  go_wp2
  go_ret
  exact HL12.out.fin HA12.out HK12.out (by omega) (by omega)
 ·go_wp2_with fail
  refine (HREC.out s _ w _ HA1.out (HR.out.sub (by omega))).mono ?_
  rintro e w12 hh
  obtain ⟨g12,n12,k12,rfl,l0,at0,gk0⟩:=hh.get
  clear hh
  have HA12:=hid at0
  have HK12:=hid (HK1.out.trans gk0)
  clear at0 gk0
  have HL12:=hid l0
  clear l0
  go_wp2
  go_ret
  exact HL12.out.fin HA12.out HK12.out (by omega) (by omega)
 ·go_wp2_with fail
  refine (HREC.out s _ w _ HA1.out (HR.out.sub (by omega))).mono ?_
  rintro e w12 hh
  obtain ⟨g12,n12,k12,rfl,l0,at0,gk0⟩:=hh.get
  clear hh
  have HA12:=hid at0
  have HK12:=hid (HK1.out.trans gk0)
  clear at0 gk0
  have HL12:=hid l0
  clear l0
  go_wp2
  go_ret
  exact HL12.out.fin HA12.out HK12.out (by omega) (by omega)
end Go.Proofs.YtabbahpalemlhaaGreatDoor
