import Derived.Test.YtabbahpalemlhaaGreatDoorJ11
namespace Go.Proofs.YtabbahpalemlhaaGreatDoor
open Go.RowKit
set_option maxRecDepth 20000
set_option maxHeartbeats 4000000 in
theorem ofKind3_at {d:Int} {K Ce:Nat} (he:EOk (d - 1) K Ce) (hK:K≤10000) (hd:1≤d) (hd2:d≤10) (heach:∀ (s:Gs) (C:Nat) (w w':World),At s C w w'→Room (C+3 * Ce+50) s→∀ kind:Int,Calls Tryz.prog 110 #[.pointer (some ⟨s.G,0,none⟩),.int .i64 kind,.int .i64 d] w' (NdEnd s (3 * K+8) (C+3 * Ce+20) w w')) {s:Gs} {C:Nat} {w w':World} (h:At s C w w') (hr:Room (C+3 * Ce+60) s) :
  Calls Tryz.prog 96 #[.pointer (some ⟨s.G,0,none⟩),.int .i64 3,.int .i64 d] w' (NdEnd s (3 * K+8) (C+3 * Ce+40) w w'):=by
 have HE:=hid he
 have HA0:=hid h
 have HK0:=hid (Gk.refl s.R w')
 have HR:=hid hr
 have HEACH:=hid heach
 clear heach
 have hg0:=h.g0
 clear he h hr
 go_enter Tryz.func96,Tryz.ntmps96
 go_wp2_with fail
 refine (pick_at HA0.out (HR.out.sub (by omega)) 9 (by omega)).mono ?_
 rintro e w1 ⟨x1,rfl,hx1,at0,gk0⟩
 have hy1:x1 < 9:=by omega
 have hz1:(x1:Int) < 9:=by omega
 clear hx1
 have HA1:=hid at0
 have HK1:=hid (HK0.out.trans gk0)
 clear at0 gk0
 have h7:x1=0∨x1=1∨x1=2∨x1=3∨x1=4∨x1=5∨x1=6∨x1=7∨x1=8:=by omega
 clear hy1 hz1
 rcases h7 with rfl | rfl | rfl | rfl | rfl | rfl | rfl | rfl | rfl
 ·have HV11:=hid ((Below.refl w1.heap.size w1).drew)
  have HA11:=hid (HA1.out.next HV11.out)
  have HK11:=hid (HK1.out.trans (HA1.out.gk_next HV11.out))
  have HV12:=hid ((Below.refl w1.heap.size w1).drew.alloc (Nat.le_refl _) (.cells #[.string ⟨#[115,111,114,116,101,100]⟩,.string ⟨#[117,110,105,113,117,101]⟩] 9))
  have HA12:=hid (HA1.out.next HV12.out)
  have HK12:=hid (HK1.out.trans (HA1.out.gk_next HV12.out))
  have hwd:IntKind.i64.wrap (d - 1)=d - 1:=by rw [IntKind.wrap_i64];omega
  go_wp2_with fail
  go_region_law (first
   | (have hgate:=HL14a.out;clear hgate;refine step_enter rfl (f:=108) (vals:=#[.string y13,.slice (some ⟨w14.heap.size,0,none⟩) 1 1]) (by kernel_rfl) (call1_at HA14.out y13 _ HL14a.out b13 (by omega)) ?_;intro e w15 hh;have hq:=hh.get;obtain ⟨g15,n15,k15,rfl,l0,at0,gk0⟩:=hq;refine ⟨_,rfl,?_⟩;have HA15:=hid at0;have HL15:=hid l0;have HK15:=hid (HK14.out.trans gk0);clear hh l0 at0 gk0)
   | (have hgate:=HL14b.out;clear hgate;refine step_enter rfl (f:=108) (vals:=#[.string y13,.slice (some ⟨w14.heap.size+1,0,none⟩) 1 1]) (by kernel_rfl) (call1_in (g:=w14.heap.size+1) (HA14.out.next (((Below.refl _ _).alloc (Nat.le_refl _) _).trans (((Below.refl _ _).alloc (Nat.le_refl _) _).mono (by simp)))) y13 _ (by have h:=heap_alloc_new (w14.alloc (.cells #[.string ⟨#[115,111,114,116,101,100]⟩,.string ⟨#[117,110,105,113,117,101]⟩] 9)) (.cells #[.slice (some ⟨g14,0,none⟩) n14 k14] 48);simpa using h) (HL14b.out.gk (HA14.out.gk_next (((Below.refl _ _).alloc (Nat.le_refl _) _).trans (((Below.refl _ _).alloc (Nat.le_refl _) _).mono (by simp))))) b13 (by omega)) ?_;intro e w15 hh;have hq:=hh.get;obtain ⟨g15,n15,k15,rfl,l0,at0,gk0⟩:=hq;refine ⟨_,rfl,?_⟩;have HA15:=hid at0;have HL15:=hid l0;have HK15:=hid ((HK14.out.trans (HA14.out.gk_next (((Below.refl _ _).alloc (Nat.le_refl _) _).trans (((Below.refl _ _).alloc (Nat.le_refl _) _).mono (by simp))))).trans gk0);clear hh l0 at0 gk0)
   | (have hgate:=HL14b.out;clear hgate;refine step_enter rfl (f:=108) (vals:=#[.string y13,.slice (some ⟨w14.heap.size,0,none⟩) 1 1]) (by kernel_rfl) (call1_in (g:=w14.heap.size) (HA14.out.next (((Below.refl _ _).alloc (Nat.le_refl _) _).trans (((Below.refl _ _).alloc (Nat.le_refl _) _).mono (by simp)))) y13 _ (by have h:=heap_alloc_new w14 (.cells #[.slice (some ⟨g14,0,none⟩) n14 k14] 48);exact (Below.heap_alloc _ _ _ (by simp)).trans h) (HL14b.out.gk (HA14.out.gk_next (((Below.refl _ _).alloc (Nat.le_refl _) _).trans (((Below.refl _ _).alloc (Nat.le_refl _) _).mono (by simp))))) b13 (by omega)) ?_;intro e w15 hh;have hq:=hh.get;obtain ⟨g15,n15,k15,rfl,l0,at0,gk0⟩:=hq;refine ⟨_,rfl,?_⟩;have HA15:=hid at0;have HL15:=hid l0;have HK15:=hid ((HK14.out.trans (HA14.out.gk_next (((Below.refl _ _).alloc (Nat.le_refl _) _).trans (((Below.refl _ _).alloc (Nat.le_refl _) _).mono (by simp))))).trans gk0);clear hh l0 at0 gk0)
   | (have hgate:=HA13.out;clear hgate;refine step_enter rfl (f:=83) (vals:=#[.pointer (some ⟨s.G,0,none⟩),.int .i64 3,.int .i64 (d - 1)]) (by kernel_rfl) (e_at HE.out HA13.out (HR.out.sub (by omega)) 3) ?_;intro e w14 hh;have hq:=hh.get;obtain ⟨g14,n14,k14,rfl,l0,at0,gk0⟩:=hq;refine ⟨_,rfl,?_⟩;have c14:w14.cell? ⟨w1.heap.size,x13,none⟩=some (.string y13):=(HC13.out _ gk0);have c14b:(w14.alloc (.cells #[.slice (some ⟨g14,0,none⟩) n14 k14] 48)).cell? ⟨w1.heap.size,x13,none⟩=some (.string y13):=(HC13.out _ (gk0.trans (at0.gk_next ((Below.refl _ _).alloc (Nat.le_refl _) _))));have HA14:=hid at0;have HK14:=hid (HK13.out.trans gk0);have HL14a:=hid l0;clear hh l0 at0 gk0)
   | (have hgate:=HB13.out;clear hgate;refine step_enter rfl (f:=83) (vals:=#[.pointer (some ⟨s.G,0,none⟩),.int .i64 3,.int .i64 (d - 1)]) (by kernel_rfl) (e_at HE.out (HB13.out.next ((Below.refl _ _).alloc (Nat.le_refl _) _:Below w13.heap.size w13 (w13.alloc (.cells #[.string ⟨#[115,111,114,116,101,100]⟩,.string ⟨#[117,110,105,113,117,101]⟩] 9)))) (HR.out.sub (by omega)) 3) ?_;intro e w14 hh;have hq:=hh.get;obtain ⟨g14,n14,k14,rfl,l0,at0,gk0⟩:=hq;refine ⟨_,rfl,?_⟩;have hq2:=lit_two (W:=w13) gk0 (by unfold GenT;decide) hx2;have c14:w14.cell? ⟨w13.heap.size,x13,none⟩=some (.string y13):=(HY13.out _ _ hq2.1);have c14b:(w14.alloc (.cells #[.slice (some ⟨g14,0,none⟩) n14 k14] 48)).cell? ⟨w13.heap.size,x13,none⟩=some (.string y13):=(HY13.out _ _ (hq2.2 _ (at0.gk_next ((Below.refl _ _).alloc (Nat.le_refl _) _))));have HA14:=hid at0;have HK14:=hid (HK13.out.trans ((HB13.out.gk_next ((Below.refl _ _).alloc (Nat.le_refl _) _:Below w13.heap.size w13 (w13.alloc (.cells #[.string ⟨#[115,111,114,116,101,100]⟩,.string ⟨#[117,110,105,113,117,101]⟩] 9)))).trans gk0));have HL14a:=hid l0;clear hh l0 at0 gk0 hq2)
   | (have hgate:=HB13.out;clear hgate;refine step_enter rfl (f:=83) (vals:=#[.pointer (some ⟨s.G,0,none⟩),.int .i64 3,.int .i64 (d - 1)]) (by kernel_rfl) (e_at HE.out HB13.out (HR.out.sub (by omega)) 3) ?_;intro e w14 hh;have hq:=hh.get;obtain ⟨g14,n14,k14,rfl,l0,at0,gk0⟩:=hq;refine ⟨_,rfl,?_⟩;have c14:(w14.alloc (.cells #[.string ⟨#[115,111,114,116,101,100]⟩,.string ⟨#[117,110,105,113,117,101]⟩] 9)).cell? ⟨w14.heap.size,x13,none⟩=some (.string y13):=(HY13.out _ _ (lit_new w14 hx2));have c14b:((w14.alloc (.cells #[.string ⟨#[115,111,114,116,101,100]⟩,.string ⟨#[117,110,105,113,117,101]⟩] 9)).alloc (.cells #[.slice (some ⟨g14,0,none⟩) n14 k14] 48)).cell? ⟨w14.heap.size,x13,none⟩=some (.string y13):=(by rw [(((Below.refl _ _).alloc (Nat.le_refl _) _):Below (w14.alloc (.cells #[.string ⟨#[115,111,114,116,101,100]⟩,.string ⟨#[117,110,105,113,117,101]⟩] 9)).heap.size _ _).cell (by simp)];exact c14);have c14c:((w14.alloc (.cells #[.slice (some ⟨g14,0,none⟩) n14 k14] 48)).alloc (.cells #[.string ⟨#[115,111,114,116,101,100]⟩,.string ⟨#[117,110,105,113,117,101]⟩] 9)).cell? ⟨w14.heap.size+1,x13,none⟩=some (.string y13):=(by have h:=HY13.out _ _ (lit_new (t:=9) (w14.alloc (.cells #[.slice (some ⟨g14,0,none⟩) n14 k14] 48)) hx2);simpa using h);have HA14:=hid at0;have HK14:=hid (HK13.out.trans gk0);have HL14b:=hid l0;clear hh l0 at0 gk0)
   | (refine step_enter rfl (f:=8) (vals:=#[.pointer (some ⟨s.R,0,none⟩),.int .i64 2]) (by kernel_rfl) (pick_at HA12.out (HR.out.sub (by omega)) 2 (by omega)) ?_;intro e w13 hh;obtain ⟨x13,rfl,hx13,at0,gk0⟩:=hh;refine ⟨_,rfl,?_⟩;have hx2:x13 < 2:=(by omega);have hq:=lit_two (W:=w1.drew) gk0 (by unfold GenT;decide) hx2;obtain ⟨y13,b13,hy13⟩:=two_of (a:=⟨#[115,111,114,116,101,100]⟩) (b:=⟨#[117,110,105,113,117,101]⟩) hx2 (by decide) (by decide);have c13:w13.cell? ⟨w1.heap.size,x13,none⟩=some (.string y13):=(hy13 _ _ hq.1);have HC13:Hid (∀ w6,Gk s.R w13 w6→w6.cell? ⟨w1.heap.size,x13,none⟩=some (.string y13)):=(fun w6 h6=>hy13 _ _ (hq.2 w6 h6));have hz13:(x13:Int) < 2:=(by omega);have HA13:=hid at0;have HK13:=hid (HK12.out.trans gk0);clear hx13 at0 gk0 hq hy13)
   | (refine step_enter rfl (f:=8) (vals:=#[.pointer (some ⟨s.R,0,none⟩),.int .i64 2]) (by kernel_rfl) (pick_at HA11.out (HR.out.sub (by omega)) 2 (by omega)) ?_;intro e w13 hh;obtain ⟨x13,rfl,hx13,at0,gk0⟩:=hh;refine ⟨_,rfl,?_⟩;have hx2:x13 < 2:=(by omega);obtain ⟨y13,b13,hy13⟩:=two_of (a:=⟨#[115,111,114,116,101,100]⟩) (b:=⟨#[117,110,105,113,117,101]⟩) hx2 (by decide) (by decide);have HY13:=hid hy13;have c13:(w13.alloc (.cells #[.string ⟨#[115,111,114,116,101,100]⟩,.string ⟨#[117,110,105,113,117,101]⟩] 9)).cell? ⟨w13.heap.size,x13,none⟩=some (.string y13):=(hy13 _ _ (lit_new w13 hx2));have hz13:(x13:Int) < 2:=(by omega);have HB13:=hid at0;have HK13:=hid (HK11.out.trans gk0);clear hx13 at0 gk0 hy13))
  all_goals
   go_wp2
   go_ret
   exact HL15.out.fin HA15.out HK15.out (by omega) (by omega)
 ·go_wp2_with fail
  refine (e_at HE.out HA1.out (HR.out.sub (by omega)) _).mono ?_
  rintro e w12 hh
  obtain ⟨g12,n12,k12,rfl,l0,at0,gk0⟩:=hh.get
  clear hh
  have HA12:=hid at0
  have HK12:=hid (HK1.out.trans gk0)
  clear at0 gk0
  have HL12:=hid l0
  clear l0
  have HV13:=hid ((Below.refl w12.heap.size w12).alloc (Nat.le_refl _) (.cells #[.string ⟨#[44]⟩,.string ⟨#[46]⟩,.string ⟨#[]⟩] 9))
  have at0:=HA12.out.next HV13.out
  have gk0:=HA12.out.gk_next HV13.out
  have HA13:=hid at0
  have HK13:=hid (HK12.out.trans gk0)
  have HL12:=hid (HL12.out.gk gk0)
  clear at0 gk0
  go_wp2_with fail
  refine (pick_at HA13.out (HR.out.sub (by omega)) 3 (by omega)).mono ?_
  rintro e w14 ⟨x14,rfl,hx14,at0,gk0⟩
  have hy14:x14 < 3:=by omega
  have hz14:(x14:Int) < 3:=by omega
  have hl14:=gk0
  clear hx14
  have HA14:=hid at0
  have HK14:=hid (HK13.out.trans gk0)
  have HL12:=hid (HL12.out.gk gk0)
  clear at0 gk0
  obtain ⟨y14,c14,b14⟩:∃ y:ByteArray,w14.cell? ⟨w12.heap.size,x14,none⟩=some (.string y)∧y.size≤1000:=by
   rw [lit_cell hl14 (by unfold GenT;decide)]
   have h7:x14=0∨x14=1∨x14=2:=by omega
   rcases h7 with rfl | rfl | rfl <;> exact ⟨_,rfl,by decide⟩
  clear hl14
  go_wp2_with fail
  refine (text_at HA14.out y14 b14).mono ?_
  rintro e w15 hh
  obtain ⟨g15,n15,k15,rfl,l0,at0,gk0⟩:=hh.get
  clear hh
  have HA15:=hid at0
  have HK15:=hid (HK14.out.trans gk0)
  have HL12:=hid (HL12.out.gk gk0)
  clear at0 gk0
  have HL15:=hid l0
  clear l0
  go_wp2_with fail
  refine (call2_at HA15.out ⟨#[115,112,108,105,116]⟩ _ _ HL12.out HL15.out (by decide) (by omega)).mono ?_
  rintro e w16 hh
  obtain ⟨g16,n16,k16,rfl,l0,at0,gk0⟩:=hh.get
  clear hh
  clear HL12
  clear HL15
  have HA16:=hid at0
  have HK16:=hid (HK15.out.trans gk0)
  clear at0 gk0
  have HL16:=hid l0
  clear l0
  go_wp2
  go_ret
  exact HL16.out.fin HA16.out HK16.out (by omega) (by omega)
 ·have HV12:=hid ((Below.refl w1.heap.size w1).alloc (Nat.le_refl _) (.cells #[.string ⟨#[]⟩,.string ⟨#[97]⟩,.string ⟨#[120]⟩,.string ⟨#[108,105,98,47]⟩] 9))
  have at0:=HA1.out.next HV12.out
  have gk0:=HA1.out.gk_next HV12.out
  have HA12:=hid at0
  have HK12:=hid (HK1.out.trans gk0)
  clear at0 gk0
  go_wp2_with fail
  refine (pick_at HA12.out (HR.out.sub (by omega)) 4 (by omega)).mono ?_
  rintro e w13 ⟨x13,rfl,hx13,at0,gk0⟩
  have hy13:x13 < 4:=by omega
  have hz13:(x13:Int) < 4:=by omega
  have hl13:=gk0
  clear hx13
  have HA13:=hid at0
  have HK13:=hid (HK12.out.trans gk0)
  clear at0 gk0
  obtain ⟨y13,c13,b13⟩:∃ y:ByteArray,w13.cell? ⟨w1.heap.size,x13,none⟩=some (.string y)∧y.size≤1000:=by
   rw [lit_cell hl13 (by unfold GenT;decide)]
   have h7:x13=0∨x13=1∨x13=2∨x13=3:=by omega
   rcases h7 with rfl | rfl | rfl | rfl <;> exact ⟨_,rfl,by decide⟩
  clear hl13
  go_wp2_with fail
  refine (text_at HA13.out y13 b13).mono ?_
  rintro e w14 hh
  obtain ⟨g14,n14,k14,rfl,l0,at0,gk0⟩:=hh.get
  clear hh
  have HA14:=hid at0
  have HK14:=hid (HK13.out.trans gk0)
  clear at0 gk0
  have HL14:=hid l0
  clear l0
  go_wp2_with fail
  refine (call1_at HA14.out ⟨#[102,105,108,101,115]⟩ _ HL14.out (by decide) (by omega)).mono ?_
  rintro e w15 hh
  obtain ⟨g15,n15,k15,rfl,l0,at0,gk0⟩:=hh.get
  clear hh
  clear HL14
  have HA15:=hid at0
  have HK15:=hid (HK14.out.trans gk0)
  clear at0 gk0
  have HL15:=hid l0
  clear l0
  go_wp2
  go_ret
  exact HL15.out.fin HA15.out HK15.out (by omega) (by omega)
 ·go_wp2_with fail
  refine (e_at HE.out HA1.out (HR.out.sub (by omega)) _).mono ?_
  rintro e w12 hh
  obtain ⟨g12,n12,k12,rfl,l0,at0,gk0⟩:=hh.get
  clear hh
  have HA12:=hid at0
  have HK12:=hid (HK1.out.trans gk0)
  clear at0 gk0
  have HL12:=hid l0
  clear l0
  go_wp2_with fail
  refine (call1_at HA12.out ⟨#[107,101,121,115]⟩ _ HL12.out (by decide) (by omega)).mono ?_
  rintro e w13 hh
  obtain ⟨g13,n13,k13,rfl,l0,at0,gk0⟩:=hh.get
  clear hh
  clear HL12
  have HA13:=hid at0
  have HK13:=hid (HK12.out.trans gk0)
  clear at0 gk0
  have HL13:=hid l0
  clear l0
  go_wp2
  go_ret
  exact HL13.out.fin HA13.out HK13.out (by omega) (by omega)
 ·go_wp2_with fail
  refine (e_at HE.out HA1.out (HR.out.sub (by omega)) _).mono ?_
  rintro e w12 hh
  obtain ⟨g12,n12,k12,rfl,l0,at0,gk0⟩:=hh.get
  clear hh
  have HA12:=hid at0
  have HK12:=hid (HK1.out.trans gk0)
  clear at0 gk0
  have HL12:=hid l0
  clear l0
  go_wp2_with fail
  refine (e_at HE.out HA12.out (HR.out.sub (by omega)) _).mono ?_
  rintro e w13 hh
  obtain ⟨g13,n13,k13,rfl,l0,at0,gk0⟩:=hh.get
  clear hh
  have HA13:=hid at0
  have HK13:=hid (HK12.out.trans gk0)
  have HL12:=hid (HL12.out.gk gk0)
  clear at0 gk0
  have HL13:=hid l0
  clear l0
  go_wp2_with fail
  refine (bin_at HA13.out _ _ _ HL12.out HL13.out (by omega)).mono ?_
  rintro e w14 hh
  obtain ⟨g14,n14,k14,rfl,l0,at0,gk0⟩:=hh.get
  clear hh
  clear HL12
  clear HL13
  have HA14:=hid at0
  have HK14:=hid (HK13.out.trans gk0)
  clear at0 gk0
  have HL14:=hid l0
  clear l0
  go_wp2
  go_ret
  exact HL14.out.fin HA14.out HK14.out (by omega) (by omega)
 ·go_wp2_with fail
  refine (HEACH.out s _ w _ HA1.out (HR.out.sub (by omega)) 1).mono ?_
  rintro e w12 hh
  obtain ⟨g12,n12,k12,rfl,l0,at0,gk0⟩:=hh.get
  clear hh
  have HA12:=hid at0
  have HK12:=hid (HK1.out.trans gk0)
  clear at0 gk0
  have HL12:=hid l0
  clear l0
  go_wp2
  go_ret
  exact HL12.out.fin HA12.out HK12.out (by omega) (by omega)
 ·go_wp2_with fail
  refine (HEACH.out s _ w _ HA1.out (HR.out.sub (by omega)) 1).mono ?_
  rintro e w12 hh
  obtain ⟨g12,n12,k12,rfl,l0,at0,gk0⟩:=hh.get
  clear hh
  have HA12:=hid at0
  have HK12:=hid (HK1.out.trans gk0)
  clear at0 gk0
  have HL12:=hid l0
  clear l0
  go_wp2
  go_ret
  exact HL12.out.fin HA12.out HK12.out (by omega) (by omega)
 ·go_wp2_with fail
  refine (e_at HE.out HA1.out (HR.out.sub (by omega)) _).mono ?_
  rintro e w12 hh
  obtain ⟨g12,n12,k12,rfl,l0,at0,gk0⟩:=hh.get
  clear hh
  have HA12:=hid at0
  have HK12:=hid (HK1.out.trans gk0)
  clear at0 gk0
  have HL12:=hid l0
  clear l0
  go_wp2_with fail
  refine (e_at HE.out HA12.out (HR.out.sub (by omega)) _).mono ?_
  rintro e w13 hh
  obtain ⟨g13,n13,k13,rfl,l0,at0,gk0⟩:=hh.get
  clear hh
  have HA13:=hid at0
  have HK13:=hid (HK12.out.trans gk0)
  have HL12:=hid (HL12.out.gk gk0)
  clear at0 gk0
  have HL13:=hid l0
  clear l0
  go_wp2_with fail
  refine (over2_at HA13.out ⟨8,0,0,⟨#[]⟩,0⟩ _ _ HL12.out HL13.out (by show (⟨#[]⟩:ByteArray).size≤1000;decide) (by omega)).mono ?_
  rintro e w14 hh
  obtain ⟨g14,n14,k14,rfl,l0,at0,gk0⟩:=hh.get
  clear hh
  clear HL12
  clear HL13
  have HA14:=hid at0
  have HK14:=hid (HK13.out.trans gk0)
  clear at0 gk0
  have HL14:=hid l0
  clear l0
  go_wp2
  go_ret
  exact HL14.out.fin HA14.out HK14.out (by omega) (by omega)
 ·go_wp2_with fail
  refine (e_at HE.out HA1.out (HR.out.sub (by omega)) _).mono ?_
  rintro e w12 hh
  obtain ⟨g12,n12,k12,rfl,l0,at0,gk0⟩:=hh.get
  clear hh
  have HA12:=hid at0
  have HK12:=hid (HK1.out.trans gk0)
  clear at0 gk0
  have HL12:=hid l0
  clear l0
  go_wp2_with fail
  refine (e_at HE.out HA12.out (HR.out.sub (by omega)) _).mono ?_
  rintro e w13 hh
  obtain ⟨g13,n13,k13,rfl,l0,at0,gk0⟩:=hh.get
  clear hh
  have HA13:=hid at0
  have HK13:=hid (HK12.out.trans gk0)
  have HL12:=hid (HL12.out.gk gk0)
  clear at0 gk0
  have HL13:=hid l0
  clear l0
  go_wp2_with fail
  refine (over2_at HA13.out ⟨8,0,0,⟨#[]⟩,0⟩ _ _ HL12.out HL13.out (by show (⟨#[]⟩:ByteArray).size≤1000;decide) (by omega)).mono ?_
  rintro e w14 hh
  obtain ⟨g14,n14,k14,rfl,l0,at0,gk0⟩:=hh.get
  clear hh
  clear HL12
  clear HL13
  have HA14:=hid at0
  have HK14:=hid (HK13.out.trans gk0)
  clear at0 gk0
  have HL14:=hid l0
  clear l0
  go_wp2
  go_ret
  exact HL14.out.fin HA14.out HK14.out (by omega) (by omega)
end Go.Proofs.YtabbahpalemlhaaGreatDoor
