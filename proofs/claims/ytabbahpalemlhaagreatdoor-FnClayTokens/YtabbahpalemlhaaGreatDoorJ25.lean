import Derived.Deep.RegionLaw
import Derived.Test.YtabbahpalemlhaaGreatDoorJ18
namespace Go.Proofs.YtabbahpalemlhaaGreatDoor
open Go.RowKit
set_option maxRecDepth 20000
set_option maxHeartbeats 16000000 in
theorem e_step {d:Int} {K Ce:Nat} (he:EOk (d - 1) K Ce) (hrec:RecOk d K Ce) (hK:K≤10000) (hd:1≤d) (hd2:d≤10):EOk d (3 * K+8) (3 * Ce+60):=by
 intro s kind w h hr
 have HE:=hid he
 have HREC:=hid hrec
 have HR:=hid hr
 have HA0:=hid (sized_at h)
 have HK0:=hid HA0.out.gk
 obtain ⟨vn,vf,e1,_⟩:=h.ex
 have c4:=cell_hp e1 4
 have f4:=frozen_hp e1 4
 have c0:(w.setCell ⟨s.G,4,none⟩ (.int .i64 (s.sz - 1))).cell? ⟨s.G,0,none⟩=some (.pointer (some ⟨s.R,0,none⟩)):=HA0.out.g0
 simp at c4
 have hlo:=hr.lo
 have hhi:=hr.hi
 have hw4:IntKind.i64.wrap (s.sz - 1)=s.sz - 1:=by rw [IntKind.wrap_i64];omega
 have hdn:¬ d≤0:=by omega
 clear he hrec hr h e1
 go_enter Tryz.func83,Tryz.ntmps83
 go_wp2_with fail
 refine (pick_at HA0.out (HR.out.sub (by omega)) 40 (by omega)).mono ?_
 rintro e w1 ⟨x1,rfl,hx1,at0,gk0⟩
 have hy1:x1 < 40:=by omega
 have hz1:(x1:Int) < 40:=by omega
 clear hx1
 have HA1:=hid at0
 have HK1:=hid (HK0.out.trans gk0)
 clear at0 gk0
 clear c0 c4 f4 hw4
 have hf1:x1=0∨((x1:Int) == 0)=false:=by rcases Nat.eq_zero_or_pos x1 with h | h;exact .inl h;exact .inr (by simp;omega)
 rcases hf1 with rfl | hf1
 ·go_wp2_with fail
  refine (pick_at HA1.out (HR.out.sub (by omega)) 6 (by omega)).mono ?_
  rintro e w2 ⟨x2,rfl,hx2,at0,gk0⟩
  have hy2:x2 < 6:=by omega
  have hz2:(x2:Int) < 6:=by omega
  clear hx2
  have HA2:=hid at0
  have HK2:=hid (HK1.out.trans gk0)
  clear at0 gk0
  obtain ⟨z3,hz3⟩:=HA2.out.g4
  by_cases hzn3:z3 < 0
  ·go_wp2_with fail
   refine (leaf_at HA2.out (HR.out.sub (by omega)) _).mono ?_
   rintro e w4 hh
   obtain ⟨g4,n4,k4,rfl,l0,at0,gk0⟩:=hh.get
   clear hh
   have HA4:=hid at0
   have HK4:=hid (HK2.out.trans gk0)
   clear at0 gk0
   have HL4:=hid l0
   clear l0
   go_wp2
   go_ret
   exact HL4.out.fin HA4.out HK4.out (by omega) (by omega)
  ·go_wp2_with fail
   refine (pick_at HA2.out (HR.out.sub (by omega)) 5 (by omega)).mono ?_
   rintro e w4 ⟨x4,rfl,hx4,at0,gk0⟩
   have hy4:x4 < 5:=by omega
   have hz4:(x4:Int) < 5:=by omega
   clear hx4
   have HA4:=hid at0
   have HK4:=hid (HK2.out.trans gk0)
   clear at0 gk0
   clear hz3
   have hf4:x4=0∨((x4:Int) == 0)=false:=by rcases Nat.eq_zero_or_pos x4 with h | h;exact .inl h;exact .inr (by simp;omega)
   rcases hf4 with rfl | hf4
   ·go_wp2_with fail
    refine (leaf_at HA4.out (HR.out.sub (by omega)) _).mono ?_
    rintro e w5 hh
    obtain ⟨g5,n5,k5,rfl,l0,at0,gk0⟩:=hh.get
    clear hh
    have HA5:=hid at0
    have HK5:=hid (HK4.out.trans gk0)
    clear at0 gk0
    have HL5:=hid l0
    clear l0
    go_wp2
    go_ret
    exact HL5.out.fin HA5.out HK5.out (by omega) (by omega)
   ·go_wp2_with fail
    refine (pick_at HA4.out (HR.out.sub (by omega)) 10 (by omega)).mono ?_
    rintro e w5 ⟨x5,rfl,hx5,at0,gk0⟩
    have hy5:x5 < 10:=by omega
    have hz5:(x5:Int) < 10:=by omega
    clear hx5
    have HA5:=hid at0
    have HK5:=hid (HK4.out.trans gk0)
    clear at0 gk0
    have h7:x5=0∨x5=1∨x5=2∨x5=3∨x5=4∨x5=5∨x5=6∨x5=7∨x5=8∨x5=9:=by omega
    clear hy5 hz5
    rcases h7 with rfl | rfl | rfl | rfl | rfl | rfl | rfl | rfl | rfl | rfl
    ·go_wp2_with fail
     refine (e_at HE.out HA5.out (HR.out.sub (by omega)) _).mono ?_
     rintro e w6 hh
     obtain ⟨g6,n6,k6,rfl,l0,at0,gk0⟩:=hh.get
     clear hh
     have HA6:=hid at0
     have HK6:=hid (HK5.out.trans gk0)
     clear at0 gk0
     have HL6:=hid l0
     clear l0
     go_wp2_with fail
     refine (e_at HE.out HA6.out (HR.out.sub (by omega)) _).mono ?_
     rintro e w7 hh
     obtain ⟨g7,n7,k7,rfl,l0,at0,gk0⟩:=hh.get
     clear hh
     have HA7:=hid at0
     have HK7:=hid (HK6.out.trans gk0)
     have HL6:=hid (HL6.out.gk gk0)
     clear at0 gk0
     have HL7:=hid l0
     clear l0
     go_wp2_with fail
     refine (e_at HE.out HA7.out (HR.out.sub (by omega)) _).mono ?_
     rintro e w8 hh
     obtain ⟨g8,n8,k8,rfl,l0,at0,gk0⟩:=hh.get
     clear hh
     have HA8:=hid at0
     have HK8:=hid (HK7.out.trans gk0)
     have HL6:=hid (HL6.out.gk gk0)
     have HL7:=hid (HL7.out.gk gk0)
     clear at0 gk0
     have HL8:=hid l0
     clear l0
     go_wp2_with fail
     refine (over3_at HA8.out ⟨13,0,0,⟨#[]⟩,0⟩ _ _ _ HL6.out HL7.out HL8.out (by show (⟨#[]⟩:ByteArray).size≤1000;decide) (by omega)).mono ?_
     rintro e w9 hh
     obtain ⟨g9,n9,k9,rfl,l0,at0,gk0⟩:=hh.get
     clear hh
     clear HL6
     clear HL7
     clear HL8
     have HA9:=hid at0
     have HK9:=hid (HK8.out.trans gk0)
     clear at0 gk0
     have HL9:=hid l0
     clear l0
     go_wp2
     go_ret
     exact HL9.out.fin HA9.out HK9.out (by omega) (by omega)
    ·go_wp2_with fail
     refine (fresh_at HA5.out (HR.out.sub (by omega))).mono ?_
     rintro e w6 ⟨t6,rfl,ht6,at0,gk0⟩
     have HT6:=hid ht6
     clear ht6
     have HA6:=hid at0
     have HK6:=hid (HK5.out.trans gk0)
     clear at0 gk0
     go_wp2_with fail
     refine (pick_at HA6.out (HR.out.sub (by omega)) 6 (by omega)).mono ?_
     rintro e w7 ⟨x7,rfl,hx7,at0,gk0⟩
     have hy7:x7 < 6:=by omega
     have hz7:(x7:Int) < 6:=by omega
     clear hx7
     have HA7:=hid at0
     have HK7:=hid (HK6.out.trans gk0)
     clear at0 gk0
     go_wp2_with fail
     refine (e_at HE.out HA7.out (HR.out.sub (by omega)) _).mono ?_
     rintro e w8 hh
     obtain ⟨g8,n8,k8,rfl,l0,at0,gk0⟩:=hh.get
     clear hh
     have HA8:=hid at0
     have HK8:=hid (HK7.out.trans gk0)
     clear at0 gk0
     have HL8:=hid l0
     clear l0
     go_wp2_with fail
     refine (inside_at HE.out HA8.out (HR.out.sub (by omega)) t6 HT6.out _ _).mono ?_
     rintro e w9 hh
     obtain ⟨g9,n9,k9,rfl,l0,at0,gk0⟩:=hh.get
     clear hh
     have HA9:=hid at0
     have HK9:=hid (HK8.out.trans gk0)
     have HL8:=hid (HL8.out.gk gk0)
     clear at0 gk0
     have HL9:=hid l0
     clear l0
     go_wp2_with fail
     refine (over2_at HA9.out ⟨14,0,0,t6,0⟩ _ _ HL8.out HL9.out (by have:=HT6.out;show t6.size≤1000;omega) (by omega)).mono ?_
     rintro e w10 hh
     obtain ⟨g10,n10,k10,rfl,l0,at0,gk0⟩:=hh.get
     clear hh
     clear HL8
     clear HL9
     have HA10:=hid at0
     have HK10:=hid (HK9.out.trans gk0)
     clear at0 gk0
     have HL10:=hid l0
     clear l0
     go_wp2
     go_ret
     exact HL10.out.fin HA10.out HK10.out (by omega) (by omega)
    ·go_wp2_with fail
     refine (fresh_at HA5.out (HR.out.sub (by omega))).mono ?_
     rintro e w6 ⟨t6,rfl,ht6,at0,gk0⟩
     have HT6:=hid ht6
     clear ht6
     have HA6:=hid at0
     have HK6:=hid (HK5.out.trans gk0)
     clear at0 gk0
     have HV7:=hid ((Below.refl w6.heap.size w6).alloc (Nat.le_refl _) (.cells #[.int .i64 19,.int .i64 0,.int .i64 0,.string t6,.int .i64 0] 81))
     have at0:=HA6.out.next HV7.out
     have gk0:=HA6.out.gk_next HV7.out
     have HL7:Hid (Has 1 (w6.alloc (.cells #[.int .i64 19,.int .i64 0,.int .i64 0,.string t6,.int .i64 0] 81)) (.slice (some ⟨w6.heap.size,0,none⟩) 1 1)):=⟨_,nd_one w6 ⟨19,0,0,t6,0⟩,NdOk.one (by have:=HT6.out;show t6.size≤1000;omega)⟩
     have HA7:=hid at0
     have HK7:=hid (HK6.out.trans gk0)
     clear at0 gk0
     go_wp2_with fail
     refine (inside_at HE.out HA7.out (HR.out.sub (by omega)) t6 HT6.out _ _).mono ?_
     rintro e w8 hh
     obtain ⟨g8,n8,k8,rfl,l0,at0,gk0⟩:=hh.get
     clear hh
     have HA8:=hid at0
     have HK8:=hid (HK7.out.trans gk0)
     have HL7:=hid (HL7.out.gk gk0)
     clear at0 gk0
     have HL8:=hid l0
     clear l0
     go_wp2_with fail
     refine (over2_at HA8.out ⟨15,0,0,⟨#[]⟩,0⟩ _ _ HL7.out HL8.out (by show (⟨#[]⟩:ByteArray).size≤1000;decide) (by omega)).mono ?_
     rintro e w9 hh
     obtain ⟨g9,n9,k9,rfl,l0,at0,gk0⟩:=hh.get
     clear hh
     clear HL7
     clear HL8
     have HA9:=hid at0
     have HK9:=hid (HK8.out.trans gk0)
     clear at0 gk0
     have HL9:=hid l0
     clear l0
     go_wp2_with fail
     refine (e_at HE.out HA9.out (HR.out.sub (by omega)) _).mono ?_
     rintro e w10 hh
     obtain ⟨g10,n10,k10,rfl,l0,at0,gk0⟩:=hh.get
     clear hh
     have HA10:=hid at0
     have HK10:=hid (HK9.out.trans gk0)
     have HL9:=hid (HL9.out.gk gk0)
     clear at0 gk0
     have HL10:=hid l0
     clear l0
     go_wp2_with fail
     refine (over2_at HA10.out ⟨12,0,0,⟨#[]⟩,0⟩ _ _ HL9.out HL10.out (by show (⟨#[]⟩:ByteArray).size≤1000;decide) (by omega)).mono ?_
     rintro e w11 hh
     obtain ⟨g11,n11,k11,rfl,l0,at0,gk0⟩:=hh.get
     clear hh
     clear HL9
     clear HL10
     have HA11:=hid at0
     have HK11:=hid (HK10.out.trans gk0)
     clear at0 gk0
     have HL11:=hid l0
     clear l0
     go_wp2
     go_ret
     exact HL11.out.fin HA11.out HK11.out (by omega) (by omega)
    ·go_wp2_with fail
     refine (callF_at HE.out hK hd hd2 _ HA5.out (HR.out.sub (by omega))).mono ?_
     rintro e w6 hh
     rcases hh with ⟨g6,n6,k6,rfl,l0,at0,gk0⟩ | ⟨g6,k6,rfl,at0,gk0⟩
     ·have HA6:=hid at0
      have HK6:=hid (HK5.out.trans gk0)
      clear at0 gk0
      have HL6:=hid l0
      clear l0
      go_wp2
      go_ret
      exact HL6.out.fin HA6.out HK6.out (by omega) (by omega)
     ·have HA6:=hid at0
      have HK6:=hid (HK5.out.trans gk0)
      clear at0 gk0
      go_wp2_with fail
      refine (ofKind_at HE.out HREC.out hK hd hd2 _ HA6.out (HR.out.sub (by omega))).mono ?_
      rintro e w7 hh
      obtain ⟨g7,n7,k7,rfl,l0,at0,gk0⟩:=hh.get
      clear hh
      have HA7:=hid at0
      have HK7:=hid (HK6.out.trans gk0)
      clear at0 gk0
      have HL7:=hid l0
      clear l0
      go_wp2
      go_ret
      exact HL7.out.fin HA7.out HK7.out (by omega) (by omega)
    ·go_wp2_with fail
     refine (callF_at HE.out hK hd hd2 _ HA5.out (HR.out.sub (by omega))).mono ?_
     rintro e w6 hh
     rcases hh with ⟨g6,n6,k6,rfl,l0,at0,gk0⟩ | ⟨g6,k6,rfl,at0,gk0⟩
     ·have HA6:=hid at0
      have HK6:=hid (HK5.out.trans gk0)
      clear at0 gk0
      have HL6:=hid l0
      clear l0
      go_wp2
      go_ret
      exact HL6.out.fin HA6.out HK6.out (by omega) (by omega)
     ·have HA6:=hid at0
      have HK6:=hid (HK5.out.trans gk0)
      clear at0 gk0
      go_wp2_with fail
      refine (ofKind_at HE.out HREC.out hK hd hd2 _ HA6.out (HR.out.sub (by omega))).mono ?_
      rintro e w7 hh
      obtain ⟨g7,n7,k7,rfl,l0,at0,gk0⟩:=hh.get
      clear hh
      have HA7:=hid at0
      have HK7:=hid (HK6.out.trans gk0)
      clear at0 gk0
      have HL7:=hid l0
      clear l0
      go_wp2
      go_ret
      exact HL7.out.fin HA7.out HK7.out (by omega) (by omega)
    ·go_wp2_with fail
     refine (ofKind_at HE.out HREC.out hK hd hd2 _ HA5.out (HR.out.sub (by omega))).mono ?_
     rintro e w6 hh
     obtain ⟨g6,n6,k6,rfl,l0,at0,gk0⟩:=hh.get
     clear hh
     have HA6:=hid at0
     have HK6:=hid (HK5.out.trans gk0)
     clear at0 gk0
     have HL6:=hid l0
     clear l0
     go_wp2
     go_ret
     exact HL6.out.fin HA6.out HK6.out (by omega) (by omega)
    ·go_wp2_with fail
     refine (ofKind_at HE.out HREC.out hK hd hd2 _ HA5.out (HR.out.sub (by omega))).mono ?_
     rintro e w6 hh
     obtain ⟨g6,n6,k6,rfl,l0,at0,gk0⟩:=hh.get
     clear hh
     have HA6:=hid at0
     have HK6:=hid (HK5.out.trans gk0)
     clear at0 gk0
     have HL6:=hid l0
     clear l0
     go_wp2
     go_ret
     exact HL6.out.fin HA6.out HK6.out (by omega) (by omega)
    ·go_wp2_with fail
     refine (ofKind_at HE.out HREC.out hK hd hd2 _ HA5.out (HR.out.sub (by omega))).mono ?_
     rintro e w6 hh
     obtain ⟨g6,n6,k6,rfl,l0,at0,gk0⟩:=hh.get
     clear hh
     have HA6:=hid at0
     have HK6:=hid (HK5.out.trans gk0)
     clear at0 gk0
     have HL6:=hid l0
     clear l0
     go_wp2
     go_ret
     exact HL6.out.fin HA6.out HK6.out (by omega) (by omega)
    ·go_wp2_with fail
     refine (ofKind_at HE.out HREC.out hK hd hd2 _ HA5.out (HR.out.sub (by omega))).mono ?_
     rintro e w6 hh
     obtain ⟨g6,n6,k6,rfl,l0,at0,gk0⟩:=hh.get
     clear hh
     have HA6:=hid at0
     have HK6:=hid (HK5.out.trans gk0)
     clear at0 gk0
     have HL6:=hid l0
     clear l0
     go_wp2
     go_ret
     exact HL6.out.fin HA6.out HK6.out (by omega) (by omega)
    ·go_wp2_with fail
     refine (ofKind_at HE.out HREC.out hK hd hd2 _ HA5.out (HR.out.sub (by omega))).mono ?_
     rintro e w6 hh
     obtain ⟨g6,n6,k6,rfl,l0,at0,gk0⟩:=hh.get
     clear hh
     have HA6:=hid at0
     have HK6:=hid (HK5.out.trans gk0)
     clear at0 gk0
     have HL6:=hid l0
     clear l0
     go_wp2
     go_ret
     exact HL6.out.fin HA6.out HK6.out (by omega) (by omega)
 ·obtain ⟨z2,hz2⟩:=HA1.out.g4
  by_cases hzn2:z2 < 0
  ·go_wp2_with fail
   refine (leaf_at HA1.out (HR.out.sub (by omega)) _).mono ?_
   rintro e w3 hh
   obtain ⟨g3,n3,k3,rfl,l0,at0,gk0⟩:=hh.get
   clear hh
   have HA3:=hid at0
   have HK3:=hid (HK1.out.trans gk0)
   clear at0 gk0
   have HL3:=hid l0
   clear l0
   go_wp2
   go_ret
   exact HL3.out.fin HA3.out HK3.out (by omega) (by omega)
  ·go_wp2_with fail
   refine (pick_at HA1.out (HR.out.sub (by omega)) 5 (by omega)).mono ?_
   rintro e w3 ⟨x3,rfl,hx3,at0,gk0⟩
   have hy3:x3 < 5:=by omega
   have hz3:(x3:Int) < 5:=by omega
   clear hx3
   have HA3:=hid at0
   have HK3:=hid (HK1.out.trans gk0)
   clear at0 gk0
   clear hz2
   have hf3:x3=0∨((x3:Int) == 0)=false:=by rcases Nat.eq_zero_or_pos x3 with h | h;exact .inl h;exact .inr (by simp;omega)
   rcases hf3 with rfl | hf3
   ·go_wp2_with fail
    refine (leaf_at HA3.out (HR.out.sub (by omega)) _).mono ?_
    rintro e w4 hh
    obtain ⟨g4,n4,k4,rfl,l0,at0,gk0⟩:=hh.get
    clear hh
    have HA4:=hid at0
    have HK4:=hid (HK3.out.trans gk0)
    clear at0 gk0
    have HL4:=hid l0
    clear l0
    go_wp2
    go_ret
    exact HL4.out.fin HA4.out HK4.out (by omega) (by omega)
   ·go_wp2_with fail
    refine (pick_at HA3.out (HR.out.sub (by omega)) 10 (by omega)).mono ?_
    rintro e w4 ⟨x4,rfl,hx4,at0,gk0⟩
    have hy4:x4 < 10:=by omega
    have hz4:(x4:Int) < 10:=by omega
    clear hx4
    have HA4:=hid at0
    have HK4:=hid (HK3.out.trans gk0)
    clear at0 gk0
    have h7:x4=0∨x4=1∨x4=2∨x4=3∨x4=4∨x4=5∨x4=6∨x4=7∨x4=8∨x4=9:=by omega
    clear hy4 hz4
    rcases h7 with rfl | rfl | rfl | rfl | rfl | rfl | rfl | rfl | rfl | rfl
    ·go_wp2_with fail
     refine (e_at HE.out HA4.out (HR.out.sub (by omega)) _).mono ?_
     rintro e w5 hh
     obtain ⟨g5,n5,k5,rfl,l0,at0,gk0⟩:=hh.get
     clear hh
     have HA5:=hid at0
     have HK5:=hid (HK4.out.trans gk0)
     clear at0 gk0
     have HL5:=hid l0
     clear l0
     go_wp2_with fail
     refine (e_at HE.out HA5.out (HR.out.sub (by omega)) _).mono ?_
     rintro e w6 hh
     obtain ⟨g6,n6,k6,rfl,l0,at0,gk0⟩:=hh.get
     clear hh
     have HA6:=hid at0
     have HK6:=hid (HK5.out.trans gk0)
     have HL5:=hid (HL5.out.gk gk0)
     clear at0 gk0
     have HL6:=hid l0
     clear l0
     go_wp2_with fail
     refine (e_at HE.out HA6.out (HR.out.sub (by omega)) _).mono ?_
     rintro e w7 hh
     obtain ⟨g7,n7,k7,rfl,l0,at0,gk0⟩:=hh.get
     clear hh
     have HA7:=hid at0
     have HK7:=hid (HK6.out.trans gk0)
     have HL5:=hid (HL5.out.gk gk0)
     have HL6:=hid (HL6.out.gk gk0)
     clear at0 gk0
     have HL7:=hid l0
     clear l0
     go_wp2_with fail
     refine (over3_at HA7.out ⟨13,0,0,⟨#[]⟩,0⟩ _ _ _ HL5.out HL6.out HL7.out (by show (⟨#[]⟩:ByteArray).size≤1000;decide) (by omega)).mono ?_
     rintro e w8 hh
     obtain ⟨g8,n8,k8,rfl,l0,at0,gk0⟩:=hh.get
     clear hh
     clear HL5
     clear HL6
     clear HL7
     have HA8:=hid at0
     have HK8:=hid (HK7.out.trans gk0)
     clear at0 gk0
     have HL8:=hid l0
     clear l0
     go_wp2
     go_ret
     exact HL8.out.fin HA8.out HK8.out (by omega) (by omega)
    ·go_wp2_with fail
     refine (fresh_at HA4.out (HR.out.sub (by omega))).mono ?_
     rintro e w5 ⟨t5,rfl,ht5,at0,gk0⟩
     have HT5:=hid ht5
     clear ht5
     have HA5:=hid at0
     have HK5:=hid (HK4.out.trans gk0)
     clear at0 gk0
     go_wp2_with fail
     refine (pick_at HA5.out (HR.out.sub (by omega)) 6 (by omega)).mono ?_
     rintro e w6 ⟨x6,rfl,hx6,at0,gk0⟩
     have hy6:x6 < 6:=by omega
     have hz6:(x6:Int) < 6:=by omega
     clear hx6
     have HA6:=hid at0
     have HK6:=hid (HK5.out.trans gk0)
     clear at0 gk0
     go_wp2_with fail
     refine (e_at HE.out HA6.out (HR.out.sub (by omega)) _).mono ?_
     rintro e w7 hh
     obtain ⟨g7,n7,k7,rfl,l0,at0,gk0⟩:=hh.get
     clear hh
     have HA7:=hid at0
     have HK7:=hid (HK6.out.trans gk0)
     clear at0 gk0
     have HL7:=hid l0
     clear l0
     go_wp2_with fail
     refine (inside_at HE.out HA7.out (HR.out.sub (by omega)) t5 HT5.out _ _).mono ?_
     rintro e w8 hh
     obtain ⟨g8,n8,k8,rfl,l0,at0,gk0⟩:=hh.get
     clear hh
     have HA8:=hid at0
     have HK8:=hid (HK7.out.trans gk0)
     have HL7:=hid (HL7.out.gk gk0)
     clear at0 gk0
     have HL8:=hid l0
     clear l0
     go_wp2_with fail
     refine (over2_at HA8.out ⟨14,0,0,t5,0⟩ _ _ HL7.out HL8.out (by have:=HT5.out;show t5.size≤1000;omega) (by omega)).mono ?_
     rintro e w9 hh
     obtain ⟨g9,n9,k9,rfl,l0,at0,gk0⟩:=hh.get
     clear hh
     clear HL7
     clear HL8
     have HA9:=hid at0
     have HK9:=hid (HK8.out.trans gk0)
     clear at0 gk0
     have HL9:=hid l0
     clear l0
     go_wp2
     go_ret
     exact HL9.out.fin HA9.out HK9.out (by omega) (by omega)
    ·go_wp2_with fail
     refine (fresh_at HA4.out (HR.out.sub (by omega))).mono ?_
     rintro e w5 ⟨t5,rfl,ht5,at0,gk0⟩
     have HT5:=hid ht5
     clear ht5
     have HA5:=hid at0
     have HK5:=hid (HK4.out.trans gk0)
     clear at0 gk0
     have HV6:=hid ((Below.refl w5.heap.size w5).alloc (Nat.le_refl _) (.cells #[.int .i64 19,.int .i64 0,.int .i64 0,.string t5,.int .i64 0] 81))
     have at0:=HA5.out.next HV6.out
     have gk0:=HA5.out.gk_next HV6.out
     have HL6:Hid (Has 1 (w5.alloc (.cells #[.int .i64 19,.int .i64 0,.int .i64 0,.string t5,.int .i64 0] 81)) (.slice (some ⟨w5.heap.size,0,none⟩) 1 1)):=⟨_,nd_one w5 ⟨19,0,0,t5,0⟩,NdOk.one (by have:=HT5.out;show t5.size≤1000;omega)⟩
     have HA6:=hid at0
     have HK6:=hid (HK5.out.trans gk0)
     clear at0 gk0
     go_wp2_with fail
     refine (inside_at HE.out HA6.out (HR.out.sub (by omega)) t5 HT5.out _ _).mono ?_
     rintro e w7 hh
     obtain ⟨g7,n7,k7,rfl,l0,at0,gk0⟩:=hh.get
     clear hh
     have HA7:=hid at0
     have HK7:=hid (HK6.out.trans gk0)
     have HL6:=hid (HL6.out.gk gk0)
     clear at0 gk0
     have HL7:=hid l0
     clear l0
     go_wp2_with fail
     refine (over2_at HA7.out ⟨15,0,0,⟨#[]⟩,0⟩ _ _ HL6.out HL7.out (by show (⟨#[]⟩:ByteArray).size≤1000;decide) (by omega)).mono ?_
     rintro e w8 hh
     obtain ⟨g8,n8,k8,rfl,l0,at0,gk0⟩:=hh.get
     clear hh
     clear HL6
     clear HL7
     have HA8:=hid at0
     have HK8:=hid (HK7.out.trans gk0)
     clear at0 gk0
     have HL8:=hid l0
     clear l0
     go_wp2_with fail
     refine (e_at HE.out HA8.out (HR.out.sub (by omega)) _).mono ?_
     rintro e w9 hh
     obtain ⟨g9,n9,k9,rfl,l0,at0,gk0⟩:=hh.get
     clear hh
     have HA9:=hid at0
     have HK9:=hid (HK8.out.trans gk0)
     have HL8:=hid (HL8.out.gk gk0)
     clear at0 gk0
     have HL9:=hid l0
     clear l0
     go_wp2_with fail
     refine (over2_at HA9.out ⟨12,0,0,⟨#[]⟩,0⟩ _ _ HL8.out HL9.out (by show (⟨#[]⟩:ByteArray).size≤1000;decide) (by omega)).mono ?_
     rintro e w10 hh
     obtain ⟨g10,n10,k10,rfl,l0,at0,gk0⟩:=hh.get
     clear hh
     clear HL8
     clear HL9
     have HA10:=hid at0
     have HK10:=hid (HK9.out.trans gk0)
     clear at0 gk0
     have HL10:=hid l0
     clear l0
     go_wp2
     go_ret
     exact HL10.out.fin HA10.out HK10.out (by omega) (by omega)
    ·go_wp2_with fail
     refine (callF_at HE.out hK hd hd2 _ HA4.out (HR.out.sub (by omega))).mono ?_
     rintro e w5 hh
     rcases hh with ⟨g5,n5,k5,rfl,l0,at0,gk0⟩ | ⟨g5,k5,rfl,at0,gk0⟩
     ·have HA5:=hid at0
      have HK5:=hid (HK4.out.trans gk0)
      clear at0 gk0
      have HL5:=hid l0
      clear l0
      go_wp2
      go_ret
      exact HL5.out.fin HA5.out HK5.out (by omega) (by omega)
     ·have HA5:=hid at0
      have HK5:=hid (HK4.out.trans gk0)
      clear at0 gk0
      go_wp2_with fail
      refine (ofKind_at HE.out HREC.out hK hd hd2 _ HA5.out (HR.out.sub (by omega))).mono ?_
      rintro e w6 hh
      obtain ⟨g6,n6,k6,rfl,l0,at0,gk0⟩:=hh.get
      clear hh
      have HA6:=hid at0
      have HK6:=hid (HK5.out.trans gk0)
      clear at0 gk0
      have HL6:=hid l0
      clear l0
      go_wp2
      go_ret
      exact HL6.out.fin HA6.out HK6.out (by omega) (by omega)
    ·go_wp2_with fail
     refine (callF_at HE.out hK hd hd2 _ HA4.out (HR.out.sub (by omega))).mono ?_
     rintro e w5 hh
     rcases hh with ⟨g5,n5,k5,rfl,l0,at0,gk0⟩ | ⟨g5,k5,rfl,at0,gk0⟩
     ·have HA5:=hid at0
      have HK5:=hid (HK4.out.trans gk0)
      clear at0 gk0
      have HL5:=hid l0
      clear l0
      go_wp2
      go_ret
      exact HL5.out.fin HA5.out HK5.out (by omega) (by omega)
     ·have HA5:=hid at0
      have HK5:=hid (HK4.out.trans gk0)
      clear at0 gk0
      go_wp2_with fail
      refine (ofKind_at HE.out HREC.out hK hd hd2 _ HA5.out (HR.out.sub (by omega))).mono ?_
      rintro e w6 hh
      obtain ⟨g6,n6,k6,rfl,l0,at0,gk0⟩:=hh.get
      clear hh
      have HA6:=hid at0
      have HK6:=hid (HK5.out.trans gk0)
      clear at0 gk0
      have HL6:=hid l0
      clear l0
      go_wp2
      go_ret
      exact HL6.out.fin HA6.out HK6.out (by omega) (by omega)
    ·go_wp2_with fail
     refine (ofKind_at HE.out HREC.out hK hd hd2 _ HA4.out (HR.out.sub (by omega))).mono ?_
     rintro e w5 hh
     obtain ⟨g5,n5,k5,rfl,l0,at0,gk0⟩:=hh.get
     clear hh
     have HA5:=hid at0
     have HK5:=hid (HK4.out.trans gk0)
     clear at0 gk0
     have HL5:=hid l0
     clear l0
     go_wp2
     go_ret
     exact HL5.out.fin HA5.out HK5.out (by omega) (by omega)
    ·go_wp2_with fail
     refine (ofKind_at HE.out HREC.out hK hd hd2 _ HA4.out (HR.out.sub (by omega))).mono ?_
     rintro e w5 hh
     obtain ⟨g5,n5,k5,rfl,l0,at0,gk0⟩:=hh.get
     clear hh
     have HA5:=hid at0
     have HK5:=hid (HK4.out.trans gk0)
     clear at0 gk0
     have HL5:=hid l0
     clear l0
     go_wp2
     go_ret
     exact HL5.out.fin HA5.out HK5.out (by omega) (by omega)
    ·go_wp2_with fail
     refine (ofKind_at HE.out HREC.out hK hd hd2 _ HA4.out (HR.out.sub (by omega))).mono ?_
     rintro e w5 hh
     obtain ⟨g5,n5,k5,rfl,l0,at0,gk0⟩:=hh.get
     clear hh
     have HA5:=hid at0
     have HK5:=hid (HK4.out.trans gk0)
     clear at0 gk0
     have HL5:=hid l0
     clear l0
     go_wp2
     go_ret
     exact HL5.out.fin HA5.out HK5.out (by omega) (by omega)
    ·go_wp2_with fail
     refine (ofKind_at HE.out HREC.out hK hd hd2 _ HA4.out (HR.out.sub (by omega))).mono ?_
     rintro e w5 hh
     obtain ⟨g5,n5,k5,rfl,l0,at0,gk0⟩:=hh.get
     clear hh
     have HA5:=hid at0
     have HK5:=hid (HK4.out.trans gk0)
     clear at0 gk0
     have HL5:=hid l0
     clear l0
     go_wp2
     go_ret
     exact HL5.out.fin HA5.out HK5.out (by omega) (by omega)
    ·go_wp2_with fail
     refine (ofKind_at HE.out HREC.out hK hd hd2 _ HA4.out (HR.out.sub (by omega))).mono ?_
     rintro e w5 hh
     obtain ⟨g5,n5,k5,rfl,l0,at0,gk0⟩:=hh.get
     clear hh
     have HA5:=hid at0
     have HK5:=hid (HK4.out.trans gk0)
     clear at0 gk0
     have HL5:=hid l0
     clear l0
     go_wp2
     go_ret
     exact HL5.out.fin HA5.out HK5.out (by omega) (by omega)
end Go.Proofs.YtabbahpalemlhaaGreatDoor
