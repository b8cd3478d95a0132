import Derived.Test.YtabbahpalemlhaaGreatDoorJ26
import Derived.Test.YtabbahpalemlhaaGreatDoorJ24
namespace Go.Proofs.YtabbahpalemlhaaGreatDoor
open Go.RowKit
set_option maxRecDepth 20000
set_option maxHeartbeats 16000000 in
theorem record_root {d:Int} {K Ce:Nat} (he:EOk (d - 1) K Ce) (hK0:K≤10000) (hd:1≤d) (hd2:d≤10) (s:Gs) (w:World) (h:GenAt s.R s.G s.R w s.ns s.fs s.c s.sz s.p) (hr:Room (3 * Ce+50) s) :
  Calls Tryz.prog 111 #[.pointer (some ⟨s.G,0,none⟩),.int .i64 d] w (NdEnd s (3 * K+8) (3 * Ce+20) w w):=by
 obtain ⟨R,G,ns,fs,c0,sz0,p0⟩:=s
 simp only at h ⊢
 have HE:=hid he
 have HR:=hid hr
 obtain ⟨i0,hi0,hz0,hz1,hz2⟩:=info_parts info_ns
 have HHI:=hid (And.intro hi0 (And.intro hz0 (And.intro hz1 hz2)))
 have HV1:=hid ((Below.refl w.heap.size w).alloc (Nat.le_refl _) (.cells #[] 48))
 have HA1:=hid ((At.refl (s:=⟨R,G,ns,fs,c0,sz0,p0⟩) h).next HV1.out)
 have HP1:=hid (Parts.none (w:=w) (W:=w) (Nat.le_refl _))
 have hg1:=HA1.out.g0
 clear he hr h hi0 hz0 hz1 hz2
 go_enter Tryz.func111,Tryz.ntmps111
 go_wp2_with fail
 refine (pick_at HA1.out (HR.out.sub (by omega)) 4 (by omega)).mono ?_
 rintro e w1 ⟨x,rfl,hx,at1,gk1⟩
 have HA2:=hid at1
 have HP2:=hid (HP1.out.gk gk1)
 have hx3:x≤3:=by omega
 clear hx at1 gk1 hg1
 go_wp2
 go_loopw [5,6] (fun pv c wr=>∃ t m:Nat,t+m≤3∧c=.int .i64 t∧Parts w wr pv m (m * (K+1))∧At ⟨R,G,ns,fs,c0,sz0,p0⟩ (0+1+m * (Ce+2)) w wr∧(m=0∨0 < m)) (fun _ c _=>(intOf c).toNat)
 case atStart=>exact ⟨x,0,by omega,rfl,by simpa using HP2.out,by simpa using HA2.out,by omega⟩
 case round =>
  obtain ⟨t,m,htm,rfl,hp,ha,_⟩:=hrel
  have HP:=hid hp
  have HA:=hid ha
  have hmc:m * (Ce+2)≤3 * (Ce+2):=Nat.mul_le_mul_right _ (by omega)
  have hmk:m * (K+1)≤3 * (K+1):=Nat.mul_le_mul_right _ (by omega)
  clear hp ha
  by_cases ht:0 < t
  ·obtain ⟨tn,rfl⟩:∃ tn,t=tn+1:=⟨t - 1,by omega⟩
   have hmc2:m * (Ce+2)≤2 * (Ce+2):=Nat.mul_le_mul_right _ (by omega)
   have htn:tn≤2:=by omega
   have htz:(tn:Int) < 3:=by omega
   have hti:(0:Int) < (tn:Int)+1:=by omega
   have ecast:((tn+1:Nat):Int)=(tn:Int)+1:=by omega
   have hwd:IntKind.i64.wrap (d - 1)=d - 1:=by rw [IntKind.wrap_i64];omega
   have hwt:IntKind.i64.wrap ((tn:Int)+1 - 1)=tn:=by rw [IntKind.wrap_i64];omega
   have hwt2:IntKind.i64.wrap (tn:Int)=tn:=by rw [IntKind.wrap_i64];omega
   rw [ecast]
   go_wp2_with fail
   obtain ⟨c,hc⟩:∃ c:Rc,c=⟨⟨R,G,ns,fs,c0,sz0,p0⟩,d,tn,x,w.heap.size,u5,w,K,Ce,m,0+1+m * (Ce+2),u15,u16⟩:=⟨_,rfl⟩
   have HDR:=hid ((Below.refl wr.heap.size wr).drew)
   subst hc
   refine wp_region_inv (by kernel_rfl) (RI ⟨⟨R,G,ns,fs,c0,sz0,p0⟩,d,tn,x,w.heap.size,u5,w,K,Ce,m,0+1+m * (Ce+2),u15,u16⟩) ?_ ?_ (lt_of_check (by kernel_rfl)) ?_
   ·refine ⟨⟨fun n=>if n=5 then u5 else (#[u17,u18,u19,u20,u21,u22,u23,u24,u25,u26,u27,u28,u29,u30,u31,u32,u33,u34,u35,u36,u37,u38,u39,u40,u41,u42,u43,u44]:Array Value).getD (n - 17) undef,rfl,fun _=>rfl,fun k _ hk _=>?_⟩,⟨fun _=>HA.out.next HDR.out,fun _=>(HA.out.next HDR.out).mono (by simp only;omega),fun _=>(HA.out.next HDR.out).mono (by simp only;omega),(HA.out.next HDR.out).mono (by simp only;omega)⟩,fun hk=>?_,fun _=>HP.out.gk (HA.out.gk_next HDR.out),HA.out.gk.size⟩
    ·rw [repl_getD] at hk;cases hk
    ·rw [repl_getD] at hk;cases hk
   ·intro l a wv i o hl hcl hI ho h0 hall
    obtain ⟨⟨u,rfl,h5,hphi⟩,hat,hall27,hpv,hold⟩:=hI
    have hs29:l.size=29:=hl
    have hi:i < 29:=(Array.getElem?_eq_some_iff.1 ho).1
    simp only at h5 hpv hold
    refine wpOp_via fun K' hK=>?_
    have h7:i=0∨i=1∨i=2∨i=3∨i=4∨i=5∨i=6∨i=7∨i=8∨i=9∨i=10∨i=11∨i=12∨i=13∨i=14∨i=15∨i=16∨i=17∨i=18∨i=19∨i=20∨i=21∨i=22∨i=23∨i=24∨i=25∨i=26∨i=27∨i=28:=by omega
    rcases h7 with rfl | rfl | rfl | rfl | rfl | rfl | rfl | rfl | rfl | rfl | rfl | rfl | rfl | rfl | rfl | rfl | rfl | rfl | rfl | rfl | rfl | rfl | rfl | rfl | rfl | rfl | rfl | rfl | rfl
    ·have ee:some _=some o:=ho
     injection ee with ee
     subst ee
     have h27:l.getD 27 false=false:=by
      cases hx:l.getD 27 false with
      | false=>rfl
      | true=>have h:=hall27 hx 0 (by omega);rw [unl h0] at h;cases h
     have h28:l.getD 28 false=false:=by
      cases hx:l.getD 28 false with
      | false=>rfl
      | true=>have h:=hcl 28 _ rfl hx { on:=27,ground:=.data } (by simp) rfl;rw [h27] at h;cases h
     have e5:u 5=u5:=h5 h28
     simp only [TA,e5]
     refine wpOp_run rfl rfl ?_
     go_simp
     refine hK _ _ ?_
     exact RI.put (u5) (by omega) (by omega) (by omega) h5 hphi hall27 hpv hold (by simp [TA,upd,dstR,e5]) (Gk.refl _ _) (hat.keep 0 (Below.refl _ _)) rfl
    ·have ee:some _=some o:=ho
     injection ee with ee
     subst ee
     have h27:l.getD 27 false=false:=by
      cases hx:l.getD 27 false with
      | false=>rfl
      | true=>have h:=hall27 hx 1 (by omega);rw [unl h0] at h;cases h
     simp only [TA]
     refine wpOp_run rfl rfl ?_
     go_simp
     refine hK _ _ ?_
     exact RI.put (.slice (some ⟨wv.heap.size,0,none⟩) 2 2) (by omega) (by omega) (by omega) h5 hphi hall27 hpv hold (by simp [TA,upd,dstR]) (hat.fz.gk_next ((Below.refl wv.heap.size wv).alloc (Nat.le_refl _) _)) (hat.keep 1 ((Below.refl wv.heap.size wv).alloc (Nat.le_refl _) _)) ⟨_,rfl,heap_alloc_new wv _⟩
    ·have ee:some _=some o:=ho
     injection ee with ee
     subst ee
     have h27:l.getD 27 false=false:=by
      cases hx:l.getD 27 false with
      | false=>rfl
      | true=>have h:=hall27 hx 2 (by omega);rw [unl h0] at h;cases h
     simp only [TA]
     refine wpOp_run rfl rfl ?_
     go_simp
     refine hK _ _ ?_
     exact RI.put (.pointer (some ⟨G,0,none⟩)) (by omega) (by omega) (by omega) h5 hphi hall27 hpv hold (by simp [TA,upd,dstR]) (Gk.refl _ _) (hat.keep 2 (Below.refl _ _)) rfl
    ·have ee:some _=some o:=ho
     injection ee with ee
     subst ee
     have h27:l.getD 27 false=false:=by
      cases hx:l.getD 27 false with
      | false=>rfl
      | true=>have h:=hall27 hx 3 (by omega);rw [unl h0] at h;cases h
     have p2:l.getD 2 false=true:=hall { on:=2,ground:=.data } (by simp) rfl
     have e19:u 19=.pointer (some ⟨G,0,none⟩):=hphi 2 (by omega) p2 (.inl h27)
     simp only [TA,e19]
     refine wpOp_run rfl rfl ?_
     go_simp
     refine hK _ _ ?_
     exact RI.put (.pointer (some ⟨G,0,none⟩)) (by omega) (by omega) (by omega) h5 hphi hall27 hpv hold (by simp [TA,upd,dstR,e19]) (Gk.refl _ _) (hat.keep 3 (Below.refl _ _)) rfl
    ·have ee:some _=some o:=ho
     injection ee with ee
     subst ee
     have h27:l.getD 27 false=false:=by
      cases hx:l.getD 27 false with
      | false=>rfl
      | true=>have h:=hall27 hx 4 (by omega);rw [unl h0] at h;cases h
     have p3:l.getD 3 false=true:=hall { on:=3,ground:=.data } (by simp) rfl
     have e20:u 20=.pointer (some ⟨G,0,none⟩):=hphi 3 (by omega) p3 (.inl h27)
     simp only [TA,e20]
     refine wpOp_run rfl rfl ?_
     go_simp
     refine hK _ _ ?_
     exact RI.put (.pointer (some ⟨G,0,none⟩)) (by omega) (by omega) (by omega) h5 hphi hall27 hpv hold (by simp [TA,upd,dstR,e20]) (Gk.refl _ _) (hat.keep 4 (Below.refl _ _)) rfl
    ·have ee:some _=some o:=ho
     injection ee with ee
     subst ee
     have h27:l.getD 27 false=false:=by
      cases hx:l.getD 27 false with
      | false=>rfl
      | true=>have h:=hall27 hx 5 (by omega);rw [unl h0] at h;cases h
     have p4:l.getD 4 false=true:=hall { on:=4,ground:=.data } (by simp) rfl
     have e21:u 21=.pointer (some ⟨G,0,none⟩):=hphi 4 (by omega) p4 (.inl h27)
     have cg:=hat.fz.g0
     simp only at cg
     simp only [TA,e21]
     refine wpOp_run rfl rfl ?_
     go_simp
     refine hK _ _ ?_
     exact RI.put (.pointer (some ⟨R,0,none⟩)) (by omega) (by omega) (by omega) h5 hphi hall27 hpv hold (by simp [TA,upd,dstR,e21]) (Gk.refl _ _) (hat.keep 5 (Below.refl _ _)) rfl
    ·have ee:some _=some o:=ho
     injection ee with ee
     subst ee
     have h27:l.getD 27 false=false:=by
      cases hx:l.getD 27 false with
      | false=>rfl
      | true=>have h:=hall27 hx 6 (by omega);rw [unl h0] at h;cases h
     have p5:l.getD 5 false=true:=hall { on:=5,ground:=.data } (by simp) rfl
     have e22:u 22=.pointer (some ⟨R,0,none⟩):=hphi 5 (by omega) p5 (.inl h27)
     simp only [TA,e22]
     refine wpOp_enter rfl rfl (f:=8) (vals:=#[.pointer (some ⟨R,0,none⟩),.int .i64 2]) (by kernel_rfl) (pick_at (hat.f6 (unl h0)) (HR.out.sub (by simp only;omega)) 2 (by omega)) ?_
     rintro e w1 ⟨n1,rfl,hn1,at1,gk1⟩
     refine ⟨_,rfl,hK _ _ ?_⟩
     exact RI.put (.int .i64 n1) (by omega) (by omega) (by omega) h5 hphi hall27 hpv hold (by simp [TA,upd,dstR,Act.put,e22]) gk1 ⟨fun h=>(by rw [lst (by omega)] at h;cases h),fun _=>at1,fun _=>at1.mono (by simp only;omega),at1.mono (by simp only;omega)⟩ ⟨n1,rfl,by omega⟩
    ·have ee:some _=some o:=ho
     injection ee with ee
     subst ee
     have h27:l.getD 27 false=false:=by
      cases hx:l.getD 27 false with
      | false=>rfl
      | true=>have h:=hall27 hx 7 (by omega);rw [unl h0] at h;cases h
     have p1:l.getD 1 false=true:=hall { on:=1,ground:=.data } (by simp) rfl
     obtain ⟨b1,e18,hb1⟩:∃ b,u 18=.slice (some ⟨b,0,none⟩) 2 2∧wv.heap[b]?=some (.cells #[.string ⟨#[98]⟩,.string ⟨#[95]⟩] 9 (0,0)):=hphi 1 (by omega) p1 (.inl h27)
     have p6:l.getD 6 false=true:=hall { on:=6,ground:=.data } (by simp) rfl
     obtain ⟨n6,e23,hn6⟩:∃ n:Nat,u 23=.int .i64 n∧n < 2:=hphi 6 (by omega) p6 (.inl h27)
     have hz6:(n6:Int) < 2:=by omega
     simp only [TA,e18,e23]
     refine wpOp_run rfl rfl ?_
     go_simp
     refine hK _ _ ?_
     exact RI.put (.pointer (some ⟨b1,n6,none⟩)) (by omega) (by omega) (by omega) h5 hphi hall27 hpv hold (by simp [TA,upd,dstR,e18,e23]) (Gk.refl _ _) (hat.keep 7 (Below.refl _ _)) ⟨b1,n6,hn6,rfl,hb1⟩
    ·have ee:some _=some o:=ho
     injection ee with ee
     subst ee
     have h27:l.getD 27 false=false:=by
      cases hx:l.getD 27 false with
      | false=>rfl
      | true=>have h:=hall27 hx 8 (by omega);rw [unl h0] at h;cases h
     have p7:l.getD 7 false=true:=hall { on:=7,ground:=.data } (by simp) rfl
     obtain ⟨b7,n7,hn7,e24,hb7⟩:∃ b n,n < 2∧u 24=.pointer (some ⟨b,n,none⟩)∧wv.heap[b]?=some (.cells #[.string ⟨#[98]⟩,.string ⟨#[95]⟩] 9 (0,0)):=hphi 7 (by omega) p7 (.inl h27)
     obtain ⟨y,cy,hy⟩:∃ y:ByteArray,wv.cell? ⟨b7,n7,none⟩=some (.string y)∧y.size≤1000:=by
      rw [cell_hp hb7]
      have h7:n7=0∨n7=1:=by omega
      rcases h7 with rfl | rfl <;> exact ⟨_,rfl,by decide⟩
     simp only [TA,e24]
     refine wpOp_run rfl rfl ?_
     go_simp
     refine hK _ _ ?_
     exact RI.put (.string y) (by omega) (by omega) (by omega) h5 hphi hall27 hpv hold (by simp [TA,upd,dstR,e24]) (Gk.refl _ _) (hat.keep 8 (Below.refl _ _)) ⟨y,rfl,hy⟩
    ·have ee:some _=some o:=ho
     injection ee with ee
     subst ee
     have h27:l.getD 27 false=false:=by
      cases hx:l.getD 27 false with
      | false=>rfl
      | true=>have h:=hall27 hx 9 (by omega);rw [unl h0] at h;cases h
     have p8:l.getD 8 false=true:=hall { on:=8,ground:=.data } (by simp) rfl
     obtain ⟨y8,e25,hy8⟩:∃ y:ByteArray,u 25=.string y∧y.size≤1000:=hphi 8 (by omega) p8 (.inl h27)
     simp only [TA,e25]
     refine wpOp_run rfl rfl ?_
     go_simp
     refine hK _ _ ?_
     exact RI.put (.slice (some ⟨wv.heap.size,0,none⟩) 3 3) (by omega) (by omega) (by omega) h5 hphi hall27 hpv hold (by simp [TA,upd,dstR,e25]) (hat.fz.gk_next ((Below.refl wv.heap.size wv).alloc (Nat.le_refl _) _)) (hat.keep 9 ((Below.refl wv.heap.size wv).alloc (Nat.le_refl _) _)) ⟨_,y8,rfl,heap_alloc_new wv _,hy8⟩
    ·have ee:some _=some o:=ho
     injection ee with ee
     subst ee
     have h27:l.getD 27 false=false:=by
      cases hx:l.getD 27 false with
      | false=>rfl
      | true=>have h:=hall27 hx 10 (by omega);rw [unl h0] at h;cases h
     simp only [TA]
     refine wpOp_run rfl rfl ?_
     go_simp
     refine hK _ _ ?_
     exact RI.put (.int .i64 ((tn:Int)+1)) (by omega) (by omega) (by omega) h5 hphi hall27 hpv hold (by simp [TA,upd,dstR]) (Gk.refl _ _) (hat.keep 10 (Below.refl _ _)) rfl
    ·have ee:some _=some o:=ho
     injection ee with ee
     subst ee
     have h27:l.getD 27 false=false:=by
      cases hx:l.getD 27 false with
      | false=>rfl
      | true=>have h:=hall27 hx 11 (by omega);rw [unl h0] at h;cases h
     have p10:l.getD 10 false=true:=hall { on:=10,ground:=.data } (by simp) rfl
     have e27:u 27=.int .i64 ((tn:Int)+1):=hphi 10 (by omega) p10 (.inl h27)
     simp only [TA,e27]
     refine wpOp_run rfl rfl ?_
     go_simp
     refine hK _ _ ?_
     exact RI.put (.int .i64 tn) (by omega) (by omega) (by omega) h5 hphi hall27 hpv hold (by simp [TA,upd,dstR,e27]) (Gk.refl _ _) (hat.keep 11 (Below.refl _ _)) rfl
    ·have ee:some _=some o:=ho
     injection ee with ee
     subst ee
     have h27:l.getD 27 false=false:=by
      cases hx:l.getD 27 false with
      | false=>rfl
      | true=>have h:=hall27 hx 12 (by omega);rw [unl h0] at h;cases h
     have p9:l.getD 9 false=true:=hall { on:=9,ground:=.data } (by simp) rfl
     obtain ⟨b9,y9,e26,hb9,hy9⟩:∃ b y,u 26=.slice (some ⟨b,0,none⟩) 3 3∧wv.heap[b]?=some (.cells #[.string ⟨#[97]⟩,.string y,.string ⟨#[99,32,100]⟩] 9 (0,0))∧y.size≤1000:=hphi 9 (by omega) p9 (.inl h27)
     have p11:l.getD 11 false=true:=hall { on:=11,ground:=.data } (by simp) rfl
     have e28:u 28=.int .i64 tn:=hphi 11 (by omega) p11 (.inl h27)
     simp only [TA,e26,e28]
     refine wpOp_run rfl rfl ?_
     go_simp
     refine hK _ _ ?_
     exact RI.put (.pointer (some ⟨b9,tn,none⟩)) (by omega) (by omega) (by omega) h5 hphi hall27 hpv hold (by simp [TA,upd,dstR,e26,e28]) (Gk.refl _ _) (hat.keep 12 (Below.refl _ _)) ⟨b9,y9,rfl,hb9,hy9⟩
    ·have ee:some _=some o:=ho
     injection ee with ee
     subst ee
     have h27:l.getD 27 false=false:=by
      cases hx:l.getD 27 false with
      | false=>rfl
      | true=>have h:=hall27 hx 13 (by omega);rw [unl h0] at h;cases h
     have p12:l.getD 12 false=true:=hall { on:=12,ground:=.data } (by simp) rfl
     obtain ⟨b12,y12,e29,hb12,hy12⟩:∃ b y,u 29=.pointer (some ⟨b,tn,none⟩)∧wv.heap[b]?=some (.cells #[.string ⟨#[97]⟩,.string y,.string ⟨#[99,32,100]⟩] 9 (0,0))∧y.size≤1000:=hphi 12 (by omega) p12 (.inl h27)
     obtain ⟨y,cy,hy⟩:∃ y:ByteArray,wv.cell? ⟨b12,tn,none⟩=some (.string y)∧y.size≤1000:=by
      rw [cell_hp hb12]
      have h7:tn=0∨tn=1∨tn=2:=by omega
      rcases h7 with rfl | rfl | rfl
      ·exact ⟨_,rfl,by decide⟩
      ·exact ⟨_,rfl,hy12⟩
      ·exact ⟨_,rfl,by decide⟩
     simp only [TA,e29]
     refine wpOp_run rfl rfl ?_
     go_simp
     refine hK _ _ ?_
     exact RI.put (.string y) (by omega) (by omega) (by omega) h5 hphi hall27 hpv hold (by simp [TA,upd,dstR,e29]) (Gk.refl _ _) (hat.keep 13 (Below.refl _ _)) ⟨y,rfl,hy⟩
    ·have ee:some _=some o:=ho
     injection ee with ee
     subst ee
     have h27:l.getD 27 false=false:=by
      cases hx:l.getD 27 false with
      | false=>rfl
      | true=>have h:=hall27 hx 14 (by omega);rw [unl h0] at h;cases h
     have p13:l.getD 13 false=true:=hall { on:=13,ground:=.data } (by simp) rfl
     obtain ⟨y13,e30,hy13⟩:∃ y:ByteArray,u 30=.string y∧y.size≤1000:=hphi 13 (by omega) p13 (.inl h27)
     simp only [TA,e30]
     refine wpOp_run rfl rfl ?_
     go_simp
     refine hK _ _ ?_
     exact RI.put (.agg #[.int .i64 17,.int .i64 0,.int .i64 0,.string y13,.int .i64 0]) (by omega) (by omega) (by omega) h5 hphi hall27 hpv hold (by simp [TA,upd,dstR,e30]) (Gk.refl _ _) (hat.keep 14 (Below.refl _ _)) ⟨y13,rfl,hy13⟩
    ·have ee:some _=some o:=ho
     injection ee with ee
     subst ee
     have h27:l.getD 27 false=false:=by
      cases hx:l.getD 27 false with
      | false=>rfl
      | true=>have h:=hall27 hx 15 (by omega);rw [unl h0] at h;cases h
     simp only [TA]
     refine wpOp_run rfl rfl ?_
     go_simp
     refine hK _ _ ?_
     exact RI.put (.pointer (some ⟨G,0,none⟩)) (by omega) (by omega) (by omega) h5 hphi hall27 hpv hold (by simp [TA,upd,dstR]) (Gk.refl _ _) (hat.keep 15 (Below.refl _ _)) rfl
    ·have ee:some _=some o:=ho
     injection ee with ee
     subst ee
     have h27:l.getD 27 false=false:=by
      cases hx:l.getD 27 false with
      | false=>rfl
      | true=>have h:=hall27 hx 16 (by omega);rw [unl h0] at h;cases h
     simp only [TA]
     refine wpOp_run rfl rfl ?_
     go_simp
     refine hK _ _ ?_
     exact RI.put (.pointer (some ⟨G,0,none⟩)) (by omega) (by omega) (by omega) h5 hphi hall27 hpv hold (by simp [TA,upd,dstR]) (Gk.refl _ _) (hat.keep 16 (Below.refl _ _)) rfl
    ·have ee:some _=some o:=ho
     injection ee with ee
     subst ee
     have h27:l.getD 27 false=false:=by
      cases hx:l.getD 27 false with
      | false=>rfl
      | true=>have h:=hall27 hx 17 (by omega);rw [unl h0] at h;cases h
     have p16:l.getD 16 false=true:=hall { on:=16,ground:=.data } (by simp) rfl
     have e33:u 33=.pointer (some ⟨G,0,none⟩):=hphi 16 (by omega) p16 (.inl h27)
     simp only [TA,e33]
     refine wpOp_run rfl rfl ?_
     go_simp
     refine hK _ _ ?_
     exact RI.put (.pointer (some ⟨G,0,none⟩)) (by omega) (by omega) (by omega) h5 hphi hall27 hpv hold (by simp [TA,upd,dstR,e33]) (Gk.refl _ _) (hat.keep 17 (Below.refl _ _)) rfl
    ·have ee:some _=some o:=ho
     injection ee with ee
     subst ee
     have h27:l.getD 27 false=false:=by
      cases hx:l.getD 27 false with
      | false=>rfl
      | true=>have h:=hall27 hx 18 (by omega);rw [unl h0] at h;cases h
     have p17:l.getD 17 false=true:=hall { on:=17,ground:=.data } (by simp) rfl
     have e34:u 34=.pointer (some ⟨G,0,none⟩):=hphi 17 (by omega) p17 (.inl h27)
     simp only [TA,e34]
     refine wpOp_run rfl rfl ?_
     go_simp
     refine hK _ _ ?_
     exact RI.put (.pointer (some ⟨G,0,none⟩)) (by omega) (by omega) (by omega) h5 hphi hall27 hpv hold (by simp [TA,upd,dstR,e34]) (Gk.refl _ _) (hat.keep 18 (Below.refl _ _)) rfl
    ·have ee:some _=some o:=ho
     injection ee with ee
     subst ee
     have h27:l.getD 27 false=false:=by
      cases hx:l.getD 27 false with
      | false=>rfl
      | true=>have h:=hall27 hx 19 (by omega);rw [unl h0] at h;cases h
     have p18:l.getD 18 false=true:=hall { on:=18,ground:=.data } (by simp) rfl
     have e35:u 35=.pointer (some ⟨G,0,none⟩):=hphi 18 (by omega) p18 (.inl h27)
     have cg:=hat.fz.g0
     simp only at cg
     simp only [TA,e35]
     refine wpOp_run rfl rfl ?_
     go_simp
     refine hK _ _ ?_
     exact RI.put (.pointer (some ⟨R,0,none⟩)) (by omega) (by omega) (by omega) h5 hphi hall27 hpv hold (by simp [TA,upd,dstR,e35]) (Gk.refl _ _) (hat.keep 19 (Below.refl _ _)) rfl
    ·have ee:some _=some o:=ho
     injection ee with ee
     subst ee
     have h27:l.getD 27 false=false:=by
      cases hx:l.getD 27 false with
      | false=>rfl
      | true=>have h:=hall27 hx 20 (by omega);rw [unl h0] at h;cases h
     have p19:l.getD 19 false=true:=hall { on:=19,ground:=.data } (by simp) rfl
     have e36:u 36=.pointer (some ⟨R,0,none⟩):=hphi 19 (by omega) p19 (.inl h27)
     have q6:l.getD 6 false=true:=hall { on:=6,ground:=.chain } (by simp) rfl
     simp only [TA,e36]
     refine wpOp_enter rfl rfl (f:=8) (vals:=#[.pointer (some ⟨R,0,none⟩),.int .i64 5]) (by kernel_rfl) (pick_at (hat.f20 (unl h0)) (HR.out.sub (by simp only;omega)) 5 (by omega)) ?_
     rintro e w1 ⟨n1,rfl,hn1,at1,gk1⟩
     refine ⟨_,rfl,hK _ _ ?_⟩
     exact RI.put (.int .i64 n1) (by omega) (by omega) (by omega) h5 hphi hall27 hpv hold (by simp [TA,upd,dstR,Act.put,e36]) gk1 ⟨fun h=>(by rw [getD_set_true q6] at h;cases h),fun h=>(by rw [lst (by omega)] at h;cases h),fun _=>at1,at1.mono (by simp only;omega)⟩ ⟨n1,rfl⟩
    ·have ee:some _=some o:=ho
     injection ee with ee
     subst ee
     have h27:l.getD 27 false=false:=by
      cases hx:l.getD 27 false with
      | false=>rfl
      | true=>have h:=hall27 hx 21 (by omega);rw [unl h0] at h;cases h
     simp only [TA]
     refine wpOp_run rfl rfl ?_
     go_simp
     refine hK _ _ ?_
     exact RI.put (.int .i64 d) (by omega) (by omega) (by omega) h5 hphi hall27 hpv hold (by simp [TA,upd,dstR]) (Gk.refl _ _) (hat.keep 21 (Below.refl _ _)) rfl
    ·have ee:some _=some o:=ho
     injection ee with ee
     subst ee
     have h27:l.getD 27 false=false:=by
      cases hx:l.getD 27 false with
      | false=>rfl
      | true=>have h:=hall27 hx 22 (by omega);rw [unl h0] at h;cases h
     have p21:l.getD 21 false=true:=hall { on:=21,ground:=.data } (by simp) rfl
     have e38:u 38=.int .i64 d:=hphi 21 (by omega) p21 (.inl h27)
     simp only [TA,e38]
     refine wpOp_run rfl rfl ?_
     go_simp
     refine hK _ _ ?_
     exact RI.put (.int .i64 (d - 1)) (by omega) (by omega) (by omega) h5 hphi hall27 hpv hold (by simp [TA,upd,dstR,e38]) (Gk.refl _ _) (hat.keep 22 (Below.refl _ _)) rfl
    ·have ee:some _=some o:=ho
     injection ee with ee
     subst ee
     have h27:l.getD 27 false=false:=by
      cases hx:l.getD 27 false with
      | false=>rfl
      | true=>have h:=hall27 hx 23 (by omega);rw [unl h0] at h;cases h
     have p15:l.getD 15 false=true:=hall { on:=15,ground:=.data } (by simp) rfl
     have e32:u 32=.pointer (some ⟨G,0,none⟩):=hphi 15 (by omega) p15 (.inl h27)
     have p20:l.getD 20 false=true:=hall { on:=20,ground:=.data } (by simp) rfl
     obtain ⟨n20,e37⟩:∃ n:Nat,u 37=.int .i64 n:=hphi 20 (by omega) p20 (.inl h27)
     have p22:l.getD 22 false=true:=hall { on:=22,ground:=.data } (by simp) rfl
     have e39:u 39=.int .i64 (d - 1):=hphi 22 (by omega) p22 (.inl h27)
     have q20:l.getD 20 false=true:=hall { on:=20,ground:=.chain } (by simp) rfl
     have p6:=hcl 20 _ rfl p20 { on:=6,ground:=.chain } (by simp) rfl
     simp only [TA,e32,e37,e39]
     refine wpOp_enter rfl rfl (f:=83) (vals:=#[.pointer (some ⟨G,0,none⟩),.int .i64 n20,.int .i64 (d - 1)]) (by kernel_rfl) (e_at HE.out (hat.f23 (unl h0)) (HR.out.sub (by simp only;omega)) n20) ?_
     intro e w1 hh
     obtain ⟨g1,m1,k1,rfl,l1,at1,gk1⟩:=hh.get
     refine ⟨_,rfl,hK _ _ ?_⟩
     exact RI.put (.slice (some ⟨g1,0,none⟩) m1 k1) (by omega) (by omega) (by omega) h5 hphi hall27 hpv hold (by simp [TA,upd,dstR,Act.put,e32,e37,e39]) gk1 ⟨fun h=>(by rw [getD_set_true p6] at h;cases h),fun h=>(by rw [getD_set_true p20] at h;cases h),fun h=>(by rw [lst (by omega)] at h;cases h),at1⟩ ⟨g1,m1,k1,rfl,l1⟩
    ·have ee:some _=some o:=ho
     injection ee with ee
     subst ee
     have h27:l.getD 27 false=false:=by
      cases hx:l.getD 27 false with
      | false=>rfl
      | true=>have h:=hall27 hx 24 (by omega);rw [unl h0] at h;cases h
     have p23:l.getD 23 false=true:=hall { on:=23,ground:=.data } (by simp) rfl
     obtain ⟨g23,n23,k23,e40,hl23⟩:HasS K wv (u 40):=hphi 23 (by omega) p23 (.inl h27)
     simp only [TA,e40]
     refine wpOp_run rfl rfl ?_
     go_simp
     refine hK _ _ ?_
     exact RI.put (.slice (some ⟨wv.heap.size,0,none⟩) 1 1) (by omega) (by omega) (by omega) h5 hphi hall27 hpv hold (by simp [TA,upd,dstR,e40]) (hat.fz.gk_next ((Below.refl wv.heap.size wv).alloc (Nat.le_refl _) _)) (hat.keep 24 ((Below.refl wv.heap.size wv).alloc (Nat.le_refl _) _)) ⟨_,_,rfl,heap_alloc_new wv _,⟨g23,n23,k23,rfl,(e40 ▸ hl23:Has K wv (.slice (some ⟨g23,0,none⟩) n23 k23)).gk (hat.fz.gk_next ((Below.refl wv.heap.size wv).alloc (Nat.le_refl _) _))⟩⟩
    ·have ee:some _=some o:=ho
     injection ee with ee
     subst ee
     have h27:l.getD 27 false=false:=by
      cases hx:l.getD 27 false with
      | false=>rfl
      | true=>have h:=hall27 hx 25 (by omega);rw [unl h0] at h;cases h
     have p14:l.getD 14 false=true:=hall { on:=14,ground:=.data } (by simp) rfl
     obtain ⟨y14,e31,hy14⟩:∃ y:ByteArray,u 31=.agg #[.int .i64 17,.int .i64 0,.int .i64 0,.string y,.int .i64 0]∧y.size≤1000:=hphi 14 (by omega) p14 (.inl h27)
     have p24:l.getD 24 false=true:=hall { on:=24,ground:=.data } (by simp) rfl
     obtain ⟨b24,v24,e41,hb24,hv24⟩:∃ b v,u 41=.slice (some ⟨b,0,none⟩) 1 1∧wv.heap[b]?=some (.cells #[v] 48 (0,0))∧HasS K wv v:=hphi 24 (by omega) p24 (.inl h27)
     have q23:l.getD 23 false=true:=hall { on:=23,ground:=.chain } (by simp) rfl
     have p20:=hcl 23 _ rfl q23 { on:=20,ground:=.data } (by simp) rfl
     have p6:=hcl 20 _ rfl p20 { on:=6,ground:=.chain } (by simp) rfl
     obtain ⟨gx,nx,kx,ex,hlx⟩:=hv24
     simp only [TA,e31,e41]
     refine wpOp_enter rfl rfl (f:=61) (vals:=#[.agg #[.int .i64 17,.int .i64 0,.int .i64 0,.string y14,.int .i64 0],.slice (some ⟨b24,0,none⟩) 1 1]) (by kernel_rfl) (over1_in (g:=b24) hat.fz ⟨17,0,0,y14,0⟩ v24 hb24 hlx hy14 (by omega)) ?_
     intro e w1 hh
     obtain ⟨g1,m1,k1,rfl,l1,at1,gk1⟩:=hh.get
     refine ⟨_,rfl,hK _ _ ?_⟩
     exact RI.put (.slice (some ⟨g1,0,none⟩) m1 k1) (by omega) (by omega) (by omega) h5 hphi hall27 hpv hold (by simp [TA,upd,dstR,Act.put,e31,e41]) gk1 ⟨fun h=>(by rw [getD_set_true p6] at h;cases h),fun h=>(by rw [getD_set_true p20] at h;cases h),fun h=>(by rw [getD_set_true q23] at h;cases h),at1⟩ ⟨g1,m1,k1,rfl,l1⟩
    ·have ee:some _=some o:=ho
     injection ee with ee
     subst ee
     have h27:l.getD 27 false=false:=by
      cases hx:l.getD 27 false with
      | false=>rfl
      | true=>have h:=hall27 hx 26 (by omega);rw [unl h0] at h;cases h
     have p25:l.getD 25 false=true:=hall { on:=25,ground:=.data } (by simp) rfl
     obtain ⟨g25,n25,k25,e42,hl25⟩:HasS (K+1) wv (u 42):=hphi 25 (by omega) p25 (.inl h27)
     simp only [TA,e42]
     refine wpOp_run rfl rfl ?_
     go_simp
     refine hK _ _ ?_
     exact RI.put (.slice (some ⟨wv.heap.size,0,none⟩) 1 1) (by omega) (by omega) (by omega) h5 hphi hall27 hpv hold (by simp [TA,upd,dstR,e42]) (hat.fz.gk_next ((Below.refl wv.heap.size wv).alloc (Nat.le_refl _) _)) (hat.keep 26 ((Below.refl wv.heap.size wv).alloc (Nat.le_refl _) _)) ⟨_,_,rfl,heap_alloc_new wv _,⟨g25,n25,k25,rfl,(e42 ▸ hl25:Has (K+1) wv (.slice (some ⟨g25,0,none⟩) n25 k25)).gk (hat.fz.gk_next ((Below.refl wv.heap.size wv).alloc (Nat.le_refl _) _))⟩⟩
    ·have ee:some _=some o:=ho
     injection ee with ee
     subst ee
     have h27:l.getD 27 false=false:=unl h0
     have p0:l.getD 0 false=true:=hall { on:=0,ground:=.data } (by simp) rfl
     have e17:u 17=u5:=hphi 0 (by omega) p0 (.inl h27)
     have p26:l.getD 26 false=true:=hall { on:=26,ground:=.data } (by simp) rfl
     obtain ⟨b26,v26,e43,hb26,hv26⟩:∃ b v,u 43=.slice (some ⟨b,0,none⟩) 1 1∧wv.heap[b]?=some (.cells #[v] 48 (0,0))∧HasS (K+1) wv v:=hphi 26 (by omega) p26 (.inl h27)
     have q25:l.getD 25 false=true:=hall { on:=25,ground:=.chain } (by simp) rfl
     have r14:l.getD 14 false=true:=hcl 25 _ rfl q25 { on:=14,ground:=.data } (by simp) rfl
     have r24:l.getD 24 false=true:=hcl 25 _ rfl q25 { on:=24,ground:=.data } (by simp) rfl
     have r23:l.getD 23 false=true:=hcl 24 _ rfl r24 { on:=23,ground:=.data } (by simp) rfl
     have r15:l.getD 15 false=true:=hcl 23 _ rfl r23 { on:=15,ground:=.data } (by simp) rfl
     have r20:l.getD 20 false=true:=hcl 23 _ rfl r23 { on:=20,ground:=.data } (by simp) rfl
     have r22:l.getD 22 false=true:=hcl 23 _ rfl r23 { on:=22,ground:=.data } (by simp) rfl
     have r21:l.getD 21 false=true:=hcl 22 _ rfl r22 { on:=21,ground:=.data } (by simp) rfl
     have r19:l.getD 19 false=true:=hcl 20 _ rfl r20 { on:=19,ground:=.data } (by simp) rfl
     have r18:l.getD 18 false=true:=hcl 19 _ rfl r19 { on:=18,ground:=.data } (by simp) rfl
     have r17:l.getD 17 false=true:=hcl 18 _ rfl r18 { on:=17,ground:=.data } (by simp) rfl
     have r16:l.getD 16 false=true:=hcl 17 _ rfl r17 { on:=16,ground:=.data } (by simp) rfl
     have r6:l.getD 6 false=true:=hcl 20 _ rfl r20 { on:=6,ground:=.chain } (by simp) rfl
     have r13:l.getD 13 false=true:=hcl 14 _ rfl r14 { on:=13,ground:=.data } (by simp) rfl
     have r12:l.getD 12 false=true:=hcl 13 _ rfl r13 { on:=12,ground:=.data } (by simp) rfl
     have r9:l.getD 9 false=true:=hcl 12 _ rfl r12 { on:=9,ground:=.data } (by simp) rfl
     have r11:l.getD 11 false=true:=hcl 12 _ rfl r12 { on:=11,ground:=.data } (by simp) rfl
     have r10:l.getD 10 false=true:=hcl 11 _ rfl r11 { on:=10,ground:=.data } (by simp) rfl
     have r8:l.getD 8 false=true:=hcl 9 _ rfl r9 { on:=8,ground:=.data } (by simp) rfl
     have r7:l.getD 7 false=true:=hcl 8 _ rfl r8 { on:=7,ground:=.data } (by simp) rfl
     have r1:l.getD 1 false=true:=hcl 7 _ rfl r7 { on:=1,ground:=.data } (by simp) rfl
     have r5:l.getD 5 false=true:=hcl 6 _ rfl r6 { on:=5,ground:=.data } (by simp) rfl
     have r4:l.getD 4 false=true:=hcl 5 _ rfl r5 { on:=4,ground:=.data } (by simp) rfl
     have r3:l.getD 3 false=true:=hcl 4 _ rfl r4 { on:=3,ground:=.data } (by simp) rfl
     have r2:l.getD 2 false=true:=hcl 3 _ rfl r3 { on:=2,ground:=.data } (by simp) rfl
     have hall2:∀ k,k < 27→l.getD k false=true:=by
      intro k hk
      have h7:k=0∨k=1∨k=2∨k=3∨k=4∨k=5∨k=6∨k=7∨k=8∨k=9∨k=10∨k=11∨k=12∨k=13∨k=14∨k=15∨k=16∨k=17∨k=18∨k=19∨k=20∨k=21∨k=22∨k=23∨k=24∨k=25∨k=26:=by omega
      rcases h7 with rfl | rfl | rfl | rfl | rfl | rfl | rfl | rfl | rfl | rfl | rfl | rfl | rfl | rfl | rfl | rfl | rfl | rfl | rfl | rfl | rfl | rfl | rfl | rfl | rfl | rfl | rfl
      ·exact p0
      ·exact r1
      ·exact r2
      ·exact r3
      ·exact r4
      ·exact r5
      ·exact r6
      ·exact r7
      ·exact r8
      ·exact r9
      ·exact r10
      ·exact r11
      ·exact r12
      ·exact r13
      ·exact r14
      ·exact r15
      ·exact r16
      ·exact r17
      ·exact r18
      ·exact r19
      ·exact r20
      ·exact r21
      ·exact r22
      ·exact r23
      ·exact r24
      ·exact q25
      ·exact p26
     obtain ⟨xs,ls,z1,z2,z3,z4,z5⟩:=hpv h27
     obtain ⟨gx,nx,kx,ex,hlx⟩:=hv26
     subst ex
     have cy:=cell_hp hb26 0
     simp at cy
     simp only [TA,e17,e43]
     refine wpOp_append rfl rfl (.tmp 17) (.tmp 43) 93 rfl w.heap.size 48 i0 (.slice none 0 0) 24 Tryz.underlying93 HHI.out.1 HHI.out.2.1 HHI.out.2.2.1 HHI.out.2.2.2 rfl u5 m xs (by simp [Act.eval]) z2 ⟨b26,0,none⟩ (.slice (some ⟨gx,0,none⟩) nx kx) (by simp [Act.eval]) cy rfl (by unfold maxLen;omega) (by omega) hold ?_
     intro v7 w7 o7 g7
     obtain ⟨ha7,hp7⟩:=Parts.more z1 z3 z4 z5 hlx hat.fz z2 g7 o7
     have e27:(l.setIfInBounds 27 true).getD 27 false=true:=lst (by omega)
     refine hK _ _ ⟨⟨upd u 44 v7,by simp [TA,upd,Act.put,e17,e43],fun h=>?_,fun k hk hl2 hc=>?_⟩,⟨fun h=>?_,fun h=>?_,fun h=>?_,ha7⟩,fun _ k hk=>getD_set_true (hall2 k hk),fun h=>?_,Nat.le_trans hold g7.size⟩
     ·have h28:=h5 (getD_unset h)
      have:upd u 44 v7 5=u 5:=rfl
      rw [this]
      exact h28
     ·have hk2:k=27∨k=28:=by
       rcases hc with hc | hc
       ·rw [e27] at hc;cases hc
       ·omega
      rcases hk2 with rfl | rfl
      ·exact hp7
      ·rw [getD_set_ne false (by omega)] at hl2
       have h:=hcl 28 _ rfl hl2 { on:=27,ground:=.data } (by simp) rfl
       rw [h27] at h
       cases h
     ·rw [getD_set_true r6] at h;cases h
     ·rw [getD_set_true r20] at h;cases h
     ·rw [getD_set_true r23] at h;cases h
     ·rw [e27] at h;cases h
    ·have ee:some _=some o:=ho
     injection ee with ee
     subst ee
     have p27:l.getD 27 false=true:=hall { on:=27,ground:=.data } (by simp) rfl
     have f27:Parts w wv (u 44) (m+1) (m * (K+1)+(K+1)):=hphi 27 (by omega) p27 (.inr (by omega))
     simp only [TA]
     refine wpOp_run rfl rfl ?_
     go_simp
     refine hK _ _ ?_
     exact RI.put (u 44) (by omega) (by omega) (by omega) h5 hphi hall27 hpv hold (by simp [TA,upd,dstR]) (Gk.refl _ _) (hat.keep 28 (Below.refl _ _)) f27
   ·intro l a wv hI hallk
    obtain ⟨⟨u,rfl,_,hphi⟩,hat,_,_,_⟩:=hI
    have h28:Parts w wv (u 5) (m+1) (m * (K+1)+(K+1)):=hphi 28 (by omega) (hallk 28 (by decide)) (.inr (by omega))
    have HP9:=hid h28
    have HA9:=hid hat.fz
    simp only at HA9
    obtain ⟨g9,c9,e9⟩:=h28.sl (by omega)
    simp only [TA]
    clear h28 hat hphi hallk
    go_wp2
    go_roundw
    case rel=>exact ⟨tn,m+1,by omega,by go_num,by rw [Nat.add_mul,Nat.one_mul];exact HP9.out,HA9.out.mono (by rw [Nat.add_mul];omega),by omega⟩
    case measure=>simp [intOf]
  ·obtain rfl:t=0:=by omega
   obtain ⟨adp,cp,hpe⟩:=HP.out.any
   subst hpe
   go_wp2_with fail
   refine (overQ_at HA.out ⟨9,0,0,⟨#[]⟩,0⟩ HP.out (by omega) (by show (⟨#[]⟩:ByteArray).size≤1000;decide) (by omega)).mono ?_
   intro e w6 hh
   obtain ⟨g6,n6,k6,rfl,l6,at6,gk6⟩:=hh.get
   have HL6:=hid l6
   have HA6:=hid at6
   clear hh l6 at6 gk6
   go_wp2
   go_ret
   exact HL6.out.fin HA6.out HA6.out.gk (by omega) (by omega)
theorem record_at {d:Int} {K Ce:Nat} (he:EOk (d - 1) K Ce) (hK:K≤10000) (hd:1≤d) (hd2:d≤10):RecOk d K Ce:=by
 intro s C w w' h hr
 obtain ⟨p',c',sz',h1,h2,h3,h4,h5,h6,h7,h8⟩:=h
 refine (record_root he hK hd hd2 ⟨s.R,s.G,s.ns,s.fs,c',sz',p'⟩ w' h7 ⟨by have:=hr.p;simp only;omega,by have:=hr.c;simp only;omega,by have:=hr.lo;simp only;omega,by have:=hr.hi;simp only;omega,by have:=hr.n;simp only;omega,hr.f⟩).mono ?_
 intro e w2 hh
 obtain ⟨g,n,k,rfl,l,at2,gk2⟩:=hh.get
 obtain ⟨k1,k2⟩:=At.comp h1 h2 h3 h4 h5 h6 h8 at2
 exact l.fin k1 k2 (Nat.le_refl _) (by omega)
theorem e_one:EOk 1 17 135:=by
 have h:EOk ((1:Int) - 1) 3 25:=by rw [show ((1:Int) - 1)=0 by decide];exact e_zero (d:=0) (by decide)
 exact e_step (d:=1) (K:=3) (Ce:=25) h (record_at h (by omega) (by decide) (by decide)) (by omega) (by decide) (by decide)
theorem e_two:EOk 2 59 465:=by
 have h:EOk ((2:Int) - 1) 17 135:=by rw [show ((2:Int) - 1)=1 by decide];exact e_one
 exact e_step (d:=2) (K:=17) (Ce:=135) h (record_at h (by omega) (by decide) (by decide)) (by omega) (by decide) (by decide)
theorem e_three:EOk 3 185 1455:=by
 have h:EOk ((3:Int) - 1) 59 465:=by rw [show ((3:Int) - 1)=2 by decide];exact e_two
 exact e_step (d:=3) (K:=59) (Ce:=465) h (record_at h (by omega) (by decide) (by decide)) (by omega) (by decide) (by decide)
theorem e_four:EOk 4 563 4425:=by
 have h:EOk ((4:Int) - 1) 185 1455:=by rw [show ((4:Int) - 1)=3 by decide];exact e_three
 exact e_step (d:=4) (K:=185) (Ce:=1455) h (record_at h (by omega) (by decide) (by decide)) (by omega) (by decide) (by decide)
end Go.Proofs.YtabbahpalemlhaaGreatDoor
