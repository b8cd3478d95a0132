import Derived.Laws.CopyOwn
import Derived.Deep.DeepCutAuto
import Derived.Deep.RegionHeld3
import Derived.Test.YtbkmglknbflkhaaGreatDoorJ00
import Derived.Test.YtbkmglknbflkhaaGreatDoorJ05
import Derived.Test.YtbkmglknbflkhaaGreatDoorJ04
namespace Go.Proofs.YtbkmglknbflkhaaGreatDoor.R
open Go.RowKit
set_option maxRecDepth 20000
set_option maxHeartbeats 4000000 in
theorem eqSInt_same (l:List Int) {u v:Value} {B:Nat} (w:World) (hx:l.length≤1048576) (k0:SIntR B w u l) (l0:SIntR B w v l) :
  Calls Tryz.prog 148 #[u,v] w fun e w'=>e=.returned (.bool true)∧Below w.heap.size w w':=by
 have H1:=hid k0
 have H2:=hid l0
 have HX:=hid hx
 have hN:l.length≤1048576:=hx
 obtain ⟨gu,rfl⟩:=k0.sl
 obtain ⟨gv,rfl⟩:=l0.sl
 clear k0 l0 hx
 have hne:((l.length:Int) != (l.length:Int))=false:=by simp
 go_enter Tryz.func148,Tryz.ntmps148
 go_wp2
 go_loopw [5] (fun i wr=>∃ j:Nat,j≤l.length∧i=.int .i64 j∧Below w.heap.size w wr) (fun i _=>l.length - (intOf i).toNat)
 case atStart=>exact ⟨0,Nat.zero_le _,rfl,Below.refl _ _⟩
 case round =>
  obtain ⟨j,hj,rfl,hbw⟩:=hrel
  have HBW:=hid hbw
  clear hbw
  by_cases hlt:j < l.length
  ·obtain ⟨g,e9,_,_,a0⟩:=(H1.out.next HBW.out).at hlt
   injection e9 with ea en ec
   injection ea with eb
   injection eb with ec2
   subst ec2
   obtain ⟨g2,e8,_,_,b0⟩:=(H2.out.next HBW.out).at hlt
   injection e8 with ea2 en2 ec3
   injection ea2 with eb2
   injection eb2 with ec4
   subst ec4
   clear en ec en2 ec3
   obtain ⟨x,hx⟩:∃ x,l.getD j 0=x:=⟨_,rfl⟩
   rw [hx] at a0 b0
   clear hx
   have h5:(x != x)=false:=by simp
   go_wp2_with fail
   go_quiet (fail)
   go_wp2
   go_roundw
   case rel=>exact ⟨j+1,by omega,by go_num,below_drewN HBW.out nq⟩
   case measure=>simp [intOf];omega
  ·obtain rfl:j=l.length:=by omega
   go_wp2
   go_ret
   exact ⟨rfl,HBW.out⟩
set_option maxHeartbeats 1000000 in
theorem szInt_any (ad:Option Addr) (N c:Nat) (l:Int) (w:World) (hl:0≤l) (hl2:l≤1048576) (hN:N≤maxLen) :
  Calls Tryz.prog 124 #[.slice ad N c,.int .i64 l] w (SzEnd l N w):=by
 have hN':=small hN
 clear hN
 by_cases h1:l - (N:Int) < 0
 ·go_enter Tryz.func124,Tryz.ntmps124
  go_wp2
  go_ret
  exact ⟨⟨_,rfl,by omega,by omega,fun h=>by omega⟩,Below.refl _ _⟩
 ·go_enter Tryz.func124,Tryz.ntmps124
  go_wp2
  go_ret
  exact ⟨⟨_,rfl,by omega,by omega,fun h=>by omega⟩,Below.refl _ _⟩
theorem info_Int:(Tryz.prog.info? 3).map (fun i=>(i.zero,i.size,i.bytes))=some (some (.int .i64 0),1,8):=by kernel_rfl
set_option maxHeartbeats 4000000 in
theorem toSInt_any (l:List Int) {v:Value} (w:World) (hx:l.length≤1048576) (k0:SIntA w v l) :
  Calls Tryz.prog 135 #[v] w fun e w'=>∃ u,e=.returned u∧SIntR w.heap.size w' u l∧Below w.heap.size w w':=by
 have HK:=hid k0
 have HX:=hid hx
 have hN:l.length≤1048576:=hx
 obtain ⟨ad,cap,rfl⟩:=k0.sl
 clear hx k0
 obtain ⟨i0,hi,hz0,hz1,hz2⟩:=info_parts info_Int
 have HHI:=hid (And.intro hi (And.intro hz0 (And.intro hz1 hz2)))
 clear hi hz0 hz1
 go_enter Tryz.func135,Tryz.ntmps135
 go_wp2_with (at_make;refine wpList_make_full _ rfl _ _ 119 rfl w.heap.size 3 i0 (.int .i64 0) 1 Tryz.underlying119 HHI.out.1 HHI.out.2.1 HHI.out.2.2.1 _ _ _ _ l.length rfl rfl rfl rfl (by rw [hz2];omega) (by unfold maxLen;omega) (Nat.le_refl _) ?_;intro w1 o1 g1)
 have HF0:Hid (SIntF w.heap.size w1 l 0):=by
  obtain ⟨h1,⟨h2,_⟩ | ⟨g,c,cur,e,_,h4,_,_,h7,_⟩⟩:=o1
  ·cases h2
  ·cases e
   exact ⟨cur,h4,h7,fun i h=>absurd h (Nat.not_lt_zero _)⟩
 have HB0:=hid ((Below.refl w.heap.size w).grown g1 (Nat.le_refl _) (fun q e=>by cases e))
 clear o1 g1
 go_loopw [4] (fun i wr=>∃ j:Nat,j≤l.length∧i=.int .i64 j∧SIntF w.heap.size wr l j∧Below w.heap.size w wr) (fun i _=>l.length - (intOf i).toNat)
 case atStart=>exact ⟨0,Nat.zero_le _,rfl,HF0.out,HB0.out⟩
 case round =>
  obtain ⟨j,hj,rfl,hfi,hbw⟩:=hrel
  have HFI:=hid hfi
  have HBW:=hid hbw
  have hgl:=hfi.lt
  clear hfi hbw
  by_cases hlt:j < l.length
  ·obtain ⟨a,c,e9,hal,c0⟩:=(HK.out.next HBW.out).at hlt
   injection e9 with ea en ec
   clear en
   subst ea ec
   have HFX:=hid (HFI.out.step hlt)
   obtain ⟨⟨v0,x0⟩,y0⟩:=HFI.out.room (i:=j) (by omega)
   obtain ⟨x,hx⟩:∃ x,l.getD j 0=x:=⟨_,rfl⟩
   rw [hx] at c0 HFX
   clear hx
   unfold IntA at c0
   go_wp2
   go_roundw
   case rel=>exact ⟨j+1,by omega,by go_num,HFX.out,below_set HBW.out _ _ (Nat.le_refl _) _⟩
   case measure=>simp [intOf];omega
  ·obtain rfl:j=l.length:=by omega
   go_wp2
   go_ret
   exact ⟨_,rfl,⟨w.heap.size,rfl,Nat.le_refl _,HFI.out⟩,HBW.out⟩
set_option maxHeartbeats 4000000 in
theorem eqSStr_same (l:List ByteArray) {u v:Value} {B:Nat} (w:World) (hx:LoStrS l) (k0:SStrR B w u l) (l0:SStrR B w v l) :
  Calls Tryz.prog 39 #[u,v] w fun e w'=>e=.returned (.bool true)∧Below w.heap.size w w':=by
 have H1:=hid k0
 have H2:=hid l0
 have HX:=hid hx
 have hN:l.length≤1048576:=hx
 obtain ⟨gu,rfl⟩:=k0.sl
 obtain ⟨gv,rfl⟩:=l0.sl
 clear k0 l0 hx
 have hne:((l.length:Int) != (l.length:Int))=false:=by simp
 go_enter Tryz.func39,Tryz.ntmps39
 go_wp2
 go_loopw [5] (fun i wr=>∃ j:Nat,j≤l.length∧i=.int .i64 j∧Below w.heap.size w wr) (fun i _=>l.length - (intOf i).toNat)
 case atStart=>exact ⟨0,Nat.zero_le _,rfl,Below.refl _ _⟩
 case round =>
  obtain ⟨j,hj,rfl,hbw⟩:=hrel
  have HBW:=hid hbw
  clear hbw
  by_cases hlt:j < l.length
  ·obtain ⟨g,e9,_,_,a0⟩:=(H1.out.next HBW.out).at hlt
   injection e9 with ea en ec
   injection ea with eb
   injection eb with ec2
   subst ec2
   obtain ⟨g2,e8,_,_,b0⟩:=(H2.out.next HBW.out).at hlt
   injection e8 with ea2 en2 ec3
   injection ea2 with eb2
   injection eb2 with ec4
   subst ec4
   clear en ec en2 ec3
   obtain ⟨x,hx⟩:∃ x,l.getD j ⟨#[]⟩=x:=⟨_,rfl⟩
   rw [hx] at a0 b0
   clear hx
   have h5:(x.toList != x.toList)=false:=by simp
   go_wp2_with fail
   go_quiet (fail)
   go_wp2
   go_roundw
   case rel=>exact ⟨j+1,by omega,by go_num,below_drewN HBW.out nq⟩
   case measure=>simp [intOf];omega
  ·obtain rfl:j=l.length:=by omega
   go_wp2
   go_ret
   exact ⟨rfl,HBW.out⟩
set_option maxHeartbeats 2000000 in
theorem szSStr_any (l:List ByteArray) {v:Value} (m:Int) (w:World) (hl:0≤m) (hl2:m≤1048576) (hx:OkStrS l) (k0:SStrA w v l) :
  Calls Tryz.prog 17 #[v,.int .i64 m] w (SzEnd m (wSStr l l.length) w):=by
 have HX:=hid hx.2
 have hN:=small hx.1
 have HK:=hid k0
 obtain ⟨ad,cap,rfl⟩:=k0.sl
 clear hx k0
 by_cases h1:m - (l.length:Int) < 0
 ·go_enter Tryz.func17,Tryz.ntmps17
  go_wp2
  go_ret
  exact ⟨⟨_,rfl,by omega,by omega,fun h=>by omega⟩,Below.refl _ _⟩
 ·go_enter Tryz.func17,Tryz.ntmps17
  go_wp2
  go_loopw [1,5] (fun q i wr=>∃ (j:Nat) (r:Int),j≤l.length∧i=.int .i64 j∧q=.int .i64 r∧0≤r∧r≤m∧(Hid (r+(l.length:Int)+(wSStr l j:Int)=m+(j:Int)))∧Below w.heap.size w wr) (fun _ i _=>l.length - (intOf i).toNat)
  case atStart=>exact ⟨0,_,Nat.zero_le _,rfl,rfl,by omega,by omega,(by show _=_;simp [wSStr]),Below.refl _ _⟩
  case round =>
   obtain ⟨j,r,hj,rfl,rfl,hr0,hr1,HS,hbw⟩:=hrel
   have HBW:=hid hbw
   clear hbw
   by_cases hlt:j < l.length
   ·obtain ⟨a,c,e9,hal,c0⟩:=(HK.out.next HBW.out).at hlt
    injection e9 with ea en ec
    clear en
    subst ea ec
    have c1:=small (HX.out j hlt)
    obtain ⟨x,hx⟩:∃ x,l.getD j ⟨#[]⟩=x:=⟨_,rfl⟩
    have HXE:=hid hx
    rw [hx] at c0 c1
    clear hx
    unfold StrA at c0
    by_cases hs:r - (x.size:Int) < 0
    ·go_wp2
     go_ret
     exact ⟨⟨-1,rfl,by omega,by omega,fun h=>by omega⟩,HBW.out⟩
    ·obtain ⟨r2,hr2⟩:∃ r2,r - (x.size:Int)=r2:=⟨_,rfl⟩
     have hr3:0≤r2:=by omega
     have hr4:r2≤m:=by omega
     have HS2:Hid (r2+(l.length:Int)+(wSStr l (j+1):Int)=m+((j+1:Nat):Int)):=by
      show _=_
      have:=HS.out
      simp only [wSStr,HXE.out]
      omega
     go_wp2
     go_roundw
     case rel=>exact ⟨j+1,r2,by omega,by go_num,by go_num,hr3,hr4,HS2,HBW.out⟩
     case measure=>simp [intOf];omega
   ·obtain rfl:j=l.length:=by omega
    go_wp2
    go_ret
    exact ⟨⟨r,rfl,by omega,hr1,fun _=>by have:=HS.out;omega⟩,HBW.out⟩
theorem info_Str:(Tryz.prog.info? 9).map (fun i=>(i.zero,i.size,i.bytes))=some (some (.string ⟨#[]⟩),1,16):=by kernel_rfl
set_option maxHeartbeats 4000000 in
theorem toSStr_any (l:List ByteArray) {v:Value} (w:World) (hx:LoStrS l) (k0:SStrA w v l) :
  Calls Tryz.prog 29 #[v] w fun e w'=>∃ u,e=.returned u∧SStrR w.heap.size w' u l∧Below w.heap.size w w':=by
 have HK:=hid k0
 have HX:=hid hx
 have hN:l.length≤1048576:=hx
 obtain ⟨ad,cap,rfl⟩:=k0.sl
 clear hx k0
 obtain ⟨i0,hi,hz0,hz1,hz2⟩:=info_parts info_Str
 have HHI:=hid (And.intro hi (And.intro hz0 (And.intro hz1 hz2)))
 clear hi hz0 hz1
 go_enter Tryz.func29,Tryz.ntmps29
 go_wp2_with (at_make;refine wpList_make_full _ rfl _ _ 23 rfl w.heap.size 9 i0 (.string ⟨#[]⟩) 1 Tryz.underlying23 HHI.out.1 HHI.out.2.1 HHI.out.2.2.1 _ _ _ _ l.length rfl rfl rfl rfl (by rw [hz2];omega) (by unfold maxLen;omega) (Nat.le_refl _) ?_;intro w1 o1 g1)
 have HF0:Hid (SStrF w.heap.size w1 l 0):=by
  obtain ⟨h1,⟨h2,_⟩ | ⟨g,c,cur,e,_,h4,_,_,h7,_⟩⟩:=o1
  ·cases h2
  ·cases e
   exact ⟨cur,h4,h7,fun i h=>absurd h (Nat.not_lt_zero _)⟩
 have HB0:=hid ((Below.refl w.heap.size w).grown g1 (Nat.le_refl _) (fun q e=>by cases e))
 clear o1 g1
 go_loopw [4] (fun i wr=>∃ j:Nat,j≤l.length∧i=.int .i64 j∧SStrF w.heap.size wr l j∧Below w.heap.size w wr) (fun i _=>l.length - (intOf i).toNat)
 case atStart=>exact ⟨0,Nat.zero_le _,rfl,HF0.out,HB0.out⟩
 case round =>
  obtain ⟨j,hj,rfl,hfi,hbw⟩:=hrel
  have HFI:=hid hfi
  have HBW:=hid hbw
  have hgl:=hfi.lt
  clear hfi hbw
  by_cases hlt:j < l.length
  ·obtain ⟨a,c,e9,hal,c0⟩:=(HK.out.next HBW.out).at hlt
   injection e9 with ea en ec
   clear en
   subst ea ec
   have HFX:=hid (HFI.out.step hlt)
   obtain ⟨⟨v0,x0⟩,y0⟩:=HFI.out.room (i:=j) (by omega)
   obtain ⟨x,hx⟩:∃ x,l.getD j ⟨#[]⟩=x:=⟨_,rfl⟩
   rw [hx] at c0 HFX
   clear hx
   unfold StrA at c0
   go_wp2
   go_roundw
   case rel=>exact ⟨j+1,by omega,by go_num,HFX.out,below_set HBW.out _ _ (Nat.le_refl _) _⟩
   case measure=>simp [intOf];omega
  ·obtain rfl:j=l.length:=by omega
   go_wp2
   go_ret
   exact ⟨_,rfl,⟨w.heap.size,rfl,Nat.le_refl _,HFI.out⟩,HBW.out⟩
end Go.Proofs.YtbkmglknbflkhaaGreatDoor.R
namespace Go.Proofs.YtbkmglknbflkhaaGreatDoor.P
open Go.RowKit
open Go.Proofs.YtbkmglknbflkhaaGreatDoor.J (Says says_t says_f FileOk Says.pos Says.neg)
open Go.Proofs.YtbkmglknbflkhaaGreatDoor.R (hid small Fl fl0 OkFlS SFlR row_cell B1 Gr wp_region_gr Calls.gr_of below_drewN)
set_option maxRecDepth 20000
def LowF (l:List Fl):Prop:=l.length≤1048576∧∀ i,i < l.length→(l.getD i fl0).name.size≤1048576∧(l.getD i fl0).text.size≤1048576
theorem lowF_of {l:List Fl} (h:R.wSFl l l.length≤1048576):LowF l:=by
 refine ⟨Nat.le_trans (R.wSFl_ge l _) h,fun i hi=>?_⟩
 have h1:=R.wSFl_at l hi
 simp only [R.wFl] at h1
 omega
set_option maxHeartbeats 4000000 in
theorem implFiles_any (l:List Fl) {v:Value} {B:Nat} (w:World) (hx:LowF l) (k0:SFlR B w v l) :
  Calls Tryz.prog 32 #[v,.int .i64 20] w fun e w'=>Says e (PlOk l)∧Below w.heap.size w w':=by
 have HK:=hid k0
 have HX:=hid hx
 have hN:=hx.1
 obtain ⟨g,rfl⟩:=k0.sl
 clear k0 hx
 by_cases h1:l.length≤20
 ·go_enter Tryz.func32,Tryz.ntmps32
  go_wp2
  go_loopw [5,6,13] (fun _ _ i wr=>∃ k:Nat,k≤l.length∧i=.int .i64 k∧(∀ i,i < k→EOk l i)∧Below w.heap.size w wr) (fun _ _ i _=>l.length - (intOf i).toNat)
  case atStart=>exact ⟨0,Nat.zero_le _,rfl,fun i h=>absurd h (Nat.not_lt_zero _),Below.refl _ _⟩
  case round =>
   obtain ⟨k,hk,rfl,hr,hbw⟩:=hrel
   have HR:=hid hr
   have HBW:=hid hbw
   clear hr hbw
   by_cases hlt:k < l.length
   ·obtain ⟨_,a0,a1⟩:=fl_at (HK.out.next HBW.out) hlt
    have hfail:Hid (¬ EOk l k→¬ PlOk l):=hid fun h h'=>h (h'.2 k hlt)
    have HLO:=hid (HX.out.2 k hlt)
    obtain ⟨x,hxe⟩:∃ x,l.getD k fl0=x:=⟨_,rfl⟩
    have HXE:=hid hxe
    rw [hxe] at a0 a1 HLO
    clear hxe
    by_cases hP:FOk x
    ·by_cases h0:0 < k
     ·have h0b:decide ((0:Int) < (k:Int))=true:=by simp;omega
      have h0i:(0:Int) < (k:Int):=by omega
      obtain ⟨p,hp⟩:∃ p:Nat,k=p+1:=⟨k - 1,by omega⟩
      have hpi:(k:Int) - 1=(p:Int):=by omega
      have hpl:p < l.length:=by omega
      have hpw:IntKind.i64.wrap (p:Int)=(p:Int):=by rw [IntKind.wrap_i64];omega
      have HPE:=hid hp
      clear hp
      obtain ⟨y,hye⟩:∃ y,l.getD p fl0=y:=⟨_,rfl⟩
      have HYE:=hid hye
      have HKP:Hid (k - 1=p):=hid (by rw [HPE.out];rfl)
      cases hL:Go.Op.bytesLess y.name.toList x.name.toList
      ·have HE:=hid (hfail.out (fun h=>by have:=h.2 h0;rw [HKP.out,HXE.out,HYE.out] at this;unfold ltB at this;rw [hL] at this;cases this))
       go_wp2_with fail
       have HS0:=hid (B1.start wr (.cells #[.string x.name,.string x.text] 55))
       obtain ⟨V,hV⟩:∃ V,wr.alloc (.cells #[.string x.name,.string x.text] 55)=V:=⟨_,rfl⟩
       rw [hV] at HS0 ⊢
       clear hV
       have HBV:=hid (HBW.out.trans (HS0.out.lo.mono HBW.out.size))
       have b0:=fun p:Gr V=>(row_cell (HS0.out.next p.h).e 0:p.W.cell? ⟨wr.heap.size,0,none⟩=some (.string x.name))
       have b1:=fun p:Gr V=>(row_cell (HS0.out.next p.h).e 1:p.W.cell? ⟨wr.heap.size,1,none⟩=some (.string x.text))
       have c0:=fun p:Gr V=>(fl_at (HK.out.next (HBV.out.trans (p.h.mono HBV.out.size))) hpl).2.1
       rw [hye] at c0
       clear hye
       have hne2:Nonempty (Gr V):=⟨⟨V,Below.refl _ _⟩⟩
       refine wp_region_gr (by kernel_rfl) (by kernel_rfl) ?_
       repeat (go_big_quiet_step (first | (go_at_call 60;refine Calls.gr_of (v:=.bool true) fun hpw=>?_;refine (isFile_any x _ HLO.out.1 HLO.out.2).mono ?_;rintro e w3 ⟨hs3,hb3⟩;exact ⟨hs3.pos hP,hb3⟩)))
       refine wpQuiet_nil ?_
       intro _ hw'
       obtain ⟨pw,rfl⟩:=hw'
       have HB4:=hid (HBV.out.trans (pw.h.mono HBV.out.size))
       clear b0 b1 c0
       go_wp2
       go_ret
       exact ⟨says_f HE.out,HB4.out⟩
      ·have HO:Hid (EOk l k):=hid ⟨by rw [HXE.out];exact hP,fun _=>by rw [HKP.out,HXE.out,HYE.out];exact hL⟩
       go_wp2_with fail
       have HS0:=hid (B1.start wr (.cells #[.string x.name,.string x.text] 55))
       obtain ⟨V,hV⟩:∃ V,wr.alloc (.cells #[.string x.name,.string x.text] 55)=V:=⟨_,rfl⟩
       rw [hV] at HS0 ⊢
       clear hV
       have HBV:=hid (HBW.out.trans (HS0.out.lo.mono HBW.out.size))
       have b0:=fun p:Gr V=>(row_cell (HS0.out.next p.h).e 0:p.W.cell? ⟨wr.heap.size,0,none⟩=some (.string x.name))
       have b1:=fun p:Gr V=>(row_cell (HS0.out.next p.h).e 1:p.W.cell? ⟨wr.heap.size,1,none⟩=some (.string x.text))
       have c0:=fun p:Gr V=>(fl_at (HK.out.next (HBV.out.trans (p.h.mono HBV.out.size))) hpl).2.1
       rw [hye] at c0
       clear hye
       have hne2:Nonempty (Gr V):=⟨⟨V,Below.refl _ _⟩⟩
       refine wp_region_gr (by kernel_rfl) (by kernel_rfl) ?_
       repeat (go_big_quiet_step (first | (go_at_call 60;refine Calls.gr_of (v:=.bool true) fun hpw=>?_;refine (isFile_any x _ HLO.out.1 HLO.out.2).mono ?_;rintro e w3 ⟨hs3,hb3⟩;exact ⟨hs3.pos hP,hb3⟩)))
       refine wpQuiet_nil ?_
       intro _ hw'
       obtain ⟨pw,rfl⟩:=hw'
       have HB4:=hid (HBV.out.trans (pw.h.mono HBV.out.size))
       clear b0 b1 c0
       go_wp2
       go_roundw
       case rel=>exact ⟨k+1,by omega,by go_num,all_step HR.out HO.out,HB4.out⟩
       case measure=>simp [intOf];omega
     ·have h0b:decide ((0:Int) < (k:Int))=false:=by simp;omega
      have h0i:¬ (0:Int) < (k:Int):=by omega
      have HO:Hid (EOk l k):=hid ⟨by rw [HXE.out];exact hP,fun h=>absurd h h0⟩
      go_wp2_with fail
      have HS0:=hid (B1.start wr (.cells #[.string x.name,.string x.text] 55))
      obtain ⟨V,hV⟩:∃ V,wr.alloc (.cells #[.string x.name,.string x.text] 55)=V:=⟨_,rfl⟩
      rw [hV] at HS0 ⊢
      clear hV
      have HBV:=hid (HBW.out.trans (HS0.out.lo.mono HBW.out.size))
      have b0:=fun p:Gr V=>(row_cell (HS0.out.next p.h).e 0:p.W.cell? ⟨wr.heap.size,0,none⟩=some (.string x.name))
      have b1:=fun p:Gr V=>(row_cell (HS0.out.next p.h).e 1:p.W.cell? ⟨wr.heap.size,1,none⟩=some (.string x.text))
      have hne2:Nonempty (Gr V):=⟨⟨V,Below.refl _ _⟩⟩
      refine wp_region_gr (by kernel_rfl) (by kernel_rfl) ?_
      repeat (go_big_quiet_step (first | (go_at_call 60;refine Calls.gr_of (v:=.bool true) fun hpw=>?_;refine (isFile_any x _ HLO.out.1 HLO.out.2).mono ?_;rintro e w3 ⟨hs3,hb3⟩;exact ⟨hs3.pos hP,hb3⟩)))
      refine wpQuiet_nil ?_
      intro _ hw'
      obtain ⟨pw,rfl⟩:=hw'
      have HB4:=hid (HBV.out.trans (pw.h.mono HBV.out.size))
      clear b0 b1
      go_wp2
      go_roundw
      case rel=>exact ⟨k+1,by omega,by go_num,all_step HR.out HO.out,HB4.out⟩
      case measure=>simp [intOf];omega
    ·have HE:=hid (hfail.out (fun h=>hP (by have:=h.1;rw [HXE.out] at this;exact this)))
     go_wp2_with fail
     have HS0:=hid (B1.start wr (.cells #[.string x.name,.string x.text] 55))
     obtain ⟨V,hV⟩:∃ V,wr.alloc (.cells #[.string x.name,.string x.text] 55)=V:=⟨_,rfl⟩
     rw [hV] at HS0 ⊢
     clear hV
     have HBV:=hid (HBW.out.trans (HS0.out.lo.mono HBW.out.size))
     have b0:=fun p:Gr V=>(row_cell (HS0.out.next p.h).e 0:p.W.cell? ⟨wr.heap.size,0,none⟩=some (.string x.name))
     have b1:=fun p:Gr V=>(row_cell (HS0.out.next p.h).e 1:p.W.cell? ⟨wr.heap.size,1,none⟩=some (.string x.text))
     have hne2:Nonempty (Gr V):=⟨⟨V,Below.refl _ _⟩⟩
     refine wp_region_gr (by kernel_rfl) (by kernel_rfl) ?_
     repeat (go_big_quiet_step (first | (go_at_call 60;refine Calls.gr_of (v:=.bool false) fun hpw=>?_;refine (isFile_any x _ HLO.out.1 HLO.out.2).mono ?_;rintro e w3 ⟨hs3,hb3⟩;exact ⟨hs3.neg hP,hb3⟩)))
     refine wpQuiet_nil ?_
     intro _ hw'
     obtain ⟨pw,rfl⟩:=hw'
     have HB4:=hid (HBV.out.trans (pw.h.mono HBV.out.size))
     clear b0 b1
     go_wp2
     go_ret
     exact ⟨says_f HE.out,HB4.out⟩
   ·obtain rfl:k=l.length:=by omega
    have HO:Hid (PlOk l):=hid ⟨h1,HR.out⟩
    go_wp2
    go_ret
    exact ⟨says_t HO.out,HBW.out⟩
 ·go_enter Tryz.func32,Tryz.ntmps32
  go_wp2
  go_ret
  exact ⟨says_f fun h=>h1 h.1,Below.refl _ _⟩
end Go.Proofs.YtbkmglknbflkhaaGreatDoor.P
namespace Go.Proofs.YtbkmglknbflkhaaGreatDoor.R
open Go.RowKit
set_option maxRecDepth 20000
set_option maxHeartbeats 4000000 in
theorem eqIn_same (x:C.In) (w:World) :
  Calls Tryz.prog 179 #[.agg #[.int .i64 x.op,.int .i64 x.a,.int .i64 x.n,.string x.text],.agg #[.int .i64 x.op,.int .i64 x.a,.int .i64 x.n,.string x.text]] w fun e w'=>e=.returned (.bool true)∧Below w.heap.size w w':=by
 have e0:(x.text.toList != x.text.toList)=false:=by simp
 have i0:(x.op != x.op)=false:=by simp
 have i1:(x.a != x.a)=false:=by simp
 have i2:(x.n != x.n)=false:=by simp
 have HB0:=hid (B2.start w (.cells #[.int .i64 x.op,.int .i64 x.a,.int .i64 x.n,.string x.text] 103) (.cells #[.int .i64 x.op,.int .i64 x.a,.int .i64 x.n,.string x.text] 103))
 go_enter Tryz.func179,Tryz.ntmps179
 go_wp2
 go_ret
 exact ⟨rfl,HB0.out.lo⟩
set_option maxHeartbeats 4000000 in
theorem eqSIn_same (l:List C.In) {u v:Value} {B:Nat} (w:World) (hx:LoInS l) (k0:SInR B w u l) (l0:SInR B w v l) :
  Calls Tryz.prog 149 #[u,v] w fun e w'=>e=.returned (.bool true)∧Below w.heap.size w w':=by
 have H1:=hid k0
 have H2:=hid l0
 have HX:=hid hx
 have hN:l.length≤1048576:=hx.1
 obtain ⟨gu,rfl⟩:=k0.sl
 obtain ⟨gv,rfl⟩:=l0.sl
 clear k0 l0 hx
 have hne:((l.length:Int) != (l.length:Int))=false:=by simp
 go_enter Tryz.func149,Tryz.ntmps149
 go_wp2
 go_loopw [5] (fun i wr=>∃ j:Nat,j≤l.length∧i=.int .i64 j∧Below w.heap.size w wr) (fun i _=>l.length - (intOf i).toNat)
 case atStart=>exact ⟨0,Nat.zero_le _,rfl,Below.refl _ _⟩
 case round =>
  obtain ⟨j,hj,rfl,hbw⟩:=hrel
  have HBW:=hid hbw
  clear hbw
  by_cases hlt:j < l.length
  ·obtain ⟨g,e9,_,hgu,a0,a1,a2,a3⟩:=(H1.out.next HBW.out).at hlt
   injection e9 with ea en ec
   injection ea with eb
   injection eb with ec2
   subst ec2
   obtain ⟨g2,e8,_,hgv,b0,b1,b2,b3⟩:=(H2.out.next HBW.out).at hlt
   injection e8 with ea2 en2 ec3
   injection ea2 with eb2
   injection eb2 with ec4
   subst ec4
   clear en ec en2 ec3
   have HLO:=hid (HX.out.2 j hlt)
   obtain ⟨x,hx⟩:∃ x,l.getD j C.in0=x:=⟨_,rfl⟩
   rw [hx] at HLO a0 b0 a1 b1 a2 b2 a3 b3
   clear hx
   have A0:=fun p:Gr wr=>(p.h.cell (p:=⟨_,_,none⟩) hgu).trans a0
   have C0:=fun p:Gr wr=>(p.h.cell (p:=⟨_,_,none⟩) hgv).trans b0
   have A1:=fun p:Gr wr=>(p.h.cell (p:=⟨_,_,none⟩) hgu).trans a1
   have C1:=fun p:Gr wr=>(p.h.cell (p:=⟨_,_,none⟩) hgv).trans b1
   have A2:=fun p:Gr wr=>(p.h.cell (p:=⟨_,_,none⟩) hgu).trans a2
   have C2:=fun p:Gr wr=>(p.h.cell (p:=⟨_,_,none⟩) hgv).trans b2
   have A3:=fun p:Gr wr=>(p.h.cell (p:=⟨_,_,none⟩) hgu).trans a3
   have C3:=fun p:Gr wr=>(p.h.cell (p:=⟨_,_,none⟩) hgv).trans b3
   clear a0 b0 a1 b1 a2 b2 a3 b3
   go_wp2_with fail
   have hne2:Nonempty (Gr wr):=⟨⟨wr,Below.refl _ _⟩⟩
   refine wp_region_gr (by kernel_rfl) (by kernel_rfl) ?_
   repeat (go_big_quiet_step (first | (go_at_call 179;refine Calls.gr_of (v:=.bool true) fun hpw=>?_;exact eqIn_same x _)))
   refine wpQuiet_nil ?_
   intro _ hw'
   obtain ⟨pw,rfl⟩:=hw'
   have HB4:=hid (HBW.out.trans (pw.h.mono HBW.out.size))
   clear A0 C0 A1 C1 A2 C2 A3 C3
   go_wp2
   go_roundw
   case rel=>exact ⟨j+1,by omega,by go_num,HB4.out⟩
   case measure=>simp [intOf];omega
  ·obtain rfl:j=l.length:=by omega
   go_wp2
   go_ret
   exact ⟨rfl,HBW.out⟩
set_option maxHeartbeats 2000000 in
theorem szIn_any (x:C.In) (l:Int) (w:World) (hl:0≤l) (hl2:l≤1048576) (hx:OkIn x) :
  Calls Tryz.prog 150 #[.agg #[.int .i64 x.op,.int .i64 x.a,.int .i64 x.n,.string x.text],.int .i64 l] w (SzEnd l (wIn x) w):=by
 have HX:=hid hx
 obtain ⟨hx0,hx1,hx2,hx3⟩:=hx
 have HB0:=hid (B1.start w (.cells #[.int .i64 x.op,.int .i64 x.a,.int .i64 x.n,.string x.text] 203))
 have hs_text:=small hx3
 by_cases c3:l - (x.text.size:Int) < 0
 ·go_enter Tryz.func150,Tryz.ntmps150
  go_wp2
  go_ret
  exact ⟨⟨_,rfl,by omega,by omega,fun h=>by omega⟩,HB0.out.lo⟩
 ·go_enter Tryz.func150,Tryz.ntmps150
  go_wp2
  go_ret
  refine ⟨⟨_,rfl,by omega,by omega,fun h=>?_⟩,HB0.out.lo⟩
  simp only [wIn]
  omega
set_option maxHeartbeats 2000000 in
theorem szSIn_any (l:List C.In) {v:Value} (m:Int) (w:World) (hl:0≤m) (hl2:m≤1048576) (hx:OkInS l) (k0:SInA w v l) :
  Calls Tryz.prog 125 #[v,.int .i64 m] w (SzEnd m (wSIn l l.length) w):=by
 have HX:=hid hx.2
 have hN:=small hx.1
 have HK:=hid k0
 obtain ⟨ad,cap,rfl⟩:=k0.sl
 clear hx k0
 by_cases h1:m - (l.length:Int) < 0
 ·go_enter Tryz.func125,Tryz.ntmps125
  go_wp2
  go_ret
  exact ⟨⟨_,rfl,by omega,by omega,fun h=>by omega⟩,Below.refl _ _⟩
 ·go_enter Tryz.func125,Tryz.ntmps125
  go_wp2
  go_loopw [1,5] (fun q i wr=>∃ (j:Nat) (r:Int),j≤l.length∧i=.int .i64 j∧q=.int .i64 r∧0≤r∧r≤m∧(Hid (r+(l.length:Int)+(wSIn l j:Int)=m+(j:Int)))∧Below w.heap.size w wr) (fun _ i _=>l.length - (intOf i).toNat)
  case atStart=>exact ⟨0,_,Nat.zero_le _,rfl,rfl,by omega,by omega,(by show _=_;simp [wSIn]),Below.refl _ _⟩
  case round =>
   obtain ⟨j,r,hj,rfl,rfl,hr0,hr1,HS,hbw⟩:=hrel
   have HBW:=hid hbw
   clear hbw
   by_cases hlt:j < l.length
   ·obtain ⟨a,c,e9,hal,⟨c0,c1,c2,c3⟩⟩:=(HK.out.next HBW.out).at hlt
    injection e9 with ea en ec
    clear en
    subst ea ec
    obtain ⟨x,hx⟩:∃ x,l.getD j C.in0=x:=⟨_,rfl⟩
    have HXE:=hid hx
    have HOK:=hid (HX.out j hlt)
    rw [hx] at HOK c0 c1 c2 c3
    clear hx
    go_wp2_with fail
    refine (szIn_any x _ _ (by omega) (by omega) HOK.out).mono ?_
    rintro e w1 ⟨⟨r2,rfl,hr3,hr4,hr5⟩,hb1⟩
    have HB1:=hid (HBW.out.trans (hb1.mono HBW.out.size))
    have HR5:=hid hr5
    clear hb1 hr5 c0 c1 c2 c3
    by_cases hs:r2 < 0
    ·go_wp2
     go_ret
     exact ⟨⟨-1,rfl,by omega,by omega,fun h=>by omega⟩,HB1.out⟩
    ·have HS2:Hid (r2+(l.length:Int)+(wSIn l (j+1):Int)=m+((j+1:Nat):Int)):=by
      show _=_
      have:=HS.out
      have:=HR5.out (by omega)
      simp only [wSIn,HXE.out]
      omega
     go_wp2
     go_roundw
     case rel=>exact ⟨j+1,r2,by omega,by go_num,rfl,by omega,by omega,HS2,HB1.out⟩
     case measure=>simp [intOf];omega
   ·obtain rfl:j=l.length:=by omega
    go_wp2
    go_ret
    exact ⟨⟨r,rfl,by omega,hr1,fun _=>by have:=HS.out;omega⟩,HBW.out⟩
set_option maxHeartbeats 4000000 in
theorem toIn_any (x:C.In) (w:World) :
  Calls Tryz.prog 154 #[.agg #[.int .i64 x.op,.int .i64 x.a,.int .i64 x.n,.string x.text]] w fun e w'=>e=.returned (.agg #[.int .i64 x.op,.int .i64 x.a,.int .i64 x.n,.string x.text])∧Below w.heap.size w w':=by
 go_enter Tryz.func154,Tryz.ntmps154
 go_wp2
 refine bodyPost_ret (v:=.agg #[.int .i64 x.op,.int .i64 x.a,.int .i64 x.n,.string x.text]) ?_ rfl ⟨rfl,?_⟩
 ·simp [results,Tryz.results154,go_sem]
 ·exact (below_two' _ _ _).alloc (by simp;omega) _
theorem info_In:(Tryz.prog.info? 103).map (fun i=>(i.zero,i.size,i.bytes))=some (some (.agg #[.int .i64 0,.int .i64 0,.int .i64 0,.string ⟨#[]⟩]),4,40):=by kernel_rfl
set_option maxHeartbeats 4000000 in
theorem toSIn_any (l:List C.In) {v:Value} (w:World) (hx:LoInS l) (k0:SInA w v l) :
  Calls Tryz.prog 136 #[v] w fun e w'=>∃ u,e=.returned u∧SInR w.heap.size w' u l∧Below w.heap.size w w':=by
 have HK:=hid k0
 have HX:=hid hx
 have hN:l.length≤1048576:=hx.1
 obtain ⟨ad,cap,rfl⟩:=k0.sl
 clear hx k0
 obtain ⟨i0,hi,hz0,hz1,hz2⟩:=info_parts info_In
 have HHI:=hid (And.intro hi (And.intro hz0 (And.intro hz1 hz2)))
 clear hi hz0 hz1
 go_enter Tryz.func136,Tryz.ntmps136
 go_wp2_with (at_make;refine wpList_make_full _ rfl _ _ 123 rfl w.heap.size 103 i0 (.agg #[.int .i64 0,.int .i64 0,.int .i64 0,.string ⟨#[]⟩]) 4 Tryz.underlying123 HHI.out.1 HHI.out.2.1 HHI.out.2.2.1 _ _ _ _ l.length rfl rfl rfl rfl (by rw [hz2];omega) (by unfold maxLen;omega) (Nat.le_refl _) ?_;intro w1 o1 g1)
 have HF0:Hid (SInF w.heap.size w1 l 0):=by
  obtain ⟨h1,⟨h2,_⟩ | ⟨g,c,cur,e,_,h4,_,_,h7,_⟩⟩:=o1
  ·cases h2
  ·cases e
   exact ⟨cur,h4,h7,fun i h=>absurd h (Nat.not_lt_zero _)⟩
 have HB0:=hid ((Below.refl w.heap.size w).grown g1 (Nat.le_refl _) (fun q e=>by cases e))
 clear o1 g1
 go_loopw [4] (fun i wr=>∃ j:Nat,j≤l.length∧i=.int .i64 j∧SInF w.heap.size wr l j∧Below w.heap.size w wr) (fun i _=>l.length - (intOf i).toNat)
 case atStart=>exact ⟨0,Nat.zero_le _,rfl,HF0.out,HB0.out⟩
 case round =>
  obtain ⟨j,hj,rfl,hfi,hbw⟩:=hrel
  have HFI:=hid hfi
  have HBW:=hid hbw
  have hgl:=hfi.lt
  clear hfi hbw
  by_cases hlt:j < l.length
  ·obtain ⟨a,c,e9,hal,⟨c0,c1,c2,c3⟩⟩:=(HK.out.next HBW.out).at hlt
   injection e9 with ea en ec
   clear en
   subst ea ec
   have HLE:=hid (HX.out.2 j hlt)
   obtain ⟨x,hx⟩:∃ x,l.getD j C.in0=x:=⟨_,rfl⟩
   have HXE:=hid hx
   rw [hx] at HLE c0 c1 c2 c3
   clear hx
   go_wp2_with fail
   refine (toIn_any x _).mono ?_
   rintro e w2 ⟨rfl,hb2⟩
   have HF2:=hid (HFI.out.keep fun i hi hl=>hb2.block i hl)
   have HFX:=hid (HF2.out.step hlt)
   rw [HXE.out] at HFX
   obtain ⟨⟨w_0,x0⟩,y0⟩:=HF2.out.room (i:=j * 4) (by omega)
   obtain ⟨⟨w_1,x1⟩,y1⟩:=HF2.out.room (i:=j * 4+1) (by omega)
   obtain ⟨⟨w_2,x2⟩,y2⟩:=HF2.out.room (i:=j * 4+2) (by omega)
   obtain ⟨⟨w_3,x3⟩,y3⟩:=HF2.out.room (i:=j * 4+3) (by omega)
   have HBX:=hid (HBW.out.trans (hb2.mono HBW.out.size))
   clear hb2 c0 c1 c2 c3
   go_wp2
   go_roundw
   case rel=>exact ⟨j+1,by omega,by go_num,HFX.out,(below_set (below_set (below_set (below_set HBX.out _ _ (Nat.le_refl _) _) _ _ (Nat.le_refl _) _) _ _ (Nat.le_refl _) _) _ _ (Nat.le_refl _) _)⟩
   case measure=>simp [intOf];omega
  ·obtain rfl:j=l.length:=by omega
   go_wp2
   go_ret
   exact ⟨_,rfl,⟨w.heap.size,rfl,Nat.le_refl _,HFI.out⟩,HBW.out⟩
end Go.Proofs.YtbkmglknbflkhaaGreatDoor.R
namespace Go.Proofs.YtbkmglknbflkhaaGreatDoor.C
open Go.RowKit
set_option maxRecDepth 20000
def kb (x:Int):UInt8:=UInt8.ofNat x.toNat
def kt (l:List Int):ByteArray:=⟨(l.map kb).toArray⟩
def Ok10 (l:List Int):Prop:=∀ x ∈ l,0≤x∧x≤10
theorem kb_nat {x:Int} (h:0≤x∧x≤10):((kb x).toNat:Int)=x:=by
 unfold kb
 have:(UInt8.ofNat x.toNat).toNat=x.toNat:=by simp;omega
 rw [this];omega
theorem kt_size (l:List Int):(kt l).size=l.length:=by simp [kt,ByteArray.size]
theorem kt_nil:kt []=⟨#[]⟩:=rfl
theorem kt_data (l:List Int):(kt l).data.toList=l.map kb:=by simp [kt]
theorem kt_get {l:List Int} (h:Ok10 l) {i:Nat} (hi:i < (kt l).size):(((kt l)[i]).toNat:Int)=l.getD i 0:=by
 have hi2:i < l.length:=by rw [← kt_size];exact hi
 have e:(kt l)[i]=kb l[i]:=by
  show (kt l).data[i]'_=_
  simp [kt]
 rw [e,kb_nat (h _ (List.getElem_mem hi2)),List.getD_eq_getElem?_getD,List.getElem?_eq_getElem hi2]
 rfl
theorem kb_inj {x y:Int} (hx:0≤x∧x≤10) (hy:0≤y∧y≤10) (h:kb x=kb y):x=y:=by
 have:=kb_nat hx
 rw [h,kb_nat hy] at this
 exact this.symm
theorem kt_inj:∀ {a b:List Int},Ok10 a→Ok10 b→kt a=kt b→a=b:=by
 intro a b ha hb h
 have e:a.map kb=b.map kb:=by rw [← kt_data,← kt_data,h]
 clear h
 induction a generalizing b with
 | nil =>
  cases b with
  | nil=>rfl
  | cons y b=>simp at e
 | cons x a ih =>
  cases b with
  | nil=>simp at e
  | cons y b =>
   simp only [List.map_cons,List.cons.injEq] at e
   rw [kb_inj (ha x (by simp)) (hb y (by simp)) e.1,ih (fun z hz=>ha z (by simp [hz])) (fun z hz=>hb z (by simp [hz])) e.2]
theorem ba_ext {a b:ByteArray} (h:a.data.toList=b.data.toList):a=b:=by
 apply ByteArray.ext
 exact Array.ext' h
theorem kt_append (a b:List Int):kt (a ++ b)=kt a ++ kt b:=by
 apply ba_ext
 rw [kt_data]
 simp [kt_data,ByteArray.data_append]
theorem kt_take (l:List Int) (j:Nat):(kt l).extract 0 j=kt (l.take j):=by
 apply ba_ext
 rw [kt_data,ByteArray.data_extract]
 simp [kt_data,List.map_take]
theorem kt_drop (l:List Int) (i:Nat):(kt l).extract i (kt l).size=kt (l.drop i):=by
 apply ba_ext
 rw [kt_data,ByteArray.data_extract,kt_size]
 simp [kt_data,List.map_drop]
 rw [List.take_of_length_le (by simp)]
def lv (s:Sh):Value:=.agg #[.int .i64 (s.st:Nat),.string (kt s.sl),.string (kt s.sk)]
theorem ok_sl {S:Nat} {s:Sh} (h:OkSh S s):Ok10 s.sl∧Ok10 s.sk:=by
 rcases h with rfl | rfl | ⟨_,_,h1,h2,_⟩
 ·exact ⟨fun x hx=>(nomatch hx),fun x hx=>(nomatch hx)⟩
 ·exact ⟨fun x hx=>(nomatch hx),fun x hx=>(nomatch hx)⟩
 ·exact ⟨h1,fun x hx=>by have:=h2 x hx;omega⟩
theorem ok_len {S:Nat} {s:Sh} (h:OkSh S s):s.sl.length≤S∧s.sk.length≤600:=by
 rcases h with rfl | rfl | ⟨_,h1,_,_,h2⟩
 ·exact ⟨Nat.zero_le _,Nat.zero_le _⟩
 ·exact ⟨Nat.zero_le _,Nat.zero_le _⟩
 ·exact ⟨by omega,h2⟩
theorem lv_inj {S:Nat} {a b:Sh} (ha:OkSh S a) (hb:OkSh S b):(a.st=b.st∧kt a.sl=kt b.sl∧kt a.sk=kt b.sk) ↔ a=b:=by
 constructor
 ·rintro ⟨h1,h2,h3⟩
  have e2:=kt_inj (ok_sl ha).1 (ok_sl hb).1 h2
  have e3:=kt_inj (ok_sl ha).2 (ok_sl hb).2 h3
  cases a;cases b
  simp_all
 ·intro h;rw [h];exact ⟨rfl,rfl,rfl⟩
theorem slJoin_self (a:List Int):slJoin a a=a:=by
 unfold slJoin
 induction a with
 | nil=>rfl
 | cons x a ih=>simp at ih ⊢
end Go.Proofs.YtbkmglknbflkhaaGreatDoor.C
namespace Go.Proofs.YtbkmglknbflkhaaGreatDoor.M
open Go.RowKit
open Go.Proofs.YtbkmglknbflkhaaGreatDoor.R (hid)
set_option maxRecDepth 20000
def mcells (x:R.Mc) (v0 v1 v2 v3 v4 v5:Value):Array Value:=#[v0,v1,v2,v3,.int .i64 x.steps,.int .i64 x.looks,.int .i64 x.kind,.string x.name,.string x.hold,.bool x.over,.int .i64 x.fin,.string x.text,v4,v5]
abbrev mval (x:R.Mc) (v0 v1 v2 v3 v4 v5:Value):Value:=.agg #[v0,v1,v2,v3,.int .i64 x.steps,.int .i64 x.looks,.int .i64 x.kind,.string x.name,.string x.hold,.bool x.over,.int .i64 x.fin,.string x.text,v4,v5]
structure MX (w:World) (x:R.Mc) (v0 v1 v2 v3 v4 v5:Value) (W:World):Prop where
 lo:Below w.heap.size w W
 e:W.heap[w.heap.size]?=some (.cells (mcells x v0 v1 v2 v3 v4 v5) 34)
theorem MX.start (w:World) (x:R.Mc) (v0 v1 v2 v3 v4 v5:Value):MX w x v0 v1 v2 v3 v4 v5 (w.alloc (.cells #[v0,v1,v2,v3,.int .i64 x.steps,.int .i64 x.looks,.int .i64 x.kind,.string x.name,.string x.hold,.bool x.over,.int .i64 x.fin,.string x.text,v4,v5] 34)):=⟨(Below.refl _ _).alloc (Nat.le_refl _) _,heap_alloc_new _ _⟩
theorem MX.next {w:World} {x:R.Mc} {v0 v1 v2 v3 v4 v5:Value} {W W2:World} (h:MX w x v0 v1 v2 v3 v4 v5 W) (hb:Below W.heap.size W W2):MX w x v0 v1 v2 v3 v4 v5 W2:=⟨h.lo.trans (hb.mono h.lo.size),C.hp_next h.e hb⟩
theorem MX.c0 {w:World} {x:R.Mc} {v0 v1 v2 v3 v4 v5:Value} {W:World} (h:MX w x v0 v1 v2 v3 v4 v5 W):W.cell? ⟨w.heap.size,0,none⟩=some (v0):=C.cell_hp h.e 0
theorem MX.c1 {w:World} {x:R.Mc} {v0 v1 v2 v3 v4 v5:Value} {W:World} (h:MX w x v0 v1 v2 v3 v4 v5 W):W.cell? ⟨w.heap.size,1,none⟩=some (v1):=C.cell_hp h.e 1
theorem MX.c2 {w:World} {x:R.Mc} {v0 v1 v2 v3 v4 v5:Value} {W:World} (h:MX w x v0 v1 v2 v3 v4 v5 W):W.cell? ⟨w.heap.size,2,none⟩=some (v2):=C.cell_hp h.e 2
theorem MX.c3 {w:World} {x:R.Mc} {v0 v1 v2 v3 v4 v5:Value} {W:World} (h:MX w x v0 v1 v2 v3 v4 v5 W):W.cell? ⟨w.heap.size,3,none⟩=some (v3):=C.cell_hp h.e 3
theorem MX.c4 {w:World} {x:R.Mc} {v0 v1 v2 v3 v4 v5:Value} {W:World} (h:MX w x v0 v1 v2 v3 v4 v5 W):W.cell? ⟨w.heap.size,4,none⟩=some (.int .i64 x.steps):=C.cell_hp h.e 4
theorem MX.c5 {w:World} {x:R.Mc} {v0 v1 v2 v3 v4 v5:Value} {W:World} (h:MX w x v0 v1 v2 v3 v4 v5 W):W.cell? ⟨w.heap.size,5,none⟩=some (.int .i64 x.looks):=C.cell_hp h.e 5
theorem MX.c6 {w:World} {x:R.Mc} {v0 v1 v2 v3 v4 v5:Value} {W:World} (h:MX w x v0 v1 v2 v3 v4 v5 W):W.cell? ⟨w.heap.size,6,none⟩=some (.int .i64 x.kind):=C.cell_hp h.e 6
theorem MX.c7 {w:World} {x:R.Mc} {v0 v1 v2 v3 v4 v5:Value} {W:World} (h:MX w x v0 v1 v2 v3 v4 v5 W):W.cell? ⟨w.heap.size,7,none⟩=some (.string x.name):=C.cell_hp h.e 7
theorem MX.c8 {w:World} {x:R.Mc} {v0 v1 v2 v3 v4 v5:Value} {W:World} (h:MX w x v0 v1 v2 v3 v4 v5 W):W.cell? ⟨w.heap.size,8,none⟩=some (.string x.hold):=C.cell_hp h.e 8
theorem MX.c9 {w:World} {x:R.Mc} {v0 v1 v2 v3 v4 v5:Value} {W:World} (h:MX w x v0 v1 v2 v3 v4 v5 W):W.cell? ⟨w.heap.size,9,none⟩=some (.bool x.over):=C.cell_hp h.e 9
theorem MX.c10 {w:World} {x:R.Mc} {v0 v1 v2 v3 v4 v5:Value} {W:World} (h:MX w x v0 v1 v2 v3 v4 v5 W):W.cell? ⟨w.heap.size,10,none⟩=some (.int .i64 x.fin):=C.cell_hp h.e 10
theorem MX.c11 {w:World} {x:R.Mc} {v0 v1 v2 v3 v4 v5:Value} {W:World} (h:MX w x v0 v1 v2 v3 v4 v5 W):W.cell? ⟨w.heap.size,11,none⟩=some (.string x.text):=C.cell_hp h.e 11
theorem MX.c12 {w:World} {x:R.Mc} {v0 v1 v2 v3 v4 v5:Value} {W:World} (h:MX w x v0 v1 v2 v3 v4 v5 W):W.cell? ⟨w.heap.size,12,none⟩=some (v4):=C.cell_hp h.e 12
theorem MX.c13 {w:World} {x:R.Mc} {v0 v1 v2 v3 v4 v5:Value} {W:World} (h:MX w x v0 v1 v2 v3 v4 v5 W):W.cell? ⟨w.heap.size,13,none⟩=some (v5):=C.cell_hp h.e 13
structure MK (B:Nat) (w:World) (x:R.Mc) (v0 v1 v2 v3 v4 v5:Value):Prop where
 k0:R.SCdR B w v0 x.codes
 k1:R.SStrR B w v1 x.args
 k2:R.SStrR B w v2 x.outs
 k3:R.SFmR B w v3 x.frames
 k4:R.SFlR B w v4 x.files
 k5:R.SStrR B w v5 x.said
theorem MK.next {B:Nat} {w W:World} {x:R.Mc} {v0 v1 v2 v3 v4 v5:Value} (h:MK B w x v0 v1 v2 v3 v4 v5) (hb:Below w.heap.size w W):MK B W x v0 v1 v2 v3 v4 v5:=⟨h.k0.next hb,h.k1.next hb,h.k2.next hb,h.k3.next hb,h.k4.next hb,h.k5.next hb⟩
end Go.Proofs.YtbkmglknbflkhaaGreatDoor.M
namespace Go.Proofs.YtbkmglknbflkhaaGreatDoor.C
open Go.RowKit
set_option maxRecDepth 20000
def hasA (op:Int):Bool:=decide (op=1) || decide (op=2) || decide (op=3) || inB op 5 12
set_option maxHeartbeats 1000000 in
theorem hasA_any (op:Int) (w:World):Calls Tryz.prog 127 #[.int .i64 op] w fun e w'=>e=.returned (.bool (hasA op))∧w'=w:=by
 obtain rfl | rfl | rfl | h:op=1∨op=2∨op=3∨¬ (op=1∨op=2∨op=3):=by omega
 iterate 3
  ·go_enter Tryz.func127,Tryz.ntmps127
   go_wp2
   go_ret
   exact ⟨rfl,rfl⟩
 ·have e1:(op == 1)=false:=by simp;omega
  have e2:(op == 2)=false:=by simp;omega
  have e3:(op == 3)=false:=by simp;omega
  have HH:Hid (hasA op=inB op 5 12):=hid (by unfold hasA;simp;omega)
  have HC:=hid (fun W=>l16In_any op 5 12 W)
  obtain ⟨B,hB⟩:∃ B,inB op 5 12=B:=⟨_,rfl⟩
  rw [hB] at HC HH
  clear h hB
  go_enter Tryz.func127,Tryz.ntmps127
  go_wp2_with (go_at_call 22;refine (HC.out _).mono ?_;rintro e w' ⟨rfl,hw⟩;have hw2:=hw.symm;clear hw;subst hw2)
  go_ret
  exact ⟨ret_bool HH.out.symm,rfl⟩
end Go.Proofs.YtbkmglknbflkhaaGreatDoor.C
namespace Go.Proofs.YtbkmglknbflkhaaGreatDoor.M
open Go.RowKit
open Go.Proofs.YtbkmglknbflkhaaGreatDoor.J (Says says_t says_f size_zero isEmpty_iff)
open Go.Proofs.YtbkmglknbflkhaaGreatDoor.R (hid)
set_option maxRecDepth 20000
def OvP (fin looks kind:Int) (name hold text:ByteArray) (nc na no nf nl:Nat):Prop:=0≤fin∧fin≤5∧text.size≤3000∧(fin=0∨nl=0)∧nc=0∧na=0∧no=0∧nf=0∧looks=0∧kind=0∧name.size=0∧hold.size=0
def OvOk (x:R.Mc):Prop:=OvP x.fin x.looks x.kind x.name x.hold x.text x.codes.length x.args.length x.outs.length x.frames.length x.files.length
theorem no_undef {b:Bool} (h:some undef=some (Value.bool b)):False:=by cases h
theorem not_empty {s:ByteArray} (h:¬ s.size=0):s.toList.isEmpty=false:=by rw [isEmpty_iff];simpa using h
end Go.Proofs.YtbkmglknbflkhaaGreatDoor.M
namespace Go.Proofs.YtbkmglknbflkhaaGreatDoor.C
open Go.RowKit
set_option maxRecDepth 20000
theorem below_drewN {B:Nat} {w w':World} (h:Below B w w') (n:Nat):Below B w (w'.drewN n):=h.trans ⟨rfl,rfl,rfl,Nat.le_refl _,fun _ _=>rfl⟩
theorem builtWord_c (t:Int) (h1:1≤t) (h2:t≤12) (w:World) :
  Calls Tryz.prog 131 #[.int .i64 t] w fun e w'=>(∃ s,e=.returned (.tuple #[.string s,.int .i64 ((sig t).1.length:Nat)]))∧w'=w:=by
 obtain rfl | rfl | rfl | rfl | rfl | rfl | rfl | rfl | rfl | rfl | rfl | rfl:t=1∨t=2∨t=3∨t=4∨t=5∨t=6∨t=7∨t=8∨t=9∨t=10∨t=11∨t=12:=by omega
 all_goals go_enter Tryz.func131,Tryz.ntmps131
 all_goals go_wp2
 all_goals go_ret2
 all_goals exact ⟨⟨_,rfl⟩,rfl⟩
set_option maxHeartbeats 4000000 in
theorem l12Built_any (op:Int) (v:Value) (l:List Int) (w:World) (h1:1≤op) (h2:op≤12) (hv:IntPart w v l) (hl:∀ x ∈ l,1≤x∧x≤10) (_hn:l.length≤1000) :
  Calls Tryz.prog 132 #[.int .i64 op,v] w fun e w'=>e=.returned (.int .i64 (builtG op l))∧Below w.heap.size w w':=by
 have HV:=hid hv
 obtain ⟨ad,c,rfl,hv3⟩:=hv
 clear hv3
 have HL:=hid hl
 clear hl
 go_enter Tryz.func132,Tryz.ntmps132
 go_wp2_with fail
 refine (l12Wants_any op _ h1 h2).mono ?_
 rintro e w1 ⟨v1,rfl,hr1,hb1⟩
 have HB1:=hid hb1
 have HR1:=hid hr1
 have HA:=hid (sig_asks op)
 obtain ⟨a1,c1,rfl⟩:=hr1.sl
 have HG:Hid (builtG op l=if fitL (sig op).1 l=true then (sig op).2 else 0):=rfl
 obtain ⟨L,hL⟩:∃ L,(sig op).1=L:=⟨_,rfl⟩
 obtain ⟨G,hG⟩:∃ G,(sig op).2=G:=⟨_,rfl⟩
 rw [hL] at HR1 HA HG ⊢
 rw [hG] at HG ⊢
 have hml:(L.map mw).length=L.length:=by simp
 have hL3:L.length≤3:=by
  rw [← hL]
  unfold sig
  (repeat' split) <;> simp
 rw [hml] at ⊢
 clear hr1 hb1 hL hG
 by_cases hle:L.length=l.length
 ·have hlf:((L.length:Int) != (l.length:Int))=false:=by simp;omega
  go_wp2
  go_loopw [7] (fun a wr=>∃ q:Nat,q≤L.length∧a=.int .i64 q∧Below w1.heap.size w1 wr∧∀ i,i < q→fitK (L.getD i 0) (l.getD i 0)=true) (fun a _=>L.length - (intOf a).toNat)
  case atStart=>exact ⟨0,Nat.zero_le _,rfl,Below.refl _ _,fun i hi=>absurd hi (Nat.not_lt_zero _)⟩
  case round =>
   obtain ⟨q,hq,rfl,hbr,hfit⟩:=hrel
   have HBR:=hid hbr
   have HFI:=hid hfit
   clear hbr hfit
   by_cases hlt:q < L.length
   ·obtain ⟨g2,c2,e2,_,_,hg2,hc2⟩:=(HR1.out.next HBR.out).at (i:=q) (by simp;exact hlt)
    obtain ⟨adx,cx,ex,hx⟩:=(HV.out.next (HB1.out.trans (HBR.out.mono HB1.out.size)))
    obtain ⟨g3,o3,e3,hg3,hc3⟩:=hx.resolve_left (fun e=>by have h9:l.length=0:=(by rw [e];rfl);omega)
    simp only [Value.slice.injEq] at ex e2
    obtain ⟨rfl,_,rfl⟩:=ex
    obtain ⟨rfl,_,rfl⟩:=e2
    subst e3
    have k2:=hc2 q (by simp;exact hlt)
    have k3:=hc3 q (by omega)
    have hmm:(L.map mw).getD q 0=mw (L.getD q 0):=by simp [List.getD_eq_getElem?_getD,hlt]
    rw [hmm] at k2
    have hA:=HA.out (L.getD q 0) (by rw [List.getD_eq_getElem?_getD,List.getElem?_eq_getElem hlt];exact List.getElem_mem hlt)
    have hX:=HL.out (l.getD q 0) (by rw [List.getD_eq_getElem?_getD,List.getElem?_eq_getElem (by omega)];exact List.getElem_mem (by omega))
    have HFQ:=hid (fit_iff hA hX.1)
    obtain ⟨x,hx2⟩:∃ x,l.getD q 0=x:=⟨_,rfl⟩
    obtain ⟨y,hy2⟩:∃ y,mw (L.getD q 0)=y:=⟨_,rfl⟩
    rw [hx2] at k3 HFQ
    rw [hy2] at k2 HFQ
    have hl1:(q:Int) < (l.length:Int):=by omega
    have hl2:q < l.length:=by omega
    have HXX:=hid hx2
    clear hc2 hc3 hA hX hmm hx2 hy2
    go_upto_region 7 with fail
    go_cut [47] (fun c wx=>∃ b:Bool,c=.bool b∧(b=true ↔ ¬ fitK (L.getD q 0) x=true)∧Below w1.heap.size w1 wx)
    case first =>
     by_cases hxy:x=y
     ·have hxf:(x != y)=false:=by simpa using hxy
      go_quiet (fail)
      go_wp2_with fail
      go_meet
      case rel=>exact ⟨false,rfl,⟨(fun h=>by cases h),fun h=>absurd (HFQ.out.2 (fun hh=>hh.1 hxy)) h⟩,below_drewN HBR.out _⟩
     ·have hxf:(x != y)=true:=by simpa using hxy
      by_cases hy0:y=0
      ·subst hy0
       have hyf:((0:Int) != 0)=false:=rfl
       cases hii:isI x
       ·have HII:Hid (isI x=false):=hii
        have HCI:Hid (∀ W,Calls Tryz.prog 111 #[.int .i64 x] W fun e w'=>e=.returned (.bool false)∧w'=W):=fun W=>by
         have h9:=l10Integer_c x W
         rw [hii] at h9
         exact h9
        clear hii
        go_quiet ((go_at_call 111;exact Calls.quiet_of_same (HCI.out _)))
        go_wp2_with fail
        go_meet
        case rel=>exact ⟨true,rfl,⟨fun _ h=>(HFQ.out.1 h) ⟨hxy,.inr HII.out⟩,fun _=>rfl⟩,below_drewN HBR.out _⟩
       ·have HII:Hid (isI x=true):=hii
        have HCI:Hid (∀ W,Calls Tryz.prog 111 #[.int .i64 x] W fun e w'=>e=.returned (.bool true)∧w'=W):=fun W=>by
         have h9:=l10Integer_c x W
         rw [hii] at h9
         exact h9
        clear hii
        go_quiet ((go_at_call 111;exact Calls.quiet_of_same (HCI.out _)))
        go_wp2_with fail
        go_meet
        case rel=>exact ⟨false,rfl,⟨(fun h=>by cases h),fun h=>absurd (HFQ.out.2 (fun hh=>hh.2.elim (fun k=>k (by trivial)) (fun k=>by rw [HII.out] at k;cases k))) h⟩,below_drewN HBR.out _⟩
      ·have hyf:(y != 0)=true:=by simpa using hy0
       go_quiet (fail)
       go_wp2_with fail
       go_meet
       case rel=>exact ⟨true,rfl,⟨fun _ h=>(HFQ.out.1 h) ⟨hxy,.inl hy0⟩,fun _=>rfl⟩,below_drewN HBR.out _⟩
    case rest =>
     obtain ⟨b,rfl,hbi,hb2⟩:=hcut
     have HB2:=hid hb2
     have HBI:=hid hbi
     clear hb2 hbi
     cases b
     ·have HFT:Hid (fitK (L.getD q 0) x=true):=by
       show fitK (L.getD q 0) x=true
       exact Decidable.byContradiction fun h=>by
        have h9:=HBI.out.2 h
        cases h9
      go_wp2
      go_roundw
      case rel =>
       refine ⟨q+1,by omega,by go_num,HB2.out,fun i hi=>?_⟩
       by_cases e:i=q
       ·subst e;rw [HXX.out];exact HFT.out
       ·exact HFI.out i (by omega)
      case measure=>simp [intOf];omega
     ·have HFF:Hid (¬ fitK (L.getD q 0) x=true):=HBI.out.1 rfl
      go_wp2
      go_ret
      refine ⟨ret_int ?_,HB1.out.trans (HB2.out.mono HB1.out.size)⟩
      rw [HG.out,if_neg]
      intro h
      have:=((fitL_iff L l).1 h).2 q hlt
      rw [HXX.out] at this
      exact HFF.out this
   ·obtain rfl:q=L.length:=by omega
    go_wp2
    go_ret
    exact ⟨ret_int (by rw [HG.out,if_pos ((fitL_iff L l).2 ⟨hle,HFI.out⟩)]),HB1.out.trans (HBR.out.mono HB1.out.size)⟩
 ·have hlf:((L.length:Int) != (l.length:Int))=true:=by simp;omega
  go_wp2
  go_ret
  exact ⟨ret_int (by rw [HG.out,if_neg];intro h;exact hle ((fitL_iff L l).1 h).1),HB1.out⟩
theorem cell_new_row (W:World) (cs:Array Value) (t:TypeId) (j:Nat):(W.alloc (.cells cs t)).cell? ⟨W.heap.size,j,none⟩=cs[j]?:=cell_hp (heap_alloc_new W _) j
def tp (sk:List Int):Int:=sk.getLastD 0
def bw (sk:List Int):Int:=sk.dropLast.getLastD 0
theorem tp_at {sk:List Int} (h:0 < sk.length):sk.getD (sk.length - 1) 0=tp sk:=by
 unfold tp
 cases sk with
 | nil=>simp at h
 | cons a r=>simp [List.getD_eq_getElem?_getD,List.getLast?_eq_getElem?,List.getLastD_eq_getLast?]
theorem bw_at {sk:List Int} (h:1 < sk.length):sk.getD (sk.length - 2) 0=bw sk:=by
 unfold bw
 have hd:sk.dropLast.length=sk.length - 1:=by simp
 have:=tp_at (sk:=sk.dropLast) (by omega)
 unfold tp at this
 rw [← this,hd]
 simp only [List.getD_eq_getElem?_getD]
 have e:sk.length - 1 - 1=sk.length - 2:=by omega
 rw [e,List.getElem?_dropLast,if_pos (by omega)]
theorem tp_none {sk:List Int} (h:¬ 0 < sk.length):tp sk=0:=by
 have:sk=[]:=List.eq_nil_of_length_eq_zero (by omega)
 rw [this];rfl
theorem bw_none {sk:List Int} (h:¬ 1 < sk.length):bw sk=0:=by
 have:sk.dropLast=[]:=List.eq_nil_of_length_eq_zero (by simp;omega)
 unfold bw;rw [this];rfl
theorem drop1 {sk:List Int} (h:1≤sk.length):(sk.drop (sk.length - 1)).getD 0 0=tp sk:=by
 rw [← tp_at (by omega)]
 simp [List.getD_eq_getElem?_getD]
theorem drop2 {sk:List Int} (h:2≤sk.length):(sk.drop (sk.length - 2)).getD 0 0=bw sk∧(sk.drop (sk.length - 2)).getD 1 0=tp sk:=by
 rw [← tp_at (by omega),← bw_at (by omega)]
 have e:sk.length - 2+1=sk.length - 1:=by omega
 simp [List.getD_eq_getElem?_getD,e]
theorem sig_len (a:Int):(sig a).1.length≤3:=by unfold sig;(repeat' split) <;> simp
theorem part_tail {W:World} {g q c:Nat} {sk:List Int} (h:q≤sk.length) (hg:g < W.heap.size) (hc:∀ j,j < sk.length→W.cell? ⟨g,j,none⟩=some (.int .i64 (sk.getD j 0))):IntPart W (.slice (some ⟨g,sk.length - q,none⟩) q c) (sk.drop (sk.length - q)):=by
 have hl:(sk.drop (sk.length - q)).length=q:=by simp;omega
 refine ⟨_,c,by rw [hl],.inr ⟨g,_,rfl,hg,fun i hi=>?_⟩⟩
 rw [hl] at hi
 rw [hc _ (by omega)]
 simp [List.getD_eq_getElem?_getD]
theorem part_tail2 {W:World} {g q c:Nat} {sk:List Int} (h:q≤sk.length) (hg:g < W.heap.size) (hlc:sk.length≤c) (hc:∀ j,j < sk.length→W.cell? ⟨g,j,none⟩=some (.int .i64 (sk.getD j 0))):IntPart W (.slice (if c=sk.length - q then some ⟨g,0,none⟩ else some ⟨g,sk.length - q,none⟩) (sk.length - (sk.length - q)) (c - (sk.length - q))) (sk.drop (sk.length - q)):=by
 have e:sk.length - (sk.length - q)=q:=by omega
 rw [e]
 split
 ·obtain rfl:q=0:=by omega
  rw [show sk.drop (sk.length - 0)=[] by simp]
  exact ⟨_,_,rfl,.inl rfl⟩
 ·exact part_tail h hg hc
theorem built_none {a:Int} {l:List Int} (h:builtG a l=0):whn (fitL (sig a).1 l=true) [(sig a).2]=none:=by
 unfold builtG at h
 split at h
 ·have:=sig_range a;omega
 ·rename_i hf;exact if_neg hf
theorem built_some {a z:Int} {l:List Int} (h:builtG a l=z) (hz:¬ z=0):whn (fitL (sig a).1 l=true) [(sig a).2]=some [z]:=by
 unfold builtG at h
 split at h
 ·rename_i hf;rw [← h];exact if_pos hf
 ·exact absurd h.symm hz
theorem part_none {l:List Int} (h:l=[]) (W:World) {ad:Option Addr} {m:Nat} (c:Nat) (hm:m=0):IntPart W (.slice ad m c) l:=by
 subst h hm
 exact ⟨ad,c,rfl,.inl rfl⟩
theorem drop_eq {sk P:List Int} (h:P.length≤sk.length) (hs:∀ i,i < P.length→sk.getD (sk.length - P.length+i) 0=P.getD i 0):sk.drop (sk.length - P.length)=P:=by
 apply List.ext_getElem (by simp;omega)
 intro i h1 h2
 have:=hs i h2
 simp only [List.getD_eq_getElem?_getD,List.getElem?_eq_getElem h2,List.getElem?_eq_getElem (show sk.length - P.length+i < sk.length by omega),Option.getD_some] at this
 simpa using this
theorem drop_at {sk P:List Int} (h:sk.drop (sk.length - P.length)=P) (i:Nat):sk.getD (sk.length - P.length+i) 0=P.getD i 0:=by
 have h2:(sk.drop (sk.length - P.length)).getD i 0=P.getD i 0:=by rw [h]
 rw [← h2]
 simp [List.getD_eq_getElem?_getD]
def GvEnd (fns:List Fn) (f:Fn) (i:In) (sl sk:List Int) (w:World) (e:Ending) (w':World):Prop :=
 Below w.heap.size w w'∧∃ (k:Nat) (ad:Option Addr) (m c:Nat) (ok:Bool),e=.returned (.tuple #[.int .i64 k,.slice ad m c,.bool ok])∧k≤1000 ∧
  (((ok=false∨sk.length < k)∧(takesN fns i≤sk.length→eff fns f i sl (sk.drop (sk.length - takesN fns i))=none)) ∨
   (ok=true∧k=takesN fns i∧k≤sk.length∧∃ l,eff fns f i sl (sk.drop (sk.length - takesN fns i))=some l∧IntRow w' (.slice ad m c) l))
theorem gv_bad {fns:List Fn} {f:Fn} {i:In} {sl sk:List Int} {w w':World} {k:Nat} {ad:Option Addr} {m c:Nat} {ok:Bool} (hb:Below w.heap.size w w') (hk:k≤1000) (h1:ok=false∨sk.length < k) (h2:takesN fns i≤sk.length→eff fns f i sl (sk.drop (sk.length - takesN fns i))=none):GvEnd fns f i sl sk w (.returned (.tuple #[.int .i64 k,.slice ad m c,.bool ok])) w' :=
 ⟨hb,k,ad,m,c,ok,rfl,hk,.inl ⟨h1,h2⟩⟩
theorem gv_ok {fns:List Fn} {f:Fn} {i:In} {sl sk l:List Int} {w w':World} {k:Nat} {ad:Option Addr} {m c:Nat} (hb:Below w.heap.size w w') (hk:k≤1000) (h1:k=takesN fns i) (h2:k≤sk.length) (h3:eff fns f i sl (sk.drop (sk.length - takesN fns i))=some l) (h4:IntRow w' (.slice ad m c) l):GvEnd fns f i sl sk w (.returned (.tuple #[.int .i64 k,.slice ad m c,.bool true])) w' :=
 ⟨hb,k,ad,m,c,true,rfl,hk,.inr ⟨rfl,h1,h2,l,h3,h4⟩⟩
theorem row1 (W:World) (x:Int):IntRow (W.alloc (.cells #[.int .i64 x] 3)) (.slice (some ⟨W.heap.size,0,none⟩) 1 1) [x]:=IntRow.lit W [x] (by simp)
theorem row0 (W:World):IntRow (W.alloc (.cells #[] 3)) (.slice (some ⟨W.heap.size,0,none⟩) 0 0) []:=IntRow.lit W [] (by simp)
structure Gx (fns:List Fn) (f:Fn) (i:In) (sl sk:List Int) (w:World) (cv pv iv av bv:Value) (b0 b1 b2 b3:Nat) (W:World):Prop where
 lo:Below w.heap.size w W
 c0:W.cell? ⟨b0,0,none⟩=some cv
 f0:W.cell? ⟨b1,0,none⟩=some (.string f.name)
 f1:W.cell? ⟨b1,1,none⟩=some pv
 f2:W.cell? ⟨b1,2,none⟩=some (.int .i64 f.result)
 f3:W.cell? ⟨b1,3,none⟩=some (.int .i64 f.slots)
 f4:W.cell? ⟨b1,4,none⟩=some iv
 i0:W.cell? ⟨b2,0,none⟩=some (.int .i64 i.op)
 i1:W.cell? ⟨b2,1,none⟩=some (.int .i64 i.a)
 i2:W.cell? ⟨b2,2,none⟩=some (.int .i64 i.n)
 i3:W.cell? ⟨b2,3,none⟩=some (.string i.text)
 s0:W.cell? ⟨b3,0,none⟩=some (.int .i64 1)
 s1:W.cell? ⟨b3,1,none⟩=some av
 s2:W.cell? ⟨b3,2,none⟩=some bv
 bl:b0 < W.heap.size∧b1 < W.heap.size∧b2 < W.heap.size∧b3 < W.heap.size
 code:FnsRow W cv fns
 params:IntRow W pv f.params
 ins:InsRow W iv f.ins
 sl_:IntRow W av sl
 sk_:IntRow W bv sk
theorem Gx.next {fns:List Fn} {f:Fn} {i:In} {sl sk:List Int} {w:World} {cv pv iv av bv:Value} {b0 b1 b2 b3:Nat} {W V:World} (h:Gx fns f i sl sk w cv pv iv av bv b0 b1 b2 b3 W) (hb:Below W.heap.size W V):Gx fns f i sl sk w cv pv iv av bv b0 b1 b2 b3 V:=by
 have hz:=hb.size
 obtain ⟨z0,z1,z2,z3⟩:=h.bl
 have k0:∀ j,V.cell? ⟨b0,j,none⟩=W.cell? ⟨b0,j,none⟩:=fun j=>hb.cell (p:=⟨b0,j,none⟩) z0
 have k1:∀ j,V.cell? ⟨b1,j,none⟩=W.cell? ⟨b1,j,none⟩:=fun j=>hb.cell (p:=⟨b1,j,none⟩) z1
 have k2:∀ j,V.cell? ⟨b2,j,none⟩=W.cell? ⟨b2,j,none⟩:=fun j=>hb.cell (p:=⟨b2,j,none⟩) z2
 have k3:∀ j,V.cell? ⟨b3,j,none⟩=W.cell? ⟨b3,j,none⟩:=fun j=>hb.cell (p:=⟨b3,j,none⟩) z3
 exact ⟨h.lo.trans (hb.mono h.lo.size),(k0 _).trans h.c0,(k1 _).trans h.f0,(k1 _).trans h.f1,(k1 _).trans h.f2,(k1 _).trans h.f3,(k1 _).trans h.f4,(k2 _).trans h.i0,(k2 _).trans h.i1,(k2 _).trans h.i2,(k2 _).trans h.i3,(k3 _).trans h.s0,(k3 _).trans h.s1,(k3 _).trans h.s2,⟨by omega,by omega,by omega,by omega⟩,h.code.next hb,h.params.next hb,h.ins.next hb,h.sl_.next hb,h.sk_.next hb⟩
theorem boxes {fns:List Fn} {f:Fn} {i:In} {sl sk:List Int} {w:World} {cv pv iv av bv:Value} (h1:FnsRow w cv fns) (h2:IntRow w pv f.params) (h3:InsRow w iv f.ins) (h4:IntRow w av sl) (h5:IntRow w bv sk) :
  Gx fns f i sl sk w cv pv iv av bv w.heap.size (w.heap.size+1) (w.heap.size+1+1) (w.heap.size+1+1+1)
   ((((w.alloc (.cells #[cv] 59)).alloc (.cells #[.string f.name,pv,.int .i64 f.result,.int .i64 f.slots,iv] 125)).alloc (.cells #[.int .i64 i.op,.int .i64 i.a,.int .i64 i.n,.string i.text] 103)).alloc (.cells #[.int .i64 1,av,bv] 121)):=by
 obtain ⟨W1,e1⟩:∃ W,w.alloc (.cells #[cv] 59)=W:=⟨_,rfl⟩
 obtain ⟨W2,e2⟩:∃ W,W1.alloc (.cells #[.string f.name,pv,.int .i64 f.result,.int .i64 f.slots,iv] 125)=W:=⟨_,rfl⟩
 obtain ⟨W3,e3⟩:∃ W,W2.alloc (.cells #[.int .i64 i.op,.int .i64 i.a,.int .i64 i.n,.string i.text] 103)=W:=⟨_,rfl⟩
 obtain ⟨W4,e4⟩:∃ W,W3.alloc (.cells #[.int .i64 1,av,bv] 121)=W:=⟨_,rfl⟩
 rw [e1,e2,e3,e4]
 have z1:W1.heap.size=w.heap.size+1:=by rw [← e1];simp
 have z2:W2.heap.size=w.heap.size+1+1:=by rw [← e2];simp [z1]
 have z3:W3.heap.size=w.heap.size+1+1+1:=by rw [← e3];simp [z2]
 have z4:W4.heap.size=w.heap.size+1+1+1+1:=by rw [← e4];simp [z3]
 have q1:Below w.heap.size w W1:=by rw [← e1];exact (Below.refl _ _).alloc (Nat.le_refl _) _
 have q2:Below W1.heap.size W1 W2:=by rw [← e2];exact (Below.refl _ _).alloc (Nat.le_refl _) _
 have q3:Below W2.heap.size W2 W3:=by rw [← e3];exact (Below.refl _ _).alloc (Nat.le_refl _) _
 have q4:Below W3.heap.size W3 W4:=by rw [← e4];exact (Below.refl _ _).alloc (Nat.le_refl _) _
 have r3:=q3.trans (q4.mono q3.size)
 have r2:=q2.trans (r3.mono q2.size)
 have r1:=q1.trans (r2.mono q1.size)
 have k0:∀ j,W4.cell? ⟨w.heap.size,j,none⟩=#[cv][j]?:=fun j=>by
  rw [r2.cell (p:=⟨w.heap.size,j,none⟩) (by show w.heap.size < _;omega),← e1,cell_new_row]
 have k1:∀ j,W4.cell? ⟨w.heap.size+1,j,none⟩=#[.string f.name,pv,.int .i64 f.result,.int .i64 f.slots,iv][j]?:=fun j=>by
  rw [← z1,r3.cell (p:=⟨W1.heap.size,j,none⟩) (by show W1.heap.size < _;omega),← e2,cell_new_row]
 have k2:∀ j,W4.cell? ⟨w.heap.size+1+1,j,none⟩=#[.int .i64 i.op,.int .i64 i.a,.int .i64 i.n,.string i.text][j]?:=fun j=>by
  rw [← z2,q4.cell (p:=⟨W2.heap.size,j,none⟩) (by show W2.heap.size < _;omega),← e3,cell_new_row]
 have k3:∀ j,W4.cell? ⟨w.heap.size+1+1+1,j,none⟩=#[.int .i64 1,av,bv][j]?:=fun j=>by
  rw [← z3,← e4,cell_new_row]
 exact ⟨r1,k0 0,k1 0,k1 1,k1 2,k1 3,k1 4,k2 0,k2 1,k2 2,k2 3,k3 0,k3 1,k3 2,⟨by omega,by omega,by omega,by omega⟩,h1.next r1,h2.next r1,h3.next r1,h4.next r1,h5.next r1⟩
end Go.Proofs.YtbkmglknbflkhaaGreatDoor.C
