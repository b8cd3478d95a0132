import Derived.Deep.DeepCutAuto
import Derived.Test.YtabbahpalemlhaaGreatDoorJ35
namespace Go.Proofs.YtabbahpalemlhaaGreatDoor
open Go.RowKit
set_option maxRecDepth 20000
def TreeEnd (R K P:Nat) (w:World) (e:Ending) (w2:World):Prop:=∃ g n c,e=.returned (.agg #[.slice (some ⟨g,0,none⟩) n c])∧Has K w2 (.slice (some ⟨g,0,none⟩) n c)∧(∃ p',p'≤P∧Rd R w2 p')∧BR R w w2
set_option maxHeartbeats 16000000 in
theorem edge_any (R p:Nat) (w:World) (h:Rd R w p) (hp:p≤100000) :
  Calls Tryz.prog 39 #[.pointer (some ⟨R,0,none⟩)] w (TreeEnd R 2000 (p+10) w):=by
 obtain ⟨i0,hi0,hz0,hz1,hz2⟩:=info_parts info_ns
 have HHI:=hid (And.intro hi0 (And.intro hz0 (And.intro hz1 hz2)))
 clear hi0 hz0 hz1 hz2
 have HB0:=hid ((Below.refl w.heap.size w).alloc (Nat.le_refl _) (.cells #[.slice none 0 0] 50))
 have HBX:=hid (heap_alloc_new w (.cells #[.slice none 0 0] 50))
 have HR0:=hid (h.next HB0.out)
 have hRw:=h.lt
 clear h
 go_enter Tryz.func39,Tryz.ntmps39
 go_upto_region 1 with fail
 obtain ⟨rb,hrb⟩:∃ g,w.heap.size=g:=⟨_,rfl⟩
 obtain ⟨W0,hW0⟩:∃ W,w.alloc (.cells #[.slice none 0 0] 50)=W:=⟨_,rfl⟩
 have hR0:R < W0.heap.size:=by rw [← hW0,World.size_alloc];omega
 have hrbR:R < rb:=by omega
 rw [hW0] at HB0 HBX HR0 ⊢
 rw [hrb] at HBX ⊢
 have HRB:=hid hrb
 clear hrb hW0
 have HAL:=hid (((Below.refl W0.heap.size W0).alloc (Nat.le_refl _) (.cells #[] 48)).alloc (by simp) (.cells #[.int .i64 8,.int .i64 0,.int .i64 0,.string ⟨#[]⟩,.int .i64 0] 81))
 have HE0:Hid (EI R (W0.heap.size+1) W0 0 0 p 8 (.slice (some ⟨W0.heap.size,0,none⟩) 0 0) ((W0.alloc (.cells #[] 48)).alloc (.cells #[.int .i64 8,.int .i64 0,.int .i64 0,.string ⟨#[]⟩,.int .i64 0] 81))):=by
  refine ⟨⟨p,Nat.le_refl _,HR0.out.next HAL.out⟩,⟨[],[],rfl,?_,rfl,fun j u l hu _=>by simp at hu,by simp [NdOk],fun u hu=>(nomatch hu)⟩,?_,Sv.of_below HAL.out,Nat.le_succ _,hR0⟩
  ·refine ⟨rfl,.inr ⟨W0.heap.size,0,#[],rfl,Nat.le_refl _,?_,Nat.le_refl _,by unfold maxLen;omega,rfl,rfl⟩⟩
   rw [Below.heap_alloc _ _ _ (by simp)]
   exact heap_alloc_new W0 _
  ·have:=heap_alloc_new (W0.alloc (.cells #[] 48)) (.cells #[.int .i64 8,.int .i64 0,.int .i64 0,.string ⟨#[]⟩,.int .i64 0] 81)
   rwa [World.size_alloc] at this
 go_upto_region 4 with fail
 obtain ⟨eb,heb⟩:∃ g,W0.heap.size+1=g:=⟨_,rfl⟩
 obtain ⟨W1,hW1⟩:∃ W,(W0.alloc (.cells #[] 48)).alloc (.cells #[.int .i64 8,.int .i64 0,.int .i64 0,.string ⟨#[]⟩,.int .i64 0] 81)=W:=⟨_,rfl⟩
 rw [hW1] at HE0 ⊢
 rw [heb] at HE0 ⊢
 obtain ⟨pa0,hpa0⟩:∃ g,W0.heap.size=g:=⟨_,rfl⟩
 have HWS:=hid hpa0
 clear heb hW1 HAL
 rw [hpa0] at HE0 ⊢
 clear hpa0
 go_wp2_with fail
 refine (HE0.out.pick (by omega) 4 (by omega)).mono ?_
 rintro e w1 ⟨x,rfl,hx,d1⟩
 have HE1:=hid d1
 clear d1 HE0
 have hx9:x=0∨x=1∨x=2∨x=3:=by omega
 clear hx
 by_cases hx0:x=0
 ·subst hx0
  go_wp2_with fail
  refine (HE1.out.pick (by omega) 2 (by omega)).mono ?_
  rintro e w2 ⟨y,rfl,hy,d2⟩
  have HE2:=hid d2
  clear d2 HE1
  have hwy:IntKind.i64.wrap (50+(y:Int))=((50+y:Nat):Int):=by rw [IntKind.wrap_i64];omega
  go_wp2_with fail
  refine (l2Deep_any (50+y) w2 (by omega)).mono ?_
  rintro e w3 ⟨⟨v3,l3,rfl,n3,k3⟩,hb3⟩
  obtain ⟨g3,m3,c3,rfl⟩:=n3.sl
  have HE3:=hid (HE2.out.next hb3)
  have HL3:Hid (Has 2000 w3 (.slice (some ⟨g3,0,none⟩) m3 c3)):=⟨l3,n3,k3⟩
  clear hb3 n3 k3 HE2
  have hb8:w3.heap[rb]?=some (.cells #[.slice none 0 0] 50 (0,0)):=(HE3.out.sv.block rb (by have:=(Array.getElem?_eq_some_iff.1 HBX.out).1;exact this) (by show ¬ rb=R;omega)).trans HBX.out
  have r0:=cell_hp hb8 0
  have rf:=frozen_hp hb8 0
  simp at r0
  have HB8:=hid hb8
  clear hb8
  go_wp2
  refine bodyPost_ret (v:=.agg #[.slice (some ⟨g3,0,none⟩) m3 c3]) (by simp [results,Tryz.results39,go_sem,r0]) rfl ⟨g3,m3,c3,rfl,?_,?_,?_⟩
  ·obtain ⟨l,h1,h2⟩:=HL3.out
   refine ⟨l,h1.keep fun g cur hc=>Below.heap_setCell _ _ _ _ (fun e=>?_),h2.mono (by omega)⟩
   have e':g=rb:=e
   subst e'
   rw [HB8.out] at hc
   cases hc
  ·obtain ⟨p9,hp9,hr9⟩:=HE3.out.rd
   exact ⟨p9,by omega,hr9.sv (S:=fun k=>k=rb) (Sv.setCell (S:=fun k=>k=rb) (Sv.refl _ w3) (p:=⟨rb,0,none⟩) (.inl rfl) _) (fun k e=>by subst e;omega)⟩
  ·have b1:BR R w W0:=BR.of_below HB0.out (by omega)
   have b2:BR R W0 w3:=BR.of_sv HE3.out.sv (by omega)
   exact (b1.trans b2).set (by omega) (by rw [HRB.out];exact Nat.le_refl _) _
 ·have hxb:((x:Int) == 0)=false:=by simpa using hx0
  have hx4:x=1∨x=2∨x=3:=by omega
  rcases hx4 with hx1 | hx2 | hx3
  ·subst hx1
   go_wp2_with fail
   refine (HE1.out.pick (by omega) 2 (by omega)).mono ?_
   rintro e w2 ⟨y,rfl,hy,d2⟩
   have HE2:=hid d2
   clear d2 HE1
   have hwy:IntKind.i64.wrap (200+(y:Int))=((200+y:Nat):Int):=by rw [IntKind.wrap_i64];omega
   have HE9:=hid (HE2.out.mono (Nat.le_refl _) (P':=p+5) (by omega))
   clear HE2
   go_wp2
   go_loopw [3] (fun pv wr=>∃ t:Nat,t≤(200+y)∧0≤t∧(∃ pa pc,pv=.slice pa t pc)∧EI R eb W0 t t (p+5) 8 pv wr) (fun pv _=>(200+y) - slLen pv)
   case atStart=>exact ⟨0,by omega,Nat.le_refl _,⟨_,_,rfl⟩,HE9.out⟩
   case round =>
    obtain ⟨t,ht,hat,⟨pa,pc,rfl⟩,hd⟩:=hrel
    have HEA:=hid hd
    clear hd HE9
    by_cases hlt:t < (200+y)
    ·have hti:(t:Int) < (((200+y):Nat):Int):=by omega
     go_wp2_with fail
     refine (intNode_any 3 _).mono ?_
     rintro e w5 ⟨v5,rfl,nn5,hb5⟩
     have hsl:=nn5.sl
     obtain ⟨g5,n5,k5,rfl⟩:=hsl
     have HE5:=hid (HEA.out.next hb5)
     have hub:=nd_ne nn5 HE5.out.box (by decide)
     have HAL:=hid ((Below.refl w5.heap.size w5).alloc (Nat.le_refl _) (.cells #[.slice (some ⟨g5,0,none⟩) n5 k5] 48))
     have HE6:=hid (HE5.out.next HAL.out)
     have HL6:Hid (Has 1 (w5.alloc (.cells #[.slice (some ⟨g5,0,none⟩) n5 k5] 48)) (.slice (some ⟨g5,0,none⟩) n5 k5)):=⟨_,nn5.next HAL.out,NdOk.one (by show (⟨#[]⟩:ByteArray).size≤1000;decide)⟩
     have hw5:W0.heap.size≤w5.heap.size:=HE5.out.sv.size
     clear hb5 nn5 HEA HE5 HAL
     obtain ⟨xs,ls,q1,q2,q3,q4,q5,q6⟩:=HE6.out.parts
     have HQ2:=hid q2
     have HQ4:=hid q4
     have HQ5:=hid q5
     have HQ6:=hid q6
     have hwz:W0.heap.size≤(w5.alloc (.cells #[.slice (some ⟨g5,0,none⟩) n5 k5] 48)).heap.size:=HE6.out.sv.size
     clear q2 q4 q5 q6
     go_wp2_with (at_builtin;refine wpList_append_own _ rfl _ _ 93 rfl W0.heap.size 48 i0 (.slice none 0 0) 1 24 Tryz.underlying93 HHI.out.1 HHI.out.2.1 HHI.out.2.2.1 HHI.out.2.2.2 rfl (by decide) _ _ xs rfl HQ2.out ⟨w5.heap.size,0,none⟩ 1 1 [.slice (some ⟨g5,0,none⟩) n5 k5] rfl rfl ?c1 ?c2 ?c3 ?c4 ?c5 ?_)
     case c1 =>
      intro j u hj
      match j,hj with
      | 0,hj=>simp at hj;subst hj;exact cell_new_row w5 _ _ 0
     case c2=>intro u hu;simp at hu;subst hu;rfl
     case c3=>unfold maxLen;omega
     case c4=>omega
     case c5=>simpa using hwz
     intro vz wz oz gz _
     have HEZ:=hid (HE6.out.parted q1 q3 HQ4.out HQ5.out HQ6.out HQ2.out HL6.out hub gz oz)
     clear oz gz HE6 HL6 HQ2 HQ4 HQ5 HQ6 q1 q3
     obtain ⟨paz,pcz,hvz⟩:=HEZ.out.psl
     subst hvz
     go_wp2
     go_roundw
     case rel=>exact ⟨t+1,by omega,by omega,⟨_,_,rfl⟩,HEZ.out⟩
     case measure=>simp [slLen];omega
    ·obtain rfl:t=(200+y):=by omega
     have hti:¬ (((200+y):Nat):Int) < (((200+y):Nat):Int):=by omega
     obtain ⟨pg,pk,hv⟩:=HEA.out.at_row (by omega)
     cases hv
     obtain ⟨b0,b1,b2,b3,b4⟩:=five_at HEA.out.box
     go_wp2_with fail
     refine (HEA.out.putAll rfl (by omega) (by omega)).mono ?_
     rintro e w5 ⟨g5,n5,k5,rfl,l5,hb5⟩
     have HE5:=hid (HEA.out.next hb5)
     have HL5:=hid l5
     clear b0 b1 b2 b3 b4 hb5 l5 HEA
     go_wp2_with fail
     refine (put_one ⟨21,0,0,⟨#[120]⟩,0⟩ _ HL5.out (by show (⟨#[120]⟩:ByteArray).size≤1000;decide) (by omega)).mono ?_
     rintro e w6 ⟨g6,n6,k6,rfl,l6,hb6⟩
     have HE6:=hid (HE5.out.next hb6)
     have HL6:=hid l6
     clear hb6 l6 HE5 HL5
     go_wp2_with fail
     refine (put_one ⟨24,0,0,⟨#[]⟩,0⟩ _ HL6.out (by show (⟨#[]⟩:ByteArray).size≤1000;decide) (by omega)).mono ?_
     rintro e w7 ⟨g7,n7,k7,rfl,l7,hb7⟩
     have HE7:=hid (HE6.out.next hb7)
     have HL7:=hid l7
     clear hb7 l7 HE6 HL6
     have hb8:w7.heap[rb]?=some (.cells #[.slice none 0 0] 50 (0,0)):=(HE7.out.sv.block rb (by have:=(Array.getElem?_eq_some_iff.1 HBX.out).1;exact this) (by show ¬ rb=R;omega)).trans HBX.out
     have r0:=cell_hp hb8 0
     have rf:=frozen_hp hb8 0
     simp at r0
     have HB8:=hid hb8
     clear hb8
     go_wp2
     refine bodyPost_ret (v:=.agg #[.slice (some ⟨g7,0,none⟩) n7 k7]) (by simp [results,Tryz.results39,go_sem,r0]) rfl ⟨g7,n7,k7,rfl,?_,?_,?_⟩
     ·obtain ⟨l,h1,h2⟩:=HL7.out
      refine ⟨l,h1.keep fun g cur hc=>Below.heap_setCell _ _ _ _ (fun e=>?_),h2.mono (by omega)⟩
      have e':g=rb:=e
      subst e'
      rw [HB8.out] at hc
      cases hc
     ·obtain ⟨p9,hp9,hr9⟩:=HE7.out.rd
      exact ⟨p9,by omega,hr9.sv (S:=fun k=>k=rb) (Sv.setCell (S:=fun k=>k=rb) (Sv.refl _ w7) (p:=⟨rb,0,none⟩) (.inl rfl) _) (fun k e=>by subst e;omega)⟩
     ·have b1:BR R w W0:=BR.of_below HB0.out (by omega)
      have b2:BR R W0 w7:=BR.of_sv HE7.out.sv (by omega)
      exact (b1.trans b2).set (by omega) (by rw [HRB.out];exact Nat.le_refl _) _
  ·subst hx2
   go_wp2_with fail
   refine (HE1.out.pick (by omega) 2 (by omega)).mono ?_
   rintro e w2 ⟨y,rfl,hy,d2⟩
   have HE2:=hid d2
   clear d2 HE1
   have hwy:IntKind.i64.wrap (8+(y:Int))=8+(y:Int):=by rw [IntKind.wrap_i64];omega
   have hwy2:IntKind.i64.wrap (8+(y:Int)+1)=((9+y:Nat):Int):=by rw [IntKind.wrap_i64];omega
   have b0:=(five_at HE2.out.box).1
   have bf:=frozen_hp HE2.out.box 0
   have HE3:=hid (HE2.out.setk 12)
   have HE9:=hid (HE3.out.mono (Nat.le_refl _) (P':=p+5) (by omega))
   clear HE2 HE3
   go_wp2
   go_loopw [3] (fun pv wr=>∃ t:Nat,t≤(9+y)∧0≤t∧(∃ pa pc,pv=.slice pa t pc)∧EI R eb W0 t t (p+5) 12 pv wr) (fun pv _=>(9+y) - slLen pv)
   case atStart=>exact ⟨0,by omega,Nat.le_refl _,⟨_,_,rfl⟩,HE9.out⟩
   case round =>
    obtain ⟨t,ht,hat,⟨pa,pc,rfl⟩,hd⟩:=hrel
    have HEA:=hid hd
    clear hd HE9
    by_cases hlt:t < (9+y)
    ·have hti:(t:Int) < (((9+y):Nat):Int):=by omega
     go_wp2_with fail
     refine (intNode_any 3 _).mono ?_
     rintro e w5 ⟨v5,rfl,nn5,hb5⟩
     have hsl:=nn5.sl
     obtain ⟨g5,n5,k5,rfl⟩:=hsl
     have HE5:=hid (HEA.out.next hb5)
     have hub:=nd_ne nn5 HE5.out.box (by decide)
     have HAL:=hid ((Below.refl w5.heap.size w5).alloc (Nat.le_refl _) (.cells #[.slice (some ⟨g5,0,none⟩) n5 k5] 48))
     have HE6:=hid (HE5.out.next HAL.out)
     have HL6:Hid (Has 1 (w5.alloc (.cells #[.slice (some ⟨g5,0,none⟩) n5 k5] 48)) (.slice (some ⟨g5,0,none⟩) n5 k5)):=⟨_,nn5.next HAL.out,NdOk.one (by show (⟨#[]⟩:ByteArray).size≤1000;decide)⟩
     have hw5:W0.heap.size≤w5.heap.size:=HE5.out.sv.size
     clear hb5 nn5 HEA HE5 HAL
     obtain ⟨xs,ls,q1,q2,q3,q4,q5,q6⟩:=HE6.out.parts
     have HQ2:=hid q2
     have HQ4:=hid q4
     have HQ5:=hid q5
     have HQ6:=hid q6
     have hwz:W0.heap.size≤(w5.alloc (.cells #[.slice (some ⟨g5,0,none⟩) n5 k5] 48)).heap.size:=HE6.out.sv.size
     clear q2 q4 q5 q6
     go_wp2_with (at_builtin;refine wpList_append_own _ rfl _ _ 93 rfl W0.heap.size 48 i0 (.slice none 0 0) 1 24 Tryz.underlying93 HHI.out.1 HHI.out.2.1 HHI.out.2.2.1 HHI.out.2.2.2 rfl (by decide) _ _ xs rfl HQ2.out ⟨w5.heap.size,0,none⟩ 1 1 [.slice (some ⟨g5,0,none⟩) n5 k5] rfl rfl ?c1 ?c2 ?c3 ?c4 ?c5 ?_)
     case c1 =>
      intro j u hj
      match j,hj with
      | 0,hj=>simp at hj;subst hj;exact cell_new_row w5 _ _ 0
     case c2=>intro u hu;simp at hu;subst hu;rfl
     case c3=>unfold maxLen;omega
     case c4=>omega
     case c5=>simpa using hwz
     intro vz wz oz gz _
     have HEZ:=hid (HE6.out.parted q1 q3 HQ4.out HQ5.out HQ6.out HQ2.out HL6.out hub gz oz)
     clear oz gz HE6 HL6 HQ2 HQ4 HQ5 HQ6 q1 q3
     obtain ⟨paz,pcz,hvz⟩:=HEZ.out.psl
     subst hvz
     go_wp2
     go_roundw
     case rel=>exact ⟨t+1,by omega,by omega,⟨_,_,rfl⟩,HEZ.out⟩
     case measure=>simp [slLen];omega
    ·obtain rfl:t=(9+y):=by omega
     have hti:¬ (((9+y):Nat):Int) < (((9+y):Nat):Int):=by omega
     obtain ⟨pg,pk,hv⟩:=HEA.out.at_row (by omega)
     cases hv
     obtain ⟨b0,b1,b2,b3,b4⟩:=five_at HEA.out.box
     go_wp2_with fail
     refine (HEA.out.putAll rfl (by omega) (by omega)).mono ?_
     rintro e w5 ⟨g5,n5,k5,rfl,l5,hb5⟩
     have HE5:=hid (HEA.out.next hb5)
     have HL5:=hid l5
     clear b0 b1 b2 b3 b4 hb5 l5 HEA
     go_wp2_with fail
     refine (put_one ⟨21,0,0,⟨#[120]⟩,0⟩ _ HL5.out (by show (⟨#[120]⟩:ByteArray).size≤1000;decide) (by omega)).mono ?_
     rintro e w6 ⟨g6,n6,k6,rfl,l6,hb6⟩
     have HE6:=hid (HE5.out.next hb6)
     have HL6:=hid l6
     clear hb6 l6 HE5 HL5
     go_wp2_with fail
     refine (put_one ⟨24,0,0,⟨#[]⟩,0⟩ _ HL6.out (by show (⟨#[]⟩:ByteArray).size≤1000;decide) (by omega)).mono ?_
     rintro e w7 ⟨g7,n7,k7,rfl,l7,hb7⟩
     have HE7:=hid (HE6.out.next hb7)
     have HL7:=hid l7
     clear hb7 l7 HE6 HL6
     have hb8:w7.heap[rb]?=some (.cells #[.slice none 0 0] 50 (0,0)):=(HE7.out.sv.block rb (by have:=(Array.getElem?_eq_some_iff.1 HBX.out).1;exact this) (by show ¬ rb=R;omega)).trans HBX.out
     have r0:=cell_hp hb8 0
     have rf:=frozen_hp hb8 0
     simp at r0
     have HB8:=hid hb8
     clear hb8
     go_wp2
     refine bodyPost_ret (v:=.agg #[.slice (some ⟨g7,0,none⟩) n7 k7]) (by simp [results,Tryz.results39,go_sem,r0]) rfl ⟨g7,n7,k7,rfl,?_,?_,?_⟩
     ·obtain ⟨l,h1,h2⟩:=HL7.out
      refine ⟨l,h1.keep fun g cur hc=>Below.heap_setCell _ _ _ _ (fun e=>?_),h2.mono (by omega)⟩
      have e':g=rb:=e
      subst e'
      rw [HB8.out] at hc
      cases hc
     ·obtain ⟨p9,hp9,hr9⟩:=HE7.out.rd
      exact ⟨p9,by omega,hr9.sv (S:=fun k=>k=rb) (Sv.setCell (S:=fun k=>k=rb) (Sv.refl _ w7) (p:=⟨rb,0,none⟩) (.inl rfl) _) (fun k e=>by subst e;omega)⟩
     ·have b1:BR R w W0:=BR.of_below HB0.out (by omega)
      have b2:BR R W0 w7:=BR.of_sv HE7.out.sv (by omega)
      exact (b1.trans b2).set (by omega) (by rw [HRB.out];exact Nat.le_refl _) _
  ·subst hx3
   go_wp2_with fail
   refine (HE1.out.pick (by omega) 2 (by omega)).mono ?_
   rintro e w2 ⟨y,rfl,hy,d2⟩
   have HE2:=hid d2
   clear d2 HE1
   have hwy:IntKind.i64.wrap (8+(y:Int))=((8+y:Nat):Int):=by rw [IntKind.wrap_i64];omega
   have hwy2:IntKind.i64.wrap (((8+y:Nat):Int)+1)=((9+y:Nat):Int):=by rw [IntKind.wrap_i64];omega
   go_wp2
   go_loopw [3,6] (fun pv i wr=>∃ t:Nat,t≤8+y∧i=.int .i64 t∧EI R eb W0 t t (p+1+1) 8 pv wr) (fun _ i _=>8+y - (intOf i).toNat)
   case atStart=>exact ⟨0,Nat.zero_le _,rfl,HE2.out⟩
   case round =>
    obtain ⟨t,ht,rfl,hd⟩:=hrel
    have HE3:=hid hd
    obtain ⟨pa,pc,rfl⟩:=hd.psl
    clear hd
    by_cases hlt:t < 8+y
    ·have hti:(t:Int) < ((8+y:Nat):Int):=by omega
     go_wp2_with fail
     refine (l1Dec_any 17 t _ (by have:(100:Nat) < 10 ^ 18:=(by decide);omega) (by decide)).mono ?_
     rintro e w4 ⟨sd,rfl,hsd,hb4⟩
     have HE4:=hid (HE3.out.next hb4)
     clear hb4 HE3
     obtain ⟨ps,hps⟩:∃ ps:ByteArray,(⟨#[112]⟩:ByteArray) ++ sd=ps:=⟨_,rfl⟩
     have hpz:ps.size≤100:=by rw [← hps,ByteArray.size_append];show 1+sd.size≤100;omega
     have HAL:=hid (((Below.refl w4.heap.size w4).alloc (Nat.le_refl _) (.cells #[.int .i64 19,.int .i64 0,.int .i64 0,.string ps,.int .i64 0] 81)).alloc (by simp) (.cells #[.slice (some ⟨w4.heap.size,0,none⟩) 1 1] 48))
     have HE5:=hid (HE4.out.next HAL.out)
     have HL5:Hid (Has 1 ((w4.alloc (.cells #[.int .i64 19,.int .i64 0,.int .i64 0,.string ps,.int .i64 0] 81)).alloc (.cells #[.slice (some ⟨w4.heap.size,0,none⟩) 1 1] 48)) (.slice (some ⟨w4.heap.size,0,none⟩) 1 1)):=⟨[⟨19,0,0,ps,0⟩],(nd_one w4 ⟨19,0,0,ps,0⟩).next ((Below.refl _ _).alloc (Nat.le_refl _) _),NdOk.one (by show ps.size≤1000;omega)⟩
     have heb4:eb < w4.heap.size:=(Array.getElem?_eq_some_iff.1 HE4.out.box).1
     have hub:(Value.slice (some ⟨w4.heap.size,0,none⟩) 1 1).ownBlock≠some eb:=fun e=>by
      have e':w4.heap.size=eb:=Option.some.inj e
      omega
     clear HAL HE4
     obtain ⟨xs,ls,q1,q2,q3,q4,q5,q6⟩:=HE5.out.parts
     have HQ2:=hid q2
     have HQ4:=hid q4
     have HQ5:=hid q5
     have HQ6:=hid q6
     have hwz:W0.heap.size≤((w4.alloc (.cells #[.int .i64 19,.int .i64 0,.int .i64 0,.string ps,.int .i64 0] 81)).alloc (.cells #[.slice (some ⟨w4.heap.size,0,none⟩) 1 1] 48)).heap.size:=HE5.out.sv.size
     clear q2 q4 q5 q6
     go_wp2_with (at_builtin;refine wpList_append_own _ rfl _ _ 93 rfl W0.heap.size 48 i0 (.slice none 0 0) 1 24 Tryz.underlying93 HHI.out.1 HHI.out.2.1 HHI.out.2.2.1 HHI.out.2.2.2 rfl (by decide) _ _ xs rfl HQ2.out ⟨w4.heap.size+1,0,none⟩ 1 1 [.slice (some ⟨w4.heap.size,0,none⟩) 1 1] rfl rfl ?c1 ?c2 ?c3 ?c4 ?c5 ?_)
     case c1 =>
      intro j u hj
      match j,hj with
      | 0,hj=>simp at hj;subst hj;have:=cell_new_row (w4.alloc (.cells #[.int .i64 19,.int .i64 0,.int .i64 0,.string ps,.int .i64 0] 81)) #[.slice (some ⟨w4.heap.size,0,none⟩) 1 1] 48 0;rw [World.size_alloc] at this;exact this
     case c2=>intro u hu;simp at hu;subst hu;rfl
     case c3=>unfold maxLen;omega
     case c4=>omega
     case c5=>simpa using hwz
     intro vz wz oz gz _
     have HEZ:=hid (HE5.out.parted q1 q3 HQ4.out HQ5.out HQ6.out HQ2.out HL5.out hub gz oz)
     clear oz gz HE5 HL5 HQ2 HQ4 HQ5 HQ6 q1 q3
     have hinc:IntKind.i64.wrap ((t:Int)+1)=((t+1:Nat):Int):=by rw [IntKind.wrap_i64];omega
     go_wp2
     go_roundw
     case rel=>exact ⟨t+1,by omega,by go_num,HEZ.out⟩
     case measure=>simp [intOf];omega
    ·obtain rfl:t=8+y:=by omega
     have hti:¬ ((8+y:Nat):Int) < ((8+y:Nat):Int):=by omega
     have b0:=(five_at HE3.out.box).1
     have bf:=frozen_hp HE3.out.box 0
     have HE4:=hid (HE3.out.setk 15)
     have HE9:=hid (HE4.out.mono (Nat.le_refl _) (P':=p+5) (by omega))
     clear HE3 HE4
     go_wp2
     go_loopw [3] (fun pv wr=>∃ t:Nat,t≤(9+y)∧(8+y)≤t∧(∃ pa pc,pv=.slice pa t pc)∧EI R eb W0 t t (p+5) 15 pv wr) (fun pv _=>(9+y) - slLen pv)
     case atStart=>exact ⟨(8+y),by omega,Nat.le_refl _,⟨_,_,rfl⟩,HE9.out⟩
     case round =>
      obtain ⟨t,ht,hat,⟨pa,pc,rfl⟩,hd⟩:=hrel
      have HEA:=hid hd
      clear hd HE9
      by_cases hlt:t < (9+y)
      ·have hti:(t:Int) < (((9+y):Nat):Int):=by omega
       go_wp2_with fail
       refine (intNode_any 3 _).mono ?_
       rintro e w5 ⟨v5,rfl,nn5,hb5⟩
       have hsl:=nn5.sl
       obtain ⟨g5,n5,k5,rfl⟩:=hsl
       have HE5:=hid (HEA.out.next hb5)
       have hub:=nd_ne nn5 HE5.out.box (by decide)
       have HAL:=hid ((Below.refl w5.heap.size w5).alloc (Nat.le_refl _) (.cells #[.slice (some ⟨g5,0,none⟩) n5 k5] 48))
       have HE6:=hid (HE5.out.next HAL.out)
       have HL6:Hid (Has 1 (w5.alloc (.cells #[.slice (some ⟨g5,0,none⟩) n5 k5] 48)) (.slice (some ⟨g5,0,none⟩) n5 k5)):=⟨_,nn5.next HAL.out,NdOk.one (by show (⟨#[]⟩:ByteArray).size≤1000;decide)⟩
       have hw5:W0.heap.size≤w5.heap.size:=HE5.out.sv.size
       clear hb5 nn5 HEA HE5 HAL
       obtain ⟨xs,ls,q1,q2,q3,q4,q5,q6⟩:=HE6.out.parts
       have HQ2:=hid q2
       have HQ4:=hid q4
       have HQ5:=hid q5
       have HQ6:=hid q6
       have hwz:W0.heap.size≤(w5.alloc (.cells #[.slice (some ⟨g5,0,none⟩) n5 k5] 48)).heap.size:=HE6.out.sv.size
       clear q2 q4 q5 q6
       go_wp2_with (at_builtin;refine wpList_append_own _ rfl _ _ 93 rfl W0.heap.size 48 i0 (.slice none 0 0) 1 24 Tryz.underlying93 HHI.out.1 HHI.out.2.1 HHI.out.2.2.1 HHI.out.2.2.2 rfl (by decide) _ _ xs rfl HQ2.out ⟨w5.heap.size,0,none⟩ 1 1 [.slice (some ⟨g5,0,none⟩) n5 k5] rfl rfl ?c1 ?c2 ?c3 ?c4 ?c5 ?_)
       case c1 =>
        intro j u hj
        match j,hj with
        | 0,hj=>simp at hj;subst hj;exact cell_new_row w5 _ _ 0
       case c2=>intro u hu;simp at hu;subst hu;rfl
       case c3=>unfold maxLen;omega
       case c4=>omega
       case c5=>simpa using hwz
       intro vz wz oz gz _
       have HEZ:=hid (HE6.out.parted q1 q3 HQ4.out HQ5.out HQ6.out HQ2.out HL6.out hub gz oz)
       clear oz gz HE6 HL6 HQ2 HQ4 HQ5 HQ6 q1 q3
       obtain ⟨paz,pcz,hvz⟩:=HEZ.out.psl
       subst hvz
       go_wp2
       go_roundw
       case rel=>exact ⟨t+1,by omega,by omega,⟨_,_,rfl⟩,HEZ.out⟩
       case measure=>simp [slLen];omega
      ·obtain rfl:t=(9+y):=by omega
       have hti:¬ (((9+y):Nat):Int) < (((9+y):Nat):Int):=by omega
       obtain ⟨pg,pk,hv⟩:=HEA.out.at_row (by omega)
       cases hv
       obtain ⟨b0,b1,b2,b3,b4⟩:=five_at HEA.out.box
       go_wp2_with fail
       refine (HEA.out.putAll rfl (by omega) (by omega)).mono ?_
       rintro e w5 ⟨g5,n5,k5,rfl,l5,hb5⟩
       have HE5:=hid (HEA.out.next hb5)
       have HL5:=hid l5
       clear b0 b1 b2 b3 b4 hb5 l5 HEA
       go_wp2_with fail
       refine (put_one ⟨21,0,0,⟨#[120]⟩,0⟩ _ HL5.out (by show (⟨#[120]⟩:ByteArray).size≤1000;decide) (by omega)).mono ?_
       rintro e w6 ⟨g6,n6,k6,rfl,l6,hb6⟩
       have HE6:=hid (HE5.out.next hb6)
       have HL6:=hid l6
       clear hb6 l6 HE5 HL5
       go_wp2_with fail
       refine (put_one ⟨24,0,0,⟨#[]⟩,0⟩ _ HL6.out (by show (⟨#[]⟩:ByteArray).size≤1000;decide) (by omega)).mono ?_
       rintro e w7 ⟨g7,n7,k7,rfl,l7,hb7⟩
       have HE7:=hid (HE6.out.next hb7)
       have HL7:=hid l7
       clear hb7 l7 HE6 HL6
       have hb8:w7.heap[rb]?=some (.cells #[.slice none 0 0] 50 (0,0)):=(HE7.out.sv.block rb (by have:=(Array.getElem?_eq_some_iff.1 HBX.out).1;exact this) (by show ¬ rb=R;omega)).trans HBX.out
       have r0:=cell_hp hb8 0
       have rf:=frozen_hp hb8 0
       simp at r0
       have HB8:=hid hb8
       clear hb8
       go_wp2
       refine bodyPost_ret (v:=.agg #[.slice (some ⟨g7,0,none⟩) n7 k7]) (by simp [results,Tryz.results39,go_sem,r0]) rfl ⟨g7,n7,k7,rfl,?_,?_,?_⟩
       ·obtain ⟨l,h1,h2⟩:=HL7.out
        refine ⟨l,h1.keep fun g cur hc=>Below.heap_setCell _ _ _ _ (fun e=>?_),h2.mono (by omega)⟩
        have e':g=rb:=e
        subst e'
        rw [HB8.out] at hc
        cases hc
       ·obtain ⟨p9,hp9,hr9⟩:=HE7.out.rd
        exact ⟨p9,by omega,hr9.sv (S:=fun k=>k=rb) (Sv.setCell (S:=fun k=>k=rb) (Sv.refl _ w7) (p:=⟨rb,0,none⟩) (.inl rfl) _) (fun k e=>by subst e;omega)⟩
       ·have b1:BR R w W0:=BR.of_below HB0.out (by omega)
        have b2:BR R W0 w7:=BR.of_sv HE7.out.sv (by omega)
        exact (b1.trans b2).set (by omega) (by rw [HRB.out];exact Nat.le_refl _) _
end Go.Proofs.YtabbahpalemlhaaGreatDoor
