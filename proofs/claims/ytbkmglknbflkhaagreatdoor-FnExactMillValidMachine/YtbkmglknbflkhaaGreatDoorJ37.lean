import Derived.Test.YtbkmglknbflkhaaGreatDoorJ35
import Derived.Test.YtbkmglknbflkhaaGreatDoorJ34
import Derived.Test.YtbkmglknbflkhaaGreatDoorJ36
import Derived.Test.YtbkmglknbflkhaaGreatDoorJ04
namespace Go.Proofs.YtbkmglknbflkhaaGreatDoor.C
open Go.RowKit
set_option maxRecDepth 20000
theorem FnsRow.part {W:World} {ad:Option Addr} {c:Nat} {fns:List Fn} (h:FnsRow W (.slice ad fns.length c) fns) {k:Nat} (hk:k≤fns.length):FnsRow W (.slice ad k c) (fns.take k):=by
 obtain ⟨ad',c',e,h1,h2,h3⟩:=h
 injection e with ea _ ec
 subst ea ec
 have hl:(fns.take k).length=k:=by simp;omega
 refine ⟨ad,c,by rw [hl],by omega,h2,?_⟩
 rcases h3 with h3 | ⟨g,e1,e2,e3⟩
 ·left;rw [h3];simp
 ·refine .inr ⟨g,e1,e2,fun i hi=>?_⟩
  have hi2:i < k:=by omega
  have eg:(fns.take k).getD i fn0=fns.getD i fn0:=by
   rw [List.getD_eq_getElem?_getD,List.getD_eq_getElem?_getD,List.getElem?_take_of_lt hi2]
  rw [eg]
  exact e3 i (by omega)
set_option maxHeartbeats 1000000 in
theorem isMain_any {f:Fn} {aP:Option Addr} {cP:Nat} {iv:Value} (w:World) :
  Calls Tryz.prog 95 #[.agg #[.string f.name,.slice aP f.params.length cP,.int .i64 f.result,.int .i64 f.slots,iv]] w fun e w'=>Q.Says e (isMain f)∧Below w.heap.size w w':=by
 have HLO:Hid (∀ o,Below w.heap.size w (w.alloc o)):=hid fun o=>(Below.refl _ _).alloc (Nat.le_refl _) _
 by_cases hnm:f.name=⟨#[109,97,105,110]⟩
 ·have hnf:(f.name.toList == (⟨#[109,97,105,110]⟩:ByteArray).toList)=true:=str_eq.2 hnm
  have HNM:=hid hnm
  rw [hnm]
  clear hnm hnf
  by_cases hp0:f.params.length=0
  ·have HP0:=hid hp0
   rw [hp0]
   clear hp0
   by_cases hr:f.result=2
   ·rw [hr]
    have HR:=hid hr
    clear hr
    go_enter Tryz.func95,Tryz.ntmps95
    go_wp2_with fail
    go_ret
    exact ⟨Q.says_t ⟨HNM.out,HP0.out,HR.out⟩,HLO.out _⟩
   ·have HR:=hid hr
    have hrf:(f.result == 2)=false:=by simpa using hr
    clear hr
    go_enter Tryz.func95,Tryz.ntmps95
    go_wp2_with fail
    go_ret
    exact ⟨Q.says_f fun h=>HR.out h.2.2,HLO.out _⟩
  ·have HP0:=hid hp0
   have hpf:((f.params.length:Int) == 0)=false:=by simp;intro h;rw [h] at hp0;exact hp0 rfl
   clear hp0
   go_enter Tryz.func95,Tryz.ntmps95
   go_wp2_with fail
   go_ret
   exact ⟨Q.says_f fun h=>HP0.out h.2.1,HLO.out _⟩
 ·have HNM:=hid hnm
  have hnf:¬ f.name.toList=[109,97,105,110]:=fun h=>hnm (str_eq.1 (by rw [beq_iff_eq,h,Lib.toList_data]))
  clear hnm
  go_enter Tryz.func95,Tryz.ntmps95
  go_wp2_with fail
  go_ret
  exact ⟨Q.says_f fun h=>HNM.out h.1,HLO.out _⟩
def IxEnd (n:Nat) (P:Nat→Prop) (w:World) (e:Ending) (w':World):Prop:=∃ r:Int,e=.returned (.int .i64 r)∧(0≤r ↔ ∃ j,j < n∧P j)∧Below w.heap.size w w'
set_option maxHeartbeats 2000000 in
theorem idxMain_any {fns:List Fn} {w:World} {cv:Value} (h1:FnsRow w cv fns) (hl:fns.length≤60) :
  Calls Tryz.prog 161 #[cv,.func (.func 95) #[] #[]] w (IxEnd fns.length (fun j=>isMain (fns.getD j fn0)) w):=by
 have H1:=hid h1
 obtain ⟨aF,cF,rfl⟩:=h1.sl
 clear h1
 go_enter Tryz.func161,Tryz.ntmps161
 go_wp2_with fail
 go_loopw [8] (fun i wr=>∃ j:Nat,j≤fns.length∧i=.int .i64 j∧Below w.heap.size w wr∧∀ p,p < j→¬ isMain (fns.getD p fn0)) (fun i _=>fns.length - (intOf i).toNat)
 case atStart=>exact ⟨0,Nat.zero_le _,rfl,Below.refl _ _,fun p hp=>absurd hp (Nat.not_lt_zero _)⟩
 case round =>
  obtain ⟨j,hj,rfl,hlo,hall⟩:=hrel
  have HLO:=hid hlo
  have HALL:=hid hall
  clear hlo hall
  by_cases hlt:j < fns.length
  ·have hlti:(j:Int) < (fns.length:Int):=by omega
   obtain ⟨gF2,cF2,e9,_,pv,iv,n0,n1,n2,n3,n4,hpv,_⟩:=(H1.out.next HLO.out).at hlt
   injection e9 with ea en ec
   clear en
   subst ea ec
   obtain ⟨aP,cP,rfl⟩:=hpv.sl
   obtain ⟨f,hf⟩:∃ f,fns.getD j fn0=f:=⟨_,rfl⟩
   rw [hf] at n0 n1 n2 n3
   have HFE:=hid hf
   clear hf hpv
   have HIM:=hid (isMain_any (f:=f) (aP:=aP) (cP:=cP) (iv:=iv) wr)
   have HNO:Hid (¬ isMain f→∀ p,p < j+1→¬ isMain (fns.getD p fn0)):=hid fun h p hp=>by
    by_cases e:p=j
    ·subst e;rw [HFE.out];exact h
    ·exact HALL.out p (by omega)
   by_cases hm:isMain f
   ·have HT:Hid (Calls Tryz.prog 95 #[.agg #[.string f.name,.slice aP f.params.length cP,.int .i64 f.result,.int .i64 f.slots,iv]] wr fun e w'=>e=.returned (.bool true)∧Below wr.heap.size wr w'):=hid (HIM.out.mono fun e w' h=>⟨by obtain ⟨⟨x,e1,hx⟩,_⟩:=h;rw [e1,hx.2 hm],h.2⟩)
    have HX:=hid hm
    clear hm
    go_wp2_with (go_at_call 95;refine HT.out.mono ?_;rintro e w2 ⟨rfl,hb2⟩;have HB:=hid (HLO.out.trans (hb2.mono HLO.out.size));clear hb2)
    go_ret
    exact ⟨j,rfl,⟨fun _=>⟨j,hlt,by show isMain (fns.getD j fn0);rw [HFE.out];exact HX.out⟩,fun _=>by omega⟩,HB.out⟩
   ·have HT:Hid (Calls Tryz.prog 95 #[.agg #[.string f.name,.slice aP f.params.length cP,.int .i64 f.result,.int .i64 f.slots,iv]] wr fun e w'=>e=.returned (.bool false)∧Below wr.heap.size wr w'):=hid (HIM.out.mono fun e w' h=>⟨by obtain ⟨⟨x,e1,hx⟩,_⟩:=h;rw [e1];cases x with | false=>rfl | true=>exact absurd (hx.1 rfl) hm,h.2⟩)
    have HX:=hid hm
    clear hm
    go_wp2_with (go_at_call 95;refine HT.out.mono ?_;rintro e w2 ⟨rfl,hb2⟩;have HB:=hid (HLO.out.trans (hb2.mono HLO.out.size));clear hb2)
    go_roundw
    case rel=>exact ⟨j+1,by omega,by go_num,HB.out,HNO.out HX.out⟩
    case measure=>simp [intOf];omega
  ·obtain rfl:j=fns.length:=by omega
   have hge:¬ ((fns.length:Int) < (fns.length:Int)):=by omega
   go_wp2_with fail
   go_ret
   exact ⟨-1,rfl,⟨fun h=>absurd h (by omega),fun ⟨j,h1,h2⟩=>absurd h2 (HALL.out j h1)⟩,HLO.out⟩
set_option maxHeartbeats 2000000 in
theorem hasMain_any {fns:List Fn} {w:World} {cv:Value} (h1:FnsRow w cv fns) (hl:fns.length≤60) :
  Calls Tryz.prog 142 #[cv,.func (.func 95) #[] #[]] w fun e w'=>Q.Says e (∃ j,j < fns.length∧isMain (fns.getD j fn0))∧Below w.heap.size w w':=by
 have H:=hid (idxMain_any h1 hl)
 obtain ⟨aF,cF,rfl⟩:=h1.sl
 clear h1
 go_enter Tryz.func142,Tryz.ntmps142
 go_wp2_with (go_at_call 161;refine H.out.mono ?_;rintro e w' ⟨r,rfl,hr,hb⟩;have HR:=hid hr;clear hr)
 go_ret
 exact ⟨⟨_,rfl,by rw [← HR.out];simp⟩,hb⟩
set_option maxHeartbeats 2000000 in
theorem idxName_any {fns:List Fn} {w:World} {cv:Value} {tb:Nat} {s:ByteArray} (h1:FnsRow w cv fns) (hl:fns.length≤60) (ht:w.cell? ⟨tb,0,none⟩=some (.string s)) :
  Calls Tryz.prog 161 #[cv,.func (.func 157) #[] #[.pointer (some ⟨tb,0,none⟩)]] w (IxEnd fns.length (fun j=>(fns.getD j fn0).name=s) w):=by
 have lt:=World.block_lt_of_cell? w _ ht
 have HT:=hid ht
 have H1:=hid h1
 obtain ⟨aF,cF,rfl⟩:=h1.sl
 clear h1 ht
 go_enter Tryz.func161,Tryz.ntmps161
 go_wp2_with fail
 go_loopw [8] (fun i wr=>∃ j:Nat,j≤fns.length∧i=.int .i64 j∧Below w.heap.size w wr∧∀ p,p < j→¬ (fns.getD p fn0).name=s) (fun i _=>fns.length - (intOf i).toNat)
 case atStart=>exact ⟨0,Nat.zero_le _,rfl,Below.refl _ _,fun p hp=>absurd hp (Nat.not_lt_zero _)⟩
 case round =>
  obtain ⟨j,hj,rfl,hlo,hall⟩:=hrel
  have HLO:=hid hlo
  have HALL:=hid hall
  clear hlo hall
  by_cases hlt:j < fns.length
  ·have hlti:(j:Int) < (fns.length:Int):=by omega
   obtain ⟨gF2,cF2,e9,_,pv,iv,n0,n1,n2,n3,n4,hpv,hiv⟩:=(H1.out.next HLO.out).at hlt
   injection e9 with ea en ec
   clear en
   subst ea ec
   obtain ⟨aP,cP,rfl⟩:=hpv.sl
   obtain ⟨aI,cI,rfl⟩:=hiv.sl
   obtain ⟨f,hf⟩:∃ f,fns.getD j fn0=f:=⟨_,rfl⟩
   rw [hf] at n0 n1 n2 n3 n4
   have HFE:=hid hf
   clear hf hpv hiv
   have HN:=hid (HLO.out.alloc HLO.out.size (.cells #[.string f.name,.slice aP f.params.length cP,.int .i64 f.result,.int .i64 f.slots,.slice aI f.ins.length cI] 125))
   have ht':=(HN.out.cell (p:=⟨tb,0,none⟩) lt).trans HT.out
   by_cases c1:f.name=s
   ·have HC:=hid c1
    have hq:(f.name.toList == s.toList)=true:=str_eq.2 c1
    clear c1
    go_wp2
    go_ret
    exact ⟨j,rfl,⟨fun _=>⟨j,hlt,by show (fns.getD j fn0).name=s;rw [HFE.out];exact HC.out⟩,fun _=>by omega⟩,HN.out⟩
   ·have HNO:Hid (∀ p,p < j+1→¬ (fns.getD p fn0).name=s):=hid fun p hp=>by
     by_cases e:p=j
     ·subst e;rw [HFE.out];exact c1
     ·exact HALL.out p (by omega)
    have hq:(f.name.toList == s.toList)=false:=by
     cases h:(f.name.toList == s.toList) with
     | false=>rfl
     | true=>exact absurd (str_eq.1 h) c1
    clear c1
    go_wp2
    go_roundw
    case rel=>exact ⟨j+1,by omega,by go_num,HN.out,HNO.out⟩
    case measure=>simp [intOf];omega
  ·obtain rfl:j=fns.length:=by omega
   have hge:¬ ((fns.length:Int) < (fns.length:Int)):=by omega
   go_wp2_with fail
   go_ret
   exact ⟨-1,rfl,⟨fun h=>absurd h (by omega),fun ⟨j,h1,h2⟩=>absurd h2 (HALL.out j h1)⟩,HLO.out⟩
set_option maxHeartbeats 2000000 in
theorem hasName_any {fns:List Fn} {w:World} {cv:Value} {s:ByteArray} (h1:FnsRow w cv fns) (hl:fns.length≤60) :
  Calls Tryz.prog 139 #[cv,.string s] w fun e w'=>Q.Says e (∃ j,j < fns.length∧(fns.getD j fn0).name=s)∧Below w.heap.size w w':=by
 have HLO:Hid (Below w.heap.size w (w.alloc (.cells #[.string s] 9))):=hid ((Below.refl _ _).alloc (Nat.le_refl _) _)
 have H:=hid (idxName_any (h1.next HLO.out) hl (tb:=w.heap.size) (s:=s) (cell_hp (heap_alloc_new _ _) 0))
 have HC:Hid (Calls Tryz.prog 142 #[cv,.func (.func 157) #[] #[.pointer (some ⟨w.heap.size,0,none⟩)]] (w.alloc (.cells #[.string s] 9)) fun e w'=>Q.Says e (∃ j,j < fns.length∧(fns.getD j fn0).name=s)∧Below (w.alloc (.cells #[.string s] 9)).heap.size (w.alloc (.cells #[.string s] 9)) w'):=hid (by
  obtain ⟨aF,cF,rfl⟩:=h1.sl
  clear h1
  go_enter Tryz.func142,Tryz.ntmps142
  go_wp2_with (go_at_call 161;refine H.out.mono ?_;rintro e w' ⟨r,rfl,hr,hb⟩;have HR:=hid hr;clear hr)
  go_ret
  exact ⟨⟨_,rfl,by rw [← HR.out];simp⟩,hb⟩)
 obtain ⟨aF,cF,rfl⟩:=h1.sl
 clear h1
 go_enter Tryz.func139,Tryz.ntmps139
 go_wp2_with (go_at_call 142;refine HC.out.mono ?_;rintro e w' ⟨⟨x,rfl,hx⟩,hb⟩;have HX:=hid hx;clear hx)
 go_ret
 exact ⟨⟨_,rfl,HX.out⟩,HLO.out.trans (hb.mono HLO.out.size)⟩
set_option maxHeartbeats 8000000 in
theorem new_any {fns:List Fn} {q:Nat} {w:World} {cv:Value} (h1:FnsRow w cv fns) (hE:EnvI w) (hq:q < fns.length) (hF:∀ g ∈ fns,FnR fns g) :
  Calls Tryz.prog 119 #[.agg #[cv],.int .i64 q] w (NewEnd fns (fns.getD q fn0) w):=by
 have hf:FnR fns (fns.getD q fn0):=hF _ (by rw [List.getD_eq_getElem?_getD,List.getElem?_eq_getElem hq];exact List.getElem_mem hq)
 have H1:=hid h1
 have HEN:=hid hE
 have HF:=hid hF
 obtain ⟨gF,cF,rfl,hgF,pv,iv,v0,v1,v2,v3,v4,hpv,hiv⟩:=h1.at hq
 obtain ⟨f,hfe⟩:∃ f,fns.getD q fn0=f:=⟨_,rfl⟩
 rw [hfe] at hf v0 v2 v3 hpv hiv ⊢
 have HR:=hid hf
 have HPV:=hid hpv
 have HIV:=hid hiv
 have hIL:f.ins.length≤50000:=hf.some_.2
 have hI1:1≤f.ins.length:=hf.some_.1
 obtain ⟨S,hS⟩:∃ S:Nat,f.slots=S:=⟨f.slots.toNat,by have:=hf.slots;omega⟩
 have HS:Hid (f.S=S):=hid (by unfold Fn.S;omega)
 have hSL:f.params.length≤S:=by have:=hf.slots;omega
 have hS2:S≤200:=by have:=hf.slots;omega
 have HSL:=hid hS
 obtain ⟨aP,cP,rfl⟩:=hpv.sl
 obtain ⟨aI,cI,rfl⟩:=hiv.sl
 obtain ⟨i3,hi3,hy0,hy1,hy2⟩:=info_parts lying_info
 have HH3:=hid (And.intro hi3 (And.intro hy0 (And.intro hy1 hy2)))
 have hqi:(q:Int) < (fns.length:Int):=by omega
 clear hi3 hy0 hy1 hF hf hfe hpv hiv h1 hS hE
 go_enter Tryz.func119,Tryz.ntmps119
 go_upto_region 2 with fail
 obtain ⟨t0,t1,hlo,hz⟩:=two w (.cells #[.slice (some ⟨gF,0,none⟩) fns.length cF] 59) (fbox f (.slice aP f.params.length cP) (.slice aI f.ins.length cI))
 obtain ⟨W2,hW2⟩:∃ W,((w.alloc (.cells #[.slice (some ⟨gF,0,none⟩) fns.length cF] 59)).alloc (fbox f (.slice aP f.params.length cP) (.slice aI f.ins.length cI)))=W:=⟨_,rfl⟩
 rw [hW2] at t0 t1 hlo hz
 unfold fbox at hW2
 rw [hW2]
 clear hW2
 have T0:=hid t0
 have T1:=hid t1
 have HLO:=hid hlo
 have HSG:Hid (SG fns f W2 (.slice (some ⟨gF,0,none⟩) fns.length cF) (.slice aP f.params.length cP) (.slice aI f.ins.length cI)):=hid ⟨H1.out.next hlo,HPV.out.next hlo,HIV.out.next hlo,HEN.out.next hlo⟩
 obtain ⟨W3,hmk,own3,grw3⟩:=run_make_full (P:=Tryz.prog) W2.drew W2.heap.size 175 101 i3 (.agg #[.int .i64 0,.string ⟨#[]⟩,.string ⟨#[]⟩]) 3 Tryz.underlying175 HH3.out.1 HH3.out.2.1 HH3.out.2.2.1 .i64 .i64 f.ins.length (by rw [hy2];omega) (by unfold maxLen;omega) (Nat.le_refl _)
 have b3:Below W2.heap.size W2 W3:=(Below.refl W2.heap.size W2).drew.grown grw3 (Nat.le_refl _) (fun q e=>by cases e)
 have HB3:=hid b3
 have HLY:=hid (LyRow.made own3)
 have HC:Hid (∀ V,Below W2.heap.size W2 V→V.cell? ⟨w.heap.size,0,none⟩=some (.slice (some ⟨gF,0,none⟩) fns.length cF)∧V.cell? ⟨w.heap.size+1,0,none⟩=some (.string f.name)∧V.cell? ⟨w.heap.size+1,1,none⟩=some (.slice aP f.params.length cP)∧V.cell? ⟨w.heap.size+1,2,none⟩=some (.int .i64 f.result)∧V.cell? ⟨w.heap.size+1,3,none⟩=some (.int .i64 f.slots)∧V.cell? ⟨w.heap.size+1,4,none⟩=some (.slice aI f.ins.length cI)):=hid fun V hV=>by
  obtain ⟨a0,a1,a2,a3,a4⟩:=fx (hp_next T1.out hV)
  exact ⟨cx (hp_next T0.out hV),a0,a1,a2,a3,a4⟩
 clear t0 t1 hlo own3 grw3 b3 v0 v1 v2 v3 v4
 go_region_held3 (fun V=>V.cell? ⟨w.heap.size,0,none⟩=some (.slice (some ⟨gF,0,none⟩) fns.length cF)∧V.cell? ⟨w.heap.size+1,0,none⟩=some (.string f.name)∧V.cell? ⟨w.heap.size+1,1,none⟩=some (.slice aP f.params.length cP)∧V.cell? ⟨w.heap.size+1,2,none⟩=some (.int .i64 f.result)∧V.cell? ⟨w.heap.size+1,3,none⟩=some (.int .i64 f.slots)∧V.cell? ⟨w.heap.size+1,4,none⟩=some (.slice aI f.ins.length cI)) (first | (exact HC.out _ (Below.refl _ _).drew) | (exact HC.out _ HB3.out) | (exact HC.out _ (HB3.out.alloc HB3.out.size _)) | go_keep) (first | fail)
 rename_i hHeld
 clear hHeld hmk
 have HLY2:Hid (LyRow W3 (w.heap.size+1+1) f.ins.length fun _=>bot):=hid (by rw [← hz];exact HLY.out)
 obtain ⟨ob,hob⟩:∃ o,(Obj.cells #[.slice (some ⟨gF,0,none⟩) fns.length cF,.string f.name,.slice aP f.params.length cP,.int .i64 f.result,.int .i64 f.slots,.slice aI f.ins.length cI,.slice (some ⟨w.heap.size+1+1,0,none⟩) f.ins.length f.ins.length,.slice none 0 0] 177)=o:=⟨_,rfl⟩
 have HP4:Hid (SP fns f W2 W3.heap.size (w.heap.size+1+1) (.slice (some ⟨gF,0,none⟩) fns.length cF) (.slice aP f.params.length cP) (.slice aI f.ins.length cI) (fun _=>bot) [] (.slice none 0 0) (W3.alloc ob)):=hid ⟨HB3.out.alloc HB3.out.size _,by rw [heap_alloc_new,← hob],HLY2.out.next ((Below.refl _ _).alloc (Nat.le_refl _) _),⟨rfl,.inl ⟨rfl,rfl⟩⟩,HB3.out.size,by omega,by have:=HLY2.out.lt;omega⟩
 have c3:=(HC.out (W3.alloc ob) (HB3.out.alloc HB3.out.size _)).2.2.2.2.1
 rw [HSL.out] at c3
 rw [hob]
 obtain ⟨W4,hW4⟩:∃ W,W3.alloc ob=W:=⟨_,rfl⟩
 obtain ⟨b,hb⟩:∃ b,W3.heap.size=b:=⟨_,rfl⟩
 rw [hW4,hb] at HP4
 rw [hW4] at c3
 rw [hW4,hb]
 clear hob hW4 hb HLY HLY2 HB3 T0 T1 HH3 hy2
 obtain ⟨i5,hi5,hu0,hu1,hu2⟩:=info_parts u8_info
 have HH5:=hid (And.intro hi5 (And.intro hu0 (And.intro hu1 hu2)))
 have hb5:i5.bytes=1:=hu2
 clear hi5 hu0 hu1 hu2
 go_upto_region 4 with (at_make;refine wpList_make_full _ rfl _ _ 149 rfl W4.heap.size 5 i5 (.int .u8 0) 1 Tryz.underlying149 HH5.out.1 HH5.out.2.1 HH5.out.2.2.1 _ _ _ _ S rfl rfl rfl rfl (by rw [hb5];omega) (by unfold maxLen;omega) (Nat.le_refl _) ?_;intro W5 o5 g5)
 have HN0:=hid (NI.made (l:=f.params) o5 g5)
 have c1:=(HC.out W5 (HP4.out.next HN0.out.lo).lo).2.2.1
 clear o5 g5 c3 HH5 hb5
 go_wp2_with fail
 clear c1
 go_loopw [31] (fun ix wr=>∃ j:Nat,j≤f.params.length∧ix=.int .i64 j∧NI f.params S W4 j wr) (fun ix _=>f.params.length - (intOf ix).toNat)
 case atStart=>exact ⟨0,Nat.zero_le _,rfl,HN0.out⟩
 case round =>
  clear HN0
  obtain ⟨j,hj,rfl,hni⟩:=hrel
  have HN:=hid hni
  clear hni
  by_cases hlt:j < f.params.length
  ·have hlti:(j:Int) < (f.params.length:Int):=by omega
   have hltS:(j:Int) < (S:Int):=by omega
   obtain ⟨gg,gc2,e9,_,_,hggl,hgc⟩:=(HSG.out.pr.next (HP4.out.next HN.out.lo).lo).at (i:=j) hlt
   injection e9 with e9 en ec
   clear en
   subst e9 ec
   have n0:=hgc j hlt
   clear hgc
   have kA:=HN.out.row.cell (show j < S by omega)
   have kF:=HN.out.row.frozen j
   have HM:=hid HN.out.more
   have hr:=HR.out.params (f.params.getD j 0) (by rw [List.getD_eq_getElem?_getD,List.getElem?_eq_getElem hlt];exact List.getElem_mem hlt)
   obtain ⟨y,hy⟩:∃ y,f.params.getD j 0=y:=⟨_,rfl⟩
   rw [hy] at n0 HM hr
   have hwy:IntKind.u8.wrap y=y:=by rw [IntKind.wrap_u8];omega
   unfold bRow at kA
   rw [if_neg (Nat.lt_irrefl j)] at kA
   clear hy hr
   go_wp2_with fail
   go_roundw
   case rel=>exact ⟨j+1,by omega,by go_num,HM.out⟩
   case measure=>simp [intOf];omega
  ·obtain rfl:j=f.params.length:=by omega
   have hge:¬ ((f.params.length:Int) < (f.params.length:Int)):=by omega
   have hcv:=HN.out.text HR.out HS.out hSL
   have HP5:=hid (HP4.out.next HN.out.lo)
   have HCM:Hid (Calls Tryz.prog 143 #[.pointer (some ⟨b,0,none⟩),.int .i64 0,.agg #[.int .i64 1,.string (kt (first f).sl),.string ⟨#[]⟩]] wr (ComeEnd fns f W2 b (w.heap.size+1+1) (.slice (some ⟨gF,0,none⟩) fns.length cF) (.slice aP f.params.length cP) (.slice aI f.ins.length cI) (fun _=>bot) [] (.slice none 0 0) wr 0 (first f))):=hid (come_any HP5.out (p:=0) (by omega) hIL (.inl rfl) (first_ok HR.out) (by simp [first]) (by rw [HS.out];exact hS2) List.Pairwise.nil (fun q hq=>(nomatch hq)) (Nat.zero_le _))
   obtain ⟨tx,htx⟩:∃ t,kt (first f).sl=t:=⟨_,rfl⟩
   rw [htx] at hcv HCM
   clear htx
   go_wp2_with (go_at_call 143;refine HCM.out.mono ?_;rintro e W6 ⟨rfl,_,wv6,_,hcase⟩;have HP6:=hid (come_first hcase);clear hcase)
   clear HCM hcv HP5 HN HP4
   obtain ⟨A1,hA1⟩:∃ A,upd (fun _=>bot) 0 (first f)=A:=⟨_,rfl⟩
   have HW1:Hid (WInv fns f A1 [0]):=hid (by rw [← hA1];exact WInv.start HR.out)
   rw [hA1] at HP6
   clear hA1
   obtain ⟨T,hT⟩:∃ T,tot f.S A1 f.ins.length * (f.ins.length+1)+1=T:=⟨_,rfl⟩
   go_loopg [] T (fun k wr=>∃ (A:Nat→Sh) (wk:List Nat) (wv:Value),SP fns f W2 b (w.heap.size+1+1) (.slice (some ⟨gF,0,none⟩) fns.length cF) (.slice aP f.params.length cP) (.slice aI f.ins.length cI) A wk wv wr∧WInv fns f A wk∧tot f.S A f.ins.length * (f.ins.length+1)+wk.length≤k)
   case atStart=>exact ⟨A1,[0],wv6,HP6.out,HW1.out,by rw [← hT];simp⟩
   case round =>
    clear HP6 HW1 hT
    obtain ⟨A,wk,wv,hsp,hwi,hk⟩:=hrel
    have HP:=hid hsp
    have HW:=hid hwi
    clear hsp hwi
    rcases List.eq_nil_or_concat wk with rfl | ⟨l,x,rfl⟩
    ·obtain ⟨adw,cw,hwv⟩:=own_form HP.out.own
     subst hwv
     have m7:wr.cell? ⟨b,7,none⟩=some (.slice adw 0 cw):=(cell_hp HP.out.e 7).trans rfl
     go_wp2_with fail
     go_ret
     exact ⟨W2,b,_,_,_,_,A,_,rfl,HLO.out,HSG.out,HP.out,HW.out.closed,HW.out.low⟩
    ·rw [List.concat_eq_append] at HP HW hk
     obtain ⟨g,c,hwv,hx,hc1,hc2,hnx⟩:=HP.out.last
     subst hwv
     have HNX:=hid hnx
     obtain ⟨hgi,hxn,hx0⟩:=HW.out.pop HR.out HF.out
     have HGI:=hid hgi
     have HX0:=hid hx0
     clear hnx hgi hx0
     have m7:wr.cell? ⟨b,7,none⟩=some (.slice (some ⟨g,0,none⟩) (l.length+1) c):=(cell_hp HP.out.e 7).trans rfl
     have f7:=frozen_hp HP.out.e 7
     have hll:=desc_len HGI.out.desc (fun q hq=>(HGI.out.good q hq).1)
     obtain ⟨m,hm⟩:∃ m,l.length=m:=⟨_,rfl⟩
     rw [hm] at hx hc1 m7 hll HNX
     have hpos:(0:Int) < ((m+1:Nat):Int):=by omega
     have hsub:IntKind.i64.wrap (((m+1:Nat):Int) - 1)=(m:Int):=by rw [IntKind.wrap_i64];omega
     have hml:(m:Int) < ((m+1:Nat):Int):=by omega
     go_upto_region 11 with fail
     go_quiet (fail)
     go_wp2_with fail
     go_region
     have HP8:=hid (HNX.out (wr.drewN (nq+1)) (below_drewN (Below.refl _ _) _))
     obtain ⟨W8,hW8⟩:∃ W',(wr.drewN (nq+1)).setCell ⟨b,7,none⟩ (.slice (some ⟨g,0,none⟩) m c)=W':=⟨_,rfl⟩
     rw [hW8] at HP8 ⊢
     have HGO:Hid (Calls Tryz.prog 144 #[.pointer (some ⟨b,0,none⟩),.int .i64 x] W8 (GoEnd fns f W2 b (w.heap.size+1+1) (.slice (some ⟨gF,0,none⟩) fns.length cF) (.slice aP f.params.length cP) (.slice aI f.ins.length cI) A l)):=hid (goOn_any HP8.out HSG.out hxn HF.out HR.out HX0.out HGI.out)
     clear hW8 m7 f7 hx hsub hml hpos HNX HP8 HP
     go_wp2_with (go_at_call 144;refine HGO.out.mono ?_;rintro e W9 ⟨rfl,A9,wk9,wv9,hsp9,hwi9,hor9⟩;have HP9:=hid hsp9;have HW9:=hid hwi9;have HOR:=hid hor9;clear hsp9 hwi9 hor9)
     go_roundg (tot f.S A9 f.ins.length * (f.ins.length+1)+wk9.length)
     case measure =>
      have hl9:=desc_len HW9.out.desc (fun q hq=>(HW9.out.good q hq).1)
      rw [List.length_append,List.length_singleton] at hk
      rcases HOR.out with ⟨h1,h2⟩ | h1
      ·rw [h1,h2];omega
      ·have h3:=Nat.mul_le_mul_right (f.ins.length+1) (show tot f.S A9 f.ins.length+1≤tot f.S A f.ins.length from h1)
       rw [Nat.add_mul] at h3
       omega
     case rel=>exact ⟨A9,wk9,wv9,HP9.out,HW9.out,Nat.le_refl _⟩
end Go.Proofs.YtbkmglknbflkhaaGreatDoor.C
namespace Go.Proofs.YtbkmglknbflkhaaGreatDoor.M
open Go.RowKit
open C (In in0 fn0 inV sig)
open Go.Proofs.YtbkmglknbflkhaaGreatDoor.J (Says says_t says_f)
open Go.Proofs.YtbkmglknbflkhaaGreatDoor.R (hid)
set_option maxRecDepth 20000
set_option maxHeartbeats 4000000 in
theorem wants12_any (op:Int) (w:World):Calls Tryz.prog 113 #[.int .i64 op] w fun e w'=>(∃ r,e=.returned (.tuple #[r,.int .i64 (sig op).2]))∧Below w.heap.size w w':=by
 by_cases h:1≤op∧op≤12
 ·refine (C.l12Wants_any op w h.1 h.2).mono ?_
  rintro e w2 ⟨v,rfl,_,hb⟩
  exact ⟨⟨v,rfl⟩,hb⟩
 ·have hs:(sig op).2=2:=by
   unfold sig
   rw [if_neg (by omega),if_neg (by omega),if_neg (by omega),if_neg (by omega),if_neg (by omega),if_neg (by omega),if_neg (by omega),if_neg (by omega),if_neg (by omega)]
  have HS:=hid hs
  have d1:(op == 1)=false:=by simp;omega
  have d2:(op == 2)=false:=by simp;omega
  have d3:(op == 3)=false:=by simp;omega
  have d4:(op == 4)=false:=by simp;omega
  have d5:(op == 5)=false:=by simp;omega
  have d6:(op == 6)=false:=by simp;omega
  have d7:(op == 7)=false:=by simp;omega
  have d8:(op == 8)=false:=by simp;omega
  have d9:(op == 9)=false:=by simp;omega
  have d10:(op == 10)=false:=by simp;omega
  have d11:(op == 11)=false:=by simp;omega
  have d12:(op == 12)=false:=by simp;omega
  clear h hs
  go_enter Tryz.func113,Tryz.ntmps113
  go_wp2
  go_ret2
  exact ⟨⟨_,by rw [HS.out];rfl⟩,(Below.refl _ _).alloc (Nat.le_refl _) _⟩
def k18 (op:Int):Int:=if 1≤op∧op≤4 then op else 0
set_option maxHeartbeats 1000000 in
theorem kind18_any (op:Int) (w:World):Calls Tryz.prog 114 #[.int .i64 op] w fun e w'=>e=.returned (.int .i64 (k18 op))∧w'=w:=by
 by_cases h:1≤op∧op≤4
 ·obtain rfl | rfl | rfl | rfl:op=1∨op=2∨op=3∨op=4:=by omega
  all_goals
   clear h
   go_enter Tryz.func114,Tryz.ntmps114
   go_wp2
   go_ret
   exact ⟨rfl,rfl⟩
 ·have HK:Hid (k18 op=0):=hid (by unfold k18;rw [if_neg h])
  have d1:(op == 1)=false:=by simp;omega
  have d2:(op == 2)=false:=by simp;omega
  have d3:(op == 3)=false:=by simp;omega
  have d4:(op == 4)=false:=by simp;omega
  clear h
  go_enter Tryz.func114,Tryz.ntmps114
  go_wp2
  go_ret
  exact ⟨by rw [HK.out];rfl,rfl⟩
structure WX (w:World) (x:R.Mc) (v0 v1 v2 v3 v4 v5:Value) (i:In) (f:R.Fm) (s t:Value) (b:Nat) (W:World):Prop where
 mx:MX w x v0 v1 v2 v3 v4 v5 W
 ib:W.heap[w.heap.size+1]?=some (.cells #[.int .i64 i.op,.int .i64 i.a,.int .i64 i.n,.string i.text] 103 (0,0))
 fb:W.heap[b]?=some (.cells #[.int .i64 f.code,.int .i64 f.fn,.int .i64 f.pl,s,t] 86 (0,0))
theorem WX.next {w:World} {x:R.Mc} {v0 v1 v2 v3 v4 v5 s t:Value} {i:In} {f:R.Fm} {b:Nat} {W V:World} (h:WX w x v0 v1 v2 v3 v4 v5 i f s t b W) (hb:Below W.heap.size W V):WX w x v0 v1 v2 v3 v4 v5 i f s t b V:=⟨h.mx.next hb,C.hp_next h.ib hb,C.hp_next h.fb hb⟩
def WaEnd (x:R.Mc) (k:Nat) (i:In) (e:Ending):Prop:=∃ t ok,e=.returned (.tuple #[.int .i64 t,.bool ok])∧(ok=true ↔ awaits x k=some i)∧(ok=true→giveT (fnsOf x (fr x k).code) i=if t=0 then [] else [t])
theorem cd_at {B:Nat} {W:World} {g n c:Nat} {l:List R.Cd} (h:R.SCdR B W (.slice (some ⟨g,0,none⟩) n c) l) {i:Nat} (hi:i < l.length):g < W.heap.size∧∃ v0,W.cell? ⟨g,i,none⟩=some v0∧R.SFnR (g+1) W v0 (l.getD i R.cd0).fns:=by
 obtain ⟨g2,e9,_,hg,v0,a0⟩:=h.at hi
 injection e9 with ea en ec
 injection ea with eb
 injection eb with ec2
 subst ec2
 exact ⟨hg,v0,a0⟩
theorem fnr_at {B:Nat} {W:World} {g n c:Nat} {l:List C.Fn} (h:R.SFnR B W (.slice (some ⟨g,0,none⟩) n c) l) {i:Nat} (hi:i < l.length):g < W.heap.size∧W.cell? ⟨g,i * 5+2,none⟩=some (.int .i64 (l.getD i C.fn0).result):=by
 obtain ⟨g2,e9,_,hg,v0,v1,a0,a1,a2,_⟩:=h.at hi
 injection e9 with ea en ec
 injection ea with eb
 injection eb with ec2
 subst ec2
 exact ⟨hg,a2⟩
theorem give9 {fns:List C.Fn} {i:In} {r:Int} (h:i.op=9) (hr:(fns.getD i.a.toNat fn0).result=r):giveT fns i=if r=0 then [] else [r]:=by
 unfold giveT
 rw [if_neg (by omega),hr]
theorem wa_false {x:R.Mc} {k:Nat} {i j:In} {t:Int} (haw:awaits x k=some j) (hne:¬ j=i):WaEnd x k i (.returned (.tuple #[.int .i64 t,.bool false])) :=
 ⟨t,false,rfl,⟨fun h=>Bool.noConfusion h,fun h=>absurd (Option.some.inj (haw.symm.trans h)) hne⟩,fun h=>Bool.noConfusion h⟩
theorem wa_true {x:R.Mc} {k:Nat} {i:In} {t:Int} (haw:awaits x k=some i) (hg:giveT (fnsOf x (fr x k).code) i=if t=0 then [] else [t]):WaEnd x k i (.returned (.tuple #[.int .i64 t,.bool true])) :=
 ⟨t,true,rfl,⟨fun _=>haw,fun _=>rfl⟩,fun _=>hg⟩
theorem kind18_gr (op:Int) (w:World):Calls Tryz.prog 114 #[.int .i64 op] w fun e w'=>e=.returned (.int .i64 (k18 op))∧Below w.heap.size w w':=(kind18_any op w).mono fun _ _ h=>⟨h.1,by rw [h.2];exact Below.refl _ _⟩
theorem give8 {fns:List C.Fn} {i:In} (h:i.op=8):giveT fns i=if (sig i.a).2=0 then [] else [(sig i.a).2]:=by
 unfold giveT
 rw [if_pos h,if_neg (by have:=C.sig_range i.a;omega)]
set_option maxHeartbeats 8000000 in
theorem wants_any (x:R.Mc) {v0 v1 v2 v3 v4 v5:Value} {B:Nat} (w:World) (h:MK B w x v0 v1 v2 v3 v4 v5) (hl:x.frames.length≤1048576) {k:Nat} (hk:k < x.frames.length) (i:In) (hi:¬ i.op=1→i.n=0∧i.text=⟨#[]⟩)
  (hlast:k+1=x.frames.length→1≤x.kind∧x.kind≤4) (hcd:0≤(fr x k).code∧(fr x k).code < x.codes.length) (hc1:R.LoCdS x.codes) (hcall:i.op=9→0≤i.a∧i.a < (fnsOf x (fr x k).code).length) :
  Calls Tryz.prog 84 #[mval x v0 v1 v2 v3 v4 v5,.int .i64 k,.agg #[.int .i64 i.op,.int .i64 i.a,.int .i64 i.n,.string i.text]] w fun e w'=>WaEnd x k i e∧Below w.heap.size w w':=by
 have HK:=hid h
 obtain ⟨gf,rfl⟩:=h.k3.sl
 obtain ⟨gc,rfl⟩:=h.k0.sl
 have HI:=hid hi
 have HLA:=hid hlast
 have HCD:=hid hcd
 have HC1:=hid hc1
 have HCA:=hid hcall
 clear h hi hlast hcd hc1 hcall
 go_enter Tryz.func84,Tryz.ntmps84
 go_upto_region 1 with fail
 obtain ⟨t0,t1,hlo⟩:=two_at w (.cells #[.slice (some ⟨gc,0,none⟩) x.codes.length x.codes.length,v1,v2,.slice (some ⟨gf,0,none⟩) x.frames.length x.frames.length,.int .i64 x.steps,.int .i64 x.looks,.int .i64 x.kind,.string x.name,.string x.hold,.bool x.over,.int .i64 x.fin,.string x.text,v4,v5] 34) (.cells #[.int .i64 i.op,.int .i64 i.a,.int .i64 i.n,.string i.text] 103)
 obtain ⟨W0,hW0⟩:∃ W,((w.alloc (.cells #[.slice (some ⟨gc,0,none⟩) x.codes.length x.codes.length,v1,v2,.slice (some ⟨gf,0,none⟩) x.frames.length x.frames.length,.int .i64 x.steps,.int .i64 x.looks,.int .i64 x.kind,.string x.name,.string x.hold,.bool x.over,.int .i64 x.fin,.string x.text,v4,v5] 34)).alloc (.cells #[.int .i64 i.op,.int .i64 i.a,.int .i64 i.n,.string i.text] 103))=W:=⟨_,rfl⟩
 rw [hW0] at t0 t1 hlo ⊢
 have HX0:Hid (AX w x (.slice (some ⟨gc,0,none⟩) x.codes.length x.codes.length) v1 v2 (.slice (some ⟨gf,0,none⟩) x.frames.length x.frames.length) v4 v5 (.int .i64 i.op) (.int .i64 i.a) (.int .i64 i.n) (.string i.text) W0):=hid ⟨⟨hlo,t0⟩,t1⟩
 clear hW0 t0 t1 hlo
 have c3:=HX0.out.mx.c3
 obtain ⟨_,s,t,d0,d1,d2,d3,d4,hs,ht⟩:=fm_at (HK.out.next HX0.out.mx.lo).k3 hk
 obtain ⟨gs,rfl⟩:=hs.sl
 obtain ⟨gt,rfl⟩:=ht.sl
 clear hs ht
 have HFR:Hid (x.frames.getD k R.fm0=fr x k):=hid rfl
 rw [HFR.out] at d0 d1 d2 d3 d4
 obtain ⟨f,hf⟩:∃ f,fr x k=f:=⟨_,rfl⟩
 have HF:=hid hf
 rw [hf] at d0 d1 d2 d3 d4 HCD HCA
 clear hf
 have hki:(k:Int) < (x.frames.length:Int):=by omega
 go_upto_region 2 with fail
 have HX:Hid (WX w x (.slice (some ⟨gc,0,none⟩) x.codes.length x.codes.length) v1 v2 (.slice (some ⟨gf,0,none⟩) x.frames.length x.frames.length) v4 v5 i f (.slice (some ⟨gs,0,none⟩) f.slots.length f.slots.length) (.slice (some ⟨gt,0,none⟩) f.stack.length f.stack.length) W0.heap.size (W0.alloc (.cells #[.int .i64 f.code,.int .i64 f.fn,.int .i64 f.pl,.slice (some ⟨gs,0,none⟩) f.slots.length f.slots.length,.slice (some ⟨gt,0,none⟩) f.stack.length f.stack.length] 86))):=hid ⟨HX0.out.mx.next ((Below.refl _ _).alloc (Nat.le_refl _) _),C.hp_next HX0.out.er ((Below.refl _ _).alloc (Nat.le_refl _) _),heap_alloc_new _ _⟩
 obtain ⟨W1,hW1⟩:∃ W,W0.alloc (.cells #[.int .i64 f.code,.int .i64 f.fn,.int .i64 f.pl,.slice (some ⟨gs,0,none⟩) f.slots.length f.slots.length,.slice (some ⟨gt,0,none⟩) f.stack.length f.stack.length] 86)=W:=⟨_,rfl⟩
 rw [hW1] at HX ⊢
 clear hW1 c3 d0 d1 d2 d3 d4 HX0
 have c3:=HX.out.mx.c3
 by_cases hlast:k+1=x.frames.length
 ·have HKL:=hid hlast
  have hq:((k:Int) == (x.frames.length:Int) - 1)=true:=by simp;omega
  have HKD:=hid (HLA.out hlast)
  clear hlast
  have e1:W1.cell? ⟨w.heap.size+1,1,none⟩=some (.int .i64 i.a):=C.cell_hp HX.out.ib 1
  go_upto_region 4 with (go_at_call 113;refine (wants12_any _ _).mono ?_;rintro e w2 ⟨⟨r,rfl⟩,hb2⟩;have HX2:=hid (HX.out.next hb2);clear hb2 c3 e1)
  have HAW:Hid (awaits x k=some ⟨8,x.kind,0,⟨#[]⟩⟩):=hid (by unfold awaits;rw [if_pos HKL.out,if_neg (by have:=HKD.out;omega)])
  have k0:=fun p:J.Gr w2=>(C.cell_hp (HX2.out.next p.h).ib 0:p.W.cell? ⟨w.heap.size+1,0,none⟩=some (.int .i64 i.op))
  have k1:=fun p:J.Gr w2=>(C.cell_hp (HX2.out.next p.h).ib 1:p.W.cell? ⟨w.heap.size+1,1,none⟩=some (.int .i64 i.a))
  have k6:=fun p:J.Gr w2=>(HX2.out.next p.h).mx.c6
  have hne2:Nonempty (J.Gr w2):=⟨⟨w2,Below.refl _ _⟩⟩
  obtain ⟨kd,hkd⟩:∃ z,x.kind=z:=⟨_,rfl⟩
  rw [hkd] at k6 HKD HAW
  clear hkd
  obtain ⟨op,hop⟩:∃ z,i.op=z:=⟨_,rfl⟩
  obtain ⟨a,ha⟩:∃ z,i.a=z:=⟨_,rfl⟩
  have HOA:Hid (i.op=op∧i.a=a):=⟨hop,ha⟩
  rw [hop] at k0
  rw [ha] at k1 ⊢
  have HSG:Hid ((sig a).2=(sig i.a).2):=hid (by rw [ha])
  clear hop ha
  obtain ⟨sg,hsg⟩:∃ z,(sig a).2=z:=⟨_,rfl⟩
  rw [hsg] at HSG ⊢
  clear hsg
  by_cases h8:op=8
  ·subst h8
   by_cases h5:a < 5
   ·by_cases hk:a=kd
    ·subst hk
     have HIJ:Hid (awaits x k=some i):=hid (by
      obtain ⟨h1,h2⟩:=HI.out (by rw [HOA.out.1];decide)
      rw [HAW.out]
      congr 1
      cases i
      simp only at h1 h2
      have h3:=HOA.out
      simp only at h3
      rw [h1,h2,h3.1,h3.2])
     have HK8:Hid (k18 a=a):=hid (by unfold k18;rw [if_pos (by have:=HKD.out;omega)])
     refine J.wp_region_gr (by kernel_rfl) (by kernel_rfl) ?_
     repeat (go_big_quiet_step (first | (go_at_call 114;refine J.Calls.gr_of (v:=.int .i64 a) fun _=>?_;exact (kind18_gr a _).mono fun _ _ h=>by rwa [HK8.out] at h)))
     refine wpQuiet_nil ?_
     intro _ hw'
     obtain ⟨pw,rfl⟩:=hw'
     have HB9:=hid ((HX2.out.next pw.h).mx.lo)
     clear k0 k1 k6 hne2
     go_wp2_with fail
     go_ret2
     exact ⟨wa_true HIJ.out (by rw [HSG.out];exact give8 HOA.out.1),HB9.out⟩
    ·have hkb:(k18 a == kd)=false:=by
      have:=HKD.out
      simp only [k18]
      split <;> simp <;> omega
     have HNE:Hid (¬ (⟨8,kd,0,⟨#[]⟩⟩:In)=i):=hid fun h=>hk (by rw [← HOA.out.2,← h])
     clear hk
     obtain ⟨ka,hka⟩:∃ z,k18 a=z:=⟨_,rfl⟩
     have HKA:=hid hka
     rw [hka] at hkb
     clear hka
     refine J.wp_region_gr (by kernel_rfl) (by kernel_rfl) ?_
     repeat (go_big_quiet_step (first | (go_at_call 114;refine J.Calls.gr_of (v:=.int .i64 ka) fun _=>?_;exact (kind18_gr a _).mono fun _ _ h=>by rwa [HKA.out] at h)))
     refine wpQuiet_nil ?_
     intro _ hw'
     obtain ⟨pw,rfl⟩:=hw'
     have HB9:=hid ((HX2.out.next pw.h).mx.lo)
     clear k0 k1 k6 hne2
     go_wp2_with fail
     go_ret2
     exact ⟨wa_false HAW.out HNE.out,HB9.out⟩
   ·have HNE:Hid (¬ (⟨8,kd,0,⟨#[]⟩⟩:In)=i):=hid fun h=>h5 (by rw [← HOA.out.2,← h];have:=HKD.out;show kd < 5;omega)
    have h5b:decide (a < 5)=false:=by simpa using h5
    clear h5
    refine J.wp_region_gr (by kernel_rfl) (by kernel_rfl) ?_
    repeat (go_big_quiet_step (fail))
    refine wpQuiet_nil ?_
    intro _ hw'
    obtain ⟨pw,rfl⟩:=hw'
    have HB9:=hid ((HX2.out.next pw.h).mx.lo)
    clear k0 k1 k6 hne2
    go_wp2_with fail
    go_ret2
    exact ⟨wa_false HAW.out HNE.out,HB9.out⟩
  ·have h8b:(op == 8)=false:=by simpa using h8
   have HNE:Hid (¬ (⟨8,kd,0,⟨#[]⟩⟩:In)=i):=hid fun h=>h8 (by rw [← HOA.out.1,← h])
   clear h8
   refine J.wp_region_gr (by kernel_rfl) (by kernel_rfl) ?_
   repeat (go_big_quiet_step (fail))
   refine wpQuiet_nil ?_
   intro _ hw'
   obtain ⟨pw,rfl⟩:=hw'
   have HB9:=hid ((HX2.out.next pw.h).mx.lo)
   clear k0 k1 k6 hne2
   go_wp2_with fail
   go_ret2
   exact ⟨wa_false HAW.out HNE.out,HB9.out⟩
 ·have hlt:k+1 < x.frames.length:=by omega
  have HLT:=hid hlt
  have HKL:=hid hlast
  have hq:((k:Int) == (x.frames.length:Int) - 1)=false:=by simp;omega
  clear hlast hlt
  obtain ⟨_,s2,t2,d0,d1,d2,d3,d4,hs2,ht2⟩:=fm_at (HK.out.next HX.out.mx.lo).k3 HLT.out
  obtain ⟨gs2,rfl⟩:=hs2.sl
  obtain ⟨gt2,rfl⟩:=ht2.sl
  clear hs2 ht2
  have HFR2:Hid (x.frames.getD (k+1) R.fm0=fr x (k+1)):=hid rfl
  rw [HFR2.out] at d0 d1 d2 d3 d4
  obtain ⟨f2,hf2⟩:∃ f,fr x (k+1)=f:=⟨_,rfl⟩
  have HF2:=hid hf2
  rw [hf2] at d0 d1 d2 d3 d4
  clear hf2
  have hki2:((k:Int)+1) < (x.frames.length:Int):=by have:=HLT.out;omega
  go_upto_region 6 with fail
  have HNB:Hid ((W1.alloc (.cells #[.int .i64 f2.code,.int .i64 f2.fn,.int .i64 f2.pl,.slice (some ⟨gs2,0,none⟩) f2.slots.length f2.slots.length,.slice (some ⟨gt2,0,none⟩) f2.stack.length f2.stack.length] 86)).heap[W1.heap.size]?=some (.cells #[.int .i64 f2.code,.int .i64 f2.fn,.int .i64 f2.pl,.slice (some ⟨gs2,0,none⟩) f2.slots.length f2.slots.length,.slice (some ⟨gt2,0,none⟩) f2.stack.length f2.stack.length] 86 (0,0))):=hid (heap_alloc_new _ _)
  have HX2:=hid (HX.out.next ((Below.refl _ _).alloc (Nat.le_refl _) (.cells #[.int .i64 f2.code,.int .i64 f2.fn,.int .i64 f2.pl,.slice (some ⟨gs2,0,none⟩) f2.slots.length f2.slots.length,.slice (some ⟨gt2,0,none⟩) f2.stack.length f2.stack.length] 86)))
  obtain ⟨W2,hW2⟩:∃ W,W1.alloc (.cells #[.int .i64 f2.code,.int .i64 f2.fn,.int .i64 f2.pl,.slice (some ⟨gs2,0,none⟩) f2.slots.length f2.slots.length,.slice (some ⟨gt2,0,none⟩) f2.stack.length f2.stack.length] 86)=W:=⟨_,rfl⟩
  rw [hW2] at HNB HX2 ⊢
  obtain ⟨nb,hnb⟩:∃ b,W1.heap.size=b:=⟨_,rfl⟩
  rw [hnb] at HNB ⊢
  obtain ⟨ob,hob⟩:∃ b,W0.heap.size=b:=⟨_,rfl⟩
  rw [hob] at HX2 ⊢
  clear hW2 hnb hob c3 d0 d1 d2 d3 d4
  have n0:W2.cell? ⟨nb,0,none⟩=some (.int .i64 f2.code):=C.cell_hp HNB.out 0
  have n1:W2.cell? ⟨nb,1,none⟩=some (.int .i64 f2.fn):=C.cell_hp HNB.out 1
  have o0:W2.cell? ⟨ob,0,none⟩=some (.int .i64 f.code):=C.cell_hp HX2.out.fb 0
  obtain ⟨op,hop⟩:∃ z,i.op=z:=⟨_,rfl⟩
  obtain ⟨a,ha⟩:∃ z,i.a=z:=⟨_,rfl⟩
  have HOA:Hid (i.op=op∧i.a=a):=⟨hop,ha⟩
  have j0:W2.cell? ⟨w.heap.size+1,0,none⟩=some (.int .i64 op):=by rw [← hop];exact C.cell_hp HX2.out.ib 0
  have j1:W2.cell? ⟨w.heap.size+1,1,none⟩=some (.int .i64 a):=by rw [← ha];exact C.cell_hp HX2.out.ib 1
  clear hop ha
  by_cases hsame:f2.code=f.code
  ·have hsb:(f2.code != f.code)=false:=by simpa using hsame
   have HAW:Hid (awaits x k=some ⟨9,f2.fn,0,⟨#[]⟩⟩):=hid (by unfold awaits;rw [if_neg HKL.out,if_pos (by rw [HF.out,HF2.out];exact hsame),HF2.out])
   clear hsame
   by_cases h9:op=9
   ·subst h9
    by_cases hfn:a=f2.fn
    ·have hfb:(a != f2.fn)=false:=by simpa using hfn
     have HIJ:Hid (awaits x k=some i):=hid (by
      obtain ⟨h1,h2⟩:=HI.out (by rw [HOA.out.1];decide)
      rw [HAW.out]
      congr 1
      cases i
      simp only at h1 h2
      have h3:=HOA.out
      simp only at h3
      rw [h1,h2,h3.1,h3.2,hfn])
     clear hfn
     obtain ⟨fc,hfc⟩:∃ n:Nat,f.code=n:=⟨f.code.toNat,by have:=HCD.out;omega⟩
     obtain ⟨na,hna⟩:∃ n:Nat,a=n:=⟨a.toNat,by have:=HCA.out HOA.out.1;have h3:=HOA.out.2;omega⟩
     have hfl:fc < x.codes.length:=by have:=HCD.out;omega
     have HFO:Hid (fnsOf x f.code=(x.codes.getD fc R.cd0).fns):=hid (by unfold fnsOf;rw [hfc];rfl)
     obtain ⟨_,fv,g0,hfr⟩:=cd_at (HK.out.next HX2.out.mx.lo).k0 hfl
     obtain ⟨gn,rfl⟩:=hfr.sl
     have hal:na < (x.codes.getD fc R.cd0).fns.length:=by have h3:=HCA.out HOA.out.1;rw [HFO.out] at h3;have h4:=HOA.out.2;omega
     obtain ⟨_,g1⟩:=fnr_at hfr hal
     clear hfr
     obtain ⟨fns,hfns⟩:∃ l,(x.codes.getD fc R.cd0).fns=l:=⟨_,rfl⟩
     rw [hfns] at g0 g1 hal HFO
     clear hfns
     obtain ⟨rs,hrs⟩:∃ z,(fns.getD na fn0).result=z:=⟨_,rfl⟩
     have HRS:Hid ((fns.getD i.a.toNat fn0).result=rs):=hid (by rw [HOA.out.2,hna];exact hrs)
     rw [hrs] at g1
     clear hrs
     rw [hfc] at o0 hsb ⊢
     rw [hna] at j1 hfb
     have m0:=HX2.out.mx.c0
     have hfli:(fc:Int) < (x.codes.length:Int):=by omega
     have hali:(na:Int) < (fns.length:Int):=by omega
     go_upto_region 10 with fail
     go_quiet (fail)
     have HB9:=hid HX2.out.mx.lo
     all_goals go_wp2_with fail
     all_goals go_ret2
     all_goals exact ⟨wa_true HIJ.out (by rw [HF.out,HFO.out];exact give9 HOA.out.1 HRS.out),J.below_drewN HB9.out _⟩
    ·have hfb:(a != f2.fn)=true:=by simpa using hfn
     have HNE:Hid (¬ (⟨9,f2.fn,0,⟨#[]⟩⟩:In)=i):=hid fun h=>hfn (by rw [← HOA.out.2,← h])
     clear hfn
     go_wp2_with fail
     go_ret2
     exact ⟨wa_false HAW.out HNE.out,HX2.out.mx.lo⟩
   ·have h9b:(op != 9)=true:=by simpa using h9
    have HNE:Hid (¬ (⟨9,f2.fn,0,⟨#[]⟩⟩:In)=i):=hid fun h=>h9 (by rw [← HOA.out.1,← h])
    clear h9
    go_wp2_with fail
    go_ret2
    exact ⟨wa_false HAW.out HNE.out,HX2.out.mx.lo⟩
  ·have hsb:(f2.code != f.code)=true:=by simpa using hsame
   have HAW:Hid (awaits x k=some ⟨8,4,0,⟨#[]⟩⟩):=hid (by unfold awaits;rw [if_neg HKL.out,if_neg (by rw [HF.out,HF2.out];exact hsame)])
   clear hsame
   go_upto_region 7 with fail
   clear n0 n1 o0
   have k0:=fun p:J.Gr W2=>(p.h.cell (p:=⟨w.heap.size+1,0,none⟩) (C.lt_hp HX2.out.ib)).trans j0
   have k1:=fun p:J.Gr W2=>(p.h.cell (p:=⟨w.heap.size+1,1,none⟩) (C.lt_hp HX2.out.ib)).trans j1
   have hne2:Nonempty (J.Gr W2):=⟨⟨W2,Below.refl _ _⟩⟩
   clear j0 j1
   by_cases h8:op=8
   ·subst h8
    by_cases h4:a=4
    ·subst h4
     have HIJ:Hid (awaits x k=some i):=hid (by
      obtain ⟨h1,h2⟩:=HI.out (by rw [HOA.out.1];decide)
      rw [HAW.out]
      congr 1
      cases i
      simp only at h1 h2
      have h3:=HOA.out
      simp only at h3
      rw [h1,h2,h3.1,h3.2])
     refine J.wp_region_gr (by kernel_rfl) (by kernel_rfl) ?_
     repeat (go_big_quiet_step (fail))
     refine wpQuiet_nil ?_
     intro _ hw'
     obtain ⟨pw,rfl⟩:=hw'
     have HB9:=hid ((HX2.out.next pw.h).mx.lo)
     clear k0 k1 hne2
     go_wp2_with fail
     go_ret2
     exact ⟨wa_true HIJ.out (by rw [give8 HOA.out.1,HOA.out.2];rfl),HB9.out⟩
    ·have h4b:(a == 4)=false:=by simpa using h4
     have HNE:Hid (¬ (⟨8,4,0,⟨#[]⟩⟩:In)=i):=hid fun h=>h4 (by rw [← HOA.out.2,← h])
     clear h4
     refine J.wp_region_gr (by kernel_rfl) (by kernel_rfl) ?_
     repeat (go_big_quiet_step (fail))
     refine wpQuiet_nil ?_
     intro _ hw'
     obtain ⟨pw,rfl⟩:=hw'
     have HB9:=hid ((HX2.out.next pw.h).mx.lo)
     clear k0 k1 hne2
     go_wp2_with fail
     go_ret2
     exact ⟨wa_false HAW.out HNE.out,HB9.out⟩
   ·have h8b:(op == 8)=false:=by simpa using h8
    have HNE:Hid (¬ (⟨8,4,0,⟨#[]⟩⟩:In)=i):=hid fun h=>h8 (by rw [← HOA.out.1,← h])
    clear h8
    refine J.wp_region_gr (by kernel_rfl) (by kernel_rfl) ?_
    repeat (go_big_quiet_step (fail))
    refine wpQuiet_nil ?_
    intro _ hw'
    obtain ⟨pw,rfl⟩:=hw'
    have HB9:=hid ((HX2.out.next pw.h).mx.lo)
    clear k0 k1 hne2
    go_wp2_with fail
    go_ret2
    exact ⟨wa_false HAW.out HNE.out,HB9.out⟩
end Go.Proofs.YtbkmglknbflkhaaGreatDoor.M
