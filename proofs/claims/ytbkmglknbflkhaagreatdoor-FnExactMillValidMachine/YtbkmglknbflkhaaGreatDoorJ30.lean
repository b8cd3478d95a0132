import Derived.Test.YtbkmglknbflkhaaGreatDoorJ27
import Derived.Test.YtbkmglknbflkhaaGreatDoorJ29
namespace Go.Proofs.YtbkmglknbflkhaaGreatDoor.C
open Go.RowKit
set_option maxRecDepth 20000
theorem str_eq {a b:ByteArray}:(a.toList == b.toList)=true ↔ a=b:=by
 rw [Lib.toList_data,Lib.toList_data,beq_iff_eq]
 constructor
 ·intro h
  apply ByteArray.ext
  exact Array.ext' h
 ·intro h
  rw [h]
structure FX (f:Fn) (w:World) (cv pv iv:Value) (W:World):Prop where
 lo:Below w.heap.size w W
 e0:W.heap[w.heap.size]?=some (.cells #[cv] 59)
 e1:W.heap[w.heap.size+1]?=some (fbox f pv iv)
theorem FX.next {f:Fn} {w:World} {cv pv iv:Value} {W V:World} (h:FX f w cv pv iv W) (hb:Below W.heap.size W V):FX f w cv pv iv V:=⟨h.lo.trans (hb.mono h.lo.size),hp_next h.e0 hb,hp_next h.e1 hb⟩
set_option maxHeartbeats 8000000 in
theorem fnOk_any {fns:List Fn} {k:Nat} {w:World} {cv:Value} (h1:FnsRow w cv fns) (hk:k < fns.length) (hl:fns.length≤60) (hNM:∀ j,j < fns.length→(fns.getD j fn0).name.size≤maxLen) :
  Calls Tryz.prog 106 #[.agg #[cv],.int .i64 k] w fun e w'=>Q.Says e (FnOk fns k)∧Below w.heap.size w w':=by
 have H1:=hid h1
 have hnm:=hNM k hk
 have HOK:Hid (FnOk fns k ↔ FnOk fns k):=hid Iff.rfl
 obtain ⟨gF,cF,rfl,hgF,pv,iv,v0,v1,v2,v3,v4,hpv,hiv⟩:=h1.at hk
 have hO1:=fun (h:FnOk fns k)=>h.name
 have hO2:=fun (h:FnOk fns k)=>h.few
 have hO3:=fun (h:FnOk fns k)=>h.result
 have hO4:=fun (h:FnOk fns k)=>h.slots
 have hO5:=fun (h:FnOk fns k)=>h.some_
 have hO6:=fun (h:FnOk fns k)=>h.params
 have hO7:=fun (h:FnOk fns k)=>h.once
 have hO8:=fun a b c d e f g=>FnOk.mk (fns:=fns) (k:=k) a b c d e f g
 obtain ⟨f,hfe⟩:∃ f,fns.getD k fn0=f:=⟨_,rfl⟩
 rw [hfe] at hO1 hO2 hO3 hO4 hO5 hO6 hO7 hO8 v0 v2 v3 hpv hiv hnm
 have HO1:=hid hO1
 have HO2:=hid hO2
 have HO3:=hid hO3
 have HO4:=hid hO4
 have HO5:=hid hO5
 have HO6:=hid hO6
 have HO7:=hid hO7
 have HO8:=hid hO8
 have HP:=hid hpv
 obtain ⟨aP,cP,rfl⟩:=hpv.sl
 obtain ⟨aI,cI,rfl⟩:=hiv.sl
 have hki:(k:Int) < (fns.length:Int):=by omega
 clear hO1 hO2 hO3 hO4 hO5 hO6 hO7 hO8 hpv hiv h1 hfe hNM HOK
 go_enter Tryz.func106,Tryz.ntmps106
 go_upto_region 2 with fail
 obtain ⟨t0,t1,hlo,hz⟩:=two w (.cells #[.slice (some ⟨gF,0,none⟩) fns.length cF] 59) (fbox f (.slice aP f.params.length cP) (.slice aI f.ins.length cI))
 obtain ⟨W2,hW2⟩:∃ W,((w.alloc (.cells #[.slice (some ⟨gF,0,none⟩) fns.length cF] 59)).alloc (fbox f (.slice aP f.params.length cP) (.slice aI f.ins.length cI)))=W:=⟨_,rfl⟩
 rw [hW2] at t0 t1 hlo hz
 unfold fbox at hW2
 rw [hW2]
 have HX:Hid (FX f w (.slice (some ⟨gF,0,none⟩) fns.length cF) (.slice aP f.params.length cP) (.slice aI f.ins.length cI) W2):=hid ⟨hlo,t0,t1⟩
 clear hW2 v0 v1 v2 v3 v4 t0 hlo hz
 obtain ⟨v0,v1,v2,v3,v4⟩:=fx t1
 clear t1
 by_cases hn:Q.NameOk f.name
 ·have HN:=hid hn
  clear hn
  by_cases h8:8 < f.params.length
  ·have HF:Hid (¬ FnOk fns k):=hid fun h=>by have:=HO2.out h;omega
   have h8i:(8:Int) < (f.params.length:Int):=by omega
   go_wp2_with (first
   | (go_at_call 126;refine (Q.l10NameOk_any f.name _ hnm).mono ?_;rintro e w5 ⟨⟨b5,rfl,hb5⟩,hlo5⟩;obtain rfl:b5=true:=hb5.2 HN.out;have HX5:=hid (HX.out.next hlo5);obtain ⟨v0,v1,v2,v3,v4⟩:=fx HX5.out.e1;clear hb5 hlo5)
   | (go_at_call 22;refine (l16In_any _ _ _ _).mono ?_;rintro e w' ⟨rfl,hw⟩;have hw2:=hw.symm;clear hw;subst hw2))
   go_ret
   exact ⟨Q.says_f HF.out,HX5.out.lo⟩
  ·have h8i:¬ (8:Int) < (f.params.length:Int):=by omega
   cases hr:inB f.result 0 10 with
   | false =>
    have HF:Hid (¬ FnOk fns k):=hid fun h=>by have:=inB_iff.2 (HO3.out h);rw [hr] at this;cases this
    go_wp2_with (first
   | (go_at_call 126;refine (Q.l10NameOk_any f.name _ hnm).mono ?_;rintro e w5 ⟨⟨b5,rfl,hb5⟩,hlo5⟩;obtain rfl:b5=true:=hb5.2 HN.out;have HX5:=hid (HX.out.next hlo5);obtain ⟨v0,v1,v2,v3,v4⟩:=fx HX5.out.e1;clear hb5 hlo5)
   | (go_at_call 22;refine (l16In_any _ _ _ _).mono ?_;rintro e w' ⟨rfl,hw⟩;have hw2:=hw.symm;clear hw;subst hw2))
    go_ret
    exact ⟨Q.says_f HF.out,HX5.out.lo⟩
   | true =>
    cases hs:inB f.slots f.params.length 200 with
    | false =>
     have HF:Hid (¬ FnOk fns k):=hid fun h=>by have:=inB_iff.2 (HO4.out h);rw [hs] at this;cases this
     go_wp2_with (first
   | (go_at_call 126;refine (Q.l10NameOk_any f.name _ hnm).mono ?_;rintro e w5 ⟨⟨b5,rfl,hb5⟩,hlo5⟩;obtain rfl:b5=true:=hb5.2 HN.out;have HX5:=hid (HX.out.next hlo5);obtain ⟨v0,v1,v2,v3,v4⟩:=fx HX5.out.e1;clear hb5 hlo5)
   | (go_at_call 22;refine (l16In_any _ _ _ _).mono ?_;rintro e w' ⟨rfl,hw⟩;have hw2:=hw.symm;clear hw;subst hw2))
     go_ret
     exact ⟨Q.says_f HF.out,HX5.out.lo⟩
    | true =>
     cases hi:inB f.ins.length 1 50000 with
     | false =>
      have HF:Hid (¬ FnOk fns k):=hid fun h=>by have:=inB_iff.2 (show (1:Int)≤(f.ins.length:Int)∧(f.ins.length:Int)≤50000 by have:=HO5.out h;omega);rw [hi] at this;cases this
      go_wp2_with (first
   | (go_at_call 126;refine (Q.l10NameOk_any f.name _ hnm).mono ?_;rintro e w5 ⟨⟨b5,rfl,hb5⟩,hlo5⟩;obtain rfl:b5=true:=hb5.2 HN.out;have HX5:=hid (HX.out.next hlo5);obtain ⟨v0,v1,v2,v3,v4⟩:=fx HX5.out.e1;clear hb5 hlo5)
   | (go_at_call 22;refine (l16In_any _ _ _ _).mono ?_;rintro e w' ⟨rfl,hw⟩;have hw2:=hw.symm;clear hw;subst hw2))
      go_ret
      exact ⟨Q.says_f HF.out,HX5.out.lo⟩
     | true =>
      have HA:Hid ((0≤f.result∧f.result≤10)∧((f.params.length:Int)≤f.slots∧f.slots≤200)∧(1≤f.ins.length∧f.ins.length≤50000)):=hid ⟨inB_iff.1 hr,inB_iff.1 hs,by have:=inB_iff.1 hi;omega⟩
      go_wp2_with (first
   | (go_at_call 126;refine (Q.l10NameOk_any f.name _ hnm).mono ?_;rintro e w5 ⟨⟨b5,rfl,hb5⟩,hlo5⟩;obtain rfl:b5=true:=hb5.2 HN.out;have HX5:=hid (HX.out.next hlo5);obtain ⟨v0,v1,v2,v3,v4⟩:=fx HX5.out.e1;clear hb5 hlo5)
   | (go_at_call 22;refine (l16In_any _ _ _ _).mono ?_;rintro e w' ⟨rfl,hw⟩;have hw2:=hw.symm;clear hw;subst hw2))
      clear hr hs hi
      go_loop [6] (fun i=>∃ j:Nat,j≤f.params.length∧i=.int .i64 j∧∀ p,p < j→1≤f.params.getD p 0∧f.params.getD p 0≤10) (fun i=>f.params.length - (intOf i).toNat)
      case atStart=>exact ⟨0,Nat.zero_le _,rfl,fun p hp=>absurd hp (Nat.not_lt_zero _)⟩
      case round =>
       obtain ⟨j,hj,rfl,hall⟩:=hrel
       have HALL:=hid hall
       clear hall
       by_cases hlt:j < f.params.length
       ·have hlti:(j:Int) < (f.params.length:Int):=by omega
        obtain ⟨gA,cA2,e9,_,_,_,hcA⟩:=(HP.out.next HX5.out.lo).at hlt
        injection e9 with ea en ec
        clear en
        subst ea ec
        have kA:=hcA j hlt
        obtain ⟨x,hx⟩:∃ x,f.params.getD j 0=x:=⟨_,rfl⟩
        rw [hx] at kA
        have HXX:=hid hx
        clear hx hcA
        cases hb:inB x 1 10 with
        | false =>
         have HF:Hid (¬ FnOk fns k):=hid fun h=>by
          have h9:=HO6.out h j hlt
          rw [HXX.out] at h9
          have:=inB_iff.2 h9
          rw [hb] at this
          cases this
         go_wp2_with (first
   | (go_at_call 126;refine (Q.l10NameOk_any f.name _ hnm).mono ?_;rintro e w5 ⟨⟨b5,rfl,hb5⟩,hlo5⟩;obtain rfl:b5=true:=hb5.2 HN.out;have HX5:=hid (HX.out.next hlo5);obtain ⟨v0,v1,v2,v3,v4⟩:=fx HX5.out.e1;clear hb5 hlo5)
   | (go_at_call 22;refine (l16In_any _ _ _ _).mono ?_;rintro e w' ⟨rfl,hw⟩;have hw2:=hw.symm;clear hw;subst hw2))
         go_ret
         exact ⟨Q.says_f HF.out,HX5.out.lo⟩
        | true =>
         have HB:=hid (inB_iff.1 hb)
         go_wp2_with (first
   | (go_at_call 126;refine (Q.l10NameOk_any f.name _ hnm).mono ?_;rintro e w5 ⟨⟨b5,rfl,hb5⟩,hlo5⟩;obtain rfl:b5=true:=hb5.2 HN.out;have HX5:=hid (HX.out.next hlo5);obtain ⟨v0,v1,v2,v3,v4⟩:=fx HX5.out.e1;clear hb5 hlo5)
   | (go_at_call 22;refine (l16In_any _ _ _ _).mono ?_;rintro e w' ⟨rfl,hw⟩;have hw2:=hw.symm;clear hw;subst hw2))
         go_round
         case rel =>
          refine ⟨j+1,by omega,by go_num,fun p hp=>?_⟩
          by_cases e:p=j
          ·subst e;rw [HXX.out];exact HB.out
          ·exact HALL.out p (by omega)
         case measure=>simp [intOf];omega
       ·obtain rfl:j=f.params.length:=by omega
        have hge:¬ ((f.params.length:Int) < (f.params.length:Int)):=by omega
        go_wp2_with fail
        go_loopw [7] (fun i wr=>∃ j:Nat,j≤k∧i=.int .i64 j∧FX f w (.slice (some ⟨gF,0,none⟩) fns.length cF) (.slice aP f.params.length cP) (.slice aI f.ins.length cI) wr∧∀ p,p < j→¬ (fns.getD p fn0).name=f.name) (fun i _=>k - (intOf i).toNat)
        case atStart=>exact ⟨0,Nat.zero_le _,rfl,HX5.out,fun p hp=>absurd hp (Nat.not_lt_zero _)⟩
        case round =>
         obtain ⟨j,hj,rfl,hx6,honce⟩:=hrel
         have HX6:=hid hx6
         have HON:=hid honce
         clear hx6 honce v0 v1 v2 v3 v4
         obtain ⟨v0,v1,v2,v3,v4⟩:=fx HX6.out.e1
         have k0:=cx HX6.out.e0
         by_cases hlt:j < k
         ·have hlti:(j:Int) < (k:Int):=by omega
          have hlt2:j < fns.length:=by omega
          have hlt3:(j:Int) < (fns.length:Int):=by omega
          obtain ⟨gF2,cF2,e9,_,pv,iv,n0,_⟩:=(H1.out.next HX6.out.lo).at hlt2
          injection e9 with ea en ec
          clear en
          injection ea with ea
          injection ea with ea
          subst ea ec
          obtain ⟨nm,hnm2⟩:∃ n,(fns.getD j fn0).name=n:=⟨_,rfl⟩
          rw [hnm2] at n0
          have HNM2:=hid hnm2
          clear hnm2
          by_cases hxy:nm=f.name
          ·have hxf:(nm.toList == f.name.toList)=true:=str_eq.2 hxy
           have HF:Hid (¬ FnOk fns k):=hid fun h=>HO7.out h j hlt (HNM2.out.trans hxy)
           clear hxy
           go_wp2_with fail
           go_quiet (fail)
           go_wp2
           go_ret
           exact ⟨Q.says_f HF.out,below_drewN HX6.out.lo _⟩
          ·have hxf:(nm.toList == f.name.toList)=false:=Bool.eq_false_iff.2 fun h=>hxy (str_eq.1 h)
           have HNE:=hid hxy
           clear hxy
           go_wp2_with fail
           go_quiet (fail)
           go_wp2
           go_roundw
           case rel =>
            refine ⟨j+1,by omega,by go_num,HX6.out.next (below_drewN (Below.refl _ _) _),fun p hp=>?_⟩
            by_cases e:p=j
            ·subst e;rw [HNM2.out];exact HNE.out
            ·exact HON.out p (by omega)
           case measure=>simp [intOf];omega
         ·obtain rfl:j=k:=by omega
          have hge:¬ ((j:Int) < (j:Int)):=by omega
          have HT:Hid (FnOk fns j):=hid (HO8.out HN.out (by omega) HA.out.1 HA.out.2.1 HA.out.2.2 HALL.out HON.out)
          go_wp2
          go_ret
          exact ⟨Q.says_t HT.out,HX6.out.lo⟩
 ·have HN:=hid hn
  have HF:Hid (¬ FnOk fns k):=hid fun h=>HN.out (HO1.out h)
  clear hn
  go_wp2_with (first
   | (go_at_call 126;refine (Q.l10NameOk_any f.name _ hnm).mono ?_;rintro e w5 ⟨⟨b5,rfl,hb5⟩,hlo5⟩;obtain rfl:b5=false:=(Bool.eq_false_iff.2 fun h=>HN.out (hb5.1 h));have HX5:=hid (HX.out.next hlo5);obtain ⟨v0,v1,v2,v3,v4⟩:=fx HX5.out.e1;clear hb5 hlo5)
   | (go_at_call 22;refine (l16In_any _ _ _ _).mono ?_;rintro e w' ⟨rfl,hw⟩;have hw2:=hw.symm;clear hw;subst hw2))
  go_ret
  exact ⟨Q.says_f HF.out,HX5.out.lo⟩
def BsEnd (l:List Int) (x:Int) (w:World) (e:Ending) (w':World):Prop:=∃ i:Nat,i≤l.length∧e=.returned (.tuple #[.int .i64 i,.bool (decide (i < l.length∧l.getD i 0=x))])∧(∀ q,q < i→x < l.getD q 0)∧(∀ q,i≤q→q < l.length→l.getD q 0≤x)∧Below w.heap.size w w'
set_option maxHeartbeats 1000000 in
theorem cmp_any (a b:Int) (h:-1000000≤b - a∧b - a≤1000000) (w:World):Calls Tryz.prog 164 #[.int .i64 a,.int .i64 b] w fun e w'=>e=.returned (.int .i64 (b - a))∧w'=w:=by
 have hw:IntKind.i64.wrap (b - a)=b - a:=by rw [IntKind.wrap_i64];omega
 clear h
 go_enter Tryz.func164,Tryz.ntmps164
 go_wp2
 go_ret
 exact ⟨rfl,rfl⟩
set_option maxHeartbeats 4000000 in
theorem search_any {v:Value} {l:List Int} {x:Int} {w:World} (h:IntRow w v l) (hd:∀ p q,p < q→q < l.length→l.getD q 0 < l.getD p 0) (hr:∀ q,q < l.length→0≤l.getD q 0∧l.getD q 0≤100000) (hx:0≤x∧x≤100000) (hl:l.length≤100000) :
  Calls Tryz.prog 163 #[v,.int .i64 x,.func (.func 164) #[] #[]] w (BsEnd l x w):=by
 have H:=hid h
 have HD:=hid hd
 have HR:=hid hr
 have HX:=hid hx
 obtain ⟨ad,c,rfl⟩:=h.sl
 clear h hd hr hx
 go_enter Tryz.func163,Tryz.ntmps163
 go_wp2_with fail
 go_loopw [9,10] (fun i j wr=>∃ a b:Nat,a≤b∧b≤l.length∧i=.int .i64 a∧j=.int .i64 b∧Below w.heap.size w wr∧(∀ q,q < a→x < l.getD q 0)∧(∀ q,b≤q→q < l.length→l.getD q 0≤x)) (fun i j _=>(intOf j).toNat - (intOf i).toNat)
 case atStart=>exact ⟨0,l.length,Nat.zero_le _,Nat.le_refl _,rfl,rfl,Below.refl _ _,fun q hq=>absurd hq (Nat.not_lt_zero _),fun q h1 h2=>absurd h2 (by omega)⟩
 case round =>
  obtain ⟨a,b,hab,hbl,rfl,rfl,hlo,h1,h2⟩:=hrel
  have HLO:=hid hlo
  have HA:=hid h1
  have HB:=hid h2
  clear hlo h1 h2
  by_cases hlt:a < b
  ·have hlti:(a:Int) < (b:Int):=by omega
   obtain ⟨m,hm⟩:∃ m,(a+b) / 2=m:=⟨_,rfl⟩
   have hm1:a≤m:=by omega
   have hm2:m < b:=by omega
   have hw1:IntKind.i64.wrap ((a:Int)+(b:Int))=((a+b:Nat):Int):=by rw [IntKind.wrap_i64];omega
   have hw2:IntKind.u64.wrap ((a+b:Nat):Int)=((a+b:Nat):Int):=by simp [IntKind.wrap,IntKind.bits,IntKind.signed];omega
   have hml:m < l.length:=by omega
   have hmli:(m:Int) < (l.length:Int):=by omega
   obtain ⟨gA,cA2,e9,_,_,_,hcA⟩:=(H.out.next HLO.out).at hml
   injection e9 with ea en ec
   clear en
   subst ea ec
   have kA:=hcA m hml
   obtain ⟨y,hy⟩:∃ y,l.getD m 0=y:=⟨_,rfl⟩
   have hyr:=HR.out m hml
   rw [hy] at kA hyr
   have HY:=hid hy
   have hx:=HX.out
   have HC:=hid (fun W=>cmp_any y x (by omega) W)
   clear hcA hy
   have hmi:((a:Int)+(b:Int)) / 2=(m:Int):=by omega
   have hw3:IntKind.i64.wrap ((m:Int)+1)=((m+1:Nat):Int):=by rw [IntKind.wrap_i64];omega
   clear hm
   by_cases hxy:x < y
   ·have hneg:x - y < 0:=by omega
    have HXY:=hid hxy
    clear hxy
    go_wp2_with (go_at_call 164;refine (HC.out _).mono ?_;rintro e w' ⟨rfl,hw⟩;have hw2:=hw.symm;clear hw;subst hw2)
    go_roundw
    case rel =>
     refine ⟨m+1,b,by omega,hbl,by go_num,rfl,HLO.out,fun q hq=>?_,HB.out⟩
     by_cases e:q=m
     ·subst e;rw [HY.out];exact HXY.out
     ·have:=HD.out q m (by omega) hml
      rw [HY.out] at this
      have:=HXY.out
      omega
    case measure=>simp [intOf];omega
   ·have hneg:¬ x - y < 0:=by omega
    have HXY:=hid hxy
    clear hxy
    go_wp2_with (go_at_call 164;refine (HC.out _).mono ?_;rintro e w' ⟨rfl,hw⟩;have hw2:=hw.symm;clear hw;subst hw2)
    go_roundw
    case rel =>
     refine ⟨a,m,hm1,by omega,rfl,rfl,HLO.out,HA.out,fun q h1 h2=>?_⟩
     by_cases e:q=m
     ·subst e;rw [HY.out];have:=HXY.out;omega
     ·have:=HD.out m q (by omega) h2
      rw [HY.out] at this
      have:=HXY.out
      omega
    case measure=>simp [intOf];omega
  ·obtain rfl:a=b:=by omega
   have hge:¬ ((a:Int) < (a:Int)):=by omega
   by_cases hal:a < l.length
   ·have hali:(a:Int) < (l.length:Int):=by omega
    obtain ⟨gA,cA2,e9,_,_,_,hcA⟩:=(H.out.next HLO.out).at hal
    injection e9 with ea en ec
    clear en
    subst ea ec
    have kA:=hcA a hal
    obtain ⟨y,hy⟩:∃ y,l.getD a 0=y:=⟨_,rfl⟩
    have hyr:=HR.out a hal
    rw [hy] at kA hyr
    have HY:=hid hy
    have hx:=HX.out
    have HC:=hid (fun W=>cmp_any y x (by omega) W)
    clear hcA hy
    by_cases hxy:x=y
    ·have hz:x - y=0:=by omega
     have HXY:=hid hxy
     clear hxy
     go_wp2_with (go_at_call 164;refine (HC.out _).mono ?_;rintro e w' ⟨rfl,hw⟩;have hw2:=hw.symm;clear hw;subst hw2)
     go_ret2
     refine ⟨a,by omega,?_,HA.out,HB.out,HLO.out⟩
     have:decide (a < l.length∧l.getD a 0=x)=true:=by rw [decide_eq_true_iff];exact ⟨hal,by rw [HY.out];exact HXY.out.symm⟩
     rw [this]
     rfl
    ·have hz:(x - y == 0)=false:=by simp;omega
     have HXY:=hid hxy
     clear hxy
     go_wp2_with (go_at_call 164;refine (HC.out _).mono ?_;rintro e w' ⟨rfl,hw⟩;have hw2:=hw.symm;clear hw;subst hw2)
     go_ret2
     refine ⟨a,by omega,?_,HA.out,HB.out,HLO.out⟩
     have:decide (a < l.length∧l.getD a 0=x)=false:=by rw [decide_eq_false_iff_not];rintro ⟨_,h9⟩;rw [HY.out] at h9;exact HXY.out h9.symm
     rw [this]
     rfl
   ·have hali:¬ (a:Int) < (l.length:Int):=by omega
    have hff:decide (a < l.length∧l.getD a 0=x)=false:=by rw [decide_eq_false_iff_not];exact fun h=>hal h.1
    have HFF:=hid hff
    clear hff
    go_wp2_with fail
    go_ret2
    refine ⟨a,by omega,?_,HA.out,HB.out,HLO.out⟩
    rw [HFF.out]
    rfl
end Go.Proofs.YtbkmglknbflkhaaGreatDoor.C
