import Derived.Test.YtbkmglknbflkhaaGreatDoorJ39
import Derived.Test.YtbkmglknbflkhaaGreatDoorJ40
import Derived.Test.YtbkmglknbflkhaaGreatDoorJ23
import Derived.Test.YtbkmglknbflkhaaGreatDoorJ41
import Derived.Test.YtbkmglknbflkhaaGreatDoorJ42
import Derived.Test.YtbkmglknbflkhaaGreatDoorJ43
import Derived.Test.YtbkmglknbflkhaaGreatDoorJ32
namespace Go.Proofs.YtbkmglknbflkhaaGreatDoor.M
open Go.RowKit
open Go.Proofs.YtbkmglknbflkhaaGreatDoor.J (Says says_t says_f size_zero isEmpty_iff)
open Go.Proofs.YtbkmglknbflkhaaGreatDoor.R (hid)
set_option maxRecDepth 20000
set_option maxHeartbeats 40000000 in
theorem implOver_any (x:R.Mc) {v0 v1 v2 v3 v4 v5:Value} {B:Nat} (w:World) (h:MK B w x v0 v1 v2 v3 v4 v5) (hx:R.LoMc x) (ht:x.text.size≤1048576) :
  Calls Tryz.prog 34 #[mval x v0 v1 v2 v3 v4 v5] w fun e w'=>Says e (OvOk x)∧Below w.heap.size w w':=by
 by_cases p0:0≤x.fin
 ·by_cases p2:x.fin≤5
  ·by_cases p3:x.text.size≤3000
   ·by_cases p1:x.fin=0
    ·exact implOvA x w h hx ht (hid p1) (hid p3)
    ·by_cases p4:x.files.length=0
     ·exact implOvB x w h hx ht (hid p0) (hid p1) (hid p2) (hid p3) (hid p4)
     ·exact implOvC x w h hx ht (hid p0) (hid p1) (hid p2) (hid p3) (hid p4)
   ·exact implOvF x w h hx ht (hid p0) (hid p2) (hid p3)
  ·exact implOvE x w h hx ht (hid p0) (hid p2)
 ·exact implOvD x w h hx ht (hid p0)
end Go.Proofs.YtbkmglknbflkhaaGreatDoor.M
namespace Go.Proofs.YtbkmglknbflkhaaGreatDoor.M
open Go.RowKit
open Go.Proofs.YtbkmglknbflkhaaGreatDoor.J (Says says_t says_f size_zero isEmpty_iff FileOk BegOk JobOk OutOk ltB TextsAt)
open Go.Proofs.YtbkmglknbflkhaaGreatDoor.R (hid)
set_option maxRecDepth 20000
theorem fl_at {B:Nat} {W:World} {g n c:Nat} {l:List R.Fl} (h:R.SFlR B W (.slice (some ⟨g,0,none⟩) n c) l) {i:Nat} (hi:i < l.length):g < W.heap.size∧W.cell? ⟨g,i * 2,none⟩=some (.string (l.getD i R.fl0).name)∧W.cell? ⟨g,i * 2+1,none⟩=some (.string (l.getD i R.fl0).text):=by
 obtain ⟨g2,e9,_,hg,a0⟩:=h.at hi
 injection e9 with ea en ec
 injection ea with eb
 injection eb with ec2
 subst ec2
 exact ⟨hg,a0⟩
theorem no_undef9 {b:Bool} (h:some undef=some (Value.bool b)):False:=by cases h
set_option maxHeartbeats 20000000 in
theorem implJobR_any (x:R.Mc) {v0 v1 v2 v3 v4 v5:Value} {B:Nat} (w:World) (h:MK B w x v0 v1 v2 v3 v4 v5) (hta:LowT x.args) (hto:LowT x.outs) (hfl:x.files.length≤1048576) (_hcl:x.codes.length≤1048576) (htx:x.text.size≤1048576) :
  Calls Tryz.prog 35 #[mval x v0 v1 v2 v3 v4 v5] w fun e w'=>Says e (JoOk x)∧Below w.heap.size w w':=by
 have HK:=hid h
 obtain ⟨gc,rfl⟩:=h.k0.sl
 obtain ⟨ga,rfl⟩:=h.k1.sl
 obtain ⟨go,rfl⟩:=h.k2.sl
 obtain ⟨gl,rfl⟩:=h.k4.sl
 have HTA:=hid hta
 have HTO:=hid hto
 clear h hta hto
 go_enter Tryz.func35,Tryz.ntmps35
 go_upto_region 1 with fail
 have HX:=hid (MX.start w x (.slice (some ⟨gc,0,none⟩) x.codes.length x.codes.length) (.slice (some ⟨ga,0,none⟩) x.args.length x.args.length) (.slice (some ⟨go,0,none⟩) x.outs.length x.outs.length) v3 (.slice (some ⟨gl,0,none⟩) x.files.length x.files.length) v5)
 obtain ⟨W1,hW1⟩:∃ W,w.alloc (.cells #[.slice (some ⟨gc,0,none⟩) x.codes.length x.codes.length,.slice (some ⟨ga,0,none⟩) x.args.length x.args.length,.slice (some ⟨go,0,none⟩) x.outs.length x.outs.length,v3,.int .i64 x.steps,.int .i64 x.looks,.int .i64 x.kind,.string x.name,.string x.hold,.bool x.over,.int .i64 x.fin,.string x.text,.slice (some ⟨gl,0,none⟩) x.files.length x.files.length,v5] 34)=W:=⟨_,rfl⟩
 rw [hW1] at HX ⊢
 clear hW1
 have c0:=HX.out.c0
 have c1:=HX.out.c1
 by_cases q1:x.args.length=x.codes.length
 ·have b1:((x.args.length:Int) != (x.codes.length:Int))=false:=by simp;omega
  have Q1:=hid q1
  clear q1
  by_cases q2:TxOk 40 x.args
  ·have HT:=hid ((implTexts_any x.args 40 W1 (by decide) HTA.out (HK.out.next HX.out.lo).k1).mono fun _ _ h=>(⟨h.1.pos q2,h.2⟩:_∧_))
   have Q2:=hid q2
   clear q2
   have c2:=HX.out.c2
   have hgo:go < W1.heap.size:=by
    obtain ⟨g9,e9,_,cur,h9,_⟩:=(HK.out.next HX.out.lo).k2
    injection e9 with ea _ _
    injection ea with eb
    injection eb with ec
    subst ec
    exact C.lt_hp h9
   have HJB:=hid (J.implJob_any ⟨#[]⟩ go x.outs.length x.outs.length (fun i=>x.outs.getD i ⟨#[]⟩) W1 (by decide) HTO.out.1 hgo (texts_at (HK.out.next HX.out.lo).k2) (fun i hi=>HTO.out.2 i hi))
   clear hgo
   by_cases q3:JobOk ⟨#[]⟩ x.outs.length (fun i=>x.outs.getD i ⟨#[]⟩)
   ·have HJ:=hid (says_tr HJB.out q3)
    have Q3:=hid q3
    clear q3 HJB
    go_wp2_with (first | (go_at_call 33;refine HT.out.mono ?_;rintro e w2 ⟨rfl,hw⟩;have hw2:=hw.symm;clear hw;subst hw2) | (go_at_call 63;refine HJ.out.mono ?_;rintro e w2 ⟨rfl,hb2⟩;have HX2:=hid (HX.out.next hb2);clear hb2 c0 c1 c2;have c12:=HX2.out.c12))
    clear c12
    have HV:Hid (∀ V,MX w x (.slice (some ⟨gc,0,none⟩) x.codes.length x.codes.length) (.slice (some ⟨ga,0,none⟩) x.args.length x.args.length) (.slice (some ⟨go,0,none⟩) x.outs.length x.outs.length) v3 (.slice (some ⟨gl,0,none⟩) x.files.length x.files.length) v5 V→MK B V x (.slice (some ⟨gc,0,none⟩) x.codes.length x.codes.length) (.slice (some ⟨ga,0,none⟩) x.args.length x.args.length) (.slice (some ⟨go,0,none⟩) x.outs.length x.outs.length) v3 (.slice (some ⟨gl,0,none⟩) x.files.length x.files.length) v5):=hid fun V hv=>HK.out.next hv.lo
    go_loopw [30] (fun i wr=>∃ k:Nat,k≤x.files.length∧i=.int .i64 k∧MX w x (.slice (some ⟨gc,0,none⟩) x.codes.length x.codes.length) (.slice (some ⟨ga,0,none⟩) x.args.length x.args.length) (.slice (some ⟨go,0,none⟩) x.outs.length x.outs.length) v3 (.slice (some ⟨gl,0,none⟩) x.files.length x.files.length) v5 wr∧∀ i,i < k→∃ q,q < x.outs.length∧x.outs.getD q ⟨#[]⟩=(x.files.getD i R.fl0).name) (fun i _=>x.files.length - (intOf i).toNat)
    case atStart=>exact ⟨0,Nat.zero_le _,rfl,HX2.out,fun i h=>absurd h (Nat.not_lt_zero _)⟩
    case round =>
     obtain ⟨k,hk,rfl,hx3,hall⟩:=hrel
     have HX3:=hid hx3
     have HALL:=hid hall
     clear hx3 hall
     by_cases hlt:k < x.files.length
     ·have hki:(k:Int) < (x.files.length:Int):=by omega
      obtain ⟨_,d0,d1⟩:=fl_at (HV.out _ HX3.out).k4 hlt
      obtain ⟨f,hf⟩:∃ f,x.files.getD k R.fl0=f:=⟨_,rfl⟩
      have HF:=hid hf
      rw [hf] at d0 d1
      clear hf
      have HX4:=hid (HX3.out.next ((Below.refl _ _).alloc (Nat.le_refl _) (.cells #[.string f.name,.string f.text] 55)))
      have HSE:=hid (P.search_any f.name (own_of (HV.out _ HX4.out).k2 HTO.out.1) (Nat.le_trans Q3.out.2.1 (by decide)))
      have HFI:=hid (found_iff (JobOk.up Q3.out) f.name)
      obtain ⟨bs,hbs⟩:∃ z,Lib.bsGo (fun t=>Op.bytesLess (x.outs.getD t ⟨#[]⟩).toList f.name.toList) x.outs.length 0 x.outs.length=z:=⟨_,rfl⟩
      rw [hbs] at HSE HFI
      clear hbs
      have c2:=HX4.out.c2
      by_cases q4:bs < x.outs.length∧x.outs.getD bs ⟨#[]⟩=f.name
      ·have HT4:Hid (∀ i,i < k+1→∃ q,q < x.outs.length∧x.outs.getD q ⟨#[]⟩=(x.files.getD i R.fl0).name):=hid fun i hi=>by
        rcases Nat.lt_or_ge i k with h9 | h9
        ·exact HALL.out i h9
        ·obtain rfl:i=k:=by omega
         rw [HF.out]
         exact HFI.out.1 q4
       have HDE:Hid (decide (bs < x.outs.length∧x.outs.getD bs ⟨#[]⟩=f.name)=true):=hid (decide_eq_true q4)
       rw [HDE.out] at HSE
       clear q4
       go_wp2_with (go_at_call 64;refine HSE.out.mono ?_;rintro e w5 ⟨nq,rfl,hw5⟩;have HX5:=hid (HX4.out.next (W2:=w5) (by rw [hw5];exact J.below_drewN (Below.refl _ _) _));clear hw5 c2)
       go_roundw
       case rel=>exact ⟨k+1,by omega,by go_num,HX5.out,HT4.out⟩
       case measure=>simp [intOf];omega
      ·have HN4:Hid (¬ ∃ q,q < x.outs.length∧x.outs.getD q ⟨#[]⟩=f.name):=hid fun h=>q4 (HFI.out.2 h)
       have HDE:Hid (decide (bs < x.outs.length∧x.outs.getD bs ⟨#[]⟩=f.name)=false):=hid (decide_eq_false q4)
       rw [HDE.out] at HSE
       clear q4
       go_wp2_with (go_at_call 64;refine HSE.out.mono ?_;rintro e w5 ⟨nq,rfl,hw5⟩;have HX5:=hid (HX4.out.next (W2:=w5) (by rw [hw5];exact J.below_drewN (Below.refl _ _) _));clear hw5 c2)
       go_ret
       exact ⟨says_f fun h=>HN4.out (by have:=h.2.2.2.1 k hlt;rwa [HF.out] at this),HX5.out.lo⟩
     ·obtain rfl:k=x.files.length:=by omega
      have hki:¬ ((x.files.length:Int) < (x.files.length:Int)):=by omega
      clear hlt
      have c5:=HX3.out.c5
      have c10:=HX3.out.c10
      have c11:=HX3.out.c11
      obtain ⟨looks,e⟩:∃ f,x.looks=f:=⟨_,rfl⟩
      rw [e] at c5
      have HE5:=hid e
      clear e
      obtain ⟨fin,e⟩:∃ f,x.fin=f:=⟨_,rfl⟩
      rw [e] at c10
      have HE10:=hid e
      clear e
      obtain ⟨text,e⟩:∃ f,x.text=f:=⟨_,rfl⟩
      rw [e] at c11 htx
      have HE11:=hid e
      clear e
      by_cases e1:0≤looks
      ·by_cases e2:looks≤100
       ·by_cases e3:fin=0
        ·subst e3
         by_cases e4:text.size=0
         ·obtain rfl:=size_zero e4
          go_wp2_with fail
          go_ret
          exact ⟨says_t ⟨Q1.out,Q2.out,Q3.out,HALL.out,by rw [HE5.out];exact ⟨e1,e2⟩,HE10.out,by rw [HE11.out];rfl⟩,HX3.out.lo⟩
         ·have b4:=not_empty2 e4
          go_wp2_with fail
          all_goals first
           | exact (no_undef9 (by assumption)).elim
           | (go_ret;exact ⟨says_f fun h=>by have h2:=h.2.2.2.2;rw [HE5.out,HE10.out,HE11.out] at h2;omega,HX3.out.lo⟩)
        ·have b3:(fin == 0)=false:=by simpa using e3
         go_wp2_with fail
         all_goals first
          | exact (no_undef9 (by assumption)).elim
          | (go_ret;exact ⟨says_f fun h=>by have h2:=h.2.2.2.2;rw [HE5.out,HE10.out,HE11.out] at h2;omega,HX3.out.lo⟩)
       ·have i2:¬ (looks≤(100:Int)):=by omega
        go_wp2_with fail
        all_goals first
         | exact (no_undef9 (by assumption)).elim
         | (go_ret;exact ⟨says_f fun h=>by have h2:=h.2.2.2.2;rw [HE5.out,HE10.out,HE11.out] at h2;omega,HX3.out.lo⟩)
      ·have i1:¬ ((0:Int)≤looks):=by omega
       go_wp2_with fail
       all_goals first
        | exact (no_undef9 (by assumption)).elim
        | (go_ret;exact ⟨says_f fun h=>by have h2:=h.2.2.2.2;rw [HE5.out,HE10.out,HE11.out] at h2;omega,HX3.out.lo⟩)
   ·have HJ:=hid (says_fa HJB.out q3)
    have Q3:=hid q3
    clear q3 HJB
    go_wp2_with (first | (go_at_call 33;refine HT.out.mono ?_;rintro e w2 ⟨rfl,hw⟩;have hw2:=hw.symm;clear hw;subst hw2) | (go_at_call 63;refine HJ.out.mono ?_;rintro e w2 ⟨rfl,hb2⟩;have HX2:=hid (HX.out.next hb2);clear hb2))
    go_ret
    exact ⟨says_f fun h=>Q3.out h.2.2.1,HX2.out.lo⟩
  ·have HT:=hid ((implTexts_any x.args 40 W1 (by decide) HTA.out (HK.out.next HX.out.lo).k1).mono fun _ _ h=>(⟨h.1.neg q2,h.2⟩:_∧_))
   have Q2:=hid q2
   clear q2
   go_wp2_with (go_at_call 33;refine HT.out.mono ?_;rintro e w2 ⟨rfl,hw⟩;have hw2:=hw.symm;clear hw;subst hw2)
   go_ret
   exact ⟨says_f fun h=>Q2.out h.2.1,HX.out.lo⟩
 ·have b1:((x.args.length:Int) != (x.codes.length:Int))=true:=by simp;omega
  have Q1:=hid q1
  clear q1
  go_wp2
  go_ret
  exact ⟨says_f fun h=>Q1.out h.1,HX.out.lo⟩
end Go.Proofs.YtbkmglknbflkhaaGreatDoor.M
