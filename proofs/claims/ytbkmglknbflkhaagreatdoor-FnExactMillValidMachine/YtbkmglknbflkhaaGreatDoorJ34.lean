import Derived.Test.YtbkmglknbflkhaaGreatDoorJ30
import Derived.Test.YtbkmglknbflkhaaGreatDoorJ29
import Derived.Test.YtbkmglknbflkhaaGreatDoorJ33
import Derived.Test.YtbkmglknbflkhaaGreatDoorJ00
namespace Go.Proofs.YtbkmglknbflkhaaGreatDoor.C
open Go.RowKit
set_option maxRecDepth 20000
structure FnOkR (f:Fn):Prop where
 few:f.params.length≤8
 result:0≤f.result∧f.result≤10
 slots:(f.params.length:Int)≤f.slots∧f.slots≤200
 some_:1≤f.ins.length∧f.ins.length≤50000
 params:∀ i,i < f.params.length→1≤f.params.getD i 0∧f.params.getD i 0≤10
theorem fnOk_iff {fns:List Fn} {k:Nat}:FnOk fns k ↔ Q.NameOk (fns.getD k fn0).name∧FnOkR (fns.getD k fn0)∧∀ i,i < k→¬ (fns.getD i fn0).name=(fns.getD k fn0).name :=
 ⟨fun h=>⟨h.name,⟨h.few,h.result,h.slots,h.some_,h.params⟩,h.once⟩,fun h=>⟨h.1,h.2.1.few,h.2.1.result,h.2.1.slots,h.2.1.some_,h.2.1.params,h.2.2⟩⟩
set_option maxHeartbeats 8000000 in
theorem fnRight_any {f:Fn} {pv iv:Value} {w:World} (h1:IntRow w pv f.params) (h2:InsRow w iv f.ins) :
  Calls Tryz.prog 140 #[.agg #[.string f.name,pv,.int .i64 f.result,.int .i64 f.slots,iv]] w fun e w'=>Q.Says e (FnOkR f)∧Below w.heap.size w w':=by
 have HP:=hid h1
 obtain ⟨aP,cP,rfl⟩:=h1.sl
 obtain ⟨aI,cI,rfl⟩:=h2.sl
 have HLO:Hid (Below w.heap.size w (w.alloc (fbox f (.slice aP f.params.length cP) (.slice aI f.ins.length cI)))):=hid ((Below.refl _ _).alloc (Nat.le_refl _) _)
 obtain ⟨q0,q1,q2,q3,q4⟩:=fx (heap_alloc_new w (fbox f (.slice aP f.params.length cP) (.slice aI f.ins.length cI)))
 clear h1 h2
 go_enter Tryz.func140,Tryz.ntmps140
 go_upto_region 1 with fail
 obtain ⟨W1,hW1⟩:∃ W,w.alloc (fbox f (.slice aP f.params.length cP) (.slice aI f.ins.length cI))=W:=⟨_,rfl⟩
 rw [hW1] at HLO q0 q1 q2 q3 q4
 unfold fbox at hW1
 rw [hW1]
 clear hW1
 by_cases hfew:f.params.length≤8
 ·have hfi:¬ (8:Int) < (f.params.length:Int):=by omega
  go_wp2_with fail
  go_loop [12] (fun i=>∃ j:Nat,j≤f.params.length∧i=.int .i64 j∧∀ p,p < j→1≤f.params.getD p 0∧f.params.getD p 0≤10) (fun i=>f.params.length - (intOf i).toNat)
  case atStart=>exact ⟨0,Nat.zero_le _,rfl,fun p hp=>absurd hp (Nat.not_lt_zero _)⟩
  case round =>
   obtain ⟨j,hj,rfl,hall⟩:=hrel
   have HALL:=hid hall
   clear hall
   by_cases hlt:j < f.params.length
   ·have hlti:(j:Int) < (f.params.length:Int):=by omega
    obtain ⟨gg,gc2,e9,_,_,hggl,hgc⟩:=(HP.out.next HLO.out).at (i:=j) hlt
    injection e9 with e9 en ec
    clear en
    subst e9 ec
    have n0:=hgc j hlt
    clear hgc
    obtain ⟨y,hy⟩:∃ y,f.params.getD j 0=y:=⟨_,rfl⟩
    rw [hy] at n0
    have HY:=hid hy
    clear hy
    by_cases hr:1≤y∧y≤10
    ·have hb:(decide (1≤y) && decide (y≤10))=true:=by simp [hr.1,hr.2]
     have HNX:Hid (∀ p,p < j+1→1≤f.params.getD p 0∧f.params.getD p 0≤10):=hid fun p hp=>by
      by_cases e:p=j
      ·subst e;rw [HY.out];exact hr
      ·exact HALL.out p (by omega)
     clear hr
     go_wp2_with (go_at_call 158;refine (Q.millIsType_int _ _).mono ?_;rw [hb];rintro e w' ⟨rfl,hw⟩;have hw2:=hw.symm;clear hw;subst hw2)
     go_round
     case rel=>exact ⟨j+1,by omega,by go_num,HNX.out⟩
     case measure=>simp [intOf];omega
    ·have hb:(decide (1≤y) && decide (y≤10))=false:=by
      cases h:(decide (1≤y) && decide (y≤10)) with
      | false=>rfl
      | true=>simp at h;exact absurd h hr
     have HNR:=hid hr
     clear hr
     go_wp2_with (go_at_call 158;refine (Q.millIsType_int _ _).mono ?_;rw [hb];rintro e w' ⟨rfl,hw⟩;have hw2:=hw.symm;clear hw;subst hw2)
     go_ret
     exact ⟨Q.says_f fun h=>HNR.out (by have:=h.params j hlt;rw [HY.out] at this;exact this),HLO.out⟩
   ·obtain rfl:j=f.params.length:=by omega
    have hge:¬ ((f.params.length:Int) < (f.params.length:Int)):=by omega
    go_upto_region 9 with fail
    obtain ⟨R,hR⟩:∃ R,f.result=R:=⟨_,rfl⟩
    have HRE:=hid hR
    rw [hR] at q2
    clear hR hge
    by_cases hr:R=0∨(1≤R∧R≤10)
    ·have HRR:Hid (0≤R∧R≤10):=hid (by omega)
     have hs0:f.slots=f.slots:=rfl
     rcases hr with rfl | hr
     ·have hb:(decide (1≤(0:Int)) && decide ((0:Int)≤10))=false:=rfl
      by_cases hs1:(f.params.length:Int)≤f.slots
      ·by_cases hs2:f.slots≤200
       ·by_cases hi1:(0:Int) < (f.ins.length:Int)
        ·by_cases hi2:(f.ins.length:Int)≤50000
         ·go_wp2_with (go_at_call 158;refine (Q.millIsType_int _ _).mono ?_;rw [hb];rintro e w' ⟨rfl,hw⟩;have hw2:=hw.symm;clear hw;subst hw2)
          go_ret
          exact ⟨Q.says_t ⟨hfew,(by rw [HRE.out];exact HRR.out),⟨hs1,hs2⟩,⟨by omega,by omega⟩,HALL.out⟩,HLO.out⟩
         ·go_wp2_with (go_at_call 158;refine (Q.millIsType_int _ _).mono ?_;rw [hb];rintro e w' ⟨rfl,hw⟩;have hw2:=hw.symm;clear hw;subst hw2)
          go_ret
          exact ⟨Q.says_f (fun h=>by have h8:=h.slots;have h9:=h.some_;omega),HLO.out⟩
        ·go_wp2_with (go_at_call 158;refine (Q.millIsType_int _ _).mono ?_;rw [hb];rintro e w' ⟨rfl,hw⟩;have hw2:=hw.symm;clear hw;subst hw2)
         go_ret
         exact ⟨Q.says_f (fun h=>by have h8:=h.slots;have h9:=h.some_;omega),HLO.out⟩
       ·go_wp2_with (go_at_call 158;refine (Q.millIsType_int _ _).mono ?_;rw [hb];rintro e w' ⟨rfl,hw⟩;have hw2:=hw.symm;clear hw;subst hw2)
        go_ret
        exact ⟨Q.says_f (fun h=>by have h8:=h.slots;have h9:=h.some_;omega),HLO.out⟩
      ·go_wp2_with (go_at_call 158;refine (Q.millIsType_int _ _).mono ?_;rw [hb];rintro e w' ⟨rfl,hw⟩;have hw2:=hw.symm;clear hw;subst hw2)
       go_ret
       exact ⟨Q.says_f (fun h=>by have h8:=h.slots;have h9:=h.some_;omega),HLO.out⟩
     ·have hb:(decide (1≤R) && decide (R≤10))=true:=by simp [hr.1,hr.2]
      have hr0:(R == 0)=false:=by simp;omega
      clear hr
      by_cases hs1:(f.params.length:Int)≤f.slots
      ·by_cases hs2:f.slots≤200
       ·by_cases hi1:(0:Int) < (f.ins.length:Int)
        ·by_cases hi2:(f.ins.length:Int)≤50000
         ·go_wp2_with (go_at_call 158;refine (Q.millIsType_int _ _).mono ?_;rw [hb];rintro e w' ⟨rfl,hw⟩;have hw2:=hw.symm;clear hw;subst hw2)
          go_ret
          exact ⟨Q.says_t ⟨hfew,(by rw [HRE.out];exact HRR.out),⟨hs1,hs2⟩,⟨by omega,by omega⟩,HALL.out⟩,HLO.out⟩
         ·go_wp2_with (go_at_call 158;refine (Q.millIsType_int _ _).mono ?_;rw [hb];rintro e w' ⟨rfl,hw⟩;have hw2:=hw.symm;clear hw;subst hw2)
          go_ret
          exact ⟨⟨decide ((f.ins.length:Int)≤50000),rfl,by rw [decide_eq_true_iff];exact ⟨fun h=>by omega,fun h=>by have h9:=h.some_;omega⟩⟩,HLO.out⟩
        ·go_wp2_with (go_at_call 158;refine (Q.millIsType_int _ _).mono ?_;rw [hb];rintro e w' ⟨rfl,hw⟩;have hw2:=hw.symm;clear hw;subst hw2)
         go_ret
         exact ⟨Q.says_f (fun h=>by have h8:=h.slots;have h9:=h.some_;omega),HLO.out⟩
       ·go_wp2_with (go_at_call 158;refine (Q.millIsType_int _ _).mono ?_;rw [hb];rintro e w' ⟨rfl,hw⟩;have hw2:=hw.symm;clear hw;subst hw2)
        go_ret
        exact ⟨Q.says_f (fun h=>by have h8:=h.slots;have h9:=h.some_;omega),HLO.out⟩
      ·go_wp2_with (go_at_call 158;refine (Q.millIsType_int _ _).mono ?_;rw [hb];rintro e w' ⟨rfl,hw⟩;have hw2:=hw.symm;clear hw;subst hw2)
       go_ret
       exact ⟨Q.says_f (fun h=>by have h8:=h.slots;have h9:=h.some_;omega),HLO.out⟩
    ·have hr0:(R == 0)=false:=by simp;intro h;exact hr (.inl h)
     have hb:(decide (1≤R) && decide (R≤10))=false:=by
      cases h:(decide (1≤R) && decide (R≤10)) with
      | false=>rfl
      | true=>simp at h;exact absurd (.inr h) hr
     have HNR:=hid hr
     clear hr
     go_wp2_with (go_at_call 158;refine (Q.millIsType_int _ _).mono ?_;rw [hb];rintro e w' ⟨rfl,hw⟩;have hw2:=hw.symm;clear hw;subst hw2)
     go_ret
     exact ⟨Q.says_f fun h=>HNR.out (by have:=h.result;rw [HRE.out] at this;omega),HLO.out⟩
 ·have hfi:(8:Int) < (f.params.length:Int):=by omega
  go_wp2_with fail
  go_ret
  exact ⟨Q.says_f fun h=>hfew h.few,HLO.out⟩
theorem isIns_any (t:Int) (w:World) :
  Calls Tryz.prog 159 #[.int .i64 t] w fun e w'=>e=.returned (.bool (decide (1≤t) && decide (t≤16)))∧w'=w:=by
 go_enter Tryz.func159,Tryz.ntmps159
 go_wp2
 all_goals go_ret
 all_goals exact ⟨ret_bool (by rw [Bool.eq_iff_iff];simp;try omega),rfl⟩
structure IRX (f:Fn) (i:In) (w:World) (pv iv:Value) (W:World):Prop where
 lo:Below w.heap.size w W
 e0:W.heap[w.heap.size]?=some (ibox i)
 e1:W.heap[w.heap.size+1]?=some (fbox f pv iv)
theorem IRX.next {f:Fn} {i:In} {w:World} {pv iv:Value} {W V:World} (h:IRX f i w pv iv W) (hb:Below W.heap.size W V):IRX f i w pv iv V:=⟨h.lo.trans (hb.mono h.lo.size),hp_next h.e0 hb,hp_next h.e1 hb⟩
theorem empty_iff (s:ByteArray):s.toList.isEmpty=decide (s.size=0):=by
 by_cases h:s.size=0
 ·rw [Lib.toList_data,V.size_zero h];rfl
 ·rw [V.notEmpty s (by omega)];simp [h]
set_option maxHeartbeats 8000000 in
theorem insRight_any {fns:List Fn} {f:Fn} {i:In} {aP aI:Option Addr} {cP cI:Nat} {w:World} (hE:EnvI w) (hsl:0≤f.slots∧f.slots≤200) (hl:fns.length≤60) (hil:f.ins.length≤50000) (hn:-9223372036854775808≤i.n∧i.n≤9223372036854775807) :
  Calls Tryz.prog 141 #[inV i,.agg #[.string f.name,.slice aP f.params.length cP,.int .i64 f.result,.int .i64 f.slots,.slice aI f.ins.length cI],.int .i64 fns.length] w fun e w'=>e=.returned (.bool (insB fns f i))∧Below w.heap.size w w':=by
 have HE:=hid hE
 obtain ⟨op,a,n,tx⟩:=i
 dsimp only at hn
 unfold inV
 dsimp only
 obtain ⟨t0,t1,hlo,hz⟩:=two w (ibox ⟨op,a,n,tx⟩) (fbox f (.slice aP f.params.length cP) (.slice aI f.ins.length cI))
 have HX:Hid (IRX f ⟨op,a,n,tx⟩ w (.slice aP f.params.length cP) (.slice aI f.ins.length cI) ((w.alloc (ibox ⟨op,a,n,tx⟩)).alloc (fbox f (.slice aP f.params.length cP) (.slice aI f.ins.length cI)))):=hid ⟨hlo,t0,t1⟩
 clear t0 t1 hlo hz hE
 go_enter Tryz.func141,Tryz.ntmps141
 go_upto_region 1 with fail
 obtain ⟨W1,hW1⟩:∃ W,((w.alloc (ibox ⟨op,a,n,tx⟩)).alloc (fbox f (.slice aP f.params.length cP) (.slice aI f.ins.length cI)))=W:=⟨_,rfl⟩
 rw [hW1] at HX
 unfold ibox fbox at hW1
 rw [hW1]
 clear hW1
 obtain ⟨j0,j1,j2,j3⟩:=ix HX.out.e0
 dsimp only at j0 j1 j2 j3
 by_cases hop:1≤op∧op≤16
 ·have hb:(decide (1≤op) && decide (op≤16))=true:=by simp [hop.1,hop.2]
  have HIB:Hid (insB fns f ⟨op,a,n,tx⟩=(aB fns f op a && (if op=1 then V.validB a n tx else decide (n=0) && decide (tx.size=0)))):=hid (by simp [insB,inB,hop.1,hop.2])
  obtain ⟨o,rfl⟩:∃ o:Nat,op=o:=⟨op.toNat,by omega⟩
  obtain ⟨q0,q1,q2,q3,q4⟩:=fx HX.out.e1
  have HEN:=hid (fun V (hV:Below W1.heap.size W1 V)=>ends_any (fns:=fns) (f:=f) (aP:=aP) (aI:=aI) (cP:=cP) (cI:=cI) (o:=o) (HE.out.next (HX.out.next hV).lo) (by omega) (by omega) hsl hl hil)
  clear hop
  go_upto_region 3 with (go_at_call 159;refine (isIns_any _ _).mono ?_;rw [hb];rintro e w' ⟨rfl,hw⟩;have hw2:=hw.symm;clear hw;subst hw2)
  clear hb
  go_upto_region 4 with (go_at_call 160;refine (HEN.out _ (Below.refl _ _)).mono ?_;rintro e W2 ⟨lo,hi,rfl,hab,hb2⟩;have HAB:=hid hab;have HX2:=hid (HX.out.next hb2);clear hab hb2)
  clear j0 j1 j2 j3 q0 q1 q2 q3 q4 HEN HX
  obtain ⟨j0,j1,j2,j3⟩:=ix HX2.out.e0
  dsimp only at j0 j1 j2 j3
  by_cases hlo:a < lo
  ·have HF:Hid (insB fns f ⟨(o:Nat),a,n,tx⟩=false):=hid (by rw [HIB.out,HAB.out];simp [inB];intro h;omega)
   go_wp2_with fail
   go_ret
   exact ⟨by rw [HF.out];rfl,HX2.out.lo⟩
  ·by_cases hhi:a > hi
   ·have HF:Hid (insB fns f ⟨(o:Nat),a,n,tx⟩=false):=hid (by rw [HIB.out,HAB.out];simp [inB];intro _ h;omega)
    have hhi2:hi < a:=hhi
    go_wp2_with fail
    go_ret
    exact ⟨by rw [HF.out];rfl,HX2.out.lo⟩
   ·have hhi2:¬ hi < a:=hhi
    have HT:Hid (insB fns f ⟨(o:Nat),a,n,tx⟩=(if (o:Int)=1 then V.validB a n tx else decide (n=0) && decide (tx.size=0))):=hid (by
     have e:inB a lo hi=true:=by simp [inB];omega
     rw [HIB.out,HAB.out,e,Bool.true_and])
    by_cases h1:(o:Int)=1
    ·rw [if_pos h1] at HT
     rw [h1] at j0
     have HVV:=hid (V.implVV a n tx hn.1 hn.2 W2)
     unfold V.val at HVV
     clear h1
     go_wp2_with (go_at_call 121;refine HVV.out.mono ?_;rintro e W3 ⟨rfl,hb3⟩;have HB3:=hid (HX2.out.next hb3).lo;clear hb3)
     go_ret
     exact ⟨by rw [HT.out];rfl,HB3.out⟩
    ·rw [if_neg h1] at HT
     have h1b:((o:Int) == 1)=false:=by simpa using h1
     clear h1
     by_cases hn0:n=0
     ·subst hn0
      have HT2:Hid (insB fns f ⟨(o:Nat),a,0,tx⟩=tx.toList.isEmpty):=hid (by rw [HT.out,empty_iff];simp)
      go_wp2_with fail
      go_ret
      exact ⟨by rw [HT2.out];rfl,HX2.out.lo⟩
     ·have hnb:(n == 0)=false:=by simpa using hn0
      have HF:Hid (decide (n=0)=false):=hid (by simpa using hn0)
      clear hn0
      go_wp2_with fail
      go_ret
      exact ⟨by rw [HT.out,HF.out];rfl,HX2.out.lo⟩
 ·have hb:(decide (1≤op) && decide (op≤16))=false:=by
   cases h:(decide (1≤op) && decide (op≤16)) with
   | false=>rfl
   | true=>simp at h;exact absurd h hop
  have HF:Hid (insB fns f ⟨op,a,n,tx⟩=false):=hid (by simp [insB,inB,hb])
  clear hop
  go_wp2_with (go_at_call 159;refine (isIns_any _ _).mono ?_;rw [hb];rintro e w' ⟨rfl,hw⟩;have hw2:=hw.symm;clear hw;subst hw2)
  go_ret
  exact ⟨by rw [HF.out];rfl,HX.out.lo⟩
theorem len_max {n:Nat} (h:n≤1048576):n≤maxLen:=by unfold maxLen;omega
theorem intRow_of {B:Nat} {W:World} {v:Value} {l:List Int} (h:R.SIntR B W v l) (hl:l.length≤1048576):IntRow W v l:=by
 obtain ⟨g,e,_,cur,h1,_,h3⟩:=h
 exact ⟨_,_,e,Nat.le_refl _,len_max hl,.inr ⟨g,cur,rfl,h1,h3⟩⟩
theorem insRow_of {B:Nat} {W:World} {v:Value} {l:List In} (h:R.SInR B W v l) (hl:R.LoInS l):InsRow W v l:=by
 obtain ⟨g,e,_,cur,h1,_,h3⟩:=h
 exact ⟨_,_,e,Nat.le_refl _,len_max hl.1,.inr ⟨g,cur,rfl,h1,h3⟩⟩
theorem fnsRow_of {B:Nat} {W:World} {v:Value} {l:List Fn} (h:R.SFnR B W v l) (hl:R.LoFnS l):FnsRow W v l:=by
 obtain ⟨g,e,_,cur,h1,_,h3⟩:=h
 refine ⟨_,_,e,Nat.le_refl _,len_max hl.1,.inr ⟨g,rfl,R.lt_hp h1,fun i hi=>?_⟩⟩
 obtain ⟨v0,v1,d0,d1,d2,d3,d4,r0,r1⟩:=h3 i hi
 have h2:=hl.2 i hi
 exact ⟨v0,v1,(R.row_cell h1 _).trans d0,(R.row_cell h1 _).trans d1,(R.row_cell h1 _).trans d2,(R.row_cell h1 _).trans d3,(R.row_cell h1 _).trans d4,intRow_of r0 h2.1,insRow_of r1 h2.2⟩
theorem codeS_of {l:List Fn} (h:R.OkFnS l):CodeS l :=
 ⟨fun j hj=>(h.2 j hj).1,fun j hj p hp=>by
  obtain ⟨_,_,_,_,h5⟩:=h.2 j hj
  exact (h5.2 p hp).2.2.1⟩
def NewEnd (fns:List Fn) (f:Fn) (w:World) (e:Ending) (w':World):Prop:=∃ (W2:World) (b gL:Nat) (cv pv iv:Value) (A:Nat→Sh) (wv:Value),e=.returned (.pointer (some ⟨b,0,none⟩))∧Below w.heap.size w W2∧SG fns f W2 cv pv iv∧SP fns f W2 b gL cv pv iv A [] wv w'∧Closed fns f A∧Low fns f A
theorem lying_info:(Tryz.prog.info? 101).map (fun i=>(i.zero,i.size,i.bytes))=some (some (.agg #[.int .i64 0,.string ⟨#[]⟩,.string ⟨#[]⟩]),3,40):=by kernel_rfl
theorem u8_info:(Tryz.prog.info? 5).map (fun i=>(i.zero,i.size,i.bytes))=some (some (.int .u8 0),1,1):=by kernel_rfl
theorem LyRow.made {W:World} {B g n:Nat} (h:W.ownsRow B 101 3 (.slice (some ⟨g,0,none⟩) n n) n (madeCells #[.int .i64 0,.string ⟨#[]⟩,.string ⟨#[]⟩] (n * 3)).toList):LyRow W g n fun _=>bot:=by
 obtain ⟨h1,⟨h2,_⟩ | ⟨k,c,cur,e,hb,h4,h5,h6,h7,h8⟩⟩:=h
 ·cases h2
 ·injection e with e1 _ e3
  injection e1 with e1
  injection e1 with e1
  subst e1 e3
  have hcur:cur.size=n * 3:=by rw [h7]
  have hcells:cur.toList=(madeCells #[.int .i64 0,.string ⟨#[]⟩,.string ⟨#[]⟩] (n * 3)).toList:=by
   rw [← h8,List.take_of_length_le (by simp [hcur])]
  have hcc:cur=madeCells #[.int .i64 0,.string ⟨#[]⟩,.string ⟨#[]⟩] (n * 3):=Array.ext' hcells
  refine ⟨cur,h4,hcur,fun i hi=>?_⟩
  obtain ⟨m0,m1,m2⟩:=made3 (.int .i64 0) (.string ⟨#[]⟩) (.string ⟨#[]⟩) n i hi
  rw [hcc]
  exact ⟨m0,m1,m2⟩
theorem SP.last {fns:List Fn} {f:Fn} {w:World} {b gL:Nat} {cv pv iv:Value} {A:Nat→Sh} {l:List Nat} {x:Nat} {wv:Value} {W:World} (h:SP fns f w b gL cv pv iv A (l ++ [x]) wv W):∃ g c,wv=.slice (some ⟨g,0,none⟩) (l.length+1) c∧W.cell? ⟨g,l.length,none⟩=some (.int .i64 (x:Nat))∧l.length+1≤c∧c≤maxLen∧∀ V,Below W.heap.size W V→SP fns f w b gL cv pv iv A l (.slice (some ⟨g,0,none⟩) l.length c) (V.setCell ⟨b,7,none⟩ (.slice (some ⟨g,0,none⟩) l.length c)):=by
 have hl:(l ++ [x]).length=l.length+1:=by simp
 obtain ⟨h1,⟨_,h2⟩ | ⟨k,cap,cur,e,hb,hc,h4,h5,h6,h7⟩⟩:=h.own
 ·simp at h2
 ·rw [Nat.mul_one] at h6 h7
  rw [hl] at e h4 h7
  refine ⟨k,cap,e,?_,h4,h5,fun V hV=>(h.next hV).work ⟨rfl,rfl,rfl,Nat.le_refl _,fun _ _ _=>rfl⟩ ⟨by simp [nums],.inr ⟨k,cap,cur,rfl,hb,hp_next hc hV,by omega,h5,by rw [Nat.mul_one];exact h6,?_⟩⟩⟩
  ·refine (cell_hp hc l.length).trans ?_
   have e2:(cur.toList.take (l.length+1))[l.length]?=((nums (l ++ [x])).map fun x=>Value.int .i64 x)[l.length]?:=by rw [h7]
   rw [List.getElem?_take_of_lt (by omega)] at e2
   rw [← Array.getElem?_toList,e2]
   simp [nums]
  ·have e3:=congrArg (List.take l.length) h7
   rw [List.take_take,Nat.min_eq_left (by omega)] at e3
   rw [Nat.mul_one,e3]
   simp [nums]
def bRow (l:List Int) (i j:Nat):Value:=.int .u8 (if j < i then l.getD j 0 else 0)
structure NI (l:List Int) (S:Nat) (w:World) (j:Nat) (W:World):Prop where
 lo:Below w.heap.size w W
 row:W.rowIs w.heap.size 5 S (bRow l j)
theorem NI.more {l:List Int} {S:Nat} {w:World} {j:Nat} {W:World} (h:NI l S w j W):NI l S w (j+1) (W.setCell ⟨w.heap.size,j,none⟩ (.int .u8 (l.getD j 0))):=by
 refine ⟨set_lo h.lo _ _ (Nat.le_refl _) _,(h.row.set j _).congr fun q hq=>?_⟩
 unfold bRow
 by_cases e:q=j
 ·subst e;rw [if_pos rfl,if_pos (by omega)]
 ·rw [if_neg e]
  by_cases h9:q < j
  ·rw [if_pos h9,if_pos (by omega)]
  ·rw [if_neg h9,if_neg (by omega)]
theorem NI.made {l:List Int} {S:Nat} {w W:World} (h:W.ownsRow w.heap.size 5 1 (.slice (some ⟨w.heap.size,0,none⟩) S S) S (madeCells (Value.int .u8 0).cells (S * 1)).toList) (hg:w.grownBy W none):NI l S w 0 W:=by
 refine ⟨(Below.refl w.heap.size w).grown hg (Nat.le_refl _) (fun q e=>by cases e),?_⟩
 obtain ⟨_,⟨h2,_⟩ | ⟨k,c,cur,e,_,h4,_,_,h7,h8⟩⟩:=h
 ·cases h2
 ·injection e with e1 _ e3
  injection e1 with e1
  injection e1 with e1
  subst e1 e3
  rw [Nat.mul_one] at h7 h8
  refine ⟨cur,h4,h7,fun i hi=>?_⟩
  have e2:(cur.toList.take S)[i]?=(madeCells (Value.int .u8 0).cells S).toList[i]?:=by rw [h8]
  rw [List.getElem?_take_of_lt hi] at e2
  rw [← Array.getElem?_toList,e2]
  have e5:(Value.int .u8 0).cells=#[Value.int .u8 0]:=rfl
  rw [e5,made1 _ _ _ hi]
  unfold bRow
  rw [if_neg (Nat.not_lt_zero _)]
theorem NI.text {fns:List Fn} {f:Fn} {S:Nat} {w W:World} (hf:FnR fns f) (hS:f.S=S) (hl:f.params.length≤S) (h:NI f.params S w f.params.length W):(convert 149 9 (.slice (some ⟨w.heap.size,0,none⟩) S S)).run Tryz.prog W=.ok (.string (kt (first f).sl)) W:=by
 have hlen:((first f).sl.map kb).length=S:=by simp [first,hS];omega
 have:=run_convert_bytes_back (P:=Tryz.prog) W 149 9 5 ⟨w.heap.size,0,none⟩ S ((first f).sl.map kb) Tryz.underlying149 Tryz.underlying5 Tryz.underlying9 (fun j hj=>by
  have hjS:j < S:=by omega
  have ea:(⟨w.heap.size,0,none⟩:Addr).add j=⟨w.heap.size,j,none⟩:=by simp [Addr.add];exact fun h=>h.symm
  rw [ea,h.row.cell hjS]
  unfold bRow
  have hj2:j < (first f).sl.length:=by simpa using hj
  have ok:Ok10 (first f).sl:=(ok_sl (first_ok hf)).1
  rw [List.getElem_map,kb_nat (ok _ (List.getElem_mem hj2))]
  congr 2
  by_cases hp:j < f.params.length
  ·rw [if_pos hp]
   simp [first,hp,List.getElem_append_left,List.getD_eq_getElem?_getD]
  ·rw [if_neg hp]
   have e:∀ (a c:List Int) (h:j < (a ++ c).length),a.length≤j→(∀ x ∈ c,x=0)→(a ++ c)[j]=0:=fun a c h ha hc=>by
    rw [List.getElem_append_right ha]
    exact hc _ (List.getElem_mem _)
   exact (e f.params (List.replicate (f.S - f.params.length) 0) hj2 (by omega) (fun x hx=>(List.mem_replicate.1 hx).2)).symm)
 rw [hlen] at this
 exact this
theorem come_first {fns:List Fn} {f:Fn} {w:World} {b gL:Nat} {cv pv iv wv:Value} {W:World} (h:(join ((fun _=>bot) 0) (first f)=(fun _=>bot) 0∧SP fns f w b gL cv pv iv (fun _=>bot) [] wv W)∨(¬ join ((fun _=>bot) 0) (first f)=(fun _=>bot) 0∧SP fns f w b gL cv pv iv (upd (fun _=>bot) 0 (join ((fun _=>bot) 0) (first f))) (ins1 [] 0) wv W)):SP fns f w b gL cv pv iv (upd (fun _=>bot) 0 (first f)) [0] wv W:=by
 rcases h with ⟨h,_⟩ | ⟨_,h⟩
 ·rw [join_bot rfl] at h
  have:=congrArg Sh.st h
  simp [first,bot] at this
 ·rw [join_bot rfl] at h
  exact h
end Go.Proofs.YtbkmglknbflkhaaGreatDoor.C
