import Derived.Deep.RegionHeld3
import Derived.Deep.MidRow
import Derived.Laws.Tables
import Derived.Test.YtbkmglknbflkhaaGreatDoorJ46
import Derived.Test.YtbkmglknbflkhaaGreatDoorJ00
import Derived.Test.YtbkmglknbflkhaaGreatDoorJ37
namespace Go.Proofs.YtbkmglknbflkhaaGreatDoor.M
open Go.RowKit
open Go.Proofs.YtbkmglknbflkhaaGreatDoor.J (Says says_t says_f Says.pos Says.neg)
open Go.Proofs.YtbkmglknbflkhaaGreatDoor.R (hid)
open C (kt Ok10)
set_option maxRecDepth 20000
set_option maxHeartbeats 4000000 in
theorem implSlots_any (l:List R.Va) (ks:List Int) {v:Value} {B:Nat} (w:World) (h10:Ok10 ks) (hx:R.OkVaS l) (hl:l.length≤1048576) (k0:R.SVaR B w v l) :
  Calls Tryz.prog 97 #[v,.string (kt ks)] w fun e w'=>Says e (SlotsOk l ks)∧Below w.heap.size w w':=by
 have HK:=hid k0
 have HX:=hid hx
 have HT:=hid h10
 have HKS:=hid (C.kt_size ks)
 obtain ⟨g,rfl⟩:=k0.sl
 obtain ⟨s,hs⟩:∃ s,kt ks=s:=⟨_,rfl⟩
 have HS:=hid hs
 rw [hs] at HKS ⊢
 clear k0 hx h10 hs
 by_cases he:l.length=ks.length
 ·have hne:((l.length:Int) != (s.size:Int))=false:=by have:=HKS.out;simp;omega
  have HE:=hid he
  clear he
  go_enter Tryz.func97,Tryz.ntmps97
  go_wp2
  go_loopw [15] (fun i wr=>∃ k:Nat,k≤l.length∧i=.int .i64 k∧(∀ i,i < k→SlotOk (l.getD i R.va0) (ks.getD i 0))∧Below w.heap.size w wr) (fun i _=>l.length - (intOf i).toNat)
  case atStart=>exact ⟨0,Nat.zero_le _,rfl,fun i h=>absurd h (Nat.not_lt_zero _),Below.refl _ _⟩
  case round =>
   obtain ⟨k,hk2,rfl,hr,hb⟩:=hrel
   have HB:=hid hb
   have HR:=hid hr
   clear hr hb
   by_cases hlt:k < l.length
   ·obtain ⟨_,a0,a1,a2⟩:=va_at (HK.out.next HB.out) hlt
    have HO:=hid (HX.out.2 k hlt)
    obtain ⟨x,hxe⟩:∃ x,l.getD k R.va0=x:=⟨_,rfl⟩
    have HXE:=hid hxe
    rw [hxe] at a0 a1 a2 HO
    clear hxe
    have hks2:k < s.size:=by have:=HKS.out;have:=HE.out;omega
    have HKT:Hid (((s[k]).toNat:Int)=ks.getD k 0):=by
     have h9:=HS.out
     subst h9
     exact C.kt_get HT.out hks2
    obtain ⟨kd,hkd⟩:∃ kd,ks.getD k 0=kd:=⟨_,rfl⟩
    have HKD:=hid hkd
    have HKB:=hid (ok10_at HT.out k)
    rw [hkd] at HKT HKB
    clear hkd
    obtain ⟨cb,hcb⟩:∃ cb,s[k]=cb:=⟨_,rfl⟩
    rw [hcb] at HKT
    have hlti:(k:Int) < (l.length:Int):=by omega
    have hcn:(cb.toNat:Int)=kd:=HKT.out
    have hcbi:(0:Int)≤kd∧kd≤255:=by have:=cb.toNat_lt;omega
    have HV:=hid (VX.start wr x)
    go_upto_region 7 with fail
    clear hcn
    obtain ⟨W3,hW3⟩:∃ W,wr.alloc (.cells #[.int .i64 x.ty,.int .i64 x.n,.string x.text] 127)=W:=⟨_,rfl⟩
    rw [hW3] at HV ⊢
    clear hW3 a0 a1 a2
    have c0:=HV.out.c0
    have c1:=HV.out.c1
    have c2:=HV.out.c2
    have HSTEP:Hid (SlotOk x kd→∀ i,i < k+1→SlotOk (l.getD i R.va0) (ks.getD i 0)):=hid fun ho i hi=>by
     rcases Nat.lt_or_ge i k with h9 | h9
     ·exact HR.out i h9
     ·obtain rfl:i=k:=by omega
      rw [HXE.out,HKD.out]
      exact ho
    have HNO:Hid (¬ SlotOk x kd→¬ SlotsOk l ks):=hid fun ho h=>ho (by have:=h.2 k hlt;rwa [HXE.out,HKD.out] at this)
    have HBW:Hid (∀ V,Below W3.heap.size W3 V→Below w.heap.size w V):=hid fun V h=>HB.out.trans ((HV.out.lo.trans (h.mono HV.out.lo.size)).mono HB.out.size)
    obtain ⟨xt,xn,xs⟩:=x
    dsimp only at c0 c1 c2 ⊢
    by_cases hk0:kd=0
    ·have HC0:=hid hk0
     have hcz:(kd == 0)=true:=by simpa using hk0
     have hcn0:(kd != 0)=false:=by simpa using hk0
     clear hk0
     by_cases e1:xt=0
     ·subst e1
      by_cases e2:xn=0
      ·subst e2
       by_cases e3:xs.size=0
       ·obtain rfl:=J.size_zero e3
        clear e3
        have HBV:=hid (HBW.out _ (Below.refl _ _))
        go_wp2_with fail
        go_roundw
        case rel=>exact ⟨k+1,by omega,by go_num,HSTEP.out (.inl ⟨HC0.out,rfl⟩),HBV.out⟩
        case measure=>simp [intOf];omega
       ·have f3:xs.toList.isEmpty=false:=by rw [J.isEmpty_iff];simpa using e3
        have e3:=hid e3
        have HNZ:Hid (¬ (⟨0,0,xs⟩:R.Va)=R.va0):=hid fun h=>by injection h with _ _ h3;exact e3.out (by rw [h3];rfl)
        by_cases hv:VOk ⟨0,0,xs⟩
        ·have HVO:=hid hv
         clear hv
         go_upto_region 8 with fail
         go_wp2_with fail
         refine (vv_true ⟨0,0,xs⟩ W3 HO.out HVO.out).mono ?_
         rintro e V ⟨rfl,hbV⟩
         have HBV:=hid (HBW.out _ hbV)
         clear hbV c0 c1 c2
         go_wp2_with fail
         go_roundw
         case rel=>exact ⟨k+1,by omega,by go_num,HSTEP.out (.inr ⟨HVO.out,.inl HC0.out⟩),HBV.out⟩
         case measure=>simp [intOf];omega
        ·have HVO:=hid hv
         clear hv
         go_upto_region 8 with fail
         go_wp2_with fail
         refine (vv_false ⟨0,0,xs⟩ W3 HO.out HVO.out).mono ?_
         rintro e V ⟨rfl,hbV⟩
         have HBV:=hid (HBW.out _ hbV)
         clear hbV c0 c1 c2
         go_wp2_with fail
         go_ret
         exact ⟨says_f (HNO.out fun h=>by rcases h with h | h;exact HNZ.out h.2;exact HVO.out h.1),HBV.out⟩
      ·have f2:(xn == 0)=false:=by simpa using e2
       have e2:=hid e2
       have HNZ:Hid (¬ (⟨0,xn,xs⟩:R.Va)=R.va0):=hid fun h=>by injection h with _ h2 _;exact e2.out h2
       by_cases hv:VOk ⟨0,xn,xs⟩
       ·have HVO:=hid hv
        clear hv
        go_upto_region 8 with fail
        go_wp2_with fail
        refine (vv_true ⟨0,xn,xs⟩ W3 HO.out HVO.out).mono ?_
        rintro e V ⟨rfl,hbV⟩
        have HBV:=hid (HBW.out _ hbV)
        clear hbV c0 c1 c2
        go_wp2_with fail
        go_roundw
        case rel=>exact ⟨k+1,by omega,by go_num,HSTEP.out (.inr ⟨HVO.out,.inl HC0.out⟩),HBV.out⟩
        case measure=>simp [intOf];omega
       ·have HVO:=hid hv
        clear hv
        go_upto_region 8 with fail
        go_wp2_with fail
        refine (vv_false ⟨0,xn,xs⟩ W3 HO.out HVO.out).mono ?_
        rintro e V ⟨rfl,hbV⟩
        have HBV:=hid (HBW.out _ hbV)
        clear hbV c0 c1 c2
        go_wp2_with fail
        go_ret
        exact ⟨says_f (HNO.out fun h=>by rcases h with h | h;exact HNZ.out h.2;exact HVO.out h.1),HBV.out⟩
     ·have f1:(xt == 0)=false:=by simpa using e1
      have e1:=hid e1
      have HNZ:Hid (¬ (⟨xt,xn,xs⟩:R.Va)=R.va0):=hid fun h=>by injection h with h1 _ _;exact e1.out h1
      by_cases hv:VOk ⟨xt,xn,xs⟩
      ·have HVO:=hid hv
       clear hv
       go_upto_region 8 with fail
       go_wp2_with fail
       refine (vv_true ⟨xt,xn,xs⟩ W3 HO.out HVO.out).mono ?_
       rintro e V ⟨rfl,hbV⟩
       have HBV:=hid (HBW.out _ hbV)
       clear hbV c0 c1 c2
       go_wp2_with fail
       go_roundw
       case rel=>exact ⟨k+1,by omega,by go_num,HSTEP.out (.inr ⟨HVO.out,.inl HC0.out⟩),HBV.out⟩
       case measure=>simp [intOf];omega
      ·have HVO:=hid hv
       clear hv
       go_upto_region 8 with fail
       go_wp2_with fail
       refine (vv_false ⟨xt,xn,xs⟩ W3 HO.out HVO.out).mono ?_
       rintro e V ⟨rfl,hbV⟩
       have HBV:=hid (HBW.out _ hbV)
       clear hbV c0 c1 c2
       go_wp2_with fail
       go_ret
       exact ⟨says_f (HNO.out fun h=>by rcases h with h | h;exact HNZ.out h.2;exact HVO.out h.1),HBV.out⟩
    ·have HC0:=hid hk0
     have hcz:(kd == 0)=false:=by simpa using hk0
     have hcn0:(kd != 0)=true:=by simpa using hk0
     clear hk0
     by_cases hv:VOk ⟨xt,xn,xs⟩
     ·have HVO:=hid hv
      clear hv
      by_cases ht:xt=kd
      ·have HTE:=hid ht
       have htb:(xt != kd)=false:=by simpa using ht
       clear ht
       go_upto_region 8 with fail
       go_wp2_with fail
       refine (vv_true ⟨xt,xn,xs⟩ W3 HO.out HVO.out).mono ?_
       rintro e V ⟨rfl,hbV⟩
       have HBV:=hid (HBW.out _ hbV)
       have d0:=(HV.out.next hbV).c0
       clear hbV c0 c1 c2
       go_wp2_with fail
       go_roundw
       case rel=>exact ⟨k+1,by omega,by go_num,HSTEP.out (.inr ⟨HVO.out,.inr HTE.out⟩),HBV.out⟩
       case measure=>simp [intOf];omega
      ·have HTE:=hid ht
       have htb:(xt != kd)=true:=by simpa using ht
       clear ht
       go_upto_region 8 with fail
       go_wp2_with fail
       refine (vv_true ⟨xt,xn,xs⟩ W3 HO.out HVO.out).mono ?_
       rintro e V ⟨rfl,hbV⟩
       have HBV:=hid (HBW.out _ hbV)
       have d0:=(HV.out.next hbV).c0
       clear hbV c0 c1 c2
       go_wp2_with fail
       go_ret
       exact ⟨says_f (HNO.out fun h=>by rcases h with h | h;exact HC0.out h.1;rcases h.2 with h | h;exact HC0.out h;exact HTE.out h),HBV.out⟩
     ·have HVO:=hid hv
      clear hv
      go_upto_region 8 with fail
      go_wp2_with fail
      refine (vv_false ⟨xt,xn,xs⟩ W3 HO.out HVO.out).mono ?_
      rintro e V ⟨rfl,hbV⟩
      have HBV:=hid (HBW.out _ hbV)
      clear hbV c0 c1 c2
      go_wp2_with fail
      go_ret
      exact ⟨says_f (HNO.out fun h=>by rcases h with h | h;exact HC0.out h.1;exact HVO.out h.1),HBV.out⟩
   ·obtain rfl:k=l.length:=by omega
    have hge:¬ ((l.length:Int) < (l.length:Int)):=by omega
    go_wp2
    go_ret
    exact ⟨says_t ⟨HE.out,HR.out⟩,HB.out⟩
 ·have hne:((l.length:Int) != (s.size:Int))=true:=by have:=HKS.out;simp;omega
  go_enter Tryz.func97,Tryz.ntmps97
  go_wp2
  go_ret
  exact ⟨says_f fun h=>he h.1,Below.refl _ _⟩
end Go.Proofs.YtbkmglknbflkhaaGreatDoor.M
namespace Go.Proofs.YtbkmglknbflkhaaGreatDoor.M
open Go.RowKit
open C (In Sh in0 fn0 kt Least Ok10 inV)
open Go.Proofs.YtbkmglknbflkhaaGreatDoor.J (Says)
open Go.Proofs.YtbkmglknbflkhaaGreatDoor.R (hid)
set_option maxRecDepth 20000
abbrev StoodAt (x:R.Mc) (i:Nat) (s:Sd):Prop:=((0≤(fr x i).code∧(fr x i).code < x.codes.length)∧(0≤(fr x i).fn∧(fr x i).fn < (fnsOf x (fr x i).code).length)→∃ A,Least (fnsOf x (fr x i).code) (fnOf x i) A∧s=standOf (fnOf x i) A (fr x i).pl)∧(¬ ((0≤(fr x i).code∧(fr x i).code < x.codes.length)∧(0≤(fr x i).fn∧(fr x i).fn < (fnsOf x (fr x i).code).length))→s=sd0)
theorem fit_of {fns:List C.Fn} (h:C.Chk fns 0 0 0) {j:Nat} (hj:j < fns.length):C.Fit fns (fns.getD j fn0):=by
 cases h with
 | plain _ _ _ h h0=>exact absurd rfl h0
 | ok _ h=>exact h j hj
theorem stood_one {x:R.Mc} {i:Nat} {s:Sd} (h:StoodAt x i s) (h1:s.st=1):∃ A,(0≤(fr x i).fn∧(fr x i).fn < (fnsOf x (fr x i).code).length)∧Least (fnsOf x (fr x i).code) (fnOf x i) A∧(0≤(fr x i).pl∧(fr x i).pl < (fnOf x i).ins.length)∧(A (fr x i).pl.toNat).st=1∧s.sl=kt (A (fr x i).pl.toNat).sl∧s.sk=kt (A (fr x i).pl.toNat).sk∧s.ins=if 0 < (fr x i).pl∧(A ((fr x i).pl - 1).toNat).st=1 then (fnOf x i).ins.getD ((fr x i).pl - 1).toNat in0 else in0:=by
 by_cases q:(0≤(fr x i).code∧(fr x i).code < x.codes.length)∧(0≤(fr x i).fn∧(fr x i).fn < (fnsOf x (fr x i).code).length)
 ·obtain ⟨A,hL,e⟩:=h.1 q
  by_cases p:0≤(fr x i).pl∧(fr x i).pl < (fnOf x i).ins.length
  ·unfold standOf at e
   rw [if_pos p] at e
   subst e
   exact ⟨A,q.2,hL,p,by have:(((A (fr x i).pl.toNat).st:Nat):Int)=1:=h1;omega,rfl,rfl,rfl⟩
  ·unfold standOf at e
   rw [if_neg p] at e
   subst e
   exact absurd h1 (by decide)
 ·rw [h.2 q] at h1
  exact absurd h1 (by decide)
theorem stood_no {x:R.Mc} {i:Nat} {s:Sd} (h:StoodAt x i s) (h1:¬ s.st=1):¬ (RngOk x i∧FrameOk x i):=fun ⟨⟨r1,r2,_⟩,f⟩=>by
 obtain ⟨A,hL,e⟩:=h.1 ⟨r1,r2⟩
 obtain ⟨p,hst,_⟩:=(FrameOk.iff hL).1 f
 unfold standOf at e
 rw [if_pos p] at e
 subst e
 exact h1 (by show (((A (fr x i).pl.toNat).st:Nat):Int)=1;omega)
theorem awaits_op {x:R.Mc} {k:Nat} {j:In} (h:awaits x k=some j):(j.op=8∨j.op=9)∧j.n=0∧j.text=⟨#[]⟩:=by
 unfold awaits at h
 split at h
 ·split at h
  ·cases h
  ·injection h with h;subst h;exact ⟨.inl rfl,rfl,rfl⟩
 ·split at h
  ·injection h with h;subst h;exact ⟨.inr rfl,rfl,rfl⟩
  ·injection h with h;subst h;exact ⟨.inl rfl,rfl,rfl⟩
abbrev insAt (x:R.Mc) (i:Nat) (A:Nat→Sh):In:=if 0 < (fr x i).pl∧(A ((fr x i).pl - 1).toNat).st=1 then (fnOf x i).ins.getD ((fr x i).pl - 1).toNat in0 else in0
theorem insAt_iff {x:R.Mc} {i:Nat} {A:Nat→Sh} {j:In} (h:awaits x i=some j):insAt x i A=j ↔ Stands x i A:=by
 have ho:=(awaits_op h).1
 constructor
 ·intro e j2 h2
  obtain rfl:j=j2:=Option.some.inj (h.symm.trans h2)
  unfold insAt at e
  split at e
  ·rename_i q;exact ⟨by omega,q.2,e⟩
  ·subst e;exact absurd ho (by decide)
 ·intro hs
  obtain ⟨a,b,c⟩:=hs j h
  unfold insAt
  rw [if_pos ⟨by omega,b⟩];exact c
theorem ok10_sh {S:Nat} {s:Sh} (h:C.OkSh S s) (h1:s.st=1):s.sl.length=S∧Ok10 s.sl∧Ok10 s.sk∧s.sk.length≤600:=by
 rcases h with h | h | h
 ·rw [h] at h1;exact absurd h1 (by decide)
 ·rw [h] at h1;exact absurd h1 (by decide)
 ·exact ⟨h.2.1,h.2.2.1,fun x hx=>by have:=h.2.2.2.1 x hx;omega,h.2.2.2.2⟩
theorem ok10_take {l:List Int} (h:Ok10 l) (n:Nat):Ok10 (l.take n):=fun x hx=>h x (List.mem_of_mem_take hx)
theorem lies_gives {x:R.Mc} {k:Nat} {A:Nat→Sh} {j:In} (h:awaits x k=some j) (hg:gives (fnsOf x (fr x k).code) j):lies x k A=(A (fr x k).pl.toNat).sk.take ((A (fr x k).pl.toNat).sk.length - 1):=by
 unfold lies
 rw [h]
 show (if gives (fnsOf x (fr x k).code) j then _ else _)=_
 rw [if_pos hg,List.dropLast_eq_take]
theorem lies_no {x:R.Mc} {k:Nat} {A:Nat→Sh} {j:In} (h:awaits x k=some j) (hg:¬ gives (fnsOf x (fr x k).code) j):lies x k A=(A (fr x k).pl.toNat).sk:=by
 unfold lies
 rw [h]
 show (if gives (fnsOf x (fr x k).code) j then _ else _)=_
 rw [if_neg hg]
theorem lies_none {x:R.Mc} {k:Nat} {A:Nat→Sh} (h:awaits x k=none):lies x k A=(A (fr x k).pl.toNat).sk:=by
 unfold lies
 rw [h]
theorem stands_none {x:R.Mc} {k:Nat} {A:Nat→Sh} (h:awaits x k=none):Stands x k A:=fun i hi=>by rw [h] at hi;cases hi
def eqIB (o a n:Int) (t:ByteArray) (o' a' n':Int) (t':ByteArray):Bool:=o == o' && a == a' && n == n' && t.toList == t'.toList
theorem eqIB_iff {o a n:Int} {t:ByteArray} {o' a' n':Int} {t':ByteArray}:eqIB o a n t o' a' n' t'=true ↔ (⟨o,a,n,t⟩:In)=⟨o',a',n',t'⟩:=by
 unfold eqIB
 simp only [Bool.and_eq_true,beq_iff_eq,C.In.mk.injEq,and_assoc]
 constructor
 ·rintro ⟨a,b,c,d⟩
  exact ⟨a,b,c,J.bytes_eq (by simpa using d)⟩
 ·rintro ⟨a,b,c,d⟩
  exact ⟨a,b,c,by rw [d]⟩
theorem eqI1 (o a n o' a' n':Int) (t t':ByteArray) (w:World):(Op.equalIn 10000 103 (.agg #[.int .i64 o,.int .i64 a,.int .i64 n,.string t]) (.agg #[.int .i64 o',.int .i64 a',.int .i64 n',.string t'])).run Tryz.prog w=.ok (eqIB o a n t o' a' n' t') w:=by
 have u3:=Tryz.underlying3
 have u2:=Tryz.underlying2
 have u9:=Tryz.underlying9
 have hS:Tryz.prog.underlying 103=some (.struct (Tryz.prog.fieldsOf 103)):=by kernel_rfl
 have hp:Tryz.prog.stoodInHeld 103=false:=by kernel_rfl
 rw [show (10000:Nat)=9999+1 from rfl,run_equalIn_agg w 9999 103 _ _ hS hp]
 simp only [Program.fieldsOf,Tryz.underlying103]
 go_simp
 unfold eqIB
 by_cases h0:o=o' <;> by_cases h1:a=a' <;> by_cases h2:n=n' <;> by_cases h3:t.toList=t'.toList <;> simp [h0,h1,h2,h3]
theorem neqIBin (o a n o' a' n':Int) (t t':ByteArray) (w:World):(binOp .neq 103 (.agg #[.int .i64 o,.int .i64 a,.int .i64 n,.string t]) (.agg #[.int .i64 o',.int .i64 a',.int .i64 n',.string t'])).run Tryz.prog w=.ok (.bool (!eqIB o a n t o' a' n' t')) w:=by
 rw [run_neq_struct,eqI1];rfl
theorem await_some {x:R.Mc} {v0 v1 v2 v3 v4 v5:Value} {B:Nat} (w:World) (h:MK B w x v0 v1 v2 v3 v4 v5) (hx:R.OkFmS x.frames) {i:Nat} (hi:i < x.frames.length) (hw:i+1 < x.frames.length→(-1≤(fr x i).code∧(fr x i).code≤1000)∧UpOk x (i+1)) (hl:x.frames.length≤1048576) {j:In} (haw:awaits x i=some j) :
  Calls Tryz.prog 96 #[mval x v0 v1 v2 v3 v4 v5,.int .i64 i] w fun e w'=>e=.returned (.tuple #[.agg #[.int .i64 j.op,.int .i64 j.a,.int .i64 j.n,.string j.text],.bool true])∧Below w.heap.size w w' :=
 (await_any x w h hx hi hw hl).mono fun e w' ⟨hh,hb⟩=>by
  refine ⟨?_,hb⟩
  rcases hh with ⟨j2,rfl,h2⟩ | ⟨j2,rfl,h2⟩
  ·obtain rfl:j=j2:=Option.some.inj (haw.symm.trans h2)
   rfl
  ·rw [haw] at h2;cases h2
theorem await_none {x:R.Mc} {v0 v1 v2 v3 v4 v5:Value} {B:Nat} (w:World) (h:MK B w x v0 v1 v2 v3 v4 v5) (hx:R.OkFmS x.frames) {i:Nat} (hi:i < x.frames.length) (hw:i+1 < x.frames.length→(-1≤(fr x i).code∧(fr x i).code≤1000)∧UpOk x (i+1)) (hl:x.frames.length≤1048576) (haw:awaits x i=none) :
  Calls Tryz.prog 96 #[mval x v0 v1 v2 v3 v4 v5,.int .i64 i] w fun e w'=>(∃ o a n t,e=.returned (.tuple #[.agg #[.int .i64 o,.int .i64 a,.int .i64 n,.string t],.bool false]))∧Below w.heap.size w w' :=
 (await_any x w h hx hi hw hl).mono fun e w' ⟨hh,hb⟩=>by
  refine ⟨?_,hb⟩
  rcases hh with ⟨j2,rfl,h2⟩ | ⟨j2,rfl,h2⟩
  ·rw [haw] at h2;cases h2
  ·exact ⟨_,_,_,_,rfl⟩
theorem main_t {f:C.Fn} {aP:Option Addr} {cP:Nat} {iv:Value} (w:World) (hm:C.isMain f):Calls Tryz.prog 95 #[.agg #[.string f.name,.slice aP f.params.length cP,.int .i64 f.result,.int .i64 f.slots,iv]] w fun e w'=>e=.returned (.bool true)∧Below w.heap.size w w' :=
 (C.isMain_any w).mono fun e w' ⟨⟨b,e1,hb⟩,h⟩=>⟨by rw [e1,hb.2 hm],h⟩
theorem main_f {f:C.Fn} {aP:Option Addr} {cP:Nat} {iv:Value} (w:World) (hm:¬ C.isMain f):Calls Tryz.prog 95 #[.agg #[.string f.name,.slice aP f.params.length cP,.int .i64 f.result,.int .i64 f.slots,iv]] w fun e w'=>e=.returned (.bool false)∧Below w.heap.size w w' :=
 (C.isMain_any w).mono fun e w' ⟨⟨b,e1,hb⟩,h⟩=>⟨by
  cases b with
  | false=>exact e1
  | true=>exact absurd (hb.1 rfl) hm,h⟩
end Go.Proofs.YtbkmglknbflkhaaGreatDoor.M
namespace Go.Proofs.YtbkmglknbflkhaaGreatDoor.M
open Go.RowKit
open C (cell_hp frozen_hp)
set_option maxRecDepth 20000
section
variable {P:Program} {md:Region.Mode} {ops:Array Oper} {Q:Exit→Act→World→Prop} {S:World→Prop} {s0:Nat}
def wpAnyU (P:Program) (md:Region.Mode) (ops:Array Oper) (Q:Exit→Act→World→Prop) (S:World→Prop) (s0:Nat):Nat→Array Bool→Act→World→Prop
 | 0,listed,a,w=>Region.ready md ops listed=[]∧Q .normal a w
 | fuel+1,listed,a,w =>
  (Region.ready md ops listed=[]→Q .normal a w) ∧
  ∀ i ∈ Region.ready md ops listed,wpOp P ops Q i (fun a' w'=>((listed.setIfInBounds i true).getD s0 true=false→S w')∧wpAnyU P md ops Q S s0 fuel (listed.setIfInBounds i true) a' w') a w
theorem wpAny_of_until:∀ (fuel:Nat) (listed:Array Bool) (a:Act) (w:World),wpAnyU P md ops Q S s0 fuel listed a w→wpAny P md ops Q fuel listed a w
 | 0,_,_,_,h=>h
 | fuel+1,_,_,_,h=>⟨h.1,fun i hi=>wpOp_mono (fun a' w' h'=>wpAny_of_until fuel _ a' w' h'.2) (h.2 i hi)⟩
theorem wpAnyU_first {i:Nat} {oi:Oper} {v:Value} (hi:ops[i]?=some oi) (hsel:∀ (j:Nat) (o:Oper) cs b,ops[j]?=some o→o.op≠.select cs b)
  (hQ:∀ c a w,Q (.panic c) (a.put oi.dst v) w→Q (.panic c) a w) (hne:i≠s0) (hw:∃ o,ops[s0]?=some o∧∃ e ∈ o.after,Region.binds md e=true∧e.on=i) :
  ∀ (fuel:Nat) (listed:Array Bool) (a:Act) (w:World),
   (∀ j oj,ops[j]?=some oj→j≠i→listed.getD j true=false→(∀ e ∈ oj.after,Region.binds md e=true→e.on≠i)→oi.apart ops oj=true) →
   i ∈ Region.ready md ops listed→YieldsIf P ops S oi v a→S w→listed.getD s0 true=false →
   wpAnyU P md ops Q S s0 fuel (listed.setIfInBounds i true) (a.put oi.dst v) w→wpAnyU P md ops Q S s0 (fuel+1) listed a w:=by
 intro fuel
 induction fuel with
 | zero =>
  intro listed a w _ hr hy hS hl H
  refine ⟨fun h=>(by rw [h] at hr;cases hr),fun j hj=>?_⟩
  by_cases hji:j=i
  ·subst hji;exact hy.wpOp hi hS ⟨fun _=>hS,H⟩
  ·have:=ready_mono hj hji
   rw [H.1] at this
   cases this
 | succ fuel ih =>
  intro listed a w hfree hr hy hS hl H
  refine ⟨fun h=>(by rw [h] at hr;cases hr),fun j hj=>?_⟩
  by_cases hji:j=i
  ·subst hji;exact hy.wpOp hi hS ⟨fun _=>hS,H⟩
  ·have h1:=H.2 j (ready_mono hj hji)
   obtain ⟨hjun,oj,hoj,hall⟩:=mem_ready.1 hj
   have hnot:∀ e ∈ oj.after,Region.binds md e=true→e.on≠i:=fun e he hb heq=>by
    have h1:=hall e he hb
    have h0:=(mem_ready.1 hr).1
    rw [heq] at h1
    rcases Nat.lt_or_ge i listed.size with h' | h'
    ·simp [h'] at h0 h1;rw [h0] at h1;cases h1
    ·simp [Array.getElem?_eq_none h'] at h1
   have hjs:s0≠j:=fun e0=>by
    obtain ⟨o,ho,e,he,hb,hon⟩:=hw
    rw [e0] at ho
    rw [hoj] at ho
    cases ho
    exact hnot e he hb hon
   have h2:=wpOp_putIf hoj (hfree j oj hoj hji hjun hnot) (fun cs b=>hsel i oi cs b hi) (fun cs b=>hsel j oj cs b hoj) hQ hy h1
   have hfree':∀ k ok,ops[k]?=some ok→k≠i→(listed.setIfInBounds j true).getD k true=false →
     (∀ e ∈ ok.after,Region.binds md e=true→e.on≠i)→oi.apart ops ok=true:=fun k ok hk hki hun hno=>by
    refine hfree k ok hk hki ?_ hno
    by_cases hjk:j=k
    ·subst hjk;exact hjun
    ·rw [getD_set_ne true hjk] at hun;exact hun
   have hl2:(listed.setIfInBounds j true).getD s0 true=false:=by rw [getD_set_ne true (fun e=>hjs e.symm)];exact hl
   have hl3:((listed.setIfInBounds i true).setIfInBounds j true).getD s0 true=false:=by rw [getD_set_ne true (fun e=>hjs e.symm),getD_set_ne true hne];exact hl
   refine wpOp_mono (fun a' w' h3=>⟨fun _=>h3.2.1 hl3,ih (listed.setIfInBounds j true) a' w' hfree' (ready_mono hr (Ne.symm hji)) h3.1 (h3.2.1 hl3) hl2 ?_⟩) h2
   rw [Array.setIfInBounds_comm _ _ hji]
   exact h3.2.2
def waits (md:Region.Mode) (ops:Array Oper) (s0 i:Nat):Bool:=match ops[s0]? with | some o=>o.after.toList.any fun e=>Region.binds md e && e.on == i | none=>false
theorem waits_spec {i:Nat} (h:waits md ops s0 i=true):∃ o,ops[s0]?=some o∧∃ e ∈ o.after,Region.binds md e=true∧e.on=i:=by
 unfold waits at h
 cases ho:ops[s0]? with
 | none=>rw [ho] at h;cases h
 | some o =>
  rw [ho] at h
  simp only [List.any_eq_true,Bool.and_eq_true,beq_iff_eq] at h
  obtain ⟨e,he,h1,h2⟩:=h
  exact ⟨o,rfl,e,Array.mem_toList_iff.1 he,h1,h2⟩
theorem wpAnyU_take {i:Nat} {oi:Oper} {v:Value} {fuel:Nat} {listed:Array Bool} {a:Act} {w:World} (hi:ops[i]?=some oi)
  (hs:Region.noSelect ops=true) (hf:Region.free md ops listed i=true) (hr:(Region.ready md ops listed).contains i=true)
  (hQ:∀ c a w,Q (.panic c) (a.put oi.dst v) w→Q (.panic c) a w) (hw:waits md ops s0 i=true) (hne:(i == s0)=false) (hl:listed.getD s0 true=false) (hy:YieldsIf P ops S oi v a) (hS:S w)
  (h:wpAnyU P md ops Q S s0 fuel (listed.setIfInBounds i true) (a.put oi.dst v) w):wpAnyU P md ops Q S s0 (fuel+1) listed a w :=
 wpAnyU_first hi (Region.noSelect_spec hs) hQ (by simpa using hne) (waits_spec hw) fuel listed a w (Region.free_spec hi hf) (by simpa using hr) hy hS hl h
theorem until_one {i fuel:Nat} {listed:Array Bool} {a:Act} {w:World} {o:Oper} (hr:Region.ready md ops listed=[i]) (ho:ops[i]?=some o) (hg:o.guard=none)
  (h:o.wp P a w (fun a' w'=>((listed.setIfInBounds i true).getD s0 true=false→S w')∧wpAnyU P md ops Q S s0 fuel (listed.setIfInBounds i true) a' w') Q):wpAnyU P md ops Q S s0 (fuel+1) listed a w:=by
 refine ⟨fun h2=>(by rw [hr] at h2;cases h2),fun j hj=>?_⟩
 rw [hr] at hj
 obtain rfl:j=i:=by simpa using hj
 unfold wpOp
 rw [ho]
 have hw:Region.wanted o (yielded ops a.tmps)=true:=by simp [Region.wanted,hg]
 simp only [hw,if_true]
 exact .inl h
theorem until_call {i fuel:Nat} {listed:Array Bool} {a:Act} {w:World} {o:Oper} (hr:Region.ready md ops listed=[i]) (ho:ops[i]?=some o) (hg:o.guard=none)
  {f:FuncId} {vals:Array Value} (hx:(execOp a.eval o).run P w=.ok (.enter f vals) w) {Q':Ending→World→Prop} (hc:Calls P f vals w Q')
  (h:∀ e w',Q' e w'→∃ v,e=.returned v∧S w'∧wpAnyU P md ops Q S s0 fuel (listed.setIfInBounds i true) (a.put o.dst v) w'):wpAnyU P md ops Q S s0 (fuel+1) listed a w:=by
 refine until_one hr ho hg ?_
 unfold Oper.wp
 rw [hx,Oper.upon_enter]
 refine hc.mono fun e w' hq=>?_
 obtain ⟨v,rfl,hS,hk⟩:=h e w' hq
 exact ⟨fun _=>hS,hk⟩
theorem until_value {i fuel:Nat} {listed:Array Bool} {a:Act} {w:World} {o:Oper} (hr:Region.ready md ops listed=[i]) (ho:ops[i]?=some o) (hg:o.guard=none) (v:Value)
  (hx:(execOp a.eval o).run P w=.ok (.value v) w) (hS:(listed.setIfInBounds i true).getD s0 true=false→S w) (h:wpAnyU P md ops Q S s0 fuel (listed.setIfInBounds i true) (a.put o.dst v) w):wpAnyU P md ops Q S s0 (fuel+1) listed a w:=by
 refine until_one hr ho hg ?_
 unfold Oper.wp
 rw [hx]
 exact ⟨hS,h⟩
theorem until_store_mid {i fuel:Nat} {listed:Array Bool} {a:Act} {w:World} {o:Oper} (hr:Region.ready md ops listed=[i]) (ho:ops[i]?=some o) (hg:o.guard=none) (ty:TypeId) (x y:Operand) (hop:o.op=.store ty x y)
  (g off:Nat) (cells:Array Value) (hx:a.eval x=.pointer (some ⟨g,off,none⟩)) (hy:a.eval y=.agg cells) (hh:w.there g off cells.size) (hi:(P.info? ty).map (·.size)=some cells.size)
  (h1:cells.all (·.oneCell')=true) (hl:(listed.setIfInBounds i true).getD s0 true=true) (h:wpAnyU P md ops Q S s0 fuel (listed.setIfInBounds i true) (a.put o.dst undef) (w.setCells g off cells.toList)):wpAnyU P md ops Q S s0 (fuel+1) listed a w :=
 until_one hr ho hg (wp_store_mid ty x y hop g off cells hx hy hh hi h1 ⟨(fun e=>by rw [hl] at e;cases e),h⟩)
theorem until_done {listed:Array Bool} {a:Act} {w:World} (hr:Region.ready md ops listed=[]) (h:Q .normal a w):∀ fuel,wpAnyU P md ops Q S s0 fuel listed a w
 | 0=>⟨hr,h⟩
 | _+1=>⟨fun _=>h,by rw [hr];simp⟩
theorem wp_region_until {id:Nat} {a:Act} {w:World} (S:World→Prop) (s0:Nat) (hm:P.follows .mixedOrders=true)
  (h:wpAnyU P .any ops Q S s0 ops.size (Array.replicate ops.size false) a w.drew):(Code.region id ops true).wp P Q a w :=
 wp_region_any hm (wpAny_of_until _ _ _ _ h)
end
theorem held_call {P:Program} {md:Region.Mode} {ops:Array Oper} {Q:Exit→Act→World→Prop} {S:World→Prop} {i fuel:Nat} {listed:Array Bool} {a:Act} {w:World} {o:Oper} (hr:Region.ready md ops listed=[i]) (ho:ops[i]?=some o) (hg:o.guard=none)
  {f:FuncId} {vals:Array Value} (hx:(execOp a.eval o).run P w=.ok (.enter f vals) w) {Q':Ending→World→Prop} (hc:Calls P f vals w Q')
  (h:∀ e w',Q' e w'→∃ v,e=.returned v∧S w'∧wpAnyH P md ops Q S fuel (listed.setIfInBounds i true) (a.put o.dst v) w'):wpAnyH P md ops Q S (fuel+1) listed a w:=by
 refine wpAnyH_all (rs:=[i]) hr (by simp) fun j hj=>?_
 obtain rfl:j=i:=by simpa using hj
 unfold wpOp
 rw [ho]
 have hw:Region.wanted o (yielded ops a.tmps)=true:=by simp [Region.wanted,hg]
 simp only [hw,if_true]
 refine .inl ?_
 unfold Oper.wp
 rw [hx,Oper.upon_enter]
 refine hc.mono fun e w' hq=>?_
 obtain ⟨v,rfl,hk⟩:=h e w' hq
 exact hk
theorem range_mid {W:World} {b o:Nat} {t:TypeId} {fr:Nat × Nat} (pre cs post:List Value) (h:W.heap[b]?=some (.cells (pre ++ (cs ++ post)).toArray t fr)) (ho:o=pre.length):W.rangeAt b o cs:=fun j v hv=>by
 subst ho
 rw [cell_of_row W b (pre.length+j) _ t fr h]
 have hj:=(List.getElem?_eq_some_iff.1 hv).1
 rw [List.getElem?_toArray,List.getElem?_append_right (by omega),Nat.add_sub_cancel_left,List.getElem?_append_left hj]
 exact hv
theorem there_block {W:World} {b o n:Nat} {C:Array Value} {t:TypeId} (h:W.heap[b]?=some (.cells C t (0,0))) (hn:o+n≤C.size):W.there b o n:=fun j hj=>⟨by
 rw [cell_hp h,Array.getElem?_eq_getElem (by omega)];rfl,frozen_hp h _⟩
theorem set7_eq (W:World) (g b:Nat) (s:Sd):W.setCells g b [.int .i64 s.st,.string s.sl,.string s.sk,.int .i64 s.ins.op,.int .i64 s.ins.a,.int .i64 s.ins.n,.string s.ins.text]=set7 W g b s:=rfl
theorem StR.there {W:World} {g n:Nat} {S:Nat→Sd} (h:StR W g n S) {i:Nat} (hi:i < n):W.there g (i * 7) 7:=by
 obtain ⟨cur,e,hz,_⟩:=h
 exact there_block e (by omega)
theorem StR.range {W:World} {g n:Nat} {S:Nat→Sd} (h:StR W g n S) {i:Nat} (hi:i < n):W.rangeAt g (i * 7) [.int .i64 (S i).st,.string (S i).sl,.string (S i).sk,.int .i64 (S i).ins.op,.int .i64 (S i).ins.a,.int .i64 (S i).ins.n,.string (S i).ins.text]:=by
 obtain ⟨⟨k0,k1,k2,k3,k4,k5,k6⟩,_⟩:=h.at hi
 intro j v hv
 match j with
 | 0=>exact k0.trans hv
 | 1=>exact k1.trans hv
 | 2=>exact k2.trans hv
 | 3=>exact k3.trans hv
 | 4=>exact k4.trans hv
 | 5=>exact k5.trans hv
 | 6=>exact k6.trans hv
 | j+7=>simp at hv
end Go.Proofs.YtbkmglknbflkhaaGreatDoor.M
