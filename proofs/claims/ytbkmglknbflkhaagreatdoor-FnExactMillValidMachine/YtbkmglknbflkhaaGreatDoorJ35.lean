import Derived.Test.YtbkmglknbflkhaaGreatDoorJ33
import Derived.Test.YtbkmglknbflkhaaGreatDoorJ00
import Derived.Test.YtbkmglknbflkhaaGreatDoorJ06
namespace Go.Proofs.YtbkmglknbflkhaaGreatDoor.C
open Go.RowKit
set_option maxRecDepth 20000
def Least (fns:List Fn) (f:Fn) (A:Nat→Sh):Prop:=Closed fns f A∧Low fns f A
def Unfit (fns:List Fn) (f:Fn) (A:Nat→Sh) (p:Nat):Prop:=(A p).st≠0∧(behind fns f p (A p)).st=2
def Fit (fns:List Fn) (f:Fn):Prop:=∃ A,Least fns f A∧∀ p,p < f.ins.length→¬ Unfit fns f A p
inductive Chk (fns:List Fn):Nat→Nat→Nat→Prop
 | plain (c k i:Nat) (h:Plain fns c k i) (h0:¬ c=0):Chk fns c k i
 | unfit (h:Plain fns 0 0 0) (k i:Nat) (hk:k < fns.length) (hi:i < (fns.getD k fn0).ins.length) (h1:∀ j,j < k→Fit fns (fns.getD j fn0)) (A:Nat→Sh) (hA:Least fns (fns.getD k fn0) A) (h2:∀ p,p < i→¬ Unfit fns (fns.getD k fn0) A p) (h3:Unfit fns (fns.getD k fn0) A i):Chk fns 5 k i
 | ok (h:Plain fns 0 0 0) (h1:∀ j,j < fns.length→Fit fns (fns.getD j fn0)):Chk fns 0 0 0
theorem unfit_same {fns:List Fn} {f:Fn} {A B:Nat→Sh} (a:Least fns f A) (b:Least fns f B) {p:Nat} (hp:p < f.ins.length) (h:Unfit fns f A p):Unfit fns f B p:=by
 have e:=least_unique a.1 a.2 b.1 b.2 p hp
 unfold Unfit at h ⊢
 rw [← e]
 exact h
theorem Chk.uniq {fns:List Fn} {c k i c' k' i':Nat} (h:Chk fns c k i) (h':Chk fns c' k' i'):c=c'∧k=k'∧i=i':=by
 have hz:∀ {c k i:Nat},Plain fns c k i→¬ c=0→Plain fns 0 0 0→False:=fun p q r=>q (p.uniq r).1
 cases h with
 | plain c k i h h0 =>
  cases h' with
  | plain c' k' i' g g0=>exact h.uniq g
  | unfit g=>exact (hz h h0 g).elim
  | ok g=>exact (hz h h0 g).elim
 | unfit h k i hk hi h1 A hA h2 h3 =>
  cases h' with
  | plain c' k' i' g g0=>exact (hz g g0 h).elim
  | unfit g k' i' hk' hi' g1 B hB g2 g3 =>
   have no:∀ {k i:Nat} {A:Nat→Sh},Fit fns (fns.getD k fn0)→i < (fns.getD k fn0).ins.length→Least fns (fns.getD k fn0) A→Unfit fns (fns.getD k fn0) A i→False:=fun ⟨C,hC,hc⟩ hi hA hu=>hc _ hi (unfit_same hA hC hi hu)
   rcases Nat.lt_trichotomy k k' with x | x | x
   ·exact (no (g1 k x) hi hA h3).elim
   ·subst x
    rcases Nat.lt_trichotomy i i' with x | x | x
    ·exact absurd (unfit_same hA hB hi h3) (g2 i x)
    ·exact ⟨rfl,rfl,x⟩
    ·exact absurd (unfit_same hB hA hi' g3) (h2 i' x)
   ·exact (no (h1 k' x) hi' hB g3).elim
  | ok g g1 =>
   obtain ⟨C,hC,hc⟩:=g1 k hk
   exact absurd (unfit_same hA hC hi h3) (hc i hi)
 | ok h h1 =>
  cases h' with
  | plain c' k' i' g g0=>exact (hz g g0 h).elim
  | unfit g k' i' hk' hi' g1 B hB g2 g3 =>
   obtain ⟨C,hC,hc⟩:=h1 k' hk'
   exact absurd (unfit_same hB hC hi' g3) (hc i' hi')
  | ok _ _=>exact ⟨rfl,rfl,rfl⟩
theorem plain_right {fns:List Fn} (h:Plain fns 0 0 0):(∀ g ∈ fns,FnR fns g)∧1≤fns.length∧fns.length≤60:=by
 cases h with
 | ok h h0 h1 j hj h2=>exact ⟨plain_R h0 h1,h⟩
def ChkEnd (fns:List Fn) (w:World) (e:Ending) (w':World):Prop:=∃ c k i:Nat,e=.returned (.tuple #[.int .i64 c,.int .i64 k,.int .i64 i])∧Chk fns c k i∧Below w.heap.size w w'
structure QX (w:World) (cv:Value) (g n:Nat) (A:Nat→Sh) (W:World):Prop where
 px:PX w cv W
 row:ShRow W g n A
theorem QX.next {w:World} {cv:Value} {g n:Nat} {A:Nat→Sh} {W V:World} (h:QX w cv g n A W) (hb:Below W.heap.size W V):QX w cv g n A V:=⟨h.px.next hb,h.row.next hb⟩
theorem shField (st:Int) (a b:Option Addr) (n c m d:Nat) (w:World):(Instr.field 121 (.agg #[.int .i64 st,.slice a n c,.slice b m d]) 0).run Tryz.prog w=.ok (.int .i64 st) w:=by
 simp [go_sem,Instr.field,asAgg]
set_option maxHeartbeats 8000000 in
theorem check_any {fns:List Fn} {w:World} {cv:Value} (h1:FnsRow w cv fns) (hC:CodeS fns) :
  Calls Tryz.prog 54 #[.agg #[cv]] w (ChkEnd fns w):=by
 have H1:=hid h1
 have HC:=hid hC
 obtain ⟨aF,cF,hcv⟩:=h1.sl
 subst hcv
 clear h1 hC
 go_enter Tryz.func54,Tryz.ntmps54
 go_upto_region 1 with fail
 have HX:=hid (PX.start w (.slice aF fns.length cF))
 obtain ⟨W1,hW1⟩:∃ W,w.alloc (.cells #[.slice aF fns.length cF] 59)=W:=⟨_,rfl⟩
 rw [hW1] at HX ⊢
 clear hW1
 have k0:=cx HX.out.e0
 go_upto_region 2 with (go_at_call 80;refine (plain_any (H1.out.next HX.out.lo) HC.out).mono ?_;rintro e w2 ⟨c,k,i,rfl,hpl,hb2⟩;have HPL:=hid hpl;have HX2:=hid (HX.out.next hb2);clear hpl hb2)
 by_cases hc0:c=0
 ·subst hc0
  have HP0:Hid (Plain fns 0 0 0):=hid (by
   have h9:=HPL.out
   cases h9 with
   | ok h h0 h1 j hj h2=>exact .ok h h0 h1 j hj h2)
  have HRT:=hid (plain_right HP0.out)
  have h60:=HRT.out.2.2
  clear HPL k0 HX
  have k0:=cx HX2.out.e0
  go_wp2_with fail
  go_loopw [8] (fun i wr=>∃ j:Nat,j≤fns.length∧i=.int .i64 j∧PX w (.slice aF fns.length cF) wr∧∀ p,p < j→Fit fns (fns.getD p fn0)) (fun i _=>fns.length - (intOf i).toNat)
  case atStart=>exact ⟨0,Nat.zero_le _,rfl,HX2.out,fun p hp=>absurd hp (Nat.not_lt_zero _)⟩
  case round =>
   obtain ⟨j,hj,rfl,hx,hall⟩:=hrel
   have HX3:=hid hx
   have HALL:=hid hall
   clear hx hall HX2 k0
   have k0:=cx HX3.out.e0
   by_cases hlt:j < fns.length
   ·have hlti:(j:Int) < (fns.length:Int):=by omega
    have HFM:Hid (fns.getD j fn0 ∈ fns):=hid (by rw [List.getD_eq_getElem?_getD,List.getElem?_eq_getElem hlt];exact List.getElem_mem hlt)
    obtain ⟨gF,cF2,e9,hgF,pv,iv,n0,n1,n2,n3,n4,hpv,hiv⟩:=H1.out.at hlt
    injection e9 with ea en ec
    clear en
    subst ea ec
    obtain ⟨f,hf⟩:∃ f,fns.getD j fn0=f:=⟨_,rfl⟩
    have HSH:=hid (shapes_any (H1.out.next HX3.out.lo) hlt HRT.out.1)
    rw [hf] at n0 n2 n3 hpv hiv HFM HSH
    have HFE:=hid hf
    have HR:=hid (HRT.out.1 f HFM.out)
    have HP:=hid hpv
    have HI:=hid hiv
    have hi2:=HR.out.some_.2
    obtain ⟨aP,cP,rfl⟩:=hpv.sl
    obtain ⟨aI,cI,rfl⟩:=hiv.sl
    have HN5:=hid (And.intro n0 (And.intro n1 (And.intro n2 (And.intro n3 n4))))
    clear hf hpv hiv n0 n1 n2 n3 n4
    go_wp2_with (go_at_call 81;refine HSH.out.mono ?_;rintro e w4 ⟨g,A,rfl,hg,hrow,hcl,hlow,hb4⟩;have HLS:Hid (Least fns f A):=hid ⟨hcl,hlow⟩;have HQX:=hid (QX.mk (HX3.out.next hb4) hrow);clear hg hrow hcl hlow hb4)
    clear k0 HSH
    go_loopw [10] (fun i wr=>∃ z:Nat,z≤f.ins.length∧i=.int .i64 z∧QX w (.slice (some ⟨gF,0,none⟩) fns.length cF) g f.ins.length A wr∧∀ p,p < z→¬ Unfit fns f A p) (fun i _=>f.ins.length - (intOf i).toNat)
    case atStart=>exact ⟨0,Nat.zero_le _,rfl,HQX.out,fun p hp=>absurd hp (Nat.not_lt_zero _)⟩
    case round =>
     obtain ⟨z,hz,rfl,hx,hsofar⟩:=hrel
     have HX4:=hid hx
     have HSF:=hid hsofar
     clear hx hsofar HQX
     by_cases hzt:z < f.ins.length
     ·have hzi:(z:Int) < (f.ins.length:Int):=by omega
      obtain ⟨a1,c1,a2,c2,u0,u1,u2,rw1,rw2,_,_,_⟩:=HX4.out.row.at hzt
      have hgl:=HX4.out.row.lt
      have HROW:=hid (And.intro rw1 rw2)
      have k0:=cx HX4.out.px.e0
      clear rw1 rw2
      by_cases hst:(A z).st=0
      ·rw [hst] at u0
       have HST:=hid hst
       clear hst
       go_wp2_with fail
       go_quiet (fail)
       go_wp2
       go_roundw
       case rel =>
        refine ⟨z+1,by omega,by go_num,HX4.out.next (below_drewN (Below.refl _ _) _),fun p hp=>?_⟩
        by_cases e:p=z
        ·subst e;exact fun h=>h.1 HST.out
        ·exact HSF.out p (by omega)
       case measure=>simp [intOf];omega
      ·have HST:=hid hst
       have hstb:(((A z).st:Int) == 0)=false:=by simpa using hst
       have hstn:(((A z).st:Int) != 0)=true:=by simpa using hst
       have hst0:¬ (A z).st=0:=hst
       clear hst
       have HCE:Hid (∀ V,Below wr.heap.size wr V→(V.cell? ⟨w.heap.size,0,none⟩=some (.slice (some ⟨gF,0,none⟩) fns.length cF)∧V.cell? ⟨gF,j * 5,none⟩=some (.string f.name)∧V.cell? ⟨gF,j * 5+1,none⟩=some (.slice aP f.params.length cP)∧V.cell? ⟨gF,j * 5+2,none⟩=some (.int .i64 f.result)∧V.cell? ⟨gF,j * 5+3,none⟩=some (.int .i64 f.slots)∧V.cell? ⟨gF,j * 5+4,none⟩=some (.slice aI f.ins.length cI))∧(V.cell? ⟨g,z * 3,none⟩=some (.int .i64 ((A z).st:Nat))∧V.cell? ⟨g,z * 3+1,none⟩=some (.slice a1 (A z).sl.length c1)∧V.cell? ⟨g,z * 3+2,none⟩=some (.slice a2 (A z).sk.length c2))):=hid fun V hV=>by
        have hb:=(HX4.out.px.next hV).lo
        obtain ⟨n0,n1,n2,n3,n4⟩:=HN5.out
        exact ⟨⟨cx (HX4.out.px.next hV).e0,(hb.cell (p:=⟨gF,_,none⟩) hgF).trans n0,(hb.cell (p:=⟨gF,_,none⟩) hgF).trans n1,(hb.cell (p:=⟨gF,_,none⟩) hgF).trans n2,(hb.cell (p:=⟨gF,_,none⟩) hgF).trans n3,(hb.cell (p:=⟨gF,_,none⟩) hgF).trans n4⟩,(hV.cell (p:=⟨g,_,none⟩) hgl).trans u0,(hV.cell (p:=⟨g,_,none⟩) hgl).trans u1,(hV.cell (p:=⟨g,_,none⟩) hgl).trans u2⟩
       obtain ⟨⟨_,n0,n1,n2,n3,n4⟩,_⟩:=HCE.out wr (Below.refl _ _)
       have HCALL:Hid (∀ V,Below wr.heap.size wr V→Calls Tryz.prog 82 #[.agg #[.slice (some ⟨gF,0,none⟩) fns.length cF],.agg #[.string f.name,.slice aP f.params.length cP,.int .i64 f.result,.int .i64 f.slots,.slice aI f.ins.length cI],.int .i64 z,.agg #[.int .i64 ((A z).st:Nat),.slice a1 (A z).sl.length c1,.slice a2 (A z).sk.length c2]] V (BehEnd fns f z (A z) V)):=hid fun V hV=>beh_any (H1.out.next (HX4.out.px.next hV).lo) ⟨_,_,rfl,HP.out.next (HX4.out.px.next hV).lo,HI.out.next (HX4.out.px.next hV).lo⟩ ⟨_,_,rfl,HROW.out.1.next hV,HROW.out.2.next hV⟩ HRT.out.1 HR.out hzt (HLS.out.2.ok z hzt) HST.out
       by_cases hu:(behind fns f z (A z)).st=2
       ·have HU:=hid hu
        clear hu
        go_wp2_with fail
        go_region_held3 (fun V=>(V.cell? ⟨w.heap.size,0,none⟩=some (.slice (some ⟨gF,0,none⟩) fns.length cF)∧V.cell? ⟨gF,j * 5,none⟩=some (.string f.name)∧V.cell? ⟨gF,j * 5+1,none⟩=some (.slice aP f.params.length cP)∧V.cell? ⟨gF,j * 5+2,none⟩=some (.int .i64 f.result)∧V.cell? ⟨gF,j * 5+3,none⟩=some (.int .i64 f.slots)∧V.cell? ⟨gF,j * 5+4,none⟩=some (.slice aI f.ins.length cI))∧(V.cell? ⟨g,z * 3,none⟩=some (.int .i64 ((A z).st:Nat))∧V.cell? ⟨g,z * 3+1,none⟩=some (.slice a1 (A z).sl.length c1)∧V.cell? ⟨g,z * 3+2,none⟩=some (.slice a2 (A z).sk.length c2))) (first | (exact HCE.out _ (Below.refl _ _).drew) | (exact HCE.out _ HB9.out) | go_keep) (first
         | (go_at_call 82;refine (HCALL.out _ (Below.refl _ _).drew).mono ?_;rintro e w9 ⟨bv,rfl,hsv,hb9⟩;obtain ⟨x,y,rfl,hx,hy⟩:=hsv;obtain ⟨px,qx,rfl⟩:=hx.sl;obtain ⟨py,qy,rfl⟩:=hy.sl;have HB9:=hid ((Below.refl wr.heap.size wr).drew.trans hb9);clear hb9 hx hy;rw [HU.out];have hfd:=shField 2 px py (behind fns f z (A z)).sl.length qx (behind fns f z (A z)).sk.length qy) | fail)
        go_wp2_with fail
        go_ret3
        exact ⟨5,j,z,rfl,.unfit HP0.out j z hlt (by rw [HFE.out];exact hzt) HALL.out A (by rw [HFE.out];exact HLS.out) (by rw [HFE.out];exact HSF.out) (by rw [HFE.out];exact ⟨HST.out,HU.out⟩),(HX4.out.px.next HB9.out).lo⟩
       ·have HU:=hid hu
        have hub:(((behind fns f z (A z)).st:Int) == 2)=false:=by simp;omega
        clear hu
        go_wp2_with fail
        go_region_held3 (fun V=>(V.cell? ⟨w.heap.size,0,none⟩=some (.slice (some ⟨gF,0,none⟩) fns.length cF)∧V.cell? ⟨gF,j * 5,none⟩=some (.string f.name)∧V.cell? ⟨gF,j * 5+1,none⟩=some (.slice aP f.params.length cP)∧V.cell? ⟨gF,j * 5+2,none⟩=some (.int .i64 f.result)∧V.cell? ⟨gF,j * 5+3,none⟩=some (.int .i64 f.slots)∧V.cell? ⟨gF,j * 5+4,none⟩=some (.slice aI f.ins.length cI))∧(V.cell? ⟨g,z * 3,none⟩=some (.int .i64 ((A z).st:Nat))∧V.cell? ⟨g,z * 3+1,none⟩=some (.slice a1 (A z).sl.length c1)∧V.cell? ⟨g,z * 3+2,none⟩=some (.slice a2 (A z).sk.length c2))) (first | (exact HCE.out _ (Below.refl _ _).drew) | (exact HCE.out _ HB9.out) | go_keep) (first
         | (go_at_call 82;refine (HCALL.out _ (Below.refl _ _).drew).mono ?_;rintro e w9 ⟨bv,rfl,hsv,hb9⟩;obtain ⟨x,y,rfl,hx,hy⟩:=hsv;obtain ⟨px,qx,rfl⟩:=hx.sl;obtain ⟨py,qy,rfl⟩:=hy.sl;have HB9:=hid ((Below.refl wr.heap.size wr).drew.trans hb9);clear hb9 hx hy;have hfd:=shField (behind fns f z (A z)).st px py (behind fns f z (A z)).sl.length qx (behind fns f z (A z)).sk.length qy) | fail)
        go_wp2_with fail
        go_roundw
        case rel =>
         refine ⟨z+1,by omega,by go_num,HX4.out.next HB9.out,fun p hp=>?_⟩
         by_cases e:p=z
         ·subst e;exact fun h=>HU.out h.2
         ·exact HSF.out p (by omega)
        case measure=>simp [intOf];omega
     ·obtain rfl:z=f.ins.length:=by omega
      have hge:¬ ((f.ins.length:Int) < (f.ins.length:Int)):=by omega
      go_wp2_with fail
      refine ⟨⟨_,_,_,.int .i64 ((j+1:Nat):Int),⟨j+1,by omega,rfl,HX4.out.px,fun q hq=>?_⟩,rfl,rfl,rfl,by go_num⟩,by simp [intOf];omega⟩
      by_cases e:q=j
      ·subst e
       have h9:Fit fns (fns.getD q fn0):=by rw [HFE.out];exact ⟨A,HLS.out,HSF.out⟩
       exact h9
      ·exact HALL.out q (by omega)
   ·obtain rfl:j=fns.length:=by omega
    have hge:¬ ((fns.length:Int) < (fns.length:Int)):=by omega
    go_wp2_with fail
    go_ret3
    exact ⟨0,0,0,rfl,.ok HP0.out HALL.out,HX3.out.lo⟩
 ·have HC0:=hid hc0
  have hcb:(((c:Nat):Int) != 0)=true:=by simpa using hc0
  clear hc0
  go_wp2_with fail
  go_ret3
  exact ⟨c,k,i,rfl,.plain c k i HPL.out HC0.out,HX2.out.lo⟩
end Go.Proofs.YtbkmglknbflkhaaGreatDoor.C
namespace Go.Proofs.YtbkmglknbflkhaaGreatDoor.M
open Go.RowKit
open C (In Sh in0 fn0 Least Fit Unfit Closed Low FnR InsR)
set_option maxRecDepth 20000
def fr (x:R.Mc) (k:Nat):R.Fm:=x.frames.getD k R.fm0
def fnsOf (x:R.Mc) (c:Int):List C.Fn:=(x.codes.getD c.toNat R.cd0).fns
def was (x:R.Mc):Nat→Int
 | 0=>-1
 | k+1=>(fr x k).code
def UpOk (x:R.Mc) (k:Nat):Prop:=(fr x k).code=was x k∨(fr x k).code=was x k+1
def fnOf (x:R.Mc) (k:Nat):C.Fn:=(fnsOf x (fr x k).code).getD (fr x k).fn.toNat fn0
def RngOk (x:R.Mc) (k:Nat):Prop:=(0≤(fr x k).code∧(fr x k).code < x.codes.length)∧(0≤(fr x k).fn∧(fr x k).fn < (fnsOf x (fr x k).code).length)∧(¬ (fr x k).code=was x k→C.isMain (fnOf x k))
def awaits (x:R.Mc) (k:Nat):Option In :=
 if k+1=x.frames.length then (if x.kind=0 then none else some ⟨8,x.kind,0,⟨#[]⟩⟩)
 else if (fr x (k+1)).code=(fr x k).code then some ⟨9,(fr x (k+1)).fn,0,⟨#[]⟩⟩
 else some ⟨8,4,0,⟨#[]⟩⟩
def gives (fns:List C.Fn) (i:In):Prop:=i.op=8∨¬ (fns.getD i.a.toNat fn0).result=0
instance (fns:List C.Fn) (i:In):Decidable (gives fns i):=by unfold gives;exact inferInstance
def VOk (v:R.Va):Prop:=V.validB v.ty v.n v.text=true
def SlotOk (v:R.Va) (k:Int):Prop:=(k=0∧v=R.va0)∨(VOk v∧(k=0∨v.ty=k))
def SlotsOk (vs:List R.Va) (ks:List Int):Prop:=vs.length=ks.length∧∀ i,i < vs.length→SlotOk (vs.getD i R.va0) (ks.getD i 0)
def StackOk (vs:List R.Va) (ks:List Int):Prop:=vs.length=ks.length∧∀ i,i < vs.length→(vs.getD i R.va0).ty=ks.getD i 0∧VOk (vs.getD i R.va0)
def lies (x:R.Mc) (k:Nat) (A:Nat→Sh):List Int:=match awaits x k with
 | none=>(A (fr x k).pl.toNat).sk
 | some i=>if gives (fnsOf x (fr x k).code) i then (A (fr x k).pl.toNat).sk.dropLast else (A (fr x k).pl.toNat).sk
def Stands (x:R.Mc) (k:Nat) (A:Nat→Sh):Prop:=∀ i,awaits x k=some i→1≤(fr x k).pl∧(A ((fr x k).pl - 1).toNat).st=1∧(fnOf x k).ins.getD ((fr x k).pl - 1).toNat in0=i
def PlaceOk (x:R.Mc) (k:Nat) (A:Nat→Sh):Prop:=(0≤(fr x k).pl∧(fr x k).pl < (fnOf x k).ins.length)∧(A (fr x k).pl.toNat).st=1∧SlotsOk (fr x k).slots (A (fr x k).pl.toNat).sl∧Stands x k A∧StackOk (fr x k).stack (lies x k A)
def FrameOk (x:R.Mc) (k:Nat):Prop:=∃ A,Least (fnsOf x (fr x k).code) (fnOf x k) A∧PlaceOk x k A
def FramesOk (x:R.Mc):Prop:=(1≤x.frames.length∧x.frames.length≤40)∧(fr x (x.frames.length - 1)).code=(x.codes.length:Int) - 1∧(∀ k,k < x.frames.length→UpOk x k∧RngOk x k)∧∀ k,k < x.frames.length→FrameOk x k
theorem least_at {fns:List C.Fn} {f:C.Fn} {A A2:Nat→Sh} (h:Least fns f A) (h2:Least fns f A2) {p:Nat} (hp:p < f.ins.length):A p=A2 p:=C.least_unique h.1 h.2 h2.1 h2.2 p hp
theorem PlaceOk.of {x:R.Mc} {k:Nat} {A A2:Nat→Sh} (h:Least (fnsOf x (fr x k).code) (fnOf x k) A) (h2:Least (fnsOf x (fr x k).code) (fnOf x k) A2) (p:PlaceOk x k A):PlaceOk x k A2:=by
 obtain ⟨⟨a0,a1⟩,b,c,d,e⟩:=p
 have e1:=least_at h h2 (p:=(fr x k).pl.toNat) (by omega)
 refine ⟨⟨a0,a1⟩,by rw [← e1];exact b,by rw [← e1];exact c,fun i hi=>?_,?_⟩
 ·obtain ⟨d1,d2,d3⟩:=d i hi
  rw [← least_at h h2 (p:=((fr x k).pl - 1).toNat) (by omega)]
  exact ⟨d1,d2,d3⟩
 ·unfold lies at e ⊢
  rw [← e1];exact e
theorem FrameOk.iff {x:R.Mc} {k:Nat} {A:Nat→Sh} (h:Least (fnsOf x (fr x k).code) (fnOf x k) A):FrameOk x k ↔ PlaceOk x k A :=
 ⟨fun ⟨_,h2,p⟩=>p.of h2 h,fun p=>⟨A,h,p⟩⟩
def giveT (fns:List C.Fn) (i:In):List Int:=if i.op=8 then [(C.sig i.a).2] else if (fns.getD i.a.toNat fn0).result=0 then [] else [(fns.getD i.a.toNat fn0).result]
theorem giveT_gives {fns:List C.Fn} {i:In}:(gives fns i→∃ t,giveT fns i=[t])∧(¬ gives fns i→giveT fns i=[]):=by
 unfold gives giveT
 by_cases h8:i.op=8
 ·rw [if_pos h8]
  exact ⟨fun _=>⟨_,rfl⟩,fun h=>absurd (.inl h8) h⟩
 ·rw [if_neg h8]
  by_cases hr:(fns.getD i.a.toNat fn0).result=0
  ·rw [if_pos hr]
   exact ⟨fun h=>absurd hr (h.resolve_left h8),fun _=>rfl⟩
  ·rw [if_neg hr]
   exact ⟨fun _=>⟨_,rfl⟩,fun h=>absurd (.inr hr) h⟩
theorem stack_at {fns:List C.Fn} {f:C.Fn} {A:Nat→Sh} (hL:Least fns f A) (hF:∀ p,p < f.ins.length→¬ Unfit fns f A p) {p:Nat} (hp:p+1 < f.ins.length) (h1:(A p).st=1) (h2:(A (p+1)).st=1)
  (hi:(f.ins.getD p in0).op=8∨(f.ins.getD p in0).op=9):∃ m,(A (p+1)).sk=m ++ giveT fns (f.ins.getD p in0):=by
 have hgo:C.goes (f.ins.getD p in0) p=[p+1]:=by
  unfold C.goes
  rw [if_neg (by omega),if_neg (by omega),if_neg (by omega)]
 have hc:=hL.1.go p (by omega) (by omega) (p+1) (by rw [hgo];exact List.mem_singleton.2 rfl) hp
 have hu:¬ (C.behind fns f p (A p)).st=2:=fun h=>hF p (by omega) ⟨by omega,h⟩
 have h0:=C.behind_st fns f p (A p)
 have hsk:(C.behind fns f p (A p)).sk=(A (p+1)).sk:=by
  rcases hc with hc | hc | hc
  ·exact absurd hc h0
  ·omega
  ·exact hc.2.2.1
 rw [← hsk]
 unfold C.behind at hu ⊢
 split at hu
 ·rename_i hcond
  rw [if_pos hcond]
  split at hu
  ·exact absurd rfl hu
  ·rename_i l he
   split at hu
   ·rename_i h6
    rw [if_pos h6]
    refine ⟨List.take ((A p).sk.length - C.takesN fns (f.ins.getD p in0)) (A p).sk,?_⟩
    show _ ++ _=_
    congr 1
    unfold C.eff at he
    unfold giveT
    rcases hi with hi | hi
    ·rw [if_neg (by omega),if_neg (by omega),if_neg (by omega),if_neg (by omega),if_neg (by omega),if_pos hi] at he
     rw [if_pos hi]
     exact (C.whn_some he).2
    ·rw [if_neg (by omega),if_neg (by omega),if_neg (by omega),if_neg (by omega),if_neg (by omega),if_neg (by omega),if_pos hi] at he
     rw [if_neg (by omega)]
     exact (C.whn_some he).2
   ·exact absurd rfl hu
 ·exact absurd rfl hu
end Go.Proofs.YtbkmglknbflkhaaGreatDoor.M
namespace Go.Proofs.YtbkmglknbflkhaaGreatDoor.M
open Go.RowKit
open Go.Proofs.YtbkmglknbflkhaaGreatDoor.J (Says says_t says_f)
open Go.Proofs.YtbkmglknbflkhaaGreatDoor.R (hid)
set_option maxRecDepth 20000
theorem fm_at {B:Nat} {W:World} {g n c:Nat} {l:List R.Fm} (h:R.SFmR B W (.slice (some ⟨g,0,none⟩) n c) l) {i:Nat} (hi:i < l.length):g < W.heap.size∧∃ v0 v1,W.cell? ⟨g,i * 5,none⟩=some (.int .i64 (l.getD i R.fm0).code)∧W.cell? ⟨g,i * 5+1,none⟩=some (.int .i64 (l.getD i R.fm0).fn)∧W.cell? ⟨g,i * 5+2,none⟩=some (.int .i64 (l.getD i R.fm0).pl)∧W.cell? ⟨g,i * 5+3,none⟩=some v0∧W.cell? ⟨g,i * 5+4,none⟩=some v1∧R.SVaR (g+1) W v0 (l.getD i R.fm0).slots∧R.SVaR (g+1) W v1 (l.getD i R.fm0).stack:=by
 obtain ⟨g2,e9,_,hg,v0,v1,a0⟩:=h.at hi
 injection e9 with ea en ec
 injection ea with eb
 injection eb with ec2
 subst ec2
 exact ⟨hg,v0,v1,a0⟩
theorem up_math {c p:Int} (hc:-9223372036854775808≤c∧c≤9223372036854775807) (hp:-1≤p∧p≤1000):(wrap64 (c - p)=1 ↔ c=p+1)∧(wrap64 (c - p)=0 ↔ c=p):=by
 unfold wrap64
 omega
set_option maxHeartbeats 4000000 in
theorem up_any (x:R.Mc) {v0 v1 v2 v3 v4 v5:Value} {B:Nat} (w:World) (h:MK B w x v0 v1 v2 v3 v4 v5) (hx:R.OkFmS x.frames) {i:Nat} (hi:i < x.frames.length) (hw:-1≤was x i∧was x i≤1000) (hl:x.frames.length≤1048576) :
  Calls Tryz.prog 66 #[mval x v0 v1 v2 v3 v4 v5,.int .i64 i] w fun e w'=>(∃ u,e=.returned (.int .i64 u)∧(u=1 ↔ (fr x i).code=was x i+1)∧(u=0 ↔ (fr x i).code=was x i))∧Below w.heap.size w w':=by
 have HK:=hid h.k3
 obtain ⟨gf,rfl⟩:=h.k3.sl
 have HC:=hid (hx.2 i hi).1
 clear h hx
 have HI:=hid hi
 match i,hi,hw with
 | 0,_,hw =>
  have HM:=hid (up_math (c:=(fr x 0).code) (p:=-1) HC.out (by decide))
  go_enter Tryz.func66,Tryz.ntmps66
  go_upto_region 1 with fail
  have HX:=hid (MX.start w x v0 v1 v2 (.slice (some ⟨gf,0,none⟩) x.frames.length x.frames.length) v4 v5)
  obtain ⟨W1,hW1⟩:∃ W,w.alloc (.cells #[v0,v1,v2,.slice (some ⟨gf,0,none⟩) x.frames.length x.frames.length,.int .i64 x.steps,.int .i64 x.looks,.int .i64 x.kind,.string x.name,.string x.hold,.bool x.over,.int .i64 x.fin,.string x.text,v4,v5] 34)=W:=⟨_,rfl⟩
  rw [hW1] at HX ⊢
  clear hW1
  have c3:=HX.out.c3
  obtain ⟨_,u0,u1,d0,_⟩:=fm_at (HK.out.next HX.out.lo) HI.out
  rw [Nat.zero_mul] at d0
  obtain ⟨c,hc⟩:∃ c,(fr x 0).code=c:=⟨_,rfl⟩
  have hc2:(x.frames.getD 0 R.fm0).code=c:=hc
  rw [hc] at HM
  have HG:Hid ((fr x 0).code=c):=hc
  rw [hc2] at d0
  clear hc hc2
  have hlen:(0:Int) < (x.frames.length:Int):=by have:=HI.out;omega
  have hcw:c - -1=c+1:=by omega
  rw [hcw] at HM
  clear hcw
  go_wp2
  go_ret
  exact ⟨⟨_,rfl,by rw [HG.out];simpa [was] using HM.out.1,by rw [HG.out];simpa [was] using HM.out.2⟩,HX.out.lo⟩
 | k+1,_,hw =>
  have HM:=hid (up_math (c:=(fr x (k+1)).code) (p:=(fr x k).code) HC.out hw)
  clear hw
  go_enter Tryz.func66,Tryz.ntmps66
  go_upto_region 1 with fail
  have HX:=hid (MX.start w x v0 v1 v2 (.slice (some ⟨gf,0,none⟩) x.frames.length x.frames.length) v4 v5)
  obtain ⟨W1,hW1⟩:∃ W,w.alloc (.cells #[v0,v1,v2,.slice (some ⟨gf,0,none⟩) x.frames.length x.frames.length,.int .i64 x.steps,.int .i64 x.looks,.int .i64 x.kind,.string x.name,.string x.hold,.bool x.over,.int .i64 x.fin,.string x.text,v4,v5] 34)=W:=⟨_,rfl⟩
  rw [hW1] at HX ⊢
  clear hW1
  have c3:=HX.out.c3
  obtain ⟨_,u0,u1,d0,_⟩:=fm_at (HK.out.next HX.out.lo) HI.out
  obtain ⟨_,u2,u3,d1,_⟩:=fm_at (HK.out.next HX.out.lo) (Nat.lt_of_succ_lt HI.out)
  obtain ⟨c,hc⟩:∃ c,(fr x (k+1)).code=c:=⟨_,rfl⟩
  have hc2:(x.frames.getD (k+1) R.fm0).code=c:=hc
  obtain ⟨p,hp⟩:∃ p,(fr x k).code=p:=⟨_,rfl⟩
  have hp2:(x.frames.getD k R.fm0).code=p:=hp
  rw [hc,hp] at HM
  have HG:Hid ((fr x (k+1)).code=c∧was x (k+1)=p):=⟨hc,hp⟩
  rw [hc2] at d0
  rw [hp2] at d1
  clear hc hc2 hp hp2
  have hlen:((k:Int)+1) < (x.frames.length:Int):=by have:=HI.out;omega
  have hlen2:(k:Int) < (x.frames.length:Int):=by omega
  have hne:((k:Int)+1 == 0)=false:=by simp;omega
  have e1:(k:Int)+1 - 1=(k:Int):=by omega
  go_wp2_with fail
  go_quiet (fail)
  have HB:=hid HX.out.lo
  all_goals go_wp2_with fail
  all_goals go_ret
  all_goals exact ⟨⟨_,rfl,by rw [HG.out.1,HG.out.2];exact HM.out.1,by rw [HG.out.1,HG.out.2];exact HM.out.2⟩,J.below_drewN HB.out _⟩
end Go.Proofs.YtbkmglknbflkhaaGreatDoor.M
