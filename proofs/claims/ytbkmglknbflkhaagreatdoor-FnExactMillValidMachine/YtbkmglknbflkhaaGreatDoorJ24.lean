import Derived.OwnWalk
import Derived.Deep.LoopGhost
import Derived.Test.YtbkmglknbflkhaaGreatDoorJ23
namespace Go.Proofs.YtbkmglknbflkhaaGreatDoor.C
open Go.RowKit
set_option maxRecDepth 20000
theorem behind_top {fns:List Fn} {f:Fn} {p:Nat} {s:Sh} (h:¬ s.st=1):behind fns f p s=top:=by
 unfold behind
 rw [if_neg fun h9=>h h9.1]
set_option maxHeartbeats 1000000 in
theorem beh_2 {fns:List Fn} {f:Fn} {p:Nat} {s:Sh} {w:World} {cv pv iv x y:Value} (h1:FnsRow w cv fns) (h2:IntRow w pv f.params) (h3:InsRow w iv f.ins) (h4:IntRow w x s.sl) (h5:IntRow w y s.sk) (hp:p < f.ins.length) (h2s:s.st=2) :
  Calls Tryz.prog 82 #[.agg #[cv],.agg #[.string f.name,pv,.int .i64 f.result,.int .i64 f.slots,iv],.int .i64 p,.agg #[.int .i64 2,x,y]] w (BehEnd fns f p s w):=by
 have HT:=hid (behind_top (fns:=fns) (f:=f) (p:=p) (s:=s) (by omega))
 obtain ⟨a0,c0,rfl⟩:=h1.sl
 obtain ⟨a1,c1,rfl⟩:=h2.sl
 obtain ⟨gI,cI,rfl,hgI,hcI⟩:=h3.at hp
 obtain ⟨a4,c4,rfl⟩:=h4.sl
 obtain ⟨a5,c5,rfl⟩:=h5.sl
 obtain ⟨d0,d1,d2,d3⟩:=hcI p hp
 obtain ⟨i,hi⟩:∃ i,f.ins.getD p in0=i:=⟨_,rfl⟩
 rw [hi] at d0 d1 d2 d3
 clear h1 h2 h3 h4 h5 hcI hi h2s
 have hpi:(p:Int) < (f.ins.length:Int):=by omega
 go_enter Tryz.func82,Tryz.ntmps82
 go_upto_region 1 with fail
 obtain ⟨t0,t1,t2,t3,hlo,hz⟩:=four w (.cells #[.slice a0 fns.length c0] 59) (fbox f (.slice a1 f.params.length c1) (.slice (some ⟨gI,0,none⟩) f.ins.length cI)) (sbox 2 (.slice a4 s.sl.length c4) (.slice a5 s.sk.length c5)) (sbox 0 (.slice none 0 0) (.slice none 0 0))
 obtain ⟨W4,hW4⟩:∃ W,((((w.alloc (.cells #[.slice a0 fns.length c0] 59)).alloc (fbox f (.slice a1 f.params.length c1) (.slice (some ⟨gI,0,none⟩) f.ins.length cI))).alloc (sbox 2 (.slice a4 s.sl.length c4) (.slice a5 s.sk.length c5))).alloc (sbox 0 (.slice none 0 0) (.slice none 0 0)))=W:=⟨_,rfl⟩
 rw [hW4] at t0 t1 t2 t3 hlo hz
 unfold fbox sbox at hW4
 rw [hW4]
 clear hW4
 obtain ⟨v0,v1,v2,v3,v4⟩:=fx t1
 have d0:=(hlo.cell (p:=⟨gI,p * 4,none⟩) hgI).trans d0
 have d1:=(hlo.cell (p:=⟨gI,p * 4+1,none⟩) hgI).trans d1
 have d2:=(hlo.cell (p:=⟨gI,p * 4+2,none⟩) hgI).trans d2
 have d3:=(hlo.cell (p:=⟨gI,p * 4+3,none⟩) hgI).trans d3
 have k1:Below W4.heap.size W4 (W4.alloc (ibox i)):=(Below.refl _ _).alloc (Nat.le_refl _) _
 have k2:Below (W4.alloc (ibox i)).heap.size (W4.alloc (ibox i)) ((W4.alloc (ibox i)).alloc (sbox 2 (.slice none 0 0) (.slice none 0 0))):=(Below.refl _ _).alloc (Nat.le_refl _) _
 have k12:=k1.trans (k2.mono k1.size)
 have HLO:=hid (hlo.trans (k12.mono hlo.size))
 have e2:=hp_next t2 k12
 have e3:=hp_next t3 k12
 have e5:=heap_alloc_new (W4.alloc (ibox i)) (sbox 2 (.slice none 0 0) (.slice none 0 0))
 have s5:(W4.alloc (ibox i)).heap.size=w.heap.size+1+1+1+1+1:=by simp [hz]
 rw [s5] at e5
 clear t0 t1 t2 t3 hlo k1 k2 k12
 go_upto_region 3 with fail
 obtain ⟨W6,hW6⟩:∃ W,(W4.alloc (ibox i)).alloc (sbox 2 (.slice none 0 0) (.slice none 0 0))=W:=⟨_,rfl⟩
 rw [hW6] at HLO e2 e3 e5
 unfold ibox sbox at hW6
 rw [hW6]
 clear hW6 hz d0 d1 d2 d3 v0 v1 v2 v3 v4 s5
 obtain ⟨s0,s1,s2,_,_,_⟩:=six_s e2
 obtain ⟨r0,r1,r2,q0,q1,q2⟩:=six_s e3
 obtain ⟨x0,x1,x2,_,_,_⟩:=six_s e5
 clear e2 e3 e5
 go_wp2
 exact bodyPost_ret (v:=.agg #[.int .i64 2,.slice none 0 0,.slice none 0 0]) (by simp [results,Tryz.results82,go_sem,r0,r1,r2]) rfl (beh_top HLO.out (by omega) HT.out _ _ _)
theorem beh_any {fns:List Fn} {f:Fn} {p:Nat} {s:Sh} {w:World} {cv fv sv:Value} (h1:FnsRow w cv fns) (h2:FnV w fv f) (h3:ShV w sv s) (hF:∀ g ∈ fns,FnR fns g) (hf:FnR fns f) (hp:p < f.ins.length) (hs:OkSh f.S s) (h0:¬ s.st=0) :
  Calls Tryz.prog 82 #[.agg #[cv],fv,.int .i64 p,sv] w (BehEnd fns f p s w):=by
 obtain ⟨pv,iv,rfl,r1,r2⟩:=h2
 obtain ⟨x,y,rfl,r3,r4⟩:=h3
 have hsl:=hf.slots
 rcases ok_st hs with h | h | h
 ·exact absurd h h0
 ·have q:=ok_known hs h
  obtain ⟨st,sl,sk⟩:=s
  dsimp only at h q r3 r4 ⊢
  subst h
  exact beh_1 h1 r1 r2 r3 r4 hF hf hp (by rw [q.1];unfold Fn.S;omega) q.2.2.1 q.2.2.2
 ·have:=beh_2 h1 r1 r2 r3 r4 hp h
  rw [h]
  exact this
def ShRow (W:World) (g n:Nat) (A:Nat→Sh):Prop:=∃ cur:Array Value,W.heap[g]?=some (.cells cur 121 (0,0))∧cur.size=n * 3∧∀ i,i < n→∃ a b,cur[i * 3]?=some (.int .i64 ((A i).st:Nat))∧cur[i * 3+1]?=some a∧cur[i * 3+2]?=some b∧IntRow W a (A i).sl∧IntRow W b (A i).sk
theorem ShRow.lt {W:World} {g n:Nat} {A:Nat→Sh} (h:ShRow W g n A):g < W.heap.size:=by
 obtain ⟨cur,e,_⟩:=h
 exact lt_hp e
theorem ShRow.keep {W V:World} {g n:Nat} {A:Nat→Sh} (h:ShRow W g n A) (hg:V.heap[g]?=W.heap[g]?) (hk:∀ (k:Nat) (cur:Array Value),W.heap[k]?=some (.cells cur 3 (0,0))→V.heap[k]?=W.heap[k]?):ShRow V g n A:=by
 obtain ⟨cur,e,hz,h1⟩:=h
 refine ⟨cur,hg.trans e,hz,fun i hi=>?_⟩
 obtain ⟨a,b,e0,e1,e2,r1,r2⟩:=h1 i hi
 exact ⟨a,b,e0,e1,e2,r1.keep hk,r2.keep hk⟩
theorem ShRow.next {W V:World} {g n:Nat} {A:Nat→Sh} (h:ShRow W g n A) (hb:Below W.heap.size W V):ShRow V g n A:=h.keep (hb.block g h.lt) fun k _ hk=>hb.block k (lt_hp hk)
theorem ShRow.at {W:World} {g n:Nat} {A:Nat→Sh} (h:ShRow W g n A) {i:Nat} (hi:i < n):∃ a1 c1 a2 c2,W.cell? ⟨g,i * 3,none⟩=some (.int .i64 ((A i).st:Nat))∧W.cell? ⟨g,i * 3+1,none⟩=some (.slice a1 (A i).sl.length c1)∧W.cell? ⟨g,i * 3+2,none⟩=some (.slice a2 (A i).sk.length c2)∧IntRow W (.slice a1 (A i).sl.length c1) (A i).sl∧IntRow W (.slice a2 (A i).sk.length c2) (A i).sk∧W.frozen? ⟨g,i * 3,none⟩=false∧W.frozen? ⟨g,i * 3+1,none⟩=false∧W.frozen? ⟨g,i * 3+2,none⟩=false:=by
 obtain ⟨cur,e,hz,h1⟩:=h
 obtain ⟨a,b,e0,e1,e2,r1,r2⟩:=h1 i hi
 obtain ⟨a1,c1,rfl⟩:=r1.sl
 obtain ⟨a2,c2,rfl⟩:=r2.sl
 exact ⟨a1,c1,a2,c2,(cell_hp e _).trans e0,(cell_hp e _).trans e1,(cell_hp e _).trans e2,r1,r2,frozen_hp e _,frozen_hp e _,frozen_hp e _⟩
theorem set_cells {W:World} {g:Nat} {cur:Array Value} {t:TypeId} (h:W.heap[g]?=some (.cells cur t (0,0))) (j:Nat) (v:Value):(W.setCell ⟨g,j,none⟩ v).heap[g]?=some (.cells (cur.setIfInBounds j v) t (0,0)):=by
 unfold World.setCell
 simp only [Array.getElem?_modify,h]
 simp
theorem ShRow.set {W:World} {g n:Nat} {A:Nat→Sh} (h:ShRow W g n A) {i:Nat} (hi:i < n) {s:Sh} {a b:Value} (ha:IntRow W a s.sl) (hb:IntRow W b s.sk):ShRow (((W.setCell ⟨g,i * 3,none⟩ (.int .i64 (s.st:Nat))).setCell ⟨g,i * 3+1,none⟩ a).setCell ⟨g,i * 3+2,none⟩ b) g n (upd A i s):=by
 obtain ⟨cur,e,hz,h1⟩:=h
 have hk:∀ (k:Nat) (cu:Array Value),W.heap[k]?=some (.cells cu 3 (0,0))→(((W.setCell ⟨g,i * 3,none⟩ (.int .i64 (s.st:Nat))).setCell ⟨g,i * 3+1,none⟩ a).setCell ⟨g,i * 3+2,none⟩ b).heap[k]?=W.heap[k]?:=fun k cu hk=>by
  have hne:¬ k=g:=fun ek=>by subst ek;rw [e] at hk;simp at hk
  rw [set_other _ _ _ _ _ hne,set_other _ _ _ _ _ hne,set_other _ _ _ _ _ hne]
 refine ⟨_,set_cells (set_cells (set_cells e _ _) _ _) _ _,by simp [hz],fun q hq=>?_⟩
 by_cases hqi:q=i
 ·subst hqi
  rw [upd_at]
  refine ⟨a,b,?_,?_,?_,ha.keep hk,hb.keep hk⟩
  ·rw [Array.getElem?_setIfInBounds_ne (by omega),Array.getElem?_setIfInBounds_ne (by omega),Array.getElem?_setIfInBounds_self_of_lt (by omega)]
  ·rw [Array.getElem?_setIfInBounds_ne (by omega),Array.getElem?_setIfInBounds_self_of_lt (by simp;omega)]
  ·rw [Array.getElem?_setIfInBounds_self_of_lt (by simp;omega)]
 ·rw [upd_ne _ _ hqi]
  obtain ⟨x,y,e0,e1,e2,r1,r2⟩:=h1 q hq
  refine ⟨x,y,?_,?_,?_,r1.keep hk,r2.keep hk⟩
  ·rw [Array.getElem?_setIfInBounds_ne (by omega),Array.getElem?_setIfInBounds_ne (by omega),Array.getElem?_setIfInBounds_ne (by omega)];exact e0
  ·rw [Array.getElem?_setIfInBounds_ne (by omega),Array.getElem?_setIfInBounds_ne (by omega),Array.getElem?_setIfInBounds_ne (by omega)];exact e1
  ·rw [Array.getElem?_setIfInBounds_ne (by omega),Array.getElem?_setIfInBounds_ne (by omega),Array.getElem?_setIfInBounds_ne (by omega)];exact e2
theorem set3_other {W:World} {g k:Nat} (h:¬ k=g) (x y z:Nat) (a b c:Value):(((W.setCell ⟨g,x,none⟩ a).setCell ⟨g,y,none⟩ b).setCell ⟨g,z,none⟩ c).heap[k]?=W.heap[k]?:=by
 rw [set_other _ _ _ _ _ h,set_other _ _ _ _ _ h,set_other _ _ _ _ _ h]
theorem made3 (a b c:Value):∀ (n i:Nat),i < n→(madeCells #[a,b,c] (n * 3))[i * 3]?=some a∧(madeCells #[a,b,c] (n * 3))[i * 3+1]?=some b∧(madeCells #[a,b,c] (n * 3))[i * 3+2]?=some c:=by
 intro n i hi
 have key:∀ k,k < n * 3→(madeCells #[a,b,c] (n * 3))[k]?=some ((#[a,b,c]:Array Value)[k % 3]!):=fun k hk=>by
  unfold madeCells
  simp [hk]
 refine ⟨?_,?_,?_⟩
 ·rw [key _ (by omega),show i * 3 % 3=0 by omega];rfl
 ·rw [key _ (by omega),show (i * 3+1) % 3=1 by omega];rfl
 ·rw [key _ (by omega),show (i * 3+2) % 3=2 by omega];rfl
theorem ShRow.made {W:World} {B g n:Nat} (h:W.ownsRow B 121 3 (.slice (some ⟨g,0,none⟩) n n) n (madeCells #[.int .i64 0,.slice none 0 0,.slice none 0 0] (n * 3)).toList):ShRow W g n fun _=>bot:=by
 obtain ⟨h1,⟨h2,_⟩ | ⟨k,c,cur,e,hb,h4,h5,h6,h7,h8⟩⟩:=h
 ·cases h2
 ·injection e with e1 _ e3
  injection e1 with e1
  injection e1 with e1
  subst e1 e3
  have hcur:cur.size=n * 3:=by rw [h7]
  have hcells:cur.toList=(madeCells #[.int .i64 0,.slice none 0 0,.slice none 0 0] (n * 3)).toList:=by
   rw [← h8,List.take_of_length_le (by simp [hcur])]
  have hcc:cur=madeCells #[.int .i64 0,.slice none 0 0,.slice none 0 0] (n * 3):=by
   apply Array.ext'
   exact hcells
  refine ⟨cur,h4,hcur,fun i hi=>?_⟩
  obtain ⟨m0,m1,m2⟩:=made3 (.int .i64 0) (.slice none 0 0) (.slice none 0 0) n i hi
  rw [hcc]
  exact ⟨_,_,m0,m1,m2,IntRow.nil _,IntRow.nil _⟩
def tkB (fns:List Fn) (f:Fn) (i:In) (at_:Nat) (k:Int):Bool :=
 if i.op=8 then fitK ((sig i.a).1.getD at_ 0) k else if i.op=9 then decide ((fns.getD i.a.toNat fn0).params.getD at_ 0=k) else if i.op=12 then decide (f.result=k) else decide ((takesT i.op.toNat).getD at_ 0=-2) || fitK ((takesT i.op.toNat).getD at_ 0) k
set_option maxHeartbeats 2000000 in
theorem takes_any {fns:List Fn} {f:Fn} {b:Nat} {cv pv iv xv wv:Value} {w:World} (hM:MS fns f b cv pv iv xv wv w) (hE:EnvI w) {i:In} (hi:InsR fns f i) {z:Nat} {k:Int} (hz:z < takesN fns i) :
  Calls Tryz.prog 170 #[.pointer (some ⟨b,0,none⟩),inV i,.int .i64 z,.int .i64 k] w fun e w'=>e=.returned (.bool (tkB fns f i z k))∧Below w.heap.size w w':=by
 have HLO:Hid (Below w.heap.size w (w.alloc (ibox i))):=hid ((Below.refl _ _).alloc (Nat.le_refl _) _)
 have HM:=hid (hM.next HLO.out)
 have HE:=hid (hE.next HLO.out)
 have HI:=hid hi
 have HZ:=hid hz
 obtain ⟨j0,j1,j2,j3⟩:=ix (ibox_new w i)
 obtain ⟨m0,m1,m2,m3,m4,m5,m6,m7⟩:=mx HM.out
 obtain ⟨op,a,n,tx⟩:=i
 have hop:=hi.op
 dsimp only at hop j0 j1 j2 j3
 clear hM hE hi hz
 unfold inV
 dsimp only
 go_enter Tryz.func170,Tryz.ntmps170
 go_upto_region 1 with fail
 obtain ⟨W1,hW1⟩:∃ W,w.alloc (ibox ⟨op,a,n,tx⟩)=W:=⟨_,rfl⟩
 rw [hW1] at HLO HM HE j0 j1 j2 j3 m0 m1 m2 m3 m4 m5 m6 m7
 unfold ibox at hW1
 rw [hW1]
 clear hW1
 by_cases h8:op=8
 ·subst h8
  have hb:=HI.out.built rfl
  dsimp only at hb
  obtain ⟨q,rfl⟩:∃ q:Nat,a=q:=⟨a.toNat,by omega⟩
  have hz9:z < (sig q).1.length:=by have:=HZ.out;simpa [takesN] using this
  have HV:Hid (tkB fns f ⟨8,(q:Int),n,tx⟩ z k=fitK ((sig q).1.getD z 0) k):=hid (by simp [tkB])
  obtain ⟨v,s0,s1,s2⟩:=HE.out.signs q (by omega) (by omega)
  obtain ⟨ka,c,rfl,hc⟩:=s2.at hz9
  have hki:(q:Int) < 13:=by omega
  have hkn:q < 13:=by omega
  have hzi:(z:Int) < ((sig q).1.length:Int):=by omega
  obtain ⟨y,hy⟩:∃ y,(sig q).1.getD z 0=y:=⟨_,rfl⟩
  rw [hy] at hc HV
  obtain ⟨L,hL⟩:∃ L,(sig (q:Int)).1.length=L:=⟨_,rfl⟩
  rw [hL] at s0 hz9 hzi
  clear hb s2 hy hL
  go_wp2_with (go_at_call 189;refine (kindFits_any _ _ _).mono ?_;rintro e w' ⟨rfl,hw⟩;have hw2:=hw.symm;clear hw;subst hw2)
  go_ret
  exact ⟨ret_bool (by rw [HV.out]),HLO.out⟩
 ·have e8:(op == 8)=false:=by simpa using h8
  by_cases h9:op=9
  ·subst h9
   have hb:=HI.out.call rfl
   dsimp only at hb
   obtain ⟨q,rfl⟩:∃ q:Nat,a=q:=⟨a.toNat,by omega⟩
   have hk:q < fns.length:=by omega
   have hz9:z < (fns.getD q fn0).params.length:=by have:=HZ.out;simpa [takesN] using this
   have HV:Hid (tkB fns f ⟨9,(q:Int),n,tx⟩ z k=decide ((fns.getD q fn0).params.getD z 0=k)):=hid (by simp [tkB])
   obtain ⟨gF,cF2,hcv,hgF,pv2,iv2,n0,n1,n2,n3,n4,hpv,_⟩:=HM.out.fr.at hk
   obtain ⟨gP,cP,rfl,_,_,_,hcP⟩:=hpv.at hz9
   have kP:=hcP z hz9
   rw [hcv] at m0
   have hki:(q:Int) < (fns.length:Int):=by omega
   obtain ⟨y,hy⟩:∃ y,(fns.getD q fn0).params.getD z 0=y:=⟨_,rfl⟩
   rw [hy] at kP HV
   obtain ⟨L,hL⟩:∃ L,(fns.getD q fn0).params.length=L:=⟨_,rfl⟩
   rw [hL] at n1 hz9
   have hzi:(z:Int) < (L:Int):=by omega
   clear hb hpv hL hy n0 n2 n3 n4 h8 hcv hcP
   go_wp2_with fail
   go_quiet (fail)
   go_wp2
   go_ret
   exact ⟨ret_bool (by rw [HV.out];rfl),below_drewN HLO.out _⟩
  ·have e9:(op == 9)=false:=by simpa using h9
   by_cases h12:op=12
   ·subst h12
    have HV:Hid (tkB fns f ⟨12,a,n,tx⟩ z k=decide (f.result=k)):=hid (by simp [tkB])
    clear h8 h9
    go_wp2_with fail
    go_ret
    exact ⟨ret_bool (by rw [HV.out];rfl),HLO.out⟩
   ·have e12:(op == 12)=false:=by simpa using h12
    obtain ⟨o,rfl⟩:∃ o:Nat,op=o:=⟨op.toNat,by omega⟩
    have ho1:1≤o:=by omega
    have ho2:o≤16:=by omega
    have hz9:z < (takesT o).length:=by have:=HZ.out;rw [takesN_T (o:=o) rfl (by omega) (by omega) (by omega) ho1 ho2] at this;exact this
    have HV:Hid (tkB fns f ⟨(o:Int),a,n,tx⟩ z k=(decide ((takesT o).getD z 0=-2) || fitK ((takesT o).getD z 0) k)):=hid (by simp [tkB,h8,h9,h12])
    obtain ⟨v,s0,s1,s2,s3⟩:=HE.out.rows o ho1 ho2
    obtain ⟨ka,c,rfl,hc⟩:=s3.at hz9
    have hoi:(o:Int) < 17:=by omega
    have hon:o < 17:=by omega
    have hzi:(z:Int) < ((takesT o).length:Int):=by omega
    obtain ⟨y,hy⟩:∃ y,(takesT o).getD z 0=y:=⟨_,rfl⟩
    rw [hy] at hc HV
    obtain ⟨L,hL⟩:∃ L,(takesT o).length=L:=⟨_,rfl⟩
    rw [hL] at s1 hz9 hzi
    clear h8 h9 h12 s0 s2 s3 hy hL
    by_cases hy2:y=-2
    ·subst hy2
     go_wp2_with fail
     go_ret
     exact ⟨ret_bool (by rw [HV.out];rfl),HLO.out⟩
    ·have hyf:(y == -2)=false:=by simpa using hy2
     have HV2:Hid ((decide (y=-2) || fitK y k)=fitK y k):=hid (by simp [hy2])
     clear hy2
     go_wp2_with (go_at_call 189;refine (kindFits_any _ _ _).mono ?_;rintro e w' ⟨rfl,hw⟩;have hw2:=hw.symm;clear hw;subst hw2)
     go_ret
     exact ⟨ret_bool (by rw [HV.out,HV2.out]),HLO.out⟩
def ShpEnd (fns:List Fn) (f:Fn) (w:World) (e:Ending) (w':World):Prop:=∃ g A,e=.returned (.slice (some ⟨g,0,none⟩) f.ins.length f.ins.length)∧w.heap.size≤g∧ShRow w' g f.ins.length A∧Closed fns f A∧Low fns f A∧Below w.heap.size w w'
theorem IntRow.nil_keep {W V:World} {v:Value} (h:IntRow W v []):IntRow V v []:=by
 obtain ⟨ad,c,e,h1,h2,_⟩:=h
 exact ⟨ad,c,e,h1,h2,.inl rfl⟩
theorem ShRow.keep0 {W V:World} {g n:Nat} (h:ShRow W g n fun _=>bot) (hg:V.heap[g]?=W.heap[g]?):ShRow V g n fun _=>bot:=by
 obtain ⟨cur,e,hz,h1⟩:=h
 refine ⟨cur,hg.trans e,hz,fun i hi=>?_⟩
 obtain ⟨a,b,e0,e1,e2,r1,r2⟩:=h1 i hi
 exact ⟨a,b,e0,e1,e2,IntRow.nil_keep r1,IntRow.nil_keep r2⟩
theorem own_neS {W:World} {B n g:Nat} {v:Value} {xs:List Value} (h:W.ownsRow B 3 1 v n xs) {cs:Array Value} {t:TypeId} (ht:¬ t=3) (e:W.heap[g]?=some (.cells cs t (0,0))):some g≠v.ownBlock:=fun hh=>by
 obtain ⟨_,⟨rfl,_⟩ | ⟨k,cap,cur,rfl,_,hc,_⟩⟩:=h
 ·simp [Value.ownBlock] at hh
 ·simp [Value.ownBlock] at hh
  subst hh
  rw [e] at hc
  simp at hc
  exact ht hc.2
structure FI (f:Fn) (w:World) (cv pv iv:Value) (b7:Nat) (ov:Value) (m:Nat) (W:World):Prop where
 lo:Below w.heap.size w W
 e0:W.heap[w.heap.size]?=some (.cells #[cv] 59)
 e1:W.heap[w.heap.size+1]?=some (fbox f pv iv)
 row:ShRow W (w.heap.size+1+1) f.ins.length fun _=>bot
 e7:W.heap[b7]?=some (sbox 1 ov (.slice none 0 0))
 gt:w.heap.size+1+1 < b7
 own:W.ownsRow (w.heap.size+1+1+1) 3 1 ov m ((f.params ++ List.replicate (m - f.params.length) 0).map fun x=>Value.int .i64 x)
theorem FI.next {f:Fn} {w:World} {cv pv iv:Value} {b7:Nat} {ov:Value} {m:Nat} {W V:World} (h:FI f w cv pv iv b7 ov m W) (hb:Below W.heap.size W V):FI f w cv pv iv b7 ov m V :=
 ⟨h.lo.trans (hb.mono h.lo.size),hp_next h.e0 hb,hp_next h.e1 hb,h.row.next hb,hp_next h.e7 hb,h.gt,own_next h.own hb⟩
theorem FI.more {f:Fn} {w:World} {cv pv iv:Value} {b7:Nat} {ov:Value} {m:Nat} {W V:World} (h:FI f w cv pv iv b7 ov m W) (hm:f.params.length≤m) {v':Value} (hg:W.grownBy V ov.ownBlock) (ho:V.ownsRow (w.heap.size+1+1+1) 3 1 v' (m+1) ((f.params ++ List.replicate (m - f.params.length) 0).map (fun x=>Value.int .i64 x) ++ [.int .i64 0])):FI f w cv pv iv b7 v' (m+1) (V.setCell ⟨b7,1,none⟩ v'):=by
 have hk:∀ i,i < w.heap.size+1+1+1→i < W.heap.size→V.heap[i]?=W.heap[i]?:=fun i hi hz=>hg.block i hz (own_ne h.own hi)
 have z7:=lt_hp h.e7
 have hgt:=h.gt
 have hsz:=h.lo.size
 have e7:V.heap[b7]?=some (sbox 1 ov (.slice none 0 0)):=(hg.block b7 z7 (own_neS h.own (by decide) h.e7)).trans h.e7
 refine ⟨set_lo ⟨hg.os.trans h.lo.os,hg.tape.trans h.lo.tape,hg.output.trans h.lo.output,Nat.le_trans h.lo.size hg.size,fun i hi=>(hk i (by omega) (by omega)).trans (h.lo.block i hi)⟩ _ _ (by omega) _,?_,?_,?_,set1_box e7 _,hgt,?_⟩
 ·rw [set_other _ _ _ _ _ (by omega),hk _ (by omega) (lt_hp h.e0)];exact h.e0
 ·rw [set_other _ _ _ _ _ (by omega),hk _ (by omega) (lt_hp h.e1)];exact h.e1
 ·exact h.row.keep0 (by rw [set_other _ _ _ _ _ (by omega),hk _ (by omega) h.row.lt])
 ·apply own_setS _ e7
  have e:m+1 - f.params.length=m - f.params.length+1:=by omega
  rw [e,List.replicate_succ',← List.append_assoc,List.map_append]
  exact ho
theorem own_base {W:World} {B B' n:Nat} {v:Value} {xs:List Value} {e:TypeId} {k:Nat} (h:W.ownsRow B e k v n xs) (hB:B'≤B):W.ownsRow B' e k v n xs:=by
 obtain ⟨h1,h2 | ⟨g,cap,cur,a,b,c⟩⟩:=h
 ·exact ⟨h1,.inl h2⟩
 ·exact ⟨h1,.inr ⟨g,cap,cur,a,by omega,c⟩⟩
theorem FI.start {f:Fn} {w:World} {cv pv iv:Value} {ov:Value} {W3 W5:World} (lo:Below w.heap.size w W3) (e0:W3.heap[w.heap.size]?=some (.cells #[cv] 59)) (e1:W3.heap[w.heap.size+1]?=some (fbox f pv iv)) (row:ShRow W3 (w.heap.size+1+1) f.ins.length fun _=>bot) (b5:Below W3.heap.size W3 W5) (ho:W5.ownsRow W3.heap.size 3 1 ov f.params.length (f.params.map fun x=>Value.int .i64 x)):FI f w cv pv iv W5.heap.size ov f.params.length (W5.alloc (sbox 1 ov (.slice none 0 0))):=by
 have b6:Below W5.heap.size W5 (W5.alloc (sbox 1 ov (.slice none 0 0))):=(Below.refl _ _).alloc (Nat.le_refl _) _
 have b56:Below W3.heap.size W3 (W5.alloc (sbox 1 ov (.slice none 0 0))):=b5.trans (b6.mono b5.size)
 have:=row.lt
 have:=b5.size
 refine ⟨lo.trans (b56.mono lo.size),hp_next e0 b56,hp_next e1 b56,row.next b56,heap_alloc_new _ _,by omega,?_⟩
 rw [Nat.sub_self,List.replicate_zero,List.append_nil]
 exact own_base (own_next ho b6) (by omega)
structure SW (f:Fn) (w:World) (cv pv iv:Value) (A:Nat→Sh) (W:World):Prop where
 lo:Below w.heap.size w W
 e0:W.heap[w.heap.size]?=some (.cells #[cv] 59)
 e1:W.heap[w.heap.size+1]?=some (fbox f pv iv)
 row:ShRow W (w.heap.size+1+1) f.ins.length A
theorem SW.next {f:Fn} {w:World} {cv pv iv:Value} {A:Nat→Sh} {W V:World} (h:SW f w cv pv iv A W) (hb:Below W.heap.size W V):SW f w cv pv iv A V :=
 ⟨h.lo.trans (hb.mono h.lo.size),hp_next h.e0 hb,hp_next h.e1 hb,h.row.next hb⟩
theorem SW.set {f:Fn} {w:World} {cv pv iv:Value} {A:Nat→Sh} {W:World} (h:SW f w cv pv iv A W) {i:Nat} (hi:i < f.ins.length) {s:Sh} {a b:Value} (ha:IntRow W a s.sl) (hb:IntRow W b s.sk):SW f w cv pv iv (upd A i s) (((W.setCell ⟨w.heap.size+1+1,i * 3,none⟩ (.int .i64 (s.st:Nat))).setCell ⟨w.heap.size+1+1,i * 3+1,none⟩ a).setCell ⟨w.heap.size+1+1,i * 3+2,none⟩ b) :=
 ⟨set_lo (set_lo (set_lo h.lo _ _ (by omega) _) _ _ (by omega) _) _ _ (by omega) _,by rw [set3_other (by omega)];exact h.e0,by rw [set3_other (by omega)];exact h.e1,h.row.set hi ha hb⟩
theorem FI.fin {f:Fn} {w:World} {cv pv iv:Value} {b7:Nat} {ov:Value} {m:Nat} {W:World} (h:FI f w cv pv iv b7 ov m W) (hm:m=f.S) (hn:0 < f.ins.length) (hl:f.params.length≤m):SW f w cv pv iv (upd (fun _=>bot) 0 (first f)) (((W.setCell ⟨w.heap.size+1+1,0,none⟩ (.int .i64 1)).setCell ⟨w.heap.size+1+1,1,none⟩ ov).setCell ⟨w.heap.size+1+1,2,none⟩ (.slice none 0 0)):=by
 have h1:SW f w cv pv iv (fun _=>bot) W:=⟨h.lo,h.e0,h.e1,h.row⟩
 have:=h1.set (i:=0) hn (s:=first f) (a:=ov) (b:=.slice none 0 0) (by
  subst hm
  have ho:=h.own
  have e:(f.params ++ List.replicate (f.S - f.params.length) 0:List Int).length=f.S:=by simp;omega
  apply IntRow.own (B:=w.heap.size+1+1+1)
  show W.ownsRow _ _ _ _ (f.params ++ List.replicate (f.S - f.params.length) 0:List Int).length _
  rw [e]
  exact ho) (IntRow.nil _)
 have h9:(((first f).st:Nat):Int)=1:=rfl
 rw [h9] at this
 simpa using this
theorem set3_box {W:World} {g:Nat} {st:Int} {x y:Value} (e:W.heap[g]?=some (sbox st x y)) (st':Int) (q r:Value):(((W.setCell ⟨g,0,none⟩ (.int .i64 st')).setCell ⟨g,1,none⟩ q).setCell ⟨g,2,none⟩ r).heap[g]?=some (sbox st' q r):=by
 unfold World.setCell
 simp only [Array.getElem?_modify,e]
 simp [sbox]
structure BS (s:Sh) (b:Nat) (x y:Value) (W:World):Prop where
 e:W.heap[b]?=some (sbox s.st x y)
 r1:IntRow W x s.sl
 r2:IntRow W y s.sk
theorem BS.next {s:Sh} {b:Nat} {x y:Value} {W V:World} (h:BS s b x y W) (hb:Below W.heap.size W V):BS s b x y V:=⟨hp_next h.e hb,h.r1.next hb,h.r2.next hb⟩
theorem box_late {s:Sh} {x y:Value} {W:World} (h1:IntRow W x s.sl) (h2:IntRow W y s.sk):BS s W.heap.size x y (W.alloc (sbox s.st x y)) :=
 have b:Below W.heap.size W (W.alloc (sbox s.st x y)):=(Below.refl _ _).alloc (Nat.le_refl _) _
 ⟨heap_alloc_new _ _,h1.next b,h2.next b⟩
theorem box_early {s:Sh} {x y x0 y0:Value} {st0:Int} {W:World} {g:Nat} (e:W.heap[g]?=some (sbox st0 x0 y0)) (h1:IntRow W x s.sl) (h2:IntRow W y s.sk):BS s g x y (((W.setCell ⟨g,0,none⟩ (.int .i64 (s.st:Nat))).setCell ⟨g,1,none⟩ x).setCell ⟨g,2,none⟩ y) :=
 ⟨set3_box e _ _ _,h1.set3 e _ _ _,h2.set3 e _ _ _⟩
theorem SW.set3 {f:Fn} {w:World} {cv pv iv:Value} {A:Nat→Sh} {W:World} (h:SW f w cv pv iv A W) {g:Nat} {st0:Int} {x0 y0:Value} (e:W.heap[g]?=some (sbox st0 x0 y0)) (hg:w.heap.size+1+1 < g) (p q r:Value):SW f w cv pv iv A (((W.setCell ⟨g,0,none⟩ p).setCell ⟨g,1,none⟩ q).setCell ⟨g,2,none⟩ r) :=
 ⟨set_lo (set_lo (set_lo h.lo _ _ (by omega) _) _ _ (by omega) _) _ _ (by omega) _,by rw [set3_other (by omega)];exact h.e0,by rw [set3_other (by omega)];exact h.e1,h.row.keep (set3_other (by omega) _ _ _ _ _ _) fun k cur hk=>set3_other (fun ek=>by subst ek;rw [e] at hk;simp [sbox] at hk) _ _ _ _ _ _⟩
structure KS (f:Fn) (w:World) (cv pv iv:Value) (A:Nat→Sh) (s:Sh) (b:Nat) (x y gv:Value) (l:List Int) (W:World):Prop where
 sw:SW f w cv pv iv A W
 bs:BS s b x y W
 gr:IntRow W gv l
 gt:w.heap.size+1+1 < b
theorem KS.next {f:Fn} {w:World} {cv pv iv:Value} {A:Nat→Sh} {s:Sh} {b:Nat} {x y gv:Value} {l:List Int} {W V:World} (h:KS f w cv pv iv A s b x y gv l W) (hb:Below W.heap.size W V):KS f w cv pv iv A s b x y gv l V:=⟨h.sw.next hb,h.bs.next hb,h.gr.next hb,h.gt⟩
theorem KS.set3 {f:Fn} {w:World} {cv pv iv:Value} {A:Nat→Sh} {s:Sh} {b:Nat} {x y gv:Value} {l:List Int} {W:World} (h:KS f w cv pv iv A s b x y gv l W) {g:Nat} {st0:Int} {x0 y0:Value} (e:W.heap[g]?=some (sbox st0 x0 y0)) (hg:w.heap.size+1+1 < g) (hne:¬ b=g) (p q r:Value):KS f w cv pv iv A s b x y gv l (((W.setCell ⟨g,0,none⟩ p).setCell ⟨g,1,none⟩ q).setCell ⟨g,2,none⟩ r) :=
 ⟨h.sw.set3 e hg _ _ _,⟨by rw [set3_other hne];exact h.bs.e,h.bs.r1.set3 e _ _ _,h.bs.r2.set3 e _ _ _⟩,h.gr.set3 e _ _ _,h.gt⟩
theorem KS.put {f:Fn} {w:World} {cv pv iv:Value} {A:Nat→Sh} {s:Sh} {b:Nat} {x y gv:Value} {l:List Int} {W:World} (h:KS f w cv pv iv A s b x y gv l W) {i:Nat} (hi:i < f.ins.length) {z:Sh} {p q:Value} (hp:IntRow W p z.sl) (hq:IntRow W q z.sk):KS f w cv pv iv (upd A i z) s b x y gv l (((W.setCell ⟨w.heap.size+1+1,i * 3,none⟩ (.int .i64 (z.st:Nat))).setCell ⟨w.heap.size+1+1,i * 3+1,none⟩ p).setCell ⟨w.heap.size+1+1,i * 3+2,none⟩ q):=by
 have hk:∀ (k:Nat) (cu:Array Value),W.heap[k]?=some (.cells cu 3 (0,0))→(((W.setCell ⟨w.heap.size+1+1,i * 3,none⟩ (.int .i64 (z.st:Nat))).setCell ⟨w.heap.size+1+1,i * 3+1,none⟩ p).setCell ⟨w.heap.size+1+1,i * 3+2,none⟩ q).heap[k]?=W.heap[k]?:=fun k cu hk=>set3_other (fun ek=>by
  subst ek
  obtain ⟨cur,e,_⟩:=h.sw.row
  rw [e] at hk
  simp at hk) _ _ _ _ _ _
 have hgt:=h.gt
 exact ⟨h.sw.set hi hp hq,⟨by rw [set3_other (by omega)];exact h.bs.e,h.bs.r1.keep hk,h.bs.r2.keep hk⟩,h.gr.keep hk,h.gt⟩
def S14 (f:Fn) (w:World) (cv pv iv:Value) (j:Nat) (s:Sh) (a1:Option Addr) (c1:Nat) (a2:Option Addr) (c2:Nat) (V:World):Prop :=
 V.cell? ⟨w.heap.size,0,none⟩=some cv∧V.cell? ⟨w.heap.size+1,0,none⟩=some (.string f.name)∧V.cell? ⟨w.heap.size+1,1,none⟩=some pv∧V.cell? ⟨w.heap.size+1,2,none⟩=some (.int .i64 f.result)∧V.cell? ⟨w.heap.size+1,3,none⟩=some (.int .i64 f.slots)∧V.cell? ⟨w.heap.size+1,4,none⟩=some iv ∧
 V.cell? ⟨w.heap.size+1+1,j * 3,none⟩=some (.int .i64 (s.st:Nat))∧V.cell? ⟨w.heap.size+1+1,j * 3+1,none⟩=some (.slice a1 s.sl.length c1)∧V.cell? ⟨w.heap.size+1+1,j * 3+2,none⟩=some (.slice a2 s.sk.length c2)
theorem S14.of {f:Fn} {w:World} {cv pv iv:Value} {A:Nat→Sh} {W V:World} (h:SW f w cv pv iv A W) {j:Nat} {s:Sh} {a1:Option Addr} {c1:Nat} {a2:Option Addr} {c2:Nat} (_hj:j < f.ins.length) (hV:Below W.heap.size W V) (u0:W.cell? ⟨w.heap.size+1+1,j * 3,none⟩=some (.int .i64 (s.st:Nat))) (u1:W.cell? ⟨w.heap.size+1+1,j * 3+1,none⟩=some (.slice a1 s.sl.length c1)) (u2:W.cell? ⟨w.heap.size+1+1,j * 3+2,none⟩=some (.slice a2 s.sk.length c2)):S14 f w cv pv iv j s a1 c1 a2 c2 V:=by
 obtain ⟨v0,v1,v2,v3,v4⟩:=fx (h.next hV).e1
 have hl:=h.row.lt
 exact ⟨cx (h.next hV).e0,v0,v1,v2,v3,v4,(hV.cell (p:=⟨w.heap.size+1+1,j * 3,none⟩) hl).trans u0,(hV.cell (p:=⟨w.heap.size+1+1,j * 3+1,none⟩) hl).trans u1,(hV.cell (p:=⟨w.heap.size+1+1,j * 3+2,none⟩) hl).trans u2⟩
theorem upd_self (A:Nat→Sh) (g:Nat):upd A g (A g)=A:=by
 funext q
 unfold upd
 split
 ·rename_i h;rw [h]
 ·rfl
theorem KInv.both {fns:List Fn} {f:Fn} {A0 A:Nat→Sh} {i k:Nat} {s:Sh} {again ch:Bool} (h:KInv fns f A0 A i k s again) {g:Nat} (hg:(goes (f.ins.getD i in0) i)[k]?=some g) (hgn:g < f.ins.length) (hch:ch=true ↔ ¬ join (A g) s=A g):KInv fns f A0 (upd A g (join (A g) s)) i (k+1) s (again || ch):=by
 cases ch with
 | false =>
  have e:join (A g) s=A g:=Decidable.byContradiction fun h9=>by
   have:=hch.2 h9
   cases this
  have:=h.same hg hgn e
  rw [Bool.or_false,e,upd_self]
  exact this
 | true =>
  have:=h.up hg hgn (hch.1 rfl)
  rw [Bool.or_true]
  exact this
theorem nums_get {l:List Nat} {z g:Nat} (h:l[z]?=some g):(nums l).getD z 0=(g:Int):=by
 unfold nums
 rw [List.getD_eq_getElem?_getD,List.getElem?_map,h]
 rfl
theorem nums_length (l:List Nat):(nums l).length=l.length:=by unfold nums;rw [List.length_map]
theorem goes_few (i:In) (j:Nat):(goes i j).length≤2:=by unfold goes;(repeat' split) <;> simp
def putK (fns:List Fn) (i:In) (sl tk:List Int):Int :=
 if i.op=1∨i.op=7 then i.a else if i.op=2 then sl.getD i.a.toNat 0 else if i.op=5 then unG i.a (tk.getD 0 0) else if i.op=6 then binG i.a (tk.getD 0 0) (tk.getD 1 0) else if i.op=8 then (sig i.a).2 else (fns.getD i.a.toNat fn0).result
def putR (fns:List Fn) (i:In) (sl tk:List Int):List Int × Bool :=
 if putsT i.op.toNat=0 then ([],true) else if i.op=9∧(fns.getD i.a.toNat fn0).result=0 then ([],true) else ([putK fns i sl tk],decide (¬ putK fns i sl tk=0))
def PutEnd (fns:List Fn) (i:In) (sl tk:List Int) (w:World) (e:Ending) (w':World):Prop:=e=.returned (.tuple #[.string (kt (putR fns i sl tk).1),.bool (putR fns i sl tk).2])∧Below w.heap.size w w'
theorem put_some {fns:List Fn} {i:In} {sl tk:List Int} (h0:¬ putsT i.op.toNat=0) (h9:¬ (i.op=9∧(fns.getD i.a.toNat fn0).result=0)):putR fns i sl tk=([putK fns i sl tk],decide (¬ putK fns i sl tk=0)):=by
 unfold putR
 rw [if_neg h0,if_neg h9]
theorem put_end {fns:List Fn} {i:In} {sl tk:List Int} {w W:World} {y:Int} (lo:Below w.heap.size w W) (h0:¬ putsT i.op.toNat=0) (h9:¬ (i.op=9∧(fns.getD i.a.toNat fn0).result=0)) (hy:putK fns i sl tk=y):PutEnd fns i sl tk w (.returned (.tuple #[.string (kt [y]),.bool (y != 0)])) W:=by
 refine ⟨?_,lo⟩
 rw [put_some h0 h9,hy]
 have:(y != 0)=decide (¬ y=0):=by by_cases h:y=0 <;> simp [h]
 rw [this]
set_option maxHeartbeats 2000000 in
theorem put_3 {fns:List Fn} {f:Fn} {b:Nat} {cv pv iv xv wv:Value} {w:World} (hM:MS fns f b cv pv iv xv wv w) (hE:EnvI w) {a n:Int} {tx:ByteArray} (hi:InsR fns f ⟨3,a,n,tx⟩) {sl tk:List Int} {tv:Value} (hs:Ok10 sl) (ht:IntRow w tv tk) (hr:∀ x ∈ tk,1≤x∧x≤10) (hl:tk.length=takesN fns ⟨3,a,n,tx⟩) (hsl:sl.length=f.S) (hF:∀ g ∈ fns,FnR fns g) :
  Calls Tryz.prog 171 #[.pointer (some ⟨b,0,none⟩),inV ⟨3,a,n,tx⟩,.string (kt sl),tv] w (PutEnd fns ⟨3,a,n,tx⟩ sl tk w):=by
 have HLO:Hid (Below w.heap.size w (w.alloc (ibox ⟨3,a,n,tx⟩))):=hid ((Below.refl _ _).alloc (Nat.le_refl _) _)
 have HM:=hid (hM.next HLO.out)
 have HE:=hid (hE.next HLO.out)
 have HT:=hid (ht.next HLO.out)
 obtain ⟨j0,j1,j2,j3⟩:=ix (ibox_new w ⟨3,a,n,tx⟩)
 obtain ⟨m0,m1,m2,m3,m4,m5,m6,m7⟩:=mx HM.out
 obtain ⟨_,s0,s1,s2,_⟩:=HE.out.rows 3 (by omega) (by omega)
 dsimp only at j0 j1 j2 j3
 have hP:putsT 3=0:=rfl
 rw [hP] at s2
 simp only [Nat.reduceMul,Nat.reduceAdd] at s0 s1 s2
 have HI:=hid hi
 have HS:=hid hs
 have HR:=hid hr
 have HL:=hid hl
 have HSL:=hid hsl
 have HF:=hid hF
 obtain ⟨at9,ct9,rfl⟩:=ht.sl
 clear hM hE ht hi hs hr hl hsl hF hP s0 s1
 unfold inV
 dsimp only
 go_enter Tryz.func171,Tryz.ntmps171
 go_upto_region 2 with fail
 obtain ⟨W1,hW1⟩:∃ W,w.alloc (ibox ⟨3,a,n,tx⟩)=W:=⟨_,rfl⟩
 rw [hW1] at HLO HM HE HT j0 j1 j2 j3 m0 m1 m2 m3 m4 m5 m6 m7 s2
 unfold ibox at hW1
 rw [hW1]
 clear hW1
 go_wp2_with fail
 go_ret2
 exact ⟨rfl,HLO.out⟩
set_option maxHeartbeats 2000000 in
theorem put_4 {fns:List Fn} {f:Fn} {b:Nat} {cv pv iv xv wv:Value} {w:World} (hM:MS fns f b cv pv iv xv wv w) (hE:EnvI w) {a n:Int} {tx:ByteArray} (hi:InsR fns f ⟨4,a,n,tx⟩) {sl tk:List Int} {tv:Value} (hs:Ok10 sl) (ht:IntRow w tv tk) (hr:∀ x ∈ tk,1≤x∧x≤10) (hl:tk.length=takesN fns ⟨4,a,n,tx⟩) (hsl:sl.length=f.S) (hF:∀ g ∈ fns,FnR fns g) :
  Calls Tryz.prog 171 #[.pointer (some ⟨b,0,none⟩),inV ⟨4,a,n,tx⟩,.string (kt sl),tv] w (PutEnd fns ⟨4,a,n,tx⟩ sl tk w):=by
 have HLO:Hid (Below w.heap.size w (w.alloc (ibox ⟨4,a,n,tx⟩))):=hid ((Below.refl _ _).alloc (Nat.le_refl _) _)
 have HM:=hid (hM.next HLO.out)
 have HE:=hid (hE.next HLO.out)
 have HT:=hid (ht.next HLO.out)
 obtain ⟨j0,j1,j2,j3⟩:=ix (ibox_new w ⟨4,a,n,tx⟩)
 obtain ⟨m0,m1,m2,m3,m4,m5,m6,m7⟩:=mx HM.out
 obtain ⟨_,s0,s1,s2,_⟩:=HE.out.rows 4 (by omega) (by omega)
 dsimp only at j0 j1 j2 j3
 have hP:putsT 4=0:=rfl
 rw [hP] at s2
 simp only [Nat.reduceMul,Nat.reduceAdd] at s0 s1 s2
 have HI:=hid hi
 have HS:=hid hs
 have HR:=hid hr
 have HL:=hid hl
 have HSL:=hid hsl
 have HF:=hid hF
 obtain ⟨at9,ct9,rfl⟩:=ht.sl
 clear hM hE ht hi hs hr hl hsl hF hP s0 s1
 unfold inV
 dsimp only
 go_enter Tryz.func171,Tryz.ntmps171
 go_upto_region 2 with fail
 obtain ⟨W1,hW1⟩:∃ W,w.alloc (ibox ⟨4,a,n,tx⟩)=W:=⟨_,rfl⟩
 rw [hW1] at HLO HM HE HT j0 j1 j2 j3 m0 m1 m2 m3 m4 m5 m6 m7 s2
 unfold ibox at hW1
 rw [hW1]
 clear hW1
 go_wp2_with fail
 go_ret2
 exact ⟨rfl,HLO.out⟩
set_option maxHeartbeats 2000000 in
theorem put_10 {fns:List Fn} {f:Fn} {b:Nat} {cv pv iv xv wv:Value} {w:World} (hM:MS fns f b cv pv iv xv wv w) (hE:EnvI w) {a n:Int} {tx:ByteArray} (hi:InsR fns f ⟨10,a,n,tx⟩) {sl tk:List Int} {tv:Value} (hs:Ok10 sl) (ht:IntRow w tv tk) (hr:∀ x ∈ tk,1≤x∧x≤10) (hl:tk.length=takesN fns ⟨10,a,n,tx⟩) (hsl:sl.length=f.S) (hF:∀ g ∈ fns,FnR fns g) :
  Calls Tryz.prog 171 #[.pointer (some ⟨b,0,none⟩),inV ⟨10,a,n,tx⟩,.string (kt sl),tv] w (PutEnd fns ⟨10,a,n,tx⟩ sl tk w):=by
 have HLO:Hid (Below w.heap.size w (w.alloc (ibox ⟨10,a,n,tx⟩))):=hid ((Below.refl _ _).alloc (Nat.le_refl _) _)
 have HM:=hid (hM.next HLO.out)
 have HE:=hid (hE.next HLO.out)
 have HT:=hid (ht.next HLO.out)
 obtain ⟨j0,j1,j2,j3⟩:=ix (ibox_new w ⟨10,a,n,tx⟩)
 obtain ⟨m0,m1,m2,m3,m4,m5,m6,m7⟩:=mx HM.out
 obtain ⟨_,s0,s1,s2,_⟩:=HE.out.rows 10 (by omega) (by omega)
 dsimp only at j0 j1 j2 j3
 have hP:putsT 10=0:=rfl
 rw [hP] at s2
 simp only [Nat.reduceMul,Nat.reduceAdd] at s0 s1 s2
 have HI:=hid hi
 have HS:=hid hs
 have HR:=hid hr
 have HL:=hid hl
 have HSL:=hid hsl
 have HF:=hid hF
 obtain ⟨at9,ct9,rfl⟩:=ht.sl
 clear hM hE ht hi hs hr hl hsl hF hP s0 s1
 unfold inV
 dsimp only
 go_enter Tryz.func171,Tryz.ntmps171
 go_upto_region 2 with fail
 obtain ⟨W1,hW1⟩:∃ W,w.alloc (ibox ⟨10,a,n,tx⟩)=W:=⟨_,rfl⟩
 rw [hW1] at HLO HM HE HT j0 j1 j2 j3 m0 m1 m2 m3 m4 m5 m6 m7 s2
 unfold ibox at hW1
 rw [hW1]
 clear hW1
 go_wp2_with fail
 go_ret2
 exact ⟨rfl,HLO.out⟩
set_option maxHeartbeats 2000000 in
theorem put_11 {fns:List Fn} {f:Fn} {b:Nat} {cv pv iv xv wv:Value} {w:World} (hM:MS fns f b cv pv iv xv wv w) (hE:EnvI w) {a n:Int} {tx:ByteArray} (hi:InsR fns f ⟨11,a,n,tx⟩) {sl tk:List Int} {tv:Value} (hs:Ok10 sl) (ht:IntRow w tv tk) (hr:∀ x ∈ tk,1≤x∧x≤10) (hl:tk.length=takesN fns ⟨11,a,n,tx⟩) (hsl:sl.length=f.S) (hF:∀ g ∈ fns,FnR fns g) :
  Calls Tryz.prog 171 #[.pointer (some ⟨b,0,none⟩),inV ⟨11,a,n,tx⟩,.string (kt sl),tv] w (PutEnd fns ⟨11,a,n,tx⟩ sl tk w):=by
 have HLO:Hid (Below w.heap.size w (w.alloc (ibox ⟨11,a,n,tx⟩))):=hid ((Below.refl _ _).alloc (Nat.le_refl _) _)
 have HM:=hid (hM.next HLO.out)
 have HE:=hid (hE.next HLO.out)
 have HT:=hid (ht.next HLO.out)
 obtain ⟨j0,j1,j2,j3⟩:=ix (ibox_new w ⟨11,a,n,tx⟩)
 obtain ⟨m0,m1,m2,m3,m4,m5,m6,m7⟩:=mx HM.out
 obtain ⟨_,s0,s1,s2,_⟩:=HE.out.rows 11 (by omega) (by omega)
 dsimp only at j0 j1 j2 j3
 have hP:putsT 11=0:=rfl
 rw [hP] at s2
 simp only [Nat.reduceMul,Nat.reduceAdd] at s0 s1 s2
 have HI:=hid hi
 have HS:=hid hs
 have HR:=hid hr
 have HL:=hid hl
 have HSL:=hid hsl
 have HF:=hid hF
 obtain ⟨at9,ct9,rfl⟩:=ht.sl
 clear hM hE ht hi hs hr hl hsl hF hP s0 s1
 unfold inV
 dsimp only
 go_enter Tryz.func171,Tryz.ntmps171
 go_upto_region 2 with fail
 obtain ⟨W1,hW1⟩:∃ W,w.alloc (ibox ⟨11,a,n,tx⟩)=W:=⟨_,rfl⟩
 rw [hW1] at HLO HM HE HT j0 j1 j2 j3 m0 m1 m2 m3 m4 m5 m6 m7 s2
 unfold ibox at hW1
 rw [hW1]
 clear hW1
 go_wp2_with fail
 go_ret2
 exact ⟨rfl,HLO.out⟩
set_option maxHeartbeats 2000000 in
theorem put_12 {fns:List Fn} {f:Fn} {b:Nat} {cv pv iv xv wv:Value} {w:World} (hM:MS fns f b cv pv iv xv wv w) (hE:EnvI w) {a n:Int} {tx:ByteArray} (hi:InsR fns f ⟨12,a,n,tx⟩) {sl tk:List Int} {tv:Value} (hs:Ok10 sl) (ht:IntRow w tv tk) (hr:∀ x ∈ tk,1≤x∧x≤10) (hl:tk.length=takesN fns ⟨12,a,n,tx⟩) (hsl:sl.length=f.S) (hF:∀ g ∈ fns,FnR fns g) :
  Calls Tryz.prog 171 #[.pointer (some ⟨b,0,none⟩),inV ⟨12,a,n,tx⟩,.string (kt sl),tv] w (PutEnd fns ⟨12,a,n,tx⟩ sl tk w):=by
 have HLO:Hid (Below w.heap.size w (w.alloc (ibox ⟨12,a,n,tx⟩))):=hid ((Below.refl _ _).alloc (Nat.le_refl _) _)
 have HM:=hid (hM.next HLO.out)
 have HE:=hid (hE.next HLO.out)
 have HT:=hid (ht.next HLO.out)
 obtain ⟨j0,j1,j2,j3⟩:=ix (ibox_new w ⟨12,a,n,tx⟩)
 obtain ⟨m0,m1,m2,m3,m4,m5,m6,m7⟩:=mx HM.out
 obtain ⟨_,s0,s1,s2,_⟩:=HE.out.rows 12 (by omega) (by omega)
 dsimp only at j0 j1 j2 j3
 have hP:putsT 12=0:=rfl
 rw [hP] at s2
 simp only [Nat.reduceMul,Nat.reduceAdd] at s0 s1 s2
 have HI:=hid hi
 have HS:=hid hs
 have HR:=hid hr
 have HL:=hid hl
 have HSL:=hid hsl
 have HF:=hid hF
 obtain ⟨at9,ct9,rfl⟩:=ht.sl
 clear hM hE ht hi hs hr hl hsl hF hP s0 s1
 unfold inV
 dsimp only
 go_enter Tryz.func171,Tryz.ntmps171
 go_upto_region 2 with fail
 obtain ⟨W1,hW1⟩:∃ W,w.alloc (ibox ⟨12,a,n,tx⟩)=W:=⟨_,rfl⟩
 rw [hW1] at HLO HM HE HT j0 j1 j2 j3 m0 m1 m2 m3 m4 m5 m6 m7 s2
 unfold ibox at hW1
 rw [hW1]
 clear hW1
 go_wp2_with fail
 go_ret2
 exact ⟨rfl,HLO.out⟩
set_option maxHeartbeats 2000000 in
theorem put_13 {fns:List Fn} {f:Fn} {b:Nat} {cv pv iv xv wv:Value} {w:World} (hM:MS fns f b cv pv iv xv wv w) (hE:EnvI w) {a n:Int} {tx:ByteArray} (hi:InsR fns f ⟨13,a,n,tx⟩) {sl tk:List Int} {tv:Value} (hs:Ok10 sl) (ht:IntRow w tv tk) (hr:∀ x ∈ tk,1≤x∧x≤10) (hl:tk.length=takesN fns ⟨13,a,n,tx⟩) (hsl:sl.length=f.S) (hF:∀ g ∈ fns,FnR fns g) :
  Calls Tryz.prog 171 #[.pointer (some ⟨b,0,none⟩),inV ⟨13,a,n,tx⟩,.string (kt sl),tv] w (PutEnd fns ⟨13,a,n,tx⟩ sl tk w):=by
 have HLO:Hid (Below w.heap.size w (w.alloc (ibox ⟨13,a,n,tx⟩))):=hid ((Below.refl _ _).alloc (Nat.le_refl _) _)
 have HM:=hid (hM.next HLO.out)
 have HE:=hid (hE.next HLO.out)
 have HT:=hid (ht.next HLO.out)
 obtain ⟨j0,j1,j2,j3⟩:=ix (ibox_new w ⟨13,a,n,tx⟩)
 obtain ⟨m0,m1,m2,m3,m4,m5,m6,m7⟩:=mx HM.out
 obtain ⟨_,s0,s1,s2,_⟩:=HE.out.rows 13 (by omega) (by omega)
 dsimp only at j0 j1 j2 j3
 have hP:putsT 13=0:=rfl
 rw [hP] at s2
 simp only [Nat.reduceMul,Nat.reduceAdd] at s0 s1 s2
 have HI:=hid hi
 have HS:=hid hs
 have HR:=hid hr
 have HL:=hid hl
 have HSL:=hid hsl
 have HF:=hid hF
 obtain ⟨at9,ct9,rfl⟩:=ht.sl
 clear hM hE ht hi hs hr hl hsl hF hP s0 s1
 unfold inV
 dsimp only
 go_enter Tryz.func171,Tryz.ntmps171
 go_upto_region 2 with fail
 obtain ⟨W1,hW1⟩:∃ W,w.alloc (ibox ⟨13,a,n,tx⟩)=W:=⟨_,rfl⟩
 rw [hW1] at HLO HM HE HT j0 j1 j2 j3 m0 m1 m2 m3 m4 m5 m6 m7 s2
 unfold ibox at hW1
 rw [hW1]
 clear hW1
 go_wp2_with fail
 go_ret2
 exact ⟨rfl,HLO.out⟩
set_option maxHeartbeats 2000000 in
theorem put_14 {fns:List Fn} {f:Fn} {b:Nat} {cv pv iv xv wv:Value} {w:World} (hM:MS fns f b cv pv iv xv wv w) (hE:EnvI w) {a n:Int} {tx:ByteArray} (hi:InsR fns f ⟨14,a,n,tx⟩) {sl tk:List Int} {tv:Value} (hs:Ok10 sl) (ht:IntRow w tv tk) (hr:∀ x ∈ tk,1≤x∧x≤10) (hl:tk.length=takesN fns ⟨14,a,n,tx⟩) (hsl:sl.length=f.S) (hF:∀ g ∈ fns,FnR fns g) :
  Calls Tryz.prog 171 #[.pointer (some ⟨b,0,none⟩),inV ⟨14,a,n,tx⟩,.string (kt sl),tv] w (PutEnd fns ⟨14,a,n,tx⟩ sl tk w):=by
 have HLO:Hid (Below w.heap.size w (w.alloc (ibox ⟨14,a,n,tx⟩))):=hid ((Below.refl _ _).alloc (Nat.le_refl _) _)
 have HM:=hid (hM.next HLO.out)
 have HE:=hid (hE.next HLO.out)
 have HT:=hid (ht.next HLO.out)
 obtain ⟨j0,j1,j2,j3⟩:=ix (ibox_new w ⟨14,a,n,tx⟩)
 obtain ⟨m0,m1,m2,m3,m4,m5,m6,m7⟩:=mx HM.out
 obtain ⟨_,s0,s1,s2,_⟩:=HE.out.rows 14 (by omega) (by omega)
 dsimp only at j0 j1 j2 j3
 have hP:putsT 14=0:=rfl
 rw [hP] at s2
 simp only [Nat.reduceMul,Nat.reduceAdd] at s0 s1 s2
 have HI:=hid hi
 have HS:=hid hs
 have HR:=hid hr
 have HL:=hid hl
 have HSL:=hid hsl
 have HF:=hid hF
 obtain ⟨at9,ct9,rfl⟩:=ht.sl
 clear hM hE ht hi hs hr hl hsl hF hP s0 s1
 unfold inV
 dsimp only
 go_enter Tryz.func171,Tryz.ntmps171
 go_upto_region 2 with fail
 obtain ⟨W1,hW1⟩:∃ W,w.alloc (ibox ⟨14,a,n,tx⟩)=W:=⟨_,rfl⟩
 rw [hW1] at HLO HM HE HT j0 j1 j2 j3 m0 m1 m2 m3 m4 m5 m6 m7 s2
 unfold ibox at hW1
 rw [hW1]
 clear hW1
 go_wp2_with fail
 go_ret2
 exact ⟨rfl,HLO.out⟩
set_option maxHeartbeats 2000000 in
theorem put_15 {fns:List Fn} {f:Fn} {b:Nat} {cv pv iv xv wv:Value} {w:World} (hM:MS fns f b cv pv iv xv wv w) (hE:EnvI w) {a n:Int} {tx:ByteArray} (hi:InsR fns f ⟨15,a,n,tx⟩) {sl tk:List Int} {tv:Value} (hs:Ok10 sl) (ht:IntRow w tv tk) (hr:∀ x ∈ tk,1≤x∧x≤10) (hl:tk.length=takesN fns ⟨15,a,n,tx⟩) (hsl:sl.length=f.S) (hF:∀ g ∈ fns,FnR fns g) :
  Calls Tryz.prog 171 #[.pointer (some ⟨b,0,none⟩),inV ⟨15,a,n,tx⟩,.string (kt sl),tv] w (PutEnd fns ⟨15,a,n,tx⟩ sl tk w):=by
 have HLO:Hid (Below w.heap.size w (w.alloc (ibox ⟨15,a,n,tx⟩))):=hid ((Below.refl _ _).alloc (Nat.le_refl _) _)
 have HM:=hid (hM.next HLO.out)
 have HE:=hid (hE.next HLO.out)
 have HT:=hid (ht.next HLO.out)
 obtain ⟨j0,j1,j2,j3⟩:=ix (ibox_new w ⟨15,a,n,tx⟩)
 obtain ⟨m0,m1,m2,m3,m4,m5,m6,m7⟩:=mx HM.out
 obtain ⟨_,s0,s1,s2,_⟩:=HE.out.rows 15 (by omega) (by omega)
 dsimp only at j0 j1 j2 j3
 have hP:putsT 15=0:=rfl
 rw [hP] at s2
 simp only [Nat.reduceMul,Nat.reduceAdd] at s0 s1 s2
 have HI:=hid hi
 have HS:=hid hs
 have HR:=hid hr
 have HL:=hid hl
 have HSL:=hid hsl
 have HF:=hid hF
 obtain ⟨at9,ct9,rfl⟩:=ht.sl
 clear hM hE ht hi hs hr hl hsl hF hP s0 s1
 unfold inV
 dsimp only
 go_enter Tryz.func171,Tryz.ntmps171
 go_upto_region 2 with fail
 obtain ⟨W1,hW1⟩:∃ W,w.alloc (ibox ⟨15,a,n,tx⟩)=W:=⟨_,rfl⟩
 rw [hW1] at HLO HM HE HT j0 j1 j2 j3 m0 m1 m2 m3 m4 m5 m6 m7 s2
 unfold ibox at hW1
 rw [hW1]
 clear hW1
 go_wp2_with fail
 go_ret2
 exact ⟨rfl,HLO.out⟩
set_option maxHeartbeats 2000000 in
theorem put_16 {fns:List Fn} {f:Fn} {b:Nat} {cv pv iv xv wv:Value} {w:World} (hM:MS fns f b cv pv iv xv wv w) (hE:EnvI w) {a n:Int} {tx:ByteArray} (hi:InsR fns f ⟨16,a,n,tx⟩) {sl tk:List Int} {tv:Value} (hs:Ok10 sl) (ht:IntRow w tv tk) (hr:∀ x ∈ tk,1≤x∧x≤10) (hl:tk.length=takesN fns ⟨16,a,n,tx⟩) (hsl:sl.length=f.S) (hF:∀ g ∈ fns,FnR fns g) :
  Calls Tryz.prog 171 #[.pointer (some ⟨b,0,none⟩),inV ⟨16,a,n,tx⟩,.string (kt sl),tv] w (PutEnd fns ⟨16,a,n,tx⟩ sl tk w):=by
 have HLO:Hid (Below w.heap.size w (w.alloc (ibox ⟨16,a,n,tx⟩))):=hid ((Below.refl _ _).alloc (Nat.le_refl _) _)
 have HM:=hid (hM.next HLO.out)
 have HE:=hid (hE.next HLO.out)
 have HT:=hid (ht.next HLO.out)
 obtain ⟨j0,j1,j2,j3⟩:=ix (ibox_new w ⟨16,a,n,tx⟩)
 obtain ⟨m0,m1,m2,m3,m4,m5,m6,m7⟩:=mx HM.out
 obtain ⟨_,s0,s1,s2,_⟩:=HE.out.rows 16 (by omega) (by omega)
 dsimp only at j0 j1 j2 j3
 have hP:putsT 16=0:=rfl
 rw [hP] at s2
 simp only [Nat.reduceMul,Nat.reduceAdd] at s0 s1 s2
 have HI:=hid hi
 have HS:=hid hs
 have HR:=hid hr
 have HL:=hid hl
 have HSL:=hid hsl
 have HF:=hid hF
 obtain ⟨at9,ct9,rfl⟩:=ht.sl
 clear hM hE ht hi hs hr hl hsl hF hP s0 s1
 unfold inV
 dsimp only
 go_enter Tryz.func171,Tryz.ntmps171
 go_upto_region 2 with fail
 obtain ⟨W1,hW1⟩:∃ W,w.alloc (ibox ⟨16,a,n,tx⟩)=W:=⟨_,rfl⟩
 rw [hW1] at HLO HM HE HT j0 j1 j2 j3 m0 m1 m2 m3 m4 m5 m6 m7 s2
 unfold ibox at hW1
 rw [hW1]
 clear hW1
 go_wp2_with fail
 go_ret2
 exact ⟨rfl,HLO.out⟩
set_option maxHeartbeats 2000000 in
theorem put_1 {fns:List Fn} {f:Fn} {b:Nat} {cv pv iv xv wv:Value} {w:World} (hM:MS fns f b cv pv iv xv wv w) (hE:EnvI w) {a n:Int} {tx:ByteArray} (hi:InsR fns f ⟨1,a,n,tx⟩) {sl tk:List Int} {tv:Value} (hs:Ok10 sl) (ht:IntRow w tv tk) (hr:∀ x ∈ tk,1≤x∧x≤10) (hl:tk.length=takesN fns ⟨1,a,n,tx⟩) (hsl:sl.length=f.S) (hF:∀ g ∈ fns,FnR fns g) :
  Calls Tryz.prog 171 #[.pointer (some ⟨b,0,none⟩),inV ⟨1,a,n,tx⟩,.string (kt sl),tv] w (PutEnd fns ⟨1,a,n,tx⟩ sl tk w):=by
 have HLO:Hid (Below w.heap.size w (w.alloc (ibox ⟨1,a,n,tx⟩))):=hid ((Below.refl _ _).alloc (Nat.le_refl _) _)
 have HM:=hid (hM.next HLO.out)
 have HE:=hid (hE.next HLO.out)
 have HT:=hid (ht.next HLO.out)
 obtain ⟨j0,j1,j2,j3⟩:=ix (ibox_new w ⟨1,a,n,tx⟩)
 obtain ⟨m0,m1,m2,m3,m4,m5,m6,m7⟩:=mx HM.out
 obtain ⟨_,s0,s1,s2,_⟩:=HE.out.rows 1 (by omega) (by omega)
 dsimp only at j0 j1 j2 j3
 have hP:putsT 1=1:=rfl
 rw [hP] at s2
 simp only [Nat.reduceMul,Nat.reduceAdd] at s0 s1 s2
 have HI:=hid hi
 have HS:=hid hs
 have HR:=hid hr
 have HL:=hid hl
 have HSL:=hid hsl
 have HF:=hid hF
 obtain ⟨at9,ct9,rfl⟩:=ht.sl
 clear hM hE ht hi hs hr hl hsl hF hP s0 s1
 unfold inV
 dsimp only
 go_enter Tryz.func171,Tryz.ntmps171
 go_upto_region 2 with fail
 obtain ⟨W1,hW1⟩:∃ W,w.alloc (ibox ⟨1,a,n,tx⟩)=W:=⟨_,rfl⟩
 rw [hW1] at HLO HM HE HT j0 j1 j2 j3 m0 m1 m2 m3 m4 m5 m6 m7 s2
 unfold ibox at hW1
 rw [hW1]
 clear hW1
 have HY:Hid (0≤a∧a≤10):=hid (by have:=HI.out.push rfl;dsimp only at this;omega)
 have HK:Hid (putK fns ⟨1,a,n,tx⟩ sl tk=a):=hid rfl
 go_wp2_with (go_at_call 172;refine (kindText_any _ HY.out _).mono ?_;rintro e w5 ⟨rfl,hb5⟩;have HB5:=hid (HLO.out.trans (hb5.mono (HLO.out).size));clear hb5)
 go_ret2
 have hz:=put_end (fns:=fns) (i:=⟨1,a,n,tx⟩) (sl:=sl) (tk:=tk) HB5.out (show ¬ putsT 1=0 by decide) (by simp) HK.out
 simpa [bne] using hz
set_option maxHeartbeats 2000000 in
theorem put_7 {fns:List Fn} {f:Fn} {b:Nat} {cv pv iv xv wv:Value} {w:World} (hM:MS fns f b cv pv iv xv wv w) (hE:EnvI w) {a n:Int} {tx:ByteArray} (hi:InsR fns f ⟨7,a,n,tx⟩) {sl tk:List Int} {tv:Value} (hs:Ok10 sl) (ht:IntRow w tv tk) (hr:∀ x ∈ tk,1≤x∧x≤10) (hl:tk.length=takesN fns ⟨7,a,n,tx⟩) (hsl:sl.length=f.S) (hF:∀ g ∈ fns,FnR fns g) :
  Calls Tryz.prog 171 #[.pointer (some ⟨b,0,none⟩),inV ⟨7,a,n,tx⟩,.string (kt sl),tv] w (PutEnd fns ⟨7,a,n,tx⟩ sl tk w):=by
 have HLO:Hid (Below w.heap.size w (w.alloc (ibox ⟨7,a,n,tx⟩))):=hid ((Below.refl _ _).alloc (Nat.le_refl _) _)
 have HM:=hid (hM.next HLO.out)
 have HE:=hid (hE.next HLO.out)
 have HT:=hid (ht.next HLO.out)
 obtain ⟨j0,j1,j2,j3⟩:=ix (ibox_new w ⟨7,a,n,tx⟩)
 obtain ⟨m0,m1,m2,m3,m4,m5,m6,m7⟩:=mx HM.out
 obtain ⟨_,s0,s1,s2,_⟩:=HE.out.rows 7 (by omega) (by omega)
 dsimp only at j0 j1 j2 j3
 have hP:putsT 7=1:=rfl
 rw [hP] at s2
 simp only [Nat.reduceMul,Nat.reduceAdd] at s0 s1 s2
 have HI:=hid hi
 have HS:=hid hs
 have HR:=hid hr
 have HL:=hid hl
 have HSL:=hid hsl
 have HF:=hid hF
 obtain ⟨at9,ct9,rfl⟩:=ht.sl
 clear hM hE ht hi hs hr hl hsl hF hP s0 s1
 unfold inV
 dsimp only
 go_enter Tryz.func171,Tryz.ntmps171
 go_upto_region 2 with fail
 obtain ⟨W1,hW1⟩:∃ W,w.alloc (ibox ⟨7,a,n,tx⟩)=W:=⟨_,rfl⟩
 rw [hW1] at HLO HM HE HT j0 j1 j2 j3 m0 m1 m2 m3 m4 m5 m6 m7 s2
 unfold ibox at hW1
 rw [hW1]
 clear hW1
 have HY:Hid (0≤a∧a≤10):=hid (by have:=HI.out.conv rfl;dsimp only at this;omega)
 have HK:Hid (putK fns ⟨7,a,n,tx⟩ sl tk=a):=hid rfl
 go_wp2_with (go_at_call 172;refine (kindText_any _ HY.out _).mono ?_;rintro e w5 ⟨rfl,hb5⟩;have HB5:=hid (HLO.out.trans (hb5.mono (HLO.out).size));clear hb5)
 go_ret2
 have hz:=put_end (fns:=fns) (i:=⟨7,a,n,tx⟩) (sl:=sl) (tk:=tk) HB5.out (show ¬ putsT 7=0 by decide) (by simp) HK.out
 simpa [bne] using hz
set_option maxHeartbeats 2000000 in
theorem put_2 {fns:List Fn} {f:Fn} {b:Nat} {cv pv iv xv wv:Value} {w:World} (hM:MS fns f b cv pv iv xv wv w) (hE:EnvI w) {a n:Int} {tx:ByteArray} (hi:InsR fns f ⟨2,a,n,tx⟩) {sl tk:List Int} {tv:Value} (hs:Ok10 sl) (ht:IntRow w tv tk) (hr:∀ x ∈ tk,1≤x∧x≤10) (hl:tk.length=takesN fns ⟨2,a,n,tx⟩) (hsl:sl.length=f.S) (hF:∀ g ∈ fns,FnR fns g) :
  Calls Tryz.prog 171 #[.pointer (some ⟨b,0,none⟩),inV ⟨2,a,n,tx⟩,.string (kt sl),tv] w (PutEnd fns ⟨2,a,n,tx⟩ sl tk w):=by
 have HLO:Hid (Below w.heap.size w (w.alloc (ibox ⟨2,a,n,tx⟩))):=hid ((Below.refl _ _).alloc (Nat.le_refl _) _)
 have HM:=hid (hM.next HLO.out)
 have HE:=hid (hE.next HLO.out)
 have HT:=hid (ht.next HLO.out)
 obtain ⟨j0,j1,j2,j3⟩:=ix (ibox_new w ⟨2,a,n,tx⟩)
 obtain ⟨m0,m1,m2,m3,m4,m5,m6,m7⟩:=mx HM.out
 obtain ⟨_,s0,s1,s2,_⟩:=HE.out.rows 2 (by omega) (by omega)
 dsimp only at j0 j1 j2 j3
 have hP:putsT 2=2:=rfl
 rw [hP] at s2
 simp only [Nat.reduceMul,Nat.reduceAdd] at s0 s1 s2
 have HI:=hid hi
 have HS:=hid hs
 have HR:=hid hr
 have HL:=hid hl
 have HSL:=hid hsl
 have HF:=hid hF
 obtain ⟨at9,ct9,rfl⟩:=ht.sl
 clear hM hE ht hi hs hr hl hsl hF hP s0 s1
 unfold inV
 dsimp only
 go_enter Tryz.func171,Tryz.ntmps171
 go_upto_region 2 with fail
 obtain ⟨W1,hW1⟩:∃ W,w.alloc (ibox ⟨2,a,n,tx⟩)=W:=⟨_,rfl⟩
 rw [hW1] at HLO HM HE HT j0 j1 j2 j3 m0 m1 m2 m3 m4 m5 m6 m7 s2
 unfold ibox at hW1
 rw [hW1]
 clear hW1
 have hb:=HI.out.slot (.inl rfl)
 dsimp only at hb
 obtain ⟨q,rfl⟩:∃ q:Nat,a=q:=⟨a.toNat,by omega⟩
 have hq:q < sl.length:=by rw [HSL.out];unfold Fn.S;omega
 have hq2:q < (kt sl).size:=by rw [kt_size];exact hq
 have hq3:(q:Int) < ((kt sl).size:Int):=by omega
 have hyv:=kt_get HS.out hq2
 have hr9:=getD_range0 HS.out q
 obtain ⟨y,hy⟩:∃ y,sl.getD q 0=y:=⟨_,rfl⟩
 rw [hy] at hyv hr9
 have HY:=hid hr9
 have hwy:IntKind.i64.wrap y=y:=by rw [IntKind.wrap_i64];omega
 have HK:Hid (putK fns ⟨2,(q:Int),n,tx⟩ sl tk=y):=hid (by rw [← hy];rfl)
 clear hb hy hr9
 go_wp2_with (go_at_call 172;refine (kindText_any _ HY.out _).mono ?_;rintro e w5 ⟨rfl,hb5⟩;have HB5:=hid (HLO.out.trans (hb5.mono (HLO.out).size));clear hb5)
 go_ret2
 have hz:=put_end (fns:=fns) (i:=⟨2,(q:Int),n,tx⟩) (sl:=sl) (tk:=tk) HB5.out (show ¬ putsT 2=0 by decide) (by simp) HK.out
 simpa [bne] using hz
set_option maxHeartbeats 2000000 in
theorem put_5 {fns:List Fn} {f:Fn} {b:Nat} {cv pv iv xv wv:Value} {w:World} (hM:MS fns f b cv pv iv xv wv w) (hE:EnvI w) {a n:Int} {tx:ByteArray} (hi:InsR fns f ⟨5,a,n,tx⟩) {sl tk:List Int} {tv:Value} (hs:Ok10 sl) (ht:IntRow w tv tk) (hr:∀ x ∈ tk,1≤x∧x≤10) (hl:tk.length=takesN fns ⟨5,a,n,tx⟩) (hsl:sl.length=f.S) (hF:∀ g ∈ fns,FnR fns g) :
  Calls Tryz.prog 171 #[.pointer (some ⟨b,0,none⟩),inV ⟨5,a,n,tx⟩,.string (kt sl),tv] w (PutEnd fns ⟨5,a,n,tx⟩ sl tk w):=by
 have HLO:Hid (Below w.heap.size w (w.alloc (ibox ⟨5,a,n,tx⟩))):=hid ((Below.refl _ _).alloc (Nat.le_refl _) _)
 have HM:=hid (hM.next HLO.out)
 have HE:=hid (hE.next HLO.out)
 have HT:=hid (ht.next HLO.out)
 obtain ⟨j0,j1,j2,j3⟩:=ix (ibox_new w ⟨5,a,n,tx⟩)
 obtain ⟨m0,m1,m2,m3,m4,m5,m6,m7⟩:=mx HM.out
 obtain ⟨_,s0,s1,s2,_⟩:=HE.out.rows 5 (by omega) (by omega)
 dsimp only at j0 j1 j2 j3
 have hP:putsT 5=3:=rfl
 rw [hP] at s2
 simp only [Nat.reduceMul,Nat.reduceAdd] at s0 s1 s2
 have HI:=hid hi
 have HS:=hid hs
 have HR:=hid hr
 have HL:=hid hl
 have HSL:=hid hsl
 have HF:=hid hF
 obtain ⟨at9,ct9,rfl⟩:=ht.sl
 clear hM hE ht hi hs hr hl hsl hF hP s0 s1
 unfold inV
 dsimp only
 go_enter Tryz.func171,Tryz.ntmps171
 go_upto_region 2 with fail
 obtain ⟨W1,hW1⟩:∃ W,w.alloc (ibox ⟨5,a,n,tx⟩)=W:=⟨_,rfl⟩
 rw [hW1] at HLO HM HE HT j0 j1 j2 j3 m0 m1 m2 m3 m4 m5 m6 m7 s2
 unfold ibox at hW1
 rw [hW1]
 clear hW1
 have ht1:tk.length=1:=by rw [HL.out];rfl
 obtain ⟨gT,cT,e9,_,_,_,hcT⟩:=HT.out.at (i:=0) (by omega)
 injection e9 with ea en ec
 clear en
 subst ea ec
 have kT:=hcT 0 (by omega)
 obtain ⟨x,hx⟩:∃ x,tk.getD 0 0=x:=⟨_,rfl⟩
 rw [hx] at kT
 have hxr:0≤x∧x≤10:=by rw [← hx];exact getD_range HR.out 0
 have HK:Hid (putK fns ⟨5,a,n,tx⟩ sl tk=unG a x):=hid (by rw [← hx];rfl)
 have HY:Hid (0≤unG a x∧unG a x≤10):=hid (unG_range hxr)
 have hti:(0:Int) < (tk.length:Int):=by omega
 have htn:0 < tk.length:=by omega
 have HC:=hid (fun W=>unGives_any a x W)
 obtain ⟨y,hy⟩:∃ y,unG a x=y:=⟨_,rfl⟩
 rw [hy] at HK HY HC
 obtain ⟨L,hL⟩:∃ L,tk.length=L:=⟨_,rfl⟩
 rw [hL] at hti htn ⊢
 clear hcT hx hy hxr ht1 hL
 go_wp2_with fail
 go_quiet (first | (go_at_call 190;exact Calls.quiet_of_same (HC.out _)) | fail)
 go_wp2_with (go_at_call 172;refine (kindText_any _ HY.out _).mono ?_;rintro e w5 ⟨rfl,hb5⟩;have HB5:=hid ((below_drewN HLO.out _).trans (hb5.mono (below_drewN HLO.out _).size));clear hb5)
 go_ret2
 have hz:=put_end (fns:=fns) (i:=⟨5,a,n,tx⟩) (sl:=sl) (tk:=tk) HB5.out (show ¬ putsT 5=0 by decide) (by simp) HK.out
 simpa [bne] using hz
set_option maxHeartbeats 2000000 in
theorem put_6 {fns:List Fn} {f:Fn} {b:Nat} {cv pv iv xv wv:Value} {w:World} (hM:MS fns f b cv pv iv xv wv w) (hE:EnvI w) {a n:Int} {tx:ByteArray} (hi:InsR fns f ⟨6,a,n,tx⟩) {sl tk:List Int} {tv:Value} (hs:Ok10 sl) (ht:IntRow w tv tk) (hr:∀ x ∈ tk,1≤x∧x≤10) (hl:tk.length=takesN fns ⟨6,a,n,tx⟩) (hsl:sl.length=f.S) (hF:∀ g ∈ fns,FnR fns g) :
  Calls Tryz.prog 171 #[.pointer (some ⟨b,0,none⟩),inV ⟨6,a,n,tx⟩,.string (kt sl),tv] w (PutEnd fns ⟨6,a,n,tx⟩ sl tk w):=by
 have HLO:Hid (Below w.heap.size w (w.alloc (ibox ⟨6,a,n,tx⟩))):=hid ((Below.refl _ _).alloc (Nat.le_refl _) _)
 have HM:=hid (hM.next HLO.out)
 have HE:=hid (hE.next HLO.out)
 have HT:=hid (ht.next HLO.out)
 obtain ⟨j0,j1,j2,j3⟩:=ix (ibox_new w ⟨6,a,n,tx⟩)
 obtain ⟨m0,m1,m2,m3,m4,m5,m6,m7⟩:=mx HM.out
 obtain ⟨_,s0,s1,s2,_⟩:=HE.out.rows 6 (by omega) (by omega)
 dsimp only at j0 j1 j2 j3
 have hP:putsT 6=4:=rfl
 rw [hP] at s2
 simp only [Nat.reduceMul,Nat.reduceAdd] at s0 s1 s2
 have HI:=hid hi
 have HS:=hid hs
 have HR:=hid hr
 have HL:=hid hl
 have HSL:=hid hsl
 have HF:=hid hF
 obtain ⟨at9,ct9,rfl⟩:=ht.sl
 clear hM hE ht hi hs hr hl hsl hF hP s0 s1
 unfold inV
 dsimp only
 go_enter Tryz.func171,Tryz.ntmps171
 go_upto_region 2 with fail
 obtain ⟨W1,hW1⟩:∃ W,w.alloc (ibox ⟨6,a,n,tx⟩)=W:=⟨_,rfl⟩
 rw [hW1] at HLO HM HE HT j0 j1 j2 j3 m0 m1 m2 m3 m4 m5 m6 m7 s2
 unfold ibox at hW1
 rw [hW1]
 clear hW1
 have ht1:tk.length=2:=by rw [HL.out];rfl
 obtain ⟨gT,cT,e9,_,_,_,hcT⟩:=HT.out.at (i:=0) (by omega)
 injection e9 with ea en ec
 clear en
 subst ea ec
 have kT:=hcT 0 (by omega)
 have kT2:=hcT 1 (by omega)
 obtain ⟨x,hx⟩:∃ x,tk.getD 0 0=x:=⟨_,rfl⟩
 obtain ⟨x2,hx2⟩:∃ x,tk.getD 1 0=x:=⟨_,rfl⟩
 rw [hx] at kT
 rw [hx2] at kT2
 have hxr:0≤x∧x≤10:=by rw [← hx];exact getD_range HR.out 0
 have HK:Hid (putK fns ⟨6,a,n,tx⟩ sl tk=binG a x x2):=hid (by rw [← hx,← hx2];rfl)
 have HY:Hid (0≤binG a x x2∧binG a x x2≤10):=hid (binG_range hxr)
 have hti:(0:Int) < (tk.length:Int):=by omega
 have htn:0 < tk.length:=by omega
 have hti1:(1:Int) < (tk.length:Int):=by omega
 have htn1:1 < tk.length:=by omega
 have hb:=HI.out.bin rfl
 dsimp only at hb
 have HC:=hid (fun W=>binGives_any a x x2 hxr hb W)
 obtain ⟨y,hy⟩:∃ y,binG a x x2=y:=⟨_,rfl⟩
 rw [hy] at HK HY HC
 obtain ⟨L,hL⟩:∃ L,tk.length=L:=⟨_,rfl⟩
 rw [hL] at hti htn hti1 htn1 ⊢
 clear hcT hx hx2 hy hxr ht1 hL hb
 go_wp2_with fail
 go_quiet (first | (go_at_call 191;exact Calls.quiet_of_same (HC.out _)) | fail)
 go_wp2_with (go_at_call 172;refine (kindText_any _ HY.out _).mono ?_;rintro e w5 ⟨rfl,hb5⟩;have HB5:=hid ((below_drewN HLO.out _).trans (hb5.mono (below_drewN HLO.out _).size));clear hb5)
 go_ret2
 have hz:=put_end (fns:=fns) (i:=⟨6,a,n,tx⟩) (sl:=sl) (tk:=tk) HB5.out (show ¬ putsT 6=0 by decide) (by simp) HK.out
 simpa [bne] using hz
set_option maxHeartbeats 2000000 in
theorem put_8 {fns:List Fn} {f:Fn} {b:Nat} {cv pv iv xv wv:Value} {w:World} (hM:MS fns f b cv pv iv xv wv w) (hE:EnvI w) {a n:Int} {tx:ByteArray} (hi:InsR fns f ⟨8,a,n,tx⟩) {sl tk:List Int} {tv:Value} (hs:Ok10 sl) (ht:IntRow w tv tk) (hr:∀ x ∈ tk,1≤x∧x≤10) (hl:tk.length=takesN fns ⟨8,a,n,tx⟩) (hsl:sl.length=f.S) (hF:∀ g ∈ fns,FnR fns g) :
  Calls Tryz.prog 171 #[.pointer (some ⟨b,0,none⟩),inV ⟨8,a,n,tx⟩,.string (kt sl),tv] w (PutEnd fns ⟨8,a,n,tx⟩ sl tk w):=by
 have HLO:Hid (Below w.heap.size w (w.alloc (ibox ⟨8,a,n,tx⟩))):=hid ((Below.refl _ _).alloc (Nat.le_refl _) _)
 have HM:=hid (hM.next HLO.out)
 have HE:=hid (hE.next HLO.out)
 have HT:=hid (ht.next HLO.out)
 obtain ⟨j0,j1,j2,j3⟩:=ix (ibox_new w ⟨8,a,n,tx⟩)
 obtain ⟨m0,m1,m2,m3,m4,m5,m6,m7⟩:=mx HM.out
 obtain ⟨_,s0,s1,s2,_⟩:=HE.out.rows 8 (by omega) (by omega)
 dsimp only at j0 j1 j2 j3
 have hP:putsT 8=5:=rfl
 rw [hP] at s2
 simp only [Nat.reduceMul,Nat.reduceAdd] at s0 s1 s2
 have HI:=hid hi
 have HS:=hid hs
 have HR:=hid hr
 have HL:=hid hl
 have HSL:=hid hsl
 have HF:=hid hF
 obtain ⟨at9,ct9,rfl⟩:=ht.sl
 clear hM hE ht hi hs hr hl hsl hF hP s0 s1
 unfold inV
 dsimp only
 go_enter Tryz.func171,Tryz.ntmps171
 go_upto_region 2 with fail
 obtain ⟨W1,hW1⟩:∃ W,w.alloc (ibox ⟨8,a,n,tx⟩)=W:=⟨_,rfl⟩
 rw [hW1] at HLO HM HE HT j0 j1 j2 j3 m0 m1 m2 m3 m4 m5 m6 m7 s2
 unfold ibox at hW1
 rw [hW1]
 clear hW1
 have hb:=HI.out.built rfl
 dsimp only at hb
 obtain ⟨q,rfl⟩:∃ q:Nat,a=q:=⟨a.toNat,by omega⟩
 obtain ⟨v,b0,b1,_⟩:=HE.out.signs q (by omega) (by omega)
 have hki:(q:Int) < 13:=by omega
 have hkn:q < 13:=by omega
 have HY0:=sig_range (q:Int)
 have HK:Hid (putK fns ⟨8,(q:Int),n,tx⟩ sl tk=(sig (q:Int)).2):=hid rfl
 obtain ⟨y,hy⟩:∃ y,(sig (q:Int)).2=y:=⟨_,rfl⟩
 rw [hy] at b1 HY0 HK
 have HY:Hid (0≤y∧y≤10):=hid (by omega)
 clear hb hy HY0 b0
 go_wp2_with (go_at_call 172;refine (kindText_any _ HY.out _).mono ?_;rintro e w5 ⟨rfl,hb5⟩;have HB5:=hid (HLO.out.trans (hb5.mono (HLO.out).size));clear hb5)
 go_ret2
 have hz:=put_end (fns:=fns) (i:=⟨8,(q:Int),n,tx⟩) (sl:=sl) (tk:=tk) HB5.out (show ¬ putsT 8=0 by decide) (by simp) HK.out
 simpa [bne] using hz
set_option maxHeartbeats 2000000 in
theorem put_9 {fns:List Fn} {f:Fn} {b:Nat} {cv pv iv xv wv:Value} {w:World} (hM:MS fns f b cv pv iv xv wv w) (hE:EnvI w) {a n:Int} {tx:ByteArray} (hi:InsR fns f ⟨9,a,n,tx⟩) {sl tk:List Int} {tv:Value} (hs:Ok10 sl) (ht:IntRow w tv tk) (hr:∀ x ∈ tk,1≤x∧x≤10) (hl:tk.length=takesN fns ⟨9,a,n,tx⟩) (hsl:sl.length=f.S) (hF:∀ g ∈ fns,FnR fns g) :
  Calls Tryz.prog 171 #[.pointer (some ⟨b,0,none⟩),inV ⟨9,a,n,tx⟩,.string (kt sl),tv] w (PutEnd fns ⟨9,a,n,tx⟩ sl tk w):=by
 have HLO:Hid (Below w.heap.size w (w.alloc (ibox ⟨9,a,n,tx⟩))):=hid ((Below.refl _ _).alloc (Nat.le_refl _) _)
 have HM:=hid (hM.next HLO.out)
 have HE:=hid (hE.next HLO.out)
 have HT:=hid (ht.next HLO.out)
 obtain ⟨j0,j1,j2,j3⟩:=ix (ibox_new w ⟨9,a,n,tx⟩)
 obtain ⟨m0,m1,m2,m3,m4,m5,m6,m7⟩:=mx HM.out
 obtain ⟨_,s0,s1,s2,_⟩:=HE.out.rows 9 (by omega) (by omega)
 dsimp only at j0 j1 j2 j3
 have hP:putsT 9=6:=rfl
 rw [hP] at s2
 simp only [Nat.reduceMul,Nat.reduceAdd] at s0 s1 s2
 have HI:=hid hi
 have HS:=hid hs
 have HR:=hid hr
 have HL:=hid hl
 have HSL:=hid hsl
 have HF:=hid hF
 obtain ⟨at9,ct9,rfl⟩:=ht.sl
 clear hM hE ht hi hs hr hl hsl hF hP s0 s1
 unfold inV
 dsimp only
 go_enter Tryz.func171,Tryz.ntmps171
 go_upto_region 2 with fail
 obtain ⟨W1,hW1⟩:∃ W,w.alloc (ibox ⟨9,a,n,tx⟩)=W:=⟨_,rfl⟩
 rw [hW1] at HLO HM HE HT j0 j1 j2 j3 m0 m1 m2 m3 m4 m5 m6 m7 s2
 unfold ibox at hW1
 rw [hW1]
 clear hW1
 have hb:=HI.out.call rfl
 dsimp only at hb
 obtain ⟨q,rfl⟩:∃ q:Nat,a=q:=⟨a.toNat,by omega⟩
 have hk:q < fns.length:=by omega
 obtain ⟨gF,cF2,hcv,hgF,pv2,iv2,n0,n1,n2,n3,n4,hpv,_⟩:=HM.out.fr.at hk
 rw [hcv] at m0
 have hki:(q:Int) < (fns.length:Int):=by omega
 have hr9:=(HF.out (fns.getD q fn0) (by rw [List.getD_eq_getElem?_getD,List.getElem?_eq_getElem hk];exact List.getElem_mem hk)).result
 have HK:Hid (putK fns ⟨9,(q:Int),n,tx⟩ sl tk=(fns.getD q fn0).result):=hid rfl
 have HK0:Hid ((fns.getD q fn0).result=0→putR fns ⟨9,(q:Int),n,tx⟩ sl tk=([],true)):=hid (fun h=>(if_neg (show ¬ putsT 9=0 by decide)).trans (if_pos ⟨rfl,h⟩))
 obtain ⟨y,hy⟩:∃ y,(fns.getD q fn0).result=y:=⟨_,rfl⟩
 have HYQ:=hid hy
 rw [hy] at n2 hr9 HK
 have HY:Hid (0≤y∧y≤10):=hid hr9
 clear hb hy hr9 hcv n0 n1 n3 n4 hpv
 by_cases hy0:y=0
 ·subst hy0
  go_wp2_with fail
  go_quiet (fail)
  go_wp2_with fail
  go_ret2
  refine ⟨?_,below_drewN HLO.out _⟩
  rw [HK0.out HYQ.out]
  rfl
 ·have hyf:(y == 0)=false:=by simpa using hy0
  have HN9:=hid hy0
  clear hy0
  go_wp2_with fail
  go_quiet (fail)
  go_wp2_with (go_at_call 172;refine (kindText_any _ HY.out _).mono ?_;rintro e w5 ⟨rfl,hb5⟩;have HB5:=hid ((below_drewN HLO.out _).trans (hb5.mono (below_drewN HLO.out _).size));clear hb5)
  go_ret2
  have hz:=put_end (fns:=fns) (i:=⟨9,(q:Int),n,tx⟩) (sl:=sl) (tk:=tk) HB5.out (show ¬ putsT 9=0 by decide) (fun h2=>HN9.out (HYQ.out.symm.trans h2.2)) HK.out
  simpa [bne] using hz
theorem put_any {fns:List Fn} {f:Fn} {b:Nat} {cv pv iv xv wv:Value} {w:World} (hM:MS fns f b cv pv iv xv wv w) (hE:EnvI w) {i:In} (hi:InsR fns f i) {sl tk:List Int} {tv:Value} (hs:Ok10 sl) (ht:IntRow w tv tk) (hr:∀ x ∈ tk,1≤x∧x≤10) (hl:tk.length=takesN fns i) (hsl:sl.length=f.S) (hF:∀ g ∈ fns,FnR fns g) :
  Calls Tryz.prog 171 #[.pointer (some ⟨b,0,none⟩),inV i,.string (kt sl),tv] w (PutEnd fns i sl tk w):=by
 obtain ⟨op,a,n,tx⟩:=i
 have hop:=hi.op
 dsimp only at hop
 obtain rfl | rfl | rfl | rfl | rfl | rfl | rfl | rfl | rfl | rfl | rfl | rfl | rfl | rfl | rfl | rfl:op=1∨op=2∨op=3∨op=4∨op=5∨op=6∨op=7∨op=8∨op=9∨op=10∨op=11∨op=12∨op=13∨op=14∨op=15∨op=16:=by omega
 ·exact put_1 hM hE hi hs ht hr hl hsl hF
 ·exact put_2 hM hE hi hs ht hr hl hsl hF
 ·exact put_3 hM hE hi hs ht hr hl hsl hF
 ·exact put_4 hM hE hi hs ht hr hl hsl hF
 ·exact put_5 hM hE hi hs ht hr hl hsl hF
 ·exact put_6 hM hE hi hs ht hr hl hsl hF
 ·exact put_7 hM hE hi hs ht hr hl hsl hF
 ·exact put_8 hM hE hi hs ht hr hl hsl hF
 ·exact put_9 hM hE hi hs ht hr hl hsl hF
 ·exact put_10 hM hE hi hs ht hr hl hsl hF
 ·exact put_11 hM hE hi hs ht hr hl hsl hF
 ·exact put_12 hM hE hi hs ht hr hl hsl hF
 ·exact put_13 hM hE hi hs ht hr hl hsl hF
 ·exact put_14 hM hE hi hs ht hr hl hsl hF
 ·exact put_15 hM hE hi hs ht hr hl hsl hF
 ·exact put_16 hM hE hi hs ht hr hl hsl hF
end Go.Proofs.YtbkmglknbflkhaaGreatDoor.C
