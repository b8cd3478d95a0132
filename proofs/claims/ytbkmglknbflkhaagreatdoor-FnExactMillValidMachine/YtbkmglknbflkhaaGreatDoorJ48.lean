import Derived.Test.YtbkmglknbflkhaaGreatDoorJ47
import Derived.Test.YtbkmglknbflkhaaGreatDoorJ35
import Derived.Test.YtbkmglknbflkhaaGreatDoorJ46
import Derived.Test.YtbkmglknbflkhaaGreatDoorJ38
import Derived.Test.YtbkmglknbflkhaaGreatDoorJ25
namespace Go.Proofs.YtbkmglknbflkhaaGreatDoor.M
open Go.RowKit
open C (In Sh in0 fn0 kt SP SG lt_hp cell_hp frozen_hp hp_next)
open Go.Proofs.YtbkmglknbflkhaaGreatDoor.R (hid)
set_option maxRecDepth 20000
structure CB (x:R.Mc) (v0 v1 v2 v3 v4 v5:Value) (p bm bp bs gS:Nat) (S:Nat→Sd) (W:World):Prop where
 em:W.heap[bm]?=some (.cells (mcells x v0 v1 v2 v3 v4 v5) 34)
 ep:W.heap[bp]?=some (.cells #[.int .i64 p] 3)
 es:W.heap[bs]?=some (.cells #[.slice (some ⟨gS,0,none⟩) x.frames.length x.frames.length] 97)
 row:StR W gS x.frames.length S
theorem CB.nm {x:R.Mc} {v0 v1 v2 v3 v4 v5:Value} {p bm bp bs gS:Nat} {S:Nat→Sd} {W:World} (h:CB x v0 v1 v2 v3 v4 v5 p bm bp bs gS S W):¬ bm=gS∧¬ bp=gS∧¬ bs=gS:=by
 obtain ⟨cur,e,_⟩:=h.row
 refine ⟨fun q=>?_,fun q=>?_,fun q=>?_⟩
 ·have:=h.em;rw [q,e] at this;simp at this
 ·have:=h.ep;rw [q,e] at this;simp at this
 ·have:=h.es;rw [q,e] at this;simp at this
theorem CB.next {x:R.Mc} {v0 v1 v2 v3 v4 v5:Value} {p bm bp bs gS:Nat} {S:Nat→Sd} {W V:World} (h:CB x v0 v1 v2 v3 v4 v5 p bm bp bs gS S W) (hb:Below W.heap.size W V):CB x v0 v1 v2 v3 v4 v5 p bm bp bs gS S V:=⟨hp_next h.em hb,hp_next h.ep hb,hp_next h.es hb,h.row.next hb⟩
theorem CB.but {x:R.Mc} {v0 v1 v2 v3 v4 v5:Value} {p bm bp bs gS:Nat} {S S2:Nat→Sd} {W V:World} (h:CB x v0 v1 v2 v3 v4 v5 p bm bp bs gS S W) (hb:But gS W V) (hr:StR V gS x.frames.length S2):CB x v0 v1 v2 v3 v4 v5 p bm bp bs gS S2 V :=
 ⟨hb.hp h.nm.1 h.em,hb.hp h.nm.2.1 h.ep,hb.hp h.nm.2.2 h.es,hr⟩
def shown (x:R.Mc) (p j:Nat) (f:C.Fn) (A:Nat→Sh) (S:Nat→Sd):Nat→Sd:=fun i=>if (fr x i).code=p∧(fr x i).fn=j then standOf f A (fr x i).pl else S i
def shownTo (x:R.Mc) (p j:Nat) (f:C.Fn) (A:Nat→Sh) (S:Nat→Sd) (k:Nat):Nat→Sd:=fun i=>if i < k∧((fr x i).code=p∧(fr x i).fn=j) then standOf f A (fr x i).pl else S i
theorem shownTo_0 (x:R.Mc) (p j:Nat) (f:C.Fn) (A:Nat→Sh) (S:Nat→Sd):shownTo x p j f A S 0=S:=by
 funext i
 exact if_neg (fun h=>absurd h.1 (Nat.not_lt_zero _))
theorem shownTo_no {x:R.Mc} {p j:Nat} {f:C.Fn} {A:Nat→Sh} {S:Nat→Sd} {k:Nat} (h:¬ ((fr x k).code=p∧(fr x k).fn=j)):shownTo x p j f A S (k+1)=shownTo x p j f A S k:=by
 funext i
 unfold shownTo
 by_cases e:i=k
 ·subst e;rw [if_neg (fun q=>h q.2),if_neg (fun q=>h q.2)]
 ·by_cases q:i < k
  ·by_cases r:(fr x i).code=p∧(fr x i).fn=j
   ·rw [if_pos ⟨by omega,r⟩,if_pos ⟨q,r⟩]
   ·rw [if_neg (fun t=>r t.2),if_neg (fun t=>r t.2)]
  ·rw [if_neg (fun t=>by omega),if_neg (fun t=>q t.1)]
theorem shownTo_yes {x:R.Mc} {p j:Nat} {f:C.Fn} {A:Nat→Sh} {S:Nat→Sd} {k:Nat} (h:(fr x k).code=p∧(fr x k).fn=j):shownTo x p j f A S (k+1)=updS (shownTo x p j f A S k) k (standOf f A (fr x k).pl):=by
 funext i
 by_cases e:i=k
 ·subst e;rw [updS_at];exact if_pos ⟨by omega,h⟩
 ·rw [updS_ne _ _ e]
  unfold shownTo
  by_cases q:i < k
  ·by_cases r:(fr x i).code=p∧(fr x i).fn=j
   ·rw [if_pos ⟨by omega,r⟩,if_pos ⟨q,r⟩]
   ·rw [if_neg (fun t=>r t.2),if_neg (fun t=>r t.2)]
  ·rw [if_neg (fun t=>by omega),if_neg (fun t=>q t.1)]
theorem SQ.but {f:C.Fn} {b gL:Nat} {cv pv iv wv:Value} {A:Nat→Sh} {W V:World} (h:SQ f b gL cv pv iv wv A W) {g n:Nat} {S:Nat→Sd} (hr:StR W g n S) (hb:But g W V):SQ f b gL cv pv iv wv A V:=by
 obtain ⟨cur,e,_⟩:=hr
 refine ⟨hb.hp (fun q=>?_) h.e,h.ly.keep (hb.block gL h.ly.lt fun q=>?_),h.ir.keep fun k c hk=>hb.block k (lt_hp hk) fun q=>?_⟩
 ·have:=h.e;rw [q,e] at this;simp at this
 ·obtain ⟨c2,e2,_⟩:=h.ly;rw [q,e] at e2;simp at e2
 ·rw [q,e] at hk;simp at hk
theorem StR.congr {W:World} {g n:Nat} {S S2:Nat→Sd} (h:StR W g n S) (e:∀ i,i < n→S2 i=S i):StR W g n S2:=by
 obtain ⟨cur,a,b,c⟩:=h
 exact ⟨cur,a,b,fun i hi j hj=>by rw [e i hi];exact c i hi j hj⟩
set_option maxHeartbeats 8000000 in
theorem showS_any {f:C.Fn} {b gL:Nat} {cv pv iv wv:Value} {A:Nat→Sh} {W:World} (hP:SQ f b gL cv pv iv wv A W) (hl:f.ins.length≤50000)
  (x:R.Mc) {v0 v1 v2 v3 v4 v5:Value} {B:Nat} {w0:World} (h:MK B w0 x v0 v1 v2 v3 v4 v5) (hw0:Below w0.heap.size w0 W) {p bm bp bs gS:Nat} {S:Nat→Sd} (hC:CB x v0 v1 v2 v3 v4 v5 p bm bp bs gS S W) (hfl:x.frames.length≤1048576) (hg0:w0.heap.size≤gS) (j:Nat) :
  Calls Tryz.prog 93 #[.int .i64 j,.pointer (some ⟨b,0,none⟩),.pointer (some ⟨bm,0,none⟩),.pointer (some ⟨bp,0,none⟩),.pointer (some ⟨bs,0,none⟩)] W fun e w'=>e=.returned (.tuple #[])∧But gS W w'∧StR w' gS x.frames.length (shown x p j f A S):=by
 have HK:=hid h
 have HP:=hid hP
 have HC:=hid hC
 have HW0:=hid hw0
 obtain ⟨gf,rfl⟩:=h.k3.sl
 have m3:W.cell? ⟨bm,3,none⟩=some (.slice (some ⟨gf,0,none⟩) x.frames.length x.frames.length):=cell_hp hC.em 3
 clear h hP hC hw0
 have HSW:Hid (w0.heap.size≤W.heap.size):=hid HW0.out.size
 go_enter Tryz.func93,Tryz.ntmps93
 go_wp2_with fail
 clear m3
 go_loopw [12] (fun i wr=>∃ k:Nat,k≤x.frames.length∧i=.int .i64 k∧But gS W wr∧StR wr gS x.frames.length (shownTo x p j f A S k)) (fun i _=>x.frames.length - (intOf i).toNat)
 case atStart=>exact ⟨0,Nat.zero_le _,rfl,But.refl _ _,by rw [shownTo_0];exact HC.out.row⟩
 case round =>
  obtain ⟨k,hk,rfl,hb,hr⟩:=hrel
  have HB:=hid hb
  have HR:=hid hr
  clear hb hr
  by_cases hlt:k < x.frames.length
  ·have hki:(k:Int) < (x.frames.length:Int):=by omega
   have HL0:Hid (Below w0.heap.size w0 wr):=hid (HB.out.lo HW0.out hg0 HSW.out)
   obtain ⟨hgf,s,t,d0,d1,d2,d3,d4,hs,ht⟩:=fm_at (HK.out.next HL0.out).k3 hlt
   obtain ⟨gs,rfl⟩:=hs.sl
   obtain ⟨gt,rfl⟩:=ht.sl
   clear hs ht
   obtain ⟨fm,hfm⟩:∃ f,fr x k=f:=⟨_,rfl⟩
   have HFM:=hid hfm
   rw [show x.frames.getD k R.fm0=fm from hfm] at d0 d1 d2 d3 d4
   clear hfm
   have HC1:=hid (HC.out.but HB.out HR.out)
   go_upto_region 3 with fail
   have HAL:=hid ((Below.refl wr.heap.size wr).alloc (Nat.le_refl _) (.cells #[.int .i64 fm.code,.int .i64 fm.fn,.int .i64 fm.pl,.slice (some ⟨gs,0,none⟩) fm.slots.length fm.slots.length,.slice (some ⟨gt,0,none⟩) fm.stack.length fm.stack.length] 86))
   have HNB:Hid ((wr.alloc (.cells #[.int .i64 fm.code,.int .i64 fm.fn,.int .i64 fm.pl,.slice (some ⟨gs,0,none⟩) fm.slots.length fm.slots.length,.slice (some ⟨gt,0,none⟩) fm.stack.length fm.stack.length] 86)).heap[wr.heap.size]?=some (.cells #[.int .i64 fm.code,.int .i64 fm.fn,.int .i64 fm.pl,.slice (some ⟨gs,0,none⟩) fm.slots.length fm.slots.length,.slice (some ⟨gt,0,none⟩) fm.stack.length fm.stack.length] 86)):=hid (heap_alloc_new _ _)
   have HC2:=hid (HC1.out.next HAL.out)
   obtain ⟨W2,hW2⟩:∃ V,wr.alloc (.cells #[.int .i64 fm.code,.int .i64 fm.fn,.int .i64 fm.pl,.slice (some ⟨gs,0,none⟩) fm.slots.length fm.slots.length,.slice (some ⟨gt,0,none⟩) fm.stack.length fm.stack.length] 86)=V:=⟨_,rfl⟩
   rw [hW2] at HAL HNB HC2 ⊢
   obtain ⟨nb,hnb⟩:∃ q,wr.heap.size=q:=⟨_,rfl⟩
   have HNQ:Hid (wr.heap.size=nb):=hid hnb
   rw [hnb] at HNB ⊢
   clear hW2 hnb d0 d1 d2 d3 d4
   have n0:W2.cell? ⟨nb,0,none⟩=some (.int .i64 fm.code):=cell_hp HNB.out 0
   have n1:W2.cell? ⟨nb,1,none⟩=some (.int .i64 fm.fn):=cell_hp HNB.out 1
   have n2:W2.cell? ⟨nb,2,none⟩=some (.int .i64 fm.pl):=cell_hp HNB.out 2
   have p0:W2.cell? ⟨bp,0,none⟩=some (.int .i64 (p:Nat)):=cell_hp HC2.out.ep 0
   have HB2:Hid (But gS W W2):=hid (HB.out.trans (But.of HAL.out))
   by_cases h1:fm.code=(p:Int)
   ·have b1:(fm.code == (p:Int))=true:=by simpa using h1
    by_cases h2:fm.fn=(j:Int)
    ·have b2:(fm.fn == (j:Int))=true:=by simpa using h2
     have HY:Hid ((fr x k).code=p∧(fr x k).fn=j):=hid (by rw [HFM.out];exact ⟨h1,h2⟩)
     clear h1 h2
     go_upto_region 4 with fail
     clear n0 n1 p0 b1 b2
     have HP2:=hid (HP.out.but HC.out.row HB2.out)
     have HE:Hid (∀ V,Below W2.heap.size W2 V→V.cell? ⟨bs,0,none⟩=some (.slice (some ⟨gS,0,none⟩) x.frames.length x.frames.length)∧V.cell? ⟨nb,2,none⟩=some (.int .i64 fm.pl)):=hid fun V hV=>⟨cell_hp (hp_next HC2.out.es hV) 0,cell_hp (hp_next HNB.out hV) 2⟩
     clear n2
     have HRB0:=hid ((Below.refl W2.heap.size W2).drew)
     refine wp_region_until (fun V=>V.cell? ⟨bs,0,none⟩=some (.slice (some ⟨gS,0,none⟩) x.frames.length x.frames.length)∧V.cell? ⟨nb,2,none⟩=some (.int .i64 fm.pl)) 7 (by kernel_rfl) ?_
     refine wpAnyU_take (i:=0) (v:=.slice (some ⟨gS,0,none⟩) x.frames.length x.frames.length) rfl (by kernel_rfl) (by kernel_rfl) (by kernel_rfl) (fun _ _ _ h=>h) (by kernel_rfl) (by kernel_rfl) (by kernel_rfl) (Or.inl ⟨by rfl,fun V hV=>by have hc:=hV.1;go_simp⟩) (HE.out _ HRB0.out) ?_
     simp only [Act.put,List.getElem_toArray,List.getElem_cons_zero,List.setIfInBounds_toArray,List.set_cons_zero,List.set_cons_succ]
     refine wpAnyU_take (i:=1) (v:=.int .i64 k) rfl (by kernel_rfl) (by kernel_rfl) (by kernel_rfl) (fun _ _ _ h=>h) (by kernel_rfl) (by kernel_rfl) (by kernel_rfl) (Or.inl ⟨by rfl,fun V _=>by kernel_rfl⟩) (HE.out _ HRB0.out) ?_
     simp only [Act.put,List.getElem_toArray,List.getElem_cons_zero,List.getElem_cons_succ,List.setIfInBounds_toArray,List.set_cons_zero,List.set_cons_succ]
     refine wpAnyU_take (i:=2) (v:=.pointer (some ⟨b,0,none⟩)) rfl (by kernel_rfl) (by kernel_rfl) (by kernel_rfl) (fun _ _ _ h=>h) (by kernel_rfl) (by kernel_rfl) (by kernel_rfl) (Or.inl ⟨by rfl,fun V _=>by kernel_rfl⟩) (HE.out _ HRB0.out) ?_
     simp only [Act.put,List.getElem_toArray,List.getElem_cons_zero,List.getElem_cons_succ,List.setIfInBounds_toArray,List.set_cons_zero,List.set_cons_succ]
     refine wpAnyU_take (i:=3) (v:=.pointer (some ⟨nb,2,none⟩)) rfl (by kernel_rfl) (by kernel_rfl) (by kernel_rfl) (fun _ _ _ h=>h) (by kernel_rfl) (by kernel_rfl) (by kernel_rfl) (Or.inl ⟨by rfl,fun V _=>by kernel_rfl⟩) (HE.out _ HRB0.out) ?_
     simp only [Act.put,List.getElem_toArray,List.getElem_cons_zero,List.getElem_cons_succ,List.setIfInBounds_toArray,List.set_cons_zero,List.set_cons_succ]
     refine wpAnyU_take (i:=4) (v:=.int .i64 fm.pl) rfl (by kernel_rfl) (by kernel_rfl) (by kernel_rfl) (fun _ _ _ h=>h) (by kernel_rfl) (by kernel_rfl) (by kernel_rfl) (Or.inl ⟨by rfl,fun V hV=>by have hc:=hV.2;go_simp⟩) (HE.out _ HRB0.out) ?_
     simp only [Act.put,List.getElem_toArray,List.getElem_cons_zero,List.getElem_cons_succ,List.setIfInBounds_toArray,List.set_cons_zero,List.set_cons_succ]
     refine until_call (i:=5) (by kernel_rfl) rfl rfl (by kernel_rfl) (standAt_any (HP2.out.next HRB0.out) hl fm.pl) ?_
     rintro e w5 ⟨rfl,hb5⟩
     have HRB1:=hid (show Below W2.heap.size W2 w5 from HRB0.out.trans (hb5.mono HRB0.out.size))
     clear hb5
     refine ⟨_,rfl,HE.out _ HRB1.out,?_⟩
     simp only [Act.put,List.getElem_toArray,List.getElem_cons_zero,List.getElem_cons_succ,List.setIfInBounds_toArray,List.set_cons_zero,List.set_cons_succ]
     refine until_value (i:=6) (by kernel_rfl) rfl rfl (.pointer (some ⟨gS,k * 7,none⟩)) (by go_simp) (fun _=>HE.out _ HRB1.out) ?_
     simp only [Act.put,List.getElem_toArray,List.getElem_cons_zero,List.getElem_cons_succ,List.setIfInBounds_toArray,List.set_cons_zero,List.set_cons_succ]
     have HR5:=hid (HC2.out.row.next HRB1.out)
     have HTH:=hid (HR5.out.there hlt)
     refine until_store_mid (i:=7) (by kernel_rfl) rfl rfl 105 _ _ rfl gS (k * 7) #[.int .i64 (standOf f A fm.pl).st,.string (standOf f A fm.pl).sl,.string (standOf f A fm.pl).sk,.int .i64 (standOf f A fm.pl).ins.op,.int .i64 (standOf f A fm.pl).ins.a,.int .i64 (standOf f A fm.pl).ins.n,.string (standOf f A fm.pl).ins.text] rfl rfl HTH.out (by kernel_rfl) (by simp [Value.oneCell']) (by kernel_rfl) ?_
     simp only [Act.put,List.getElem_toArray,List.getElem_cons_zero,List.getElem_cons_succ]
     refine until_done (by kernel_rfl) ?_ _
     have HFIN:Hid (But gS W (set7 w5 gS (k * 7) (standOf f A fm.pl))∧StR (set7 w5 gS (k * 7) (standOf f A fm.pl)) gS x.frames.length (shownTo x p j f A S (k+1))):=hid ⟨(HB2.out.trans (But.of HRB1.out)).put _ _,by rw [shownTo_yes HY.out,HFM.out];exact HR5.out.set hlt _⟩
     rw [set7_eq]
     obtain ⟨W9,hW9⟩:∃ V,set7 w5 gS (k * 7) (standOf f A fm.pl)=V:=⟨_,rfl⟩
     rw [hW9] at HFIN ⊢
     clear hW9
     go_wp2_with fail
     go_roundw
     case rel=>exact ⟨k+1,by omega,by go_num,HFIN.out.1,HFIN.out.2⟩
     case measure=>simp [intOf];omega
    ·have b2:(fm.fn == (j:Int))=false:=by simpa using h2
     have HN:Hid (¬ ((fr x k).code=p∧(fr x k).fn=j)):=hid (by rw [HFM.out];exact fun q=>h2 q.2)
     clear h1 h2
     go_wp2_with fail
     go_roundw
     case rel=>exact ⟨k+1,by omega,by go_num,HB2.out,by rw [shownTo_no HN.out];exact HC2.out.row⟩
     case measure=>simp [intOf];omega
   ·have b1:(fm.code == (p:Int))=false:=by simpa using h1
    have HN:Hid (¬ ((fr x k).code=p∧(fr x k).fn=j)):=hid (by rw [HFM.out];exact fun q=>h1 q.1)
    clear h1
    go_wp2_with fail
    go_roundw
    case rel=>exact ⟨k+1,by omega,by go_num,HB2.out,by rw [shownTo_no HN.out];exact HC2.out.row⟩
    case measure=>simp [intOf];omega
  ·obtain rfl:k=x.frames.length:=by omega
   have hki:¬ ((x.frames.length:Int) < (x.frames.length:Int)):=by omega
   clear hlt
   go_wp2_with fail
   go_end0
   exact ⟨rfl,HB.out,HR.out.congr fun i hi=>by
    unfold shown shownTo
    by_cases q:(fr x i).code=p∧(fr x i).fn=j
    ·rw [if_pos q,if_pos ⟨hi,q⟩]
    ·rw [if_neg q,if_neg (fun t=>q t.2)]⟩
end Go.Proofs.YtbkmglknbflkhaaGreatDoor.M
namespace Go.Proofs.YtbkmglknbflkhaaGreatDoor.M
open Go.RowKit
open C (In Sh in0 fn0 kt SP SG FnsRow FnR CodeS EnvI Chk Fit Unfit Least Plain flaw cx lt_hp cell_hp frozen_hp hp_next)
open Go.Proofs.YtbkmglknbflkhaaGreatDoor.R (hid)
set_option maxRecDepth 20000
def Shows (x:R.Mc) (p:Nat) (fns:List C.Fn) (j:Nat) (S S2:Nat→Sd):Prop:=∀ i,i < x.frames.length→(((fr x i).code=p∧0≤(fr x i).fn∧(fr x i).fn < j)→∃ A,Least fns (fns.getD (fr x i).fn.toNat fn0) A∧S2 i=standOf (fns.getD (fr x i).fn.toNat fn0) A (fr x i).pl)∧(¬ ((fr x i).code=p∧0≤(fr x i).fn∧(fr x i).fn < j)→S2 i=S i)
theorem Shows.zero (x:R.Mc) (p:Nat) (fns:List C.Fn) (S:Nat→Sd):Shows x p fns 0 S S:=fun i _=>⟨fun h=>absurd h.2.2 (by have:=h.2.1;omega),fun _=>rfl⟩
theorem Shows.step {x:R.Mc} {p:Nat} {fns:List C.Fn} {j:Nat} {S S2:Nat→Sd} (h:Shows x p fns j S S2) {A:Nat→Sh} {f:C.Fn} (hf:fns.getD j fn0=f) (hA:Least fns f A):Shows x p fns (j+1) S (shown x p j f A S2):=fun i hi=>by
 obtain ⟨h1,h2⟩:=h i hi
 unfold shown
 by_cases e:(fr x i).code=p∧(fr x i).fn=j
 ·rw [if_pos e]
  have hj:fns.getD (fr x i).fn.toNat fn0=f:=by rw [e.2];exact hf
  exact ⟨fun _=>⟨A,by rw [hj];exact hA,by rw [hj]⟩,fun q=>absurd ⟨e.1,by omega,by omega⟩ q⟩
 ·rw [if_neg e]
  refine ⟨fun q=>h1 ⟨q.1,q.2.1,?_⟩,fun q=>h2 fun r=>q ⟨r.1,r.2.1,by omega⟩⟩
  have:=q.2.2
  rcases Int.lt_or_le (fr x i).fn j with h9 | h9
  ·exact h9
  ·exact absurd ⟨q.1,by omega⟩ e
structure PB (w0 W:World) (cv:Value) (gS:Nat) (V:World):Prop where
 lo:Below w0.heap.size w0 V
 bt:But gS W V
 e0:V.heap[W.heap.size]?=some (.cells #[cv] 59)
theorem PB.next {w0 W:World} {cv:Value} {gS:Nat} {V V2:World} (h:PB w0 W cv gS V) (hb:Below V.heap.size V V2):PB w0 W cv gS V2:=⟨h.lo.trans (hb.mono h.lo.size),h.bt.trans (But.of hb),hp_next h.e0 hb⟩
theorem PB.but {w0 W:World} {cv:Value} {gS:Nat} {V V2:World} (h:PB w0 W cv gS V) (hb:But gS V V2) (hg:w0.heap.size≤gS) (hn:gS < W.heap.size):PB w0 W cv gS V2:=⟨hb.lo h.lo hg h.lo.size,h.bt.trans hb,hb.hp (by omega) h.e0⟩
set_option maxHeartbeats 8000000 in
theorem byS_any {fns:List C.Fn} {w0:World} {cv:Value} (h1:FnsRow w0 cv fns) (hC:CodeS fns) (hE:EnvI w0)
  (x:R.Mc) {v0 v1 v2 v3 v4 v5:Value} {B:Nat} (h:MK B w0 x v0 v1 v2 v3 v4 v5) {p bm bp bs gS:Nat} {S:Nat→Sd} {W:World} (hw0:Below w0.heap.size w0 W) (hCB:CB x v0 v1 v2 v3 v4 v5 p bm bp bs gS S W) (hfl:x.frames.length≤1048576) (hg0:w0.heap.size≤gS) :
  Calls Tryz.prog 92 #[.agg #[cv],.func (.func 93) #[] #[.pointer (some ⟨bm,0,none⟩),.pointer (some ⟨bp,0,none⟩),.pointer (some ⟨bs,0,none⟩)]] W fun e w' =>
   ((e=.returned .nilIface∧Chk fns 0 0 0∧∃ S2,StR w' gS x.frames.length S2∧Shows x p fns fns.length S S2)∨∃ c k i:Nat,¬ c=0∧e=.returned (flaw c k i)∧Chk fns c k i)∧But gS W w':=by
 have H1:=hid h1
 have HC:=hid hC
 have HE:=hid hE
 have HK:=hid h
 have HCB:=hid hCB
 have HG0:=hid hg0
 have HGW:=hid hCB.row.lt
 obtain ⟨aF,cF,hcv⟩:=h1.sl
 subst hcv
 have HX0:Hid (PB w0 W (.slice aF fns.length cF) gS (W.alloc (.cells #[.slice aF fns.length cF] 59))):=hid ⟨hw0.alloc hw0.size _,But.of ((Below.refl _ _).alloc (Nat.le_refl _) _),heap_alloc_new _ _⟩
 clear h1 hC hE h hCB hw0 hg0
 go_enter Tryz.func92,Tryz.ntmps92
 go_upto_region 1 with fail
 obtain ⟨W1,hW1⟩:∃ V,W.alloc (.cells #[.slice aF fns.length cF] 59)=V:=⟨_,rfl⟩
 have HR1:Hid (StR W1 gS x.frames.length S):=hid (by rw [← hW1];exact HCB.out.row.next ((Below.refl _ _).alloc (Nat.le_refl _) _))
 rw [hW1] at HX0 ⊢
 clear hW1
 have k0:=cx HX0.out.e0
 have HTX:=hid (C.text_any (H1.out.next HX0.out.lo) HC.out (HE.out.next HX0.out.lo))
 go_upto_region 2 with (go_at_call 118;refine HTX.out.mono ?_;rintro e w2 ⟨hcs,hb2⟩;have HX:=hid (HX0.out.next hb2);have HR2:=hid (HR1.out.next hb2);clear hb2;rcases hcs with ⟨rfl,hp⟩ | ⟨c,k,i,hc0,rfl,hp⟩ <;> have HPL:=hid hp <;> clear hp)
 ·have HRT:=hid (C.plain_right HPL.out)
  have h60:=HRT.out.2.2
  clear k0 HX0 HTX
  have k0:=cx HX.out.e0
  go_wp2_with fail
  clear k0
  go_loopw [17] (fun i wr=>∃ j:Nat,j≤fns.length∧i=.int .i64 j∧PB w0 W (.slice aF fns.length cF) gS wr∧(∀ p,p < j→Fit fns (fns.getD p fn0))∧∃ S2,StR wr gS x.frames.length S2∧Shows x p fns j S S2) (fun i _=>fns.length - (intOf i).toNat)
  case atStart=>exact ⟨0,Nat.zero_le _,rfl,HX.out,fun p hp=>absurd hp (Nat.not_lt_zero _),S,HR2.out,Shows.zero _ _ _ _⟩
  case round =>
   obtain ⟨j,hj,rfl,hx,hall,S2,hr2,hs2⟩:=hrel
   have HX3:=hid hx
   have HALL:=hid hall
   have HR3:=hid hr2
   have HS3:=hid hs2
   clear hx hall HX hr2 hs2 HR2
   have k0:=cx HX3.out.e0
   by_cases hlt:j < fns.length
   ·have hlti:(j:Int) < (fns.length:Int):=by omega
    have HFM:Hid (FnR fns (fns.getD j fn0)):=hid (HRT.out.1 _ (by rw [List.getD_eq_getElem?_getD,List.getElem?_eq_getElem hlt];exact List.getElem_mem hlt))
    have HNW:=hid (C.new_any (H1.out.next HX3.out.lo) (HE.out.next HX3.out.lo) hlt HRT.out.1)
    obtain ⟨f,hf⟩:∃ f,fns.getD j fn0=f:=⟨_,rfl⟩
    rw [hf] at HFM HNW
    have HFE:=hid hf
    clear hf
    go_upto_region 8 with (go_at_call 119;refine HNW.out.mono ?_;rintro e w4 ⟨W2,b,gL,cv4,pv,iv,A,wv,rfl,hb4,hsg,hsp,hcl,hlow⟩;have HLS:Hid (Least fns f A):=hid ⟨hcl,hlow⟩;have HB4:=hid (hb4.trans (hsp.lo.mono hb4.size));have HX4:=hid (HX3.out.next HB4.out);have HQ4:=hid (SQ.of hsp hsg);have HFU:=hid (C.unfit_any hsp hsg HRT.out.1 HFM.out hlow);clear hb4 hsg hsp hcl hlow)
    clear k0 HNW
    go_upto_region 9 with (go_at_call 120;refine HFU.out.mono ?_;rintro e w5 ⟨r,rfl,hor,hb5⟩;have HX5:=hid (HX4.out.next hb5);have HQ5:=hid (HQ4.out.next hb5);have HR5:=hid ((HR3.out.next HB4.out).next hb5);clear hb5;rcases hor with ⟨rfl,hno⟩ | ⟨i,rfl,hi,hno,hun⟩)
    ·have HFT:Hid (∀ p,p < j+1→Fit fns (fns.getD p fn0)):=hid fun p hp=>by
      by_cases e:p=j
      ·subst e;rw [HFE.out];exact ⟨A,HLS.out,hno⟩
      ·exact HALL.out p (by omega)
     clear hno
     have HSH:=hid (showS_any HQ5.out HFM.out.some_.2 x HK.out HX5.out.lo (HCB.out.but HX5.out.bt HR5.out) hfl HG0.out j)
     go_wp2_with (go_at_call 93;refine HSH.out.mono ?_;rintro e w6 ⟨rfl,hb6,hr6⟩;have HX6:=hid (HX5.out.but hb6 HG0.out HGW.out);have HR6:=hid hr6;clear hb6 hr6)
     go_roundw
     case rel=>exact ⟨j+1,by omega,by go_num,HX6.out,HFT.out,_,HR6.out,HS3.out.step HFE.out HLS.out⟩
     case measure=>simp [intOf];omega
    ·have HCK:Hid (Chk fns 5 j i):=hid (.unfit HPL.out j i hlt (by rw [HFE.out];exact hi) HALL.out A (by rw [HFE.out];exact HLS.out) (by rw [HFE.out];exact hno) (by rw [HFE.out];exact hun))
     have hge:(0:Int)≤(i:Int):=by omega
     clear hno hun
     go_wp2_with fail
     go_ret
     exact ⟨.inr ⟨5,j,i,by decide,rfl,HCK.out⟩,HX5.out.bt⟩
   ·obtain rfl:j=fns.length:=by omega
    have hge:¬ ((fns.length:Int) < (fns.length:Int)):=by omega
    go_wp2_with fail
    go_ret
    exact ⟨.inl ⟨rfl,.ok HPL.out HALL.out,S2,HR3.out,HS3.out⟩,HX3.out.bt⟩
 ·unfold flaw
  go_wp2_with fail
  go_ret
  exact ⟨.inr ⟨c,k,i,hc0,rfl,.plain c k i HPL.out hc0⟩,HX.out.bt⟩
end Go.Proofs.YtbkmglknbflkhaaGreatDoor.M
namespace Go.Proofs.YtbkmglknbflkhaaGreatDoor.M
open Go.RowKit
open C (In Sh in0 fn0 FnR Least ShRow IntRow InsRow lt_hp cell_hp hp_next)
open Go.Proofs.YtbkmglknbflkhaaGreatDoor.J (Says says_t says_f)
open Go.Proofs.YtbkmglknbflkhaaGreatDoor.R (hid)
set_option maxRecDepth 20000
def codeR:Code→Code
 | .seq _ b=>b
 | c=>c
def codeL:Code→Code
 | .seq a _=>a
 | c=>c
def codeLoop:Code→Code
 | .block _ (.loop c)=>c
 | c=>c
noncomputable def slotLoop:Code:=codeLoop (codeR (codeL (codeR (codeR (codeR (codeR (codeR (codeR (codeR (Tryz.f56.body.getD .skip))))))))))
noncomputable def restCode:Code:=(codeR (codeR (codeR (codeR (codeR (codeR (codeR (codeR (codeR (codeR (Tryz.f56.body.getD .skip)))))))))))
noncomputable def awaitCode:Code:=codeR (codeL (codeR (codeR (codeR (codeR (codeR (codeR (codeR (codeR (codeR (Tryz.f56.body.getD .skip)))))))))))
theorem sv_true (x:R.Va) (w:World) (h:R.OkVa x) (hv:VOk x):Calls Tryz.prog 83 #[.agg #[.int .i64 x.ty,.int .i64 x.n,.string x.text]] w fun e w'=>e=.returned (.bool true)∧Below w.heap.size w w':=by
 have:=V.specVV x.ty x.n x.text h.2.1.1 h.2.1.2 w
 rwa [show V.validB x.ty x.n x.text=true from hv] at this
theorem sv_false (x:R.Va) (w:World) (h:R.OkVa x) (hv:¬ VOk x):Calls Tryz.prog 83 #[.agg #[.int .i64 x.ty,.int .i64 x.n,.string x.text]] w fun e w'=>e=.returned (.bool false)∧Below w.heap.size w w':=by
 have:=V.specVV x.ty x.n x.text h.2.1.1 h.2.1.2 w
 rwa [show V.validB x.ty x.n x.text=false from Bool.eq_false_iff.2 hv] at this
structure FX (w:World) (x:R.Mc) (v0 v1 v2 v3 v4 v5:Value) (f:R.Fm) (s t:Value) (bf:Nat) (fn:C.Fn) (pv iv:Value) (bn:Nat) (W:World):Prop where
 mx:MX w x v0 v1 v2 v3 v4 v5 W
 fb:W.heap[bf]?=some (.cells #[.int .i64 f.code,.int .i64 f.fn,.int .i64 f.pl,s,t] 86 (0,0))
 nb:W.heap[bn]?=some (.cells #[.string fn.name,pv,.int .i64 fn.result,.int .i64 fn.slots,iv] 125 (0,0))
theorem FX.next {w:World} {x:R.Mc} {v0 v1 v2 v3 v4 v5:Value} {f:R.Fm} {s t:Value} {bf:Nat} {fn:C.Fn} {pv iv:Value} {bn:Nat} {W V:World} (h:FX w x v0 v1 v2 v3 v4 v5 f s t bf fn pv iv bn W) (hb:Below W.heap.size W V):FX w x v0 v1 v2 v3 v4 v5 f s t bf fn pv iv bn V:=⟨h.mx.next hb,hp_next h.fb hb,hp_next h.nb hb⟩
structure FY (w:World) (x:R.Mc) (v0 v1 v2 v3 v4 v5:Value) (f:R.Fm) (s t:Value) (bf:Nat) (fn:C.Fn) (pv iv:Value) (bn:Nat) (gA:Nat) (A:Nat→Sh) (bs:Nat) (sv tv:Value) (K T:List Int) (W:World):Prop where
 fx:FX w x v0 v1 v2 v3 v4 v5 f s t bf fn pv iv bn W
 row:ShRow W gA fn.ins.length A
 sb:W.heap[bs]?=some (.cells #[.int .i64 1,sv,tv] 121 (0,0))
 r1:IntRow W sv K
 r2:IntRow W tv T
theorem FY.next {w:World} {x:R.Mc} {v0 v1 v2 v3 v4 v5:Value} {f:R.Fm} {s t:Value} {bf:Nat} {fn:C.Fn} {pv iv:Value} {bn gA:Nat} {A:Nat→Sh} {bs:Nat} {sv tv:Value} {K T:List Int} {W V:World} (h:FY w x v0 v1 v2 v3 v4 v5 f s t bf fn pv iv bn gA A bs sv tv K T W) (hb:Below W.heap.size W V):FY w x v0 v1 v2 v3 v4 v5 f s t bf fn pv iv bn gA A bs sv tv K T V :=
 ⟨h.fx.next hb,h.row.next hb,hp_next h.sb hb,h.r1.next hb,h.r2.next hb⟩
theorem ins_plain {fns:List C.Fn} (h:C.Plain fns 0 0 0) {j p:Nat} (hj:j < fns.length) (hp:p < (fns.getD j fn0).ins.length):C.insB fns (fns.getD j fn0) ((fns.getD j fn0).ins.getD p in0)=true:=by
 cases h with
 | ok _ _ h1 _ _ _=>exact h1 j hj p hp
theorem insB_zero {fns:List C.Fn} {f:C.Fn} {i:In} (h:C.insB fns f i=true) (h1:¬ i.op=1):i.n=0∧i.text=⟨#[]⟩:=by
 unfold C.insB at h
 rw [if_neg h1] at h
 simp only [Bool.and_eq_true,decide_eq_true_eq] at h
 exact ⟨h.2.1,V.size_zero h.2.2⟩
theorem int_take {W:World} {ad:Option Addr} {l:List Int} {c n:Nat} (h:IntRow W (.slice ad l.length c) l) (hn:n≤l.length):IntRow W (.slice ad (l.take n).length c) (l.take n):=by
 obtain ⟨ad2,c2,e,h1,h2,h3⟩:=h
 injection e with ea _ ec
 subst ea ec
 refine ⟨ad,c,rfl,by rw [List.length_take];omega,h2,?_⟩
 rcases h3 with h3 | ⟨g,cur,e1,e2,e3⟩
 ·subst h3;exact .inl (by simp)
 ·exact .inr ⟨g,cur,e1,e2,fun i hi=>by
   rw [List.length_take] at hi
   rw [e3 i (by omega),List.getD_eq_getElem?_getD,List.getD_eq_getElem?_getD,List.getElem?_take_of_lt (by omega)]⟩
theorem slotOk_iff {v:R.Va} {k:Int}:SlotOk v k ↔ (k=0∨v.ty=k)∧(v=R.va0∨VOk v):=by
 unfold SlotOk
 constructor
 ·rintro (⟨h1,h2⟩ | ⟨h1,h2⟩)
  ·exact ⟨.inl h1,.inl h2⟩
  ·exact ⟨h2,.inr h1⟩
 ·rintro ⟨h1,h2 | h2⟩
  ·by_cases h0:k=0
   ·exact .inl ⟨h0,h2⟩
   ·rcases h1 with h1 | h1
    ·exact absurd h1 h0
    ·rw [h2] at h1;exact absurd h1.symm h0
  ·exact .inr ⟨h2,h1⟩
end Go.Proofs.YtbkmglknbflkhaaGreatDoor.M
