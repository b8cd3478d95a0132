import Derived.BigQuiet
import Derived.Laws.StructEq
import Derived.Deep.RegionHeld3
import Derived.Test.YtbkmglknbflkhaaGreatDoorJ37
import Derived.Test.YtbkmglknbflkhaaGreatDoorJ35
import Derived.Test.YtbkmglknbflkhaaGreatDoorJ06
import Derived.Test.YtbkmglknbflkhaaGreatDoorJ17
import Derived.Test.YtbkmglknbflkhaaGreatDoorJ38
import Derived.Test.YtbkmglknbflkhaaGreatDoorJ22
import Derived.Test.YtbkmglknbflkhaaGreatDoorJ33
import Derived.Test.YtbkmglknbflkhaaGreatDoorJ34
import Derived.Test.YtbkmglknbflkhaaGreatDoorJ00
namespace Go.Proofs.YtbkmglknbflkhaaGreatDoor.C
open Go.RowKit
set_option maxRecDepth 20000
def FuEnd (fns:List Fn) (f:Fn) (A:Nat→Sh) (w:World) (e:Ending) (w':World):Prop:=∃ r:Int,e=.returned (.int .i64 r)∧((r=-1∧∀ p,p < f.ins.length→¬ Unfit fns f A p)∨(∃ i:Nat,r=i∧i < f.ins.length∧(∀ p,p < i→¬ Unfit fns f A p)∧Unfit fns f A i))∧Below w.heap.size w w'
theorem unfit_top {fns:List Fn} {f:Fn} {A:Nat→Sh} {p:Nat} (hl:Low fns f A) (hf:FnR fns f) (hF:∀ g ∈ fns,FnR fns g) (hp:p < f.ins.length) (h0:(A p).st≠0):Unfit fns f A p ↔ behind fns f p (A p)=top:=by
 have hs:=(hl.src hf hF hp h0).ok
 unfold Unfit
 constructor
 ·rintro ⟨_,h2⟩
  rcases hs with h | h | h
  ·rw [h] at h2;cases h2
  ·exact h
  ·have:=h.1;omega
 ·intro h
  rw [h]
  exact ⟨h0,rfl⟩
set_option maxHeartbeats 8000000 in
theorem unfit_any {fns:List Fn} {f:Fn} {w:World} {b gL:Nat} {cv pv iv:Value} {A:Nat→Sh} {wk:List Nat} {wv:Value} {W:World} (hP:SP fns f w b gL cv pv iv A wk wv W) (hG:SG fns f w cv pv iv) (hF:∀ g ∈ fns,FnR fns g) (hf:FnR fns f) (hL:Low fns f A) :
  Calls Tryz.prog 120 #[.pointer (some ⟨b,0,none⟩)] W (FuEnd fns f A W):=by
 have hIL:f.ins.length≤50000:=hf.some_.2
 have HP:=hid hP
 have HLV:Hid (∀ V p,Below W.heap.size W V→p < f.ins.length→¬ (A p).st=0→Calls Tryz.prog 145 #[.pointer (some ⟨b,0,none⟩),.int .i64 p] V (LvEnd fns f p (A p) V)):=hid fun V p hV hp h0=>leaves_any ((hP.next hV).ms hG) (hG.en.next (hP.next hV).lo) (hP.next hV).ly hp hF hf (hL.ok p hp) h0
 have HUT:Hid (∀ p,p < f.ins.length→(A p).st≠0→(Unfit fns f A p ↔ behind fns f p (A p)=top)):=hid fun p hp h0=>unfit_top hL hf hF hp h0
 clear hP hG hF hf hL
 go_enter Tryz.func120,Tryz.ntmps120
 have m6:W.cell? ⟨b,6,none⟩=some (.slice (some ⟨gL,0,none⟩) f.ins.length f.ins.length):=(cell_hp HP.out.e 6).trans rfl
 go_wp2_with fail
 clear m6
 go_loopw [12] (fun ix wr=>∃ j:Nat,j≤f.ins.length∧ix=.int .i64 j∧Below W.heap.size W wr∧∀ p,p < j→¬ Unfit fns f A p) (fun ix _=>f.ins.length - (intOf ix).toNat)
 case atStart=>exact ⟨0,Nat.zero_le _,rfl,Below.refl _ _,fun p hp=>absurd hp (Nat.not_lt_zero _)⟩
 case round =>
  obtain ⟨j,hj,rfl,hlo,hall⟩:=hrel
  have HLO:=hid hlo
  have HALL:=hid hall
  clear hlo hall
  by_cases hlt:j < f.ins.length
  ·have hlti:(j:Int) < (f.ins.length:Int):=by omega
   obtain ⟨u0,u1,u2,_,_,_⟩:=(HP.out.next HLO.out).ly.at hlt
   have HAL:Hid (Below W.heap.size W (wr.alloc (lbox ((A j).st:Nat) (kt (A j).sl) (kt (A j).sk)))):=hid (HLO.out.alloc HLO.out.size _)
   obtain ⟨a,ha⟩:∃ a,A j=a:=⟨_,rfl⟩
   by_cases h0:(A j).st=0
   ·have HNU:Hid (∀ p,p < j+1→¬ Unfit fns f A p):=hid fun p hp hu=>by
     by_cases e:p=j
     ·subst e;exact hu.1 h0
     ·exact HALL.out p (by omega) hu
    rw [ha] at u0 u1 u2 HAL h0
    rw [h0] at u0 HAL
    unfold lbox at HAL
    clear h0
    go_wp2_with fail
    go_roundw
    case rel=>exact ⟨j+1,by omega,by go_num,HAL.out,HNU.out⟩
    case measure=>simp [intOf];omega
   ·have HL9:=hid (HLV.out _ j HAL.out hlt h0)
    have HU9:=hid (HUT.out j hlt h0)
    have h0b:(((A j).st:Int) == 0)=false:=by simpa using h0
    rw [ha] at u0 u1 u2 HAL HL9 HU9 h0b
    unfold LvEnd lbox at HL9
    unfold lbox at HAL
    clear h0
    go_upto_region 5 with fail
    obtain ⟨W1,hW1⟩:∃ W',wr.alloc (.cells #[.int .i64 (a.st:Nat),.string (kt a.sl),.string (kt a.sk)] 101)=W':=⟨_,rfl⟩
    rw [hW1] at HAL HL9 ⊢
    clear hW1 u0 u1 u2
    go_upto_region 6 with (go_at_call 145;refine HL9.out.mono ?_;rintro e W2 ⟨st,u,v,fit,rfl,_,hff,hb2⟩;have HFF:=hid hff;have HB2:Hid (∀ o,Below W.heap.size W (W2.alloc o)):=hid (fun o=>have h9:=HAL.out.trans (hb2.mono HAL.out.size);h9.alloc h9.size _);clear hff hb2)
    cases fit with
    | true =>
     have HNU:Hid (∀ p,p < j+1→¬ Unfit fns f A p):=hid fun p hp hu=>by
      by_cases e:p=j
      ·subst e
       have:=HFF.out.2 (HU9.out.1 hu)
       cases this
      ·exact HALL.out p (by omega) hu
     go_wp2_with fail
     go_roundw
     case rel=>exact ⟨j+1,by omega,by go_num,HB2.out _,HNU.out⟩
     case measure=>simp [intOf];omega
    | false =>
     go_wp2_with fail
     go_ret
     exact ⟨j,rfl,.inr ⟨j,rfl,hlt,HALL.out,HU9.out.2 (HFF.out.1 (by first | trivial | rfl))⟩,HB2.out _⟩
  ·obtain rfl:j=f.ins.length:=by omega
   have hge:¬ ((f.ins.length:Int) < (f.ins.length:Int)):=by omega
   go_wp2_with fail
   go_ret
   exact ⟨-1,rfl,.inl ⟨rfl,HALL.out⟩,HLO.out⟩
end Go.Proofs.YtbkmglknbflkhaaGreatDoor.C
namespace Go.Proofs.YtbkmglknbflkhaaGreatDoor.M
open Go.RowKit
open C (In Sh in0 fn0 kt SP SG)
open Go.Proofs.YtbkmglknbflkhaaGreatDoor.R (hid)
set_option maxRecDepth 20000
structure Sd where
 st:Int
 sl:ByteArray
 sk:ByteArray
 ins:In
def sd0:Sd:=⟨0,⟨#[]⟩,⟨#[]⟩,in0⟩
abbrev sdV (s:Sd):Value:=.agg #[.int .i64 s.st,.string s.sl,.string s.sk,.int .i64 s.ins.op,.int .i64 s.ins.a,.int .i64 s.ins.n,.string s.ins.text]
def standOf (f:C.Fn) (A:Nat→Sh) (p:Int):Sd :=
 if 0≤p∧p < f.ins.length then ⟨((A p.toNat).st:Nat),kt (A p.toNat).sl,kt (A p.toNat).sk,if 0 < p∧(A (p - 1).toNat).st=1 then f.ins.getD (p - 1).toNat in0 else in0⟩ else sd0
structure SQ (f:C.Fn) (b gL:Nat) (cv pv iv wv:Value) (A:Nat→Sh) (W:World):Prop where
 e:W.heap[b]?=some (.cells #[cv,.string f.name,pv,.int .i64 f.result,.int .i64 f.slots,iv,.slice (some ⟨gL,0,none⟩) f.ins.length f.ins.length,wv] 177)
 ly:C.LyRow W gL f.ins.length A
 ir:C.InsRow W iv f.ins
theorem SQ.of {fns:List C.Fn} {f:C.Fn} {w:World} {b gL:Nat} {cv pv iv:Value} {A:Nat→Sh} {wk:List Nat} {wv:Value} {W:World} (hP:SP fns f w b gL cv pv iv A wk wv W) (hG:SG fns f w cv pv iv):SQ f b gL cv pv iv wv A W:=⟨hP.e,hP.ly,(hP.ms hG).ir⟩
theorem SQ.next {f:C.Fn} {b gL:Nat} {cv pv iv wv:Value} {A:Nat→Sh} {W V:World} (h:SQ f b gL cv pv iv wv A W) (hb:Below W.heap.size W V):SQ f b gL cv pv iv wv A V:=⟨C.hp_next h.e hb,h.ly.next hb,h.ir.next hb⟩
set_option maxHeartbeats 4000000 in
theorem standAt_any {f:C.Fn} {b gL:Nat} {cv pv iv wv:Value} {A:Nat→Sh} {W:World} (hP:SQ f b gL cv pv iv wv A W) (hl:f.ins.length≤50000) (p:Int) :
  Calls Tryz.prog 94 #[.pointer (some ⟨b,0,none⟩),.int .i64 p] W fun e w'=>e=.returned (sdV (standOf f A p))∧Below W.heap.size W w':=by
 have HP:=hid hP
 have HM:=hid hP
 clear hP
 have m6:W.cell? ⟨b,6,none⟩=some (.slice (some ⟨gL,0,none⟩) f.ins.length f.ins.length):=(C.cell_hp HP.out.e 6).trans rfl
 have HA:Hid (∀ (q:Addr) (o:Obj) (v:Value),q.block < W.heap.size→W.cell? q=some v→(W.alloc o).cell? q=some v):=hid fun q o v h e=>(((Below.refl W.heap.size W).alloc (Nat.le_refl _) o).cell h).trans e
 have n6:=fun o=>HA.out ⟨b,6,none⟩ o _ (C.lt_hp HP.out.e) m6
 by_cases h0:p < 0
 ·have HS:Hid (standOf f A p=sd0):=hid (if_neg (by omega))
  have hd:decide (p < 0)=true:=by simpa using h0
  clear h0
  go_enter Tryz.func94,Tryz.ntmps94
  go_wp2
  refine bodyPost_ret (v:=.agg #[.int .i64 0,.string ⟨#[]⟩,.string ⟨#[]⟩,.int .i64 0,.int .i64 0,.int .i64 0,.string ⟨#[]⟩]) (results_cell_row Tryz.results94 _ _ W.heap.size 105 #[.int .i64 0,.string ⟨#[]⟩,.string ⟨#[]⟩,.int .i64 0,.int .i64 0,.int .i64 0,.string ⟨#[]⟩] (0,0) _ rfl (heap_alloc_new _ _) Tryz.underlying105 rfl (by kernel_rfl)) rfl ⟨by first | (rw [HS.out];done) | (rw [HS.out];rfl),(Below.refl _ _).alloc (Nat.le_refl _) _⟩
 ·obtain ⟨q,rfl⟩:∃ q:Nat,p=q:=⟨p.toNat,by omega⟩
  clear h0
  by_cases h1:q < f.ins.length
  ·obtain ⟨u0,u1,u2,_,_,_⟩:=HP.out.ly.at h1
   have hgl:=HP.out.ly.lt
   have w0:=fun o=>HA.out ⟨gL,q * 3,none⟩ o _ hgl u0
   have w1:=fun o=>HA.out ⟨gL,q * 3+1,none⟩ o _ hgl u1
   have w2:=fun o=>HA.out ⟨gL,q * 3+2,none⟩ o _ hgl u2
   have hqi:(q:Int) < (f.ins.length:Int):=by omega
   have HSQ:Hid (standOf f A q=⟨((A q).st:Nat),kt (A q).sl,kt (A q).sk,if 0 < (q:Int)∧(A ((q:Int) - 1).toNat).st=1 then f.ins.getD ((q:Int) - 1).toNat in0 else in0⟩):=hid (if_pos ⟨by omega,hqi⟩)
   obtain ⟨st,hst⟩:∃ z:Int,((A q).st:Int)=z:=⟨_,rfl⟩
   obtain ⟨sl,hsl⟩:∃ z,kt (A q).sl=z:=⟨_,rfl⟩
   obtain ⟨sk,hsk⟩:∃ z,kt (A q).sk=z:=⟨_,rfl⟩
   rw [hst] at w0 HSQ
   rw [hsl] at w1 HSQ
   rw [hsk] at w2 HSQ
   clear hst hsl hsk u0 u1 u2
   match q,h1,hqi,HSQ with
   | 0,_,hqi,HSQ =>
    have HS:Hid (standOf f A ((0:Nat):Int)=⟨st,sl,sk,in0⟩):=hid (by rw [HSQ.out,if_neg (by intro h;exact absurd h.1 (by decide))])
    have hie:(f.ins=[])=False:=eq_false (fun e=>by rw [e] at hqi;simp at hqi)
    clear HSQ
    go_enter Tryz.func94,Tryz.ntmps94
    go_wp2
    refine bodyPost_ret (v:=.agg #[.int .i64 st,.string sl,.string sk,.int .i64 0,.int .i64 0,.int .i64 0,.string ⟨#[]⟩]) (results_cell_row Tryz.results94 _ _ W.heap.size 105 #[.int .i64 st,.string sl,.string sk,.int .i64 0,.int .i64 0,.int .i64 0,.string ⟨#[]⟩] (0,0) _ rfl (heap_alloc_new _ _) Tryz.underlying105 rfl (by kernel_rfl)) rfl ⟨by first | (rw [HS.out];done) | (rw [HS.out];rfl),(Below.refl _ _).alloc (Nat.le_refl _) _⟩
   | r+1,h1,hqi,HSQ =>
    have h1r:r < f.ins.length:=by omega
    obtain ⟨x0,_,_,_,_,_⟩:=HP.out.ly.at h1r
    have y0:=fun o=>HA.out ⟨gL,r * 3,none⟩ o _ hgl x0
    obtain ⟨gI,cI,hiv,hgI,hcs⟩:=HM.out.ir.at h1r
    subst hiv
    obtain ⟨z0,z1,z2,z3⟩:=hcs r h1r
    obtain ⟨jn,hjn⟩:∃ z,f.ins.getD r in0=z:=⟨_,rfl⟩
    have HJ:Hid (f.ins.getD r in0=jn):=hid hjn
    rw [show C.in0=in0 from rfl,hjn] at z0 z1 z2 z3
    have m5:W.cell? ⟨b,1+4,none⟩=some (.slice (some ⟨gI,0,none⟩) f.ins.length cI):=(C.cell_hp HP.out.e 5).trans rfl
    have n5:=fun o=>HA.out ⟨b,1+4,none⟩ o _ (C.lt_hp HP.out.e) m5
    have i0:=fun o=>HA.out ⟨gI,r * 4,none⟩ o _ hgI z0
    have i1:=fun o=>HA.out ⟨gI,r * 4+1,none⟩ o _ hgI z1
    have i2:=fun o=>HA.out ⟨gI,r * 4+2,none⟩ o _ hgI z2
    have i3:=fun o=>HA.out ⟨gI,r * 4+3,none⟩ o _ hgI z3
    clear hjn z0 z1 z2 z3 m5 x0 hcs
    have HQ1:Hid (((((r+1:Nat):Int) - 1).toNat)=r):=hid (by omega)
    have e1:(r:Int)+1 - 1=(r:Int):=by omega
    have hri:(r:Int) < (f.ins.length:Int):=by omega
    have hri2:(r:Int)+1 < (f.ins.length:Int):=by omega
    by_cases h9:(A r).st=1
    ·skip
     have HS:Hid (standOf f A ((r+1:Nat):Int)=⟨st,sl,sk,jn⟩):=hid (by rw [HSQ.out,HQ1.out,if_pos ⟨by omega,h9⟩,HJ.out])
     rw [show (((A r).st:Nat):Int)=1 from by omega] at y0
     clear h9 HSQ
     go_enter Tryz.func94,Tryz.ntmps94
     go_wp2
     refine bodyPost_ret (v:=.agg #[.int .i64 st,.string sl,.string sk,.int .i64 jn.op,.int .i64 jn.a,.int .i64 jn.n,.string jn.text]) (results_cell_row Tryz.results94 _ _ W.heap.size 105 #[.int .i64 st,.string sl,.string sk,.int .i64 jn.op,.int .i64 jn.a,.int .i64 jn.n,.string jn.text] (0,0) _ rfl (heap_alloc_new _ _) Tryz.underlying105 rfl (by kernel_rfl)) rfl ⟨by first | (rw [HS.out];done) | (rw [HS.out];rfl),(Below.refl _ _).alloc (Nat.le_refl _) _⟩
    ·skip
     have HS:Hid (standOf f A ((r+1:Nat):Int)=⟨st,sl,sk,in0⟩):=hid (by rw [HSQ.out,HQ1.out,if_neg (fun h=>h9 h.2)])
     obtain ⟨sz,hsz⟩:∃ z:Int,(((A r).st:Nat):Int)=z:=⟨_,rfl⟩
     rw [hsz] at y0
     have hsb:(sz == 1)=false:=by simp;omega
     clear hsz
     clear h9 HSQ
     go_enter Tryz.func94,Tryz.ntmps94
     go_wp2
     refine bodyPost_ret (v:=.agg #[.int .i64 st,.string sl,.string sk,.int .i64 0,.int .i64 0,.int .i64 0,.string ⟨#[]⟩]) (results_cell_row Tryz.results94 _ _ W.heap.size 105 #[.int .i64 st,.string sl,.string sk,.int .i64 0,.int .i64 0,.int .i64 0,.string ⟨#[]⟩] (0,0) _ rfl (heap_alloc_new _ _) Tryz.underlying105 rfl (by kernel_rfl)) rfl ⟨by first | (rw [HS.out];done) | (rw [HS.out];rfl),(Below.refl _ _).alloc (Nat.le_refl _) _⟩
  ·have HS:Hid (standOf f A (q:Int)=sd0):=hid (if_neg (by omega))
   have hge2:f.ins.length≤q:=by omega
   have hge:(f.ins.length:Int)≤(q:Int):=by omega
   clear h1
   go_enter Tryz.func94,Tryz.ntmps94
   go_wp2
   refine bodyPost_ret (v:=.agg #[.int .i64 0,.string ⟨#[]⟩,.string ⟨#[]⟩,.int .i64 0,.int .i64 0,.int .i64 0,.string ⟨#[]⟩]) (results_cell_row Tryz.results94 _ _ W.heap.size 105 #[.int .i64 0,.string ⟨#[]⟩,.string ⟨#[]⟩,.int .i64 0,.int .i64 0,.int .i64 0,.string ⟨#[]⟩] (0,0) _ rfl (heap_alloc_new _ _) Tryz.underlying105 rfl (by kernel_rfl)) rfl ⟨by first | (rw [HS.out];done) | (rw [HS.out];rfl),(Below.refl _ _).alloc (Nat.le_refl _) _⟩
end Go.Proofs.YtbkmglknbflkhaaGreatDoor.M
namespace Go.Proofs.YtbkmglknbflkhaaGreatDoor.M
open Go.RowKit
open C (In Sh in0 fn0 kt lt_hp cell_hp frozen_hp hp_next set_other set_size)
set_option maxRecDepth 20000
def sdC (s:Sd):Nat→Value
 | 0=>.int .i64 s.st
 | 1=>.string s.sl
 | 2=>.string s.sk
 | 3=>.int .i64 s.ins.op
 | 4=>.int .i64 s.ins.a
 | 5=>.int .i64 s.ins.n
 | _=>.string s.ins.text
def StR (W:World) (g n:Nat) (S:Nat→Sd):Prop:=∃ cur:Array Value,W.heap[g]?=some (.cells cur 105 (0,0))∧cur.size=n * 7∧∀ i,i < n→∀ j,j < 7→cur[i * 7+j]?=some (sdC (S i) j)
def updS (S:Nat→Sd) (i:Nat) (s:Sd):Nat→Sd:=fun q=>if q=i then s else S q
theorem updS_at (S:Nat→Sd) (i:Nat) (s:Sd):updS S i s i=s:=if_pos rfl
theorem updS_ne (S:Nat→Sd) {i q:Nat} (s:Sd) (h:¬ q=i):updS S i s q=S q:=if_neg h
def arr7 (cur:Array Value) (b:Nat) (v0 v1 v2 v3 v4 v5 v6:Value):Array Value:=((((((cur.setIfInBounds b v0).setIfInBounds (b+1) v1).setIfInBounds (b+2) v2).setIfInBounds (b+3) v3).setIfInBounds (b+4) v4).setIfInBounds (b+5) v5).setIfInBounds (b+6) v6
theorem arr7_size (cur:Array Value) (b:Nat) (v0 v1 v2 v3 v4 v5 v6:Value):(arr7 cur b v0 v1 v2 v3 v4 v5 v6).size=cur.size:=by unfold arr7;simp
theorem arr7_out (cur:Array Value) (b:Nat) (v0 v1 v2 v3 v4 v5 v6:Value) {k:Nat} (hk:¬ (b≤k∧k < b+7)):(arr7 cur b v0 v1 v2 v3 v4 v5 v6)[k]?=cur[k]?:=by
 unfold arr7
 rw [Array.getElem?_setIfInBounds_ne (by omega),Array.getElem?_setIfInBounds_ne (by omega),Array.getElem?_setIfInBounds_ne (by omega),Array.getElem?_setIfInBounds_ne (by omega),Array.getElem?_setIfInBounds_ne (by omega),Array.getElem?_setIfInBounds_ne (by omega),Array.getElem?_setIfInBounds_ne (by omega)]
theorem arr7_in (cur:Array Value) (b:Nat) (s:Sd) (h:b+7≤cur.size) {j:Nat} (hj:j < 7):(arr7 cur b (sdC s 0) (sdC s 1) (sdC s 2) (sdC s 3) (sdC s 4) (sdC s 5) (sdC s 6))[b+j]?=some (sdC s j):=by
 unfold arr7
 obtain rfl | rfl | rfl | rfl | rfl | rfl | rfl:j=0∨j=1∨j=2∨j=3∨j=4∨j=5∨j=6:=by omega
 ·rw [Array.getElem?_setIfInBounds_ne (by omega),Array.getElem?_setIfInBounds_ne (by omega),Array.getElem?_setIfInBounds_ne (by omega),Array.getElem?_setIfInBounds_ne (by omega),Array.getElem?_setIfInBounds_ne (by omega),Array.getElem?_setIfInBounds_ne (by omega),Nat.add_zero,Array.getElem?_setIfInBounds_self_of_lt (by omega)]
 ·rw [Array.getElem?_setIfInBounds_ne (by omega),Array.getElem?_setIfInBounds_ne (by omega),Array.getElem?_setIfInBounds_ne (by omega),Array.getElem?_setIfInBounds_ne (by omega),Array.getElem?_setIfInBounds_ne (by omega),Array.getElem?_setIfInBounds_self_of_lt (by simp;omega)]
 ·rw [Array.getElem?_setIfInBounds_ne (by omega),Array.getElem?_setIfInBounds_ne (by omega),Array.getElem?_setIfInBounds_ne (by omega),Array.getElem?_setIfInBounds_ne (by omega),Array.getElem?_setIfInBounds_self_of_lt (by simp;omega)]
 ·rw [Array.getElem?_setIfInBounds_ne (by omega),Array.getElem?_setIfInBounds_ne (by omega),Array.getElem?_setIfInBounds_ne (by omega),Array.getElem?_setIfInBounds_self_of_lt (by simp;omega)]
 ·rw [Array.getElem?_setIfInBounds_ne (by omega),Array.getElem?_setIfInBounds_ne (by omega),Array.getElem?_setIfInBounds_self_of_lt (by simp;omega)]
 ·rw [Array.getElem?_setIfInBounds_ne (by omega),Array.getElem?_setIfInBounds_self_of_lt (by simp;omega)]
 ·rw [Array.getElem?_setIfInBounds_self_of_lt (by simp;omega)]
def set7 (W:World) (g b:Nat) (s:Sd):World:=((((((W.setCell ⟨g,b,none⟩ (.int .i64 s.st)).setCell ⟨g,b+1,none⟩ (.string s.sl)).setCell ⟨g,b+2,none⟩ (.string s.sk)).setCell ⟨g,b+3,none⟩ (.int .i64 s.ins.op)).setCell ⟨g,b+4,none⟩ (.int .i64 s.ins.a)).setCell ⟨g,b+5,none⟩ (.int .i64 s.ins.n)).setCell ⟨g,b+6,none⟩ (.string s.ins.text)
theorem set7_heap {W:World} {g:Nat} {cur:Array Value} {t:TypeId} (h:W.heap[g]?=some (.cells cur t (0,0))) (b:Nat) (s:Sd):(set7 W g b s).heap[g]?=some (.cells (arr7 cur b (sdC s 0) (sdC s 1) (sdC s 2) (sdC s 3) (sdC s 4) (sdC s 5) (sdC s 6)) t (0,0)) :=
 J.set_at _ (J.set_at _ (J.set_at _ (J.set_at _ (J.set_at _ (J.set_at _ (J.set_at _ h))))))
theorem set7_other (W:World) {g k:Nat} (b:Nat) (s:Sd) (h:¬ k=g):(set7 W g b s).heap[k]?=W.heap[k]?:=by
 unfold set7
 rw [set_other _ _ _ _ _ h,set_other _ _ _ _ _ h,set_other _ _ _ _ _ h,set_other _ _ _ _ _ h,set_other _ _ _ _ _ h,set_other _ _ _ _ _ h,set_other _ _ _ _ _ h]
theorem StR.lt {W:World} {g n:Nat} {S:Nat→Sd} (h:StR W g n S):g < W.heap.size:=by
 obtain ⟨_,e,_⟩:=h
 exact lt_hp e
theorem StR.keep {W V:World} {g n:Nat} {S:Nat→Sd} (h:StR W g n S) (hg:V.heap[g]?=W.heap[g]?):StR V g n S:=by
 obtain ⟨cur,e,r⟩:=h
 exact ⟨cur,hg.trans e,r⟩
theorem StR.next {W V:World} {g n:Nat} {S:Nat→Sd} (h:StR W g n S) (hb:Below W.heap.size W V):StR V g n S:=h.keep (hb.block g h.lt)
theorem StR.at {W:World} {g n:Nat} {S:Nat→Sd} (h:StR W g n S) {i:Nat} (hi:i < n):(W.cell? ⟨g,i * 7,none⟩=some (.int .i64 (S i).st)∧W.cell? ⟨g,i * 7+1,none⟩=some (.string (S i).sl)∧W.cell? ⟨g,i * 7+2,none⟩=some (.string (S i).sk)∧W.cell? ⟨g,i * 7+3,none⟩=some (.int .i64 (S i).ins.op)∧W.cell? ⟨g,i * 7+4,none⟩=some (.int .i64 (S i).ins.a)∧W.cell? ⟨g,i * 7+5,none⟩=some (.int .i64 (S i).ins.n)∧W.cell? ⟨g,i * 7+6,none⟩=some (.string (S i).ins.text))∧∀ j,W.frozen? ⟨g,j,none⟩=false:=by
 obtain ⟨cur,e,hz,h1⟩:=h
 have k:=fun j (hj:j < 7)=>(cell_hp e (i * 7+j)).trans (h1 i hi j hj)
 exact ⟨⟨k 0 (by decide),k 1 (by decide),k 2 (by decide),k 3 (by decide),k 4 (by decide),k 5 (by decide),k 6 (by decide)⟩,fun j=>frozen_hp e j⟩
theorem StR.set {W:World} {g n:Nat} {S:Nat→Sd} (h:StR W g n S) {i:Nat} (hi:i < n) (s:Sd):StR (set7 W g (i * 7) s) g n (updS S i s):=by
 obtain ⟨cur,e,hz,h1⟩:=h
 refine ⟨_,set7_heap e _ s,by rw [arr7_size];exact hz,fun q hq j hj=>?_⟩
 by_cases hqi:q=i
 ·subst hqi
  rw [updS_at]
  exact arr7_in cur _ s (by omega) hj
 ·rw [updS_ne _ _ hqi,arr7_out _ _ _ _ _ _ _ _ _ (by omega)]
  exact h1 q hq j hj
structure But (g:Nat) (w w':World):Prop where
 os:w'.os=w.os
 tape:w'.tape=w.tape
 output:w'.output=w.output
 size:w.heap.size≤w'.heap.size
 block:∀ k,k < w.heap.size→¬ k=g→w'.heap[k]?=w.heap[k]?
theorem But.refl (g:Nat) (w:World):But g w w:=⟨rfl,rfl,rfl,Nat.le_refl _,fun _ _ _=>rfl⟩
theorem But.trans {g:Nat} {a b c:World} (h:But g a b) (k:But g b c):But g a c:=⟨k.os.trans h.os,k.tape.trans h.tape,k.output.trans h.output,Nat.le_trans h.size k.size,fun i hi hg=>(k.block i (Nat.lt_of_lt_of_le hi h.size) hg).trans (h.block i hi hg)⟩
theorem But.of {g:Nat} {w w':World} (h:Below w.heap.size w w'):But g w w':=⟨h.os,h.tape,h.output,h.size,fun k hk _=>h.block k hk⟩
theorem set7_below (w:World) (g b:Nat) (s:Sd):Below 0 w (set7 w g b s):=by
 unfold set7
 have z:0≤g:=Nat.zero_le g
 exact C.set_lo (C.set_lo (C.set_lo (C.set_lo (C.set_lo (C.set_lo (C.set_lo (Below.refl 0 w) g _ z _) g _ z _) g _ z _) g _ z _) g _ z _) g _ z _) g _ z _
theorem But.put {g:Nat} {a w:World} (h:But g a w) (b:Nat) (s:Sd):But g a (set7 w g b s):=by
 have k:=set7_below w g b s
 exact ⟨k.os.trans h.os,k.tape.trans h.tape,k.output.trans h.output,Nat.le_trans h.size k.size,fun q hq hg=>(set7_other w b s hg).trans (h.block q hq hg)⟩
theorem But.lo {g B:Nat} {a w w':World} (h:But g w w') (k:Below B a w) (hB:B≤g) (hs:B≤w.heap.size):Below B a w':=k.trans ⟨h.os,h.tape,h.output,h.size,fun i hi=>h.block i (by omega) (by omega)⟩
theorem But.hp {g k:Nat} {w w':World} {o:Obj} (h:But g w w') (hk:¬ k=g) (e:w.heap[k]?=some o):w'.heap[k]?=some o:=(h.block k (lt_hp e) hk).trans e
end Go.Proofs.YtbkmglknbflkhaaGreatDoor.M
namespace Go.Proofs.YtbkmglknbflkhaaGreatDoor.M
open Go.RowKit
set_option maxRecDepth 20000
def CodesOk (x:R.Mc):Prop:=∀ c,c < x.codes.length→C.Chk (x.codes.getD c R.cd0).fns 0 0 0
end Go.Proofs.YtbkmglknbflkhaaGreatDoor.M
namespace Go.Proofs.YtbkmglknbflkhaaGreatDoor.R
open Go.RowKit
set_option maxRecDepth 20000
set_option maxHeartbeats 4000000 in
theorem eqMc_same (x:Mc) {u0 v0 u1 v1 u2 v2 u3 v3 u4 v4 u5 v5:Value} {B:Nat} (w:World) (hx:LoMc x) (k0:SCdR B w u0 x.codes) (l0:SCdR B w v0 x.codes) (k1:SStrR B w u1 x.args) (l1:SStrR B w v1 x.args) (k2:SStrR B w u2 x.outs) (l2:SStrR B w v2 x.outs) (k3:SFmR B w u3 x.frames) (l3:SFmR B w v3 x.frames) (k4:SFlR B w u4 x.files) (l4:SFlR B w v4 x.files) (k5:SStrR B w u5 x.said) (l5:SStrR B w v5 x.said) :
  Calls Tryz.prog 9 #[.agg #[u0,u1,u2,u3,.int .i64 x.steps,.int .i64 x.looks,.int .i64 x.kind,.string x.name,.string x.hold,.bool x.over,.int .i64 x.fin,.string x.text,u4,u5],.agg #[v0,v1,v2,v3,.int .i64 x.steps,.int .i64 x.looks,.int .i64 x.kind,.string x.name,.string x.hold,.bool x.over,.int .i64 x.fin,.string x.text,v4,v5]] w fun e w'=>e=.returned (.bool true)∧Below w.heap.size w w':=by
 have e0:(x.name.toList != x.name.toList)=false:=by simp
 have e1:(x.hold.toList != x.hold.toList)=false:=by simp
 have e2:(x.text.toList != x.text.toList)=false:=by simp
 have i0:(x.steps != x.steps)=false:=by simp
 have i1:(x.looks != x.looks)=false:=by simp
 have i2:(x.kind != x.kind)=false:=by simp
 have i3:(x.over != x.over)=false:=by simp
 have i4:(x.fin != x.fin)=false:=by simp
 have K0:=hid (And.intro k0 l0)
 obtain ⟨gu0,rfl⟩:=k0.sl
 obtain ⟨gv0,rfl⟩:=l0.sl
 clear k0 l0
 have K1:=hid (And.intro k1 l1)
 obtain ⟨gu1,rfl⟩:=k1.sl
 obtain ⟨gv1,rfl⟩:=l1.sl
 clear k1 l1
 have K2:=hid (And.intro k2 l2)
 obtain ⟨gu2,rfl⟩:=k2.sl
 obtain ⟨gv2,rfl⟩:=l2.sl
 clear k2 l2
 have K3:=hid (And.intro k3 l3)
 obtain ⟨gu3,rfl⟩:=k3.sl
 obtain ⟨gv3,rfl⟩:=l3.sl
 clear k3 l3
 have K4:=hid (And.intro k4 l4)
 obtain ⟨gu4,rfl⟩:=k4.sl
 obtain ⟨gv4,rfl⟩:=l4.sl
 clear k4 l4
 have K5:=hid (And.intro k5 l5)
 obtain ⟨gu5,rfl⟩:=k5.sl
 obtain ⟨gv5,rfl⟩:=l5.sl
 clear k5 l5
 have HLO:=hid hx
 clear hx
 have HB0:=hid (B2.start w (.cells #[.slice (some ⟨gu0,0,none⟩) x.codes.length x.codes.length,.slice (some ⟨gu1,0,none⟩) x.args.length x.args.length,.slice (some ⟨gu2,0,none⟩) x.outs.length x.outs.length,.slice (some ⟨gu3,0,none⟩) x.frames.length x.frames.length,.int .i64 x.steps,.int .i64 x.looks,.int .i64 x.kind,.string x.name,.string x.hold,.bool x.over,.int .i64 x.fin,.string x.text,.slice (some ⟨gu4,0,none⟩) x.files.length x.files.length,.slice (some ⟨gu5,0,none⟩) x.said.length x.said.length] 34) (.cells #[.slice (some ⟨gv0,0,none⟩) x.codes.length x.codes.length,.slice (some ⟨gv1,0,none⟩) x.args.length x.args.length,.slice (some ⟨gv2,0,none⟩) x.outs.length x.outs.length,.slice (some ⟨gv3,0,none⟩) x.frames.length x.frames.length,.int .i64 x.steps,.int .i64 x.looks,.int .i64 x.kind,.string x.name,.string x.hold,.bool x.over,.int .i64 x.fin,.string x.text,.slice (some ⟨gv4,0,none⟩) x.files.length x.files.length,.slice (some ⟨gv5,0,none⟩) x.said.length x.said.length] 34))
 go_enter Tryz.func9,Tryz.ntmps9
 go_wp2_with fail
 refine (eqSCd_same x.codes _ HLO.out.1 (K0.out.1.next HB0.out.lo) (K0.out.2.next HB0.out.lo)).mono ?_
 rintro e w1 ⟨rfl,hb0⟩
 have HB1:=hid (HB0.out.next hb0)
 clear hb0
 have p1_1:w1.cell? ⟨w.heap.size,1,none⟩=some (.slice (some ⟨gu1,0,none⟩) x.args.length x.args.length):=row_cell HB1.out.e 1
 have q1_1:w1.cell? ⟨w.heap.size+1,1,none⟩=some (.slice (some ⟨gv1,0,none⟩) x.args.length x.args.length):=row_cell HB1.out.f 1
 have p1_2:w1.cell? ⟨w.heap.size,2,none⟩=some (.slice (some ⟨gu2,0,none⟩) x.outs.length x.outs.length):=row_cell HB1.out.e 2
 have q1_2:w1.cell? ⟨w.heap.size+1,2,none⟩=some (.slice (some ⟨gv2,0,none⟩) x.outs.length x.outs.length):=row_cell HB1.out.f 2
 have p1_3:w1.cell? ⟨w.heap.size,3,none⟩=some (.slice (some ⟨gu3,0,none⟩) x.frames.length x.frames.length):=row_cell HB1.out.e 3
 have q1_3:w1.cell? ⟨w.heap.size+1,3,none⟩=some (.slice (some ⟨gv3,0,none⟩) x.frames.length x.frames.length):=row_cell HB1.out.f 3
 have p1_4:w1.cell? ⟨w.heap.size,4,none⟩=some (.int .i64 x.steps):=row_cell HB1.out.e 4
 have q1_4:w1.cell? ⟨w.heap.size+1,4,none⟩=some (.int .i64 x.steps):=row_cell HB1.out.f 4
 have p1_5:w1.cell? ⟨w.heap.size,5,none⟩=some (.int .i64 x.looks):=row_cell HB1.out.e 5
 have q1_5:w1.cell? ⟨w.heap.size+1,5,none⟩=some (.int .i64 x.looks):=row_cell HB1.out.f 5
 have p1_6:w1.cell? ⟨w.heap.size,6,none⟩=some (.int .i64 x.kind):=row_cell HB1.out.e 6
 have q1_6:w1.cell? ⟨w.heap.size+1,6,none⟩=some (.int .i64 x.kind):=row_cell HB1.out.f 6
 have p1_7:w1.cell? ⟨w.heap.size,7,none⟩=some (.string x.name):=row_cell HB1.out.e 7
 have q1_7:w1.cell? ⟨w.heap.size+1,7,none⟩=some (.string x.name):=row_cell HB1.out.f 7
 have p1_8:w1.cell? ⟨w.heap.size,8,none⟩=some (.string x.hold):=row_cell HB1.out.e 8
 have q1_8:w1.cell? ⟨w.heap.size+1,8,none⟩=some (.string x.hold):=row_cell HB1.out.f 8
 have p1_9:w1.cell? ⟨w.heap.size,9,none⟩=some (.bool x.over):=row_cell HB1.out.e 9
 have q1_9:w1.cell? ⟨w.heap.size+1,9,none⟩=some (.bool x.over):=row_cell HB1.out.f 9
 have p1_10:w1.cell? ⟨w.heap.size,10,none⟩=some (.int .i64 x.fin):=row_cell HB1.out.e 10
 have q1_10:w1.cell? ⟨w.heap.size+1,10,none⟩=some (.int .i64 x.fin):=row_cell HB1.out.f 10
 have p1_11:w1.cell? ⟨w.heap.size,11,none⟩=some (.string x.text):=row_cell HB1.out.e 11
 have q1_11:w1.cell? ⟨w.heap.size+1,11,none⟩=some (.string x.text):=row_cell HB1.out.f 11
 have p1_12:w1.cell? ⟨w.heap.size,12,none⟩=some (.slice (some ⟨gu4,0,none⟩) x.files.length x.files.length):=row_cell HB1.out.e 12
 have q1_12:w1.cell? ⟨w.heap.size+1,12,none⟩=some (.slice (some ⟨gv4,0,none⟩) x.files.length x.files.length):=row_cell HB1.out.f 12
 have p1_13:w1.cell? ⟨w.heap.size,13,none⟩=some (.slice (some ⟨gu5,0,none⟩) x.said.length x.said.length):=row_cell HB1.out.e 13
 have q1_13:w1.cell? ⟨w.heap.size+1,13,none⟩=some (.slice (some ⟨gv5,0,none⟩) x.said.length x.said.length):=row_cell HB1.out.f 13
 go_wp2_with fail
 refine (eqSStr_same x.args _ HLO.out.2.1 (K1.out.1.next HB1.out.lo) (K1.out.2.next HB1.out.lo)).mono ?_
 rintro e w2 ⟨rfl,hb1⟩
 have HB2:=hid (HB1.out.next hb1)
 clear hb1
 have p2_2:w2.cell? ⟨w.heap.size,2,none⟩=some (.slice (some ⟨gu2,0,none⟩) x.outs.length x.outs.length):=row_cell HB2.out.e 2
 have q2_2:w2.cell? ⟨w.heap.size+1,2,none⟩=some (.slice (some ⟨gv2,0,none⟩) x.outs.length x.outs.length):=row_cell HB2.out.f 2
 have p2_3:w2.cell? ⟨w.heap.size,3,none⟩=some (.slice (some ⟨gu3,0,none⟩) x.frames.length x.frames.length):=row_cell HB2.out.e 3
 have q2_3:w2.cell? ⟨w.heap.size+1,3,none⟩=some (.slice (some ⟨gv3,0,none⟩) x.frames.length x.frames.length):=row_cell HB2.out.f 3
 have p2_4:w2.cell? ⟨w.heap.size,4,none⟩=some (.int .i64 x.steps):=row_cell HB2.out.e 4
 have q2_4:w2.cell? ⟨w.heap.size+1,4,none⟩=some (.int .i64 x.steps):=row_cell HB2.out.f 4
 have p2_5:w2.cell? ⟨w.heap.size,5,none⟩=some (.int .i64 x.looks):=row_cell HB2.out.e 5
 have q2_5:w2.cell? ⟨w.heap.size+1,5,none⟩=some (.int .i64 x.looks):=row_cell HB2.out.f 5
 have p2_6:w2.cell? ⟨w.heap.size,6,none⟩=some (.int .i64 x.kind):=row_cell HB2.out.e 6
 have q2_6:w2.cell? ⟨w.heap.size+1,6,none⟩=some (.int .i64 x.kind):=row_cell HB2.out.f 6
 have p2_7:w2.cell? ⟨w.heap.size,7,none⟩=some (.string x.name):=row_cell HB2.out.e 7
 have q2_7:w2.cell? ⟨w.heap.size+1,7,none⟩=some (.string x.name):=row_cell HB2.out.f 7
 have p2_8:w2.cell? ⟨w.heap.size,8,none⟩=some (.string x.hold):=row_cell HB2.out.e 8
 have q2_8:w2.cell? ⟨w.heap.size+1,8,none⟩=some (.string x.hold):=row_cell HB2.out.f 8
 have p2_9:w2.cell? ⟨w.heap.size,9,none⟩=some (.bool x.over):=row_cell HB2.out.e 9
 have q2_9:w2.cell? ⟨w.heap.size+1,9,none⟩=some (.bool x.over):=row_cell HB2.out.f 9
 have p2_10:w2.cell? ⟨w.heap.size,10,none⟩=some (.int .i64 x.fin):=row_cell HB2.out.e 10
 have q2_10:w2.cell? ⟨w.heap.size+1,10,none⟩=some (.int .i64 x.fin):=row_cell HB2.out.f 10
 have p2_11:w2.cell? ⟨w.heap.size,11,none⟩=some (.string x.text):=row_cell HB2.out.e 11
 have q2_11:w2.cell? ⟨w.heap.size+1,11,none⟩=some (.string x.text):=row_cell HB2.out.f 11
 have p2_12:w2.cell? ⟨w.heap.size,12,none⟩=some (.slice (some ⟨gu4,0,none⟩) x.files.length x.files.length):=row_cell HB2.out.e 12
 have q2_12:w2.cell? ⟨w.heap.size+1,12,none⟩=some (.slice (some ⟨gv4,0,none⟩) x.files.length x.files.length):=row_cell HB2.out.f 12
 have p2_13:w2.cell? ⟨w.heap.size,13,none⟩=some (.slice (some ⟨gu5,0,none⟩) x.said.length x.said.length):=row_cell HB2.out.e 13
 have q2_13:w2.cell? ⟨w.heap.size+1,13,none⟩=some (.slice (some ⟨gv5,0,none⟩) x.said.length x.said.length):=row_cell HB2.out.f 13
 go_wp2_with fail
 refine (eqSStr_same x.outs _ HLO.out.2.2.1 (K2.out.1.next HB2.out.lo) (K2.out.2.next HB2.out.lo)).mono ?_
 rintro e w3 ⟨rfl,hb2⟩
 have HB3:=hid (HB2.out.next hb2)
 clear hb2
 have p3_3:w3.cell? ⟨w.heap.size,3,none⟩=some (.slice (some ⟨gu3,0,none⟩) x.frames.length x.frames.length):=row_cell HB3.out.e 3
 have q3_3:w3.cell? ⟨w.heap.size+1,3,none⟩=some (.slice (some ⟨gv3,0,none⟩) x.frames.length x.frames.length):=row_cell HB3.out.f 3
 have p3_4:w3.cell? ⟨w.heap.size,4,none⟩=some (.int .i64 x.steps):=row_cell HB3.out.e 4
 have q3_4:w3.cell? ⟨w.heap.size+1,4,none⟩=some (.int .i64 x.steps):=row_cell HB3.out.f 4
 have p3_5:w3.cell? ⟨w.heap.size,5,none⟩=some (.int .i64 x.looks):=row_cell HB3.out.e 5
 have q3_5:w3.cell? ⟨w.heap.size+1,5,none⟩=some (.int .i64 x.looks):=row_cell HB3.out.f 5
 have p3_6:w3.cell? ⟨w.heap.size,6,none⟩=some (.int .i64 x.kind):=row_cell HB3.out.e 6
 have q3_6:w3.cell? ⟨w.heap.size+1,6,none⟩=some (.int .i64 x.kind):=row_cell HB3.out.f 6
 have p3_7:w3.cell? ⟨w.heap.size,7,none⟩=some (.string x.name):=row_cell HB3.out.e 7
 have q3_7:w3.cell? ⟨w.heap.size+1,7,none⟩=some (.string x.name):=row_cell HB3.out.f 7
 have p3_8:w3.cell? ⟨w.heap.size,8,none⟩=some (.string x.hold):=row_cell HB3.out.e 8
 have q3_8:w3.cell? ⟨w.heap.size+1,8,none⟩=some (.string x.hold):=row_cell HB3.out.f 8
 have p3_9:w3.cell? ⟨w.heap.size,9,none⟩=some (.bool x.over):=row_cell HB3.out.e 9
 have q3_9:w3.cell? ⟨w.heap.size+1,9,none⟩=some (.bool x.over):=row_cell HB3.out.f 9
 have p3_10:w3.cell? ⟨w.heap.size,10,none⟩=some (.int .i64 x.fin):=row_cell HB3.out.e 10
 have q3_10:w3.cell? ⟨w.heap.size+1,10,none⟩=some (.int .i64 x.fin):=row_cell HB3.out.f 10
 have p3_11:w3.cell? ⟨w.heap.size,11,none⟩=some (.string x.text):=row_cell HB3.out.e 11
 have q3_11:w3.cell? ⟨w.heap.size+1,11,none⟩=some (.string x.text):=row_cell HB3.out.f 11
 have p3_12:w3.cell? ⟨w.heap.size,12,none⟩=some (.slice (some ⟨gu4,0,none⟩) x.files.length x.files.length):=row_cell HB3.out.e 12
 have q3_12:w3.cell? ⟨w.heap.size+1,12,none⟩=some (.slice (some ⟨gv4,0,none⟩) x.files.length x.files.length):=row_cell HB3.out.f 12
 have p3_13:w3.cell? ⟨w.heap.size,13,none⟩=some (.slice (some ⟨gu5,0,none⟩) x.said.length x.said.length):=row_cell HB3.out.e 13
 have q3_13:w3.cell? ⟨w.heap.size+1,13,none⟩=some (.slice (some ⟨gv5,0,none⟩) x.said.length x.said.length):=row_cell HB3.out.f 13
 go_wp2_with fail
 refine (eqSFm_same x.frames _ HLO.out.2.2.2.1 (K3.out.1.next HB3.out.lo) (K3.out.2.next HB3.out.lo)).mono ?_
 rintro e w4 ⟨rfl,hb3⟩
 have HB4:=hid (HB3.out.next hb3)
 clear hb3
 have p4_4:w4.cell? ⟨w.heap.size,4,none⟩=some (.int .i64 x.steps):=row_cell HB4.out.e 4
 have q4_4:w4.cell? ⟨w.heap.size+1,4,none⟩=some (.int .i64 x.steps):=row_cell HB4.out.f 4
 have p4_5:w4.cell? ⟨w.heap.size,5,none⟩=some (.int .i64 x.looks):=row_cell HB4.out.e 5
 have q4_5:w4.cell? ⟨w.heap.size+1,5,none⟩=some (.int .i64 x.looks):=row_cell HB4.out.f 5
 have p4_6:w4.cell? ⟨w.heap.size,6,none⟩=some (.int .i64 x.kind):=row_cell HB4.out.e 6
 have q4_6:w4.cell? ⟨w.heap.size+1,6,none⟩=some (.int .i64 x.kind):=row_cell HB4.out.f 6
 have p4_7:w4.cell? ⟨w.heap.size,7,none⟩=some (.string x.name):=row_cell HB4.out.e 7
 have q4_7:w4.cell? ⟨w.heap.size+1,7,none⟩=some (.string x.name):=row_cell HB4.out.f 7
 have p4_8:w4.cell? ⟨w.heap.size,8,none⟩=some (.string x.hold):=row_cell HB4.out.e 8
 have q4_8:w4.cell? ⟨w.heap.size+1,8,none⟩=some (.string x.hold):=row_cell HB4.out.f 8
 have p4_9:w4.cell? ⟨w.heap.size,9,none⟩=some (.bool x.over):=row_cell HB4.out.e 9
 have q4_9:w4.cell? ⟨w.heap.size+1,9,none⟩=some (.bool x.over):=row_cell HB4.out.f 9
 have p4_10:w4.cell? ⟨w.heap.size,10,none⟩=some (.int .i64 x.fin):=row_cell HB4.out.e 10
 have q4_10:w4.cell? ⟨w.heap.size+1,10,none⟩=some (.int .i64 x.fin):=row_cell HB4.out.f 10
 have p4_11:w4.cell? ⟨w.heap.size,11,none⟩=some (.string x.text):=row_cell HB4.out.e 11
 have q4_11:w4.cell? ⟨w.heap.size+1,11,none⟩=some (.string x.text):=row_cell HB4.out.f 11
 have p4_12:w4.cell? ⟨w.heap.size,12,none⟩=some (.slice (some ⟨gu4,0,none⟩) x.files.length x.files.length):=row_cell HB4.out.e 12
 have q4_12:w4.cell? ⟨w.heap.size+1,12,none⟩=some (.slice (some ⟨gv4,0,none⟩) x.files.length x.files.length):=row_cell HB4.out.f 12
 have p4_13:w4.cell? ⟨w.heap.size,13,none⟩=some (.slice (some ⟨gu5,0,none⟩) x.said.length x.said.length):=row_cell HB4.out.e 13
 have q4_13:w4.cell? ⟨w.heap.size+1,13,none⟩=some (.slice (some ⟨gv5,0,none⟩) x.said.length x.said.length):=row_cell HB4.out.f 13
 go_wp2_with fail
 refine (eqSFl_same x.files _ HLO.out.2.2.2.2.1 (K4.out.1.next HB4.out.lo) (K4.out.2.next HB4.out.lo)).mono ?_
 rintro e w5 ⟨rfl,hb4⟩
 have HB5:=hid (HB4.out.next hb4)
 clear hb4
 have p5_13:w5.cell? ⟨w.heap.size,13,none⟩=some (.slice (some ⟨gu5,0,none⟩) x.said.length x.said.length):=row_cell HB5.out.e 13
 have q5_13:w5.cell? ⟨w.heap.size+1,13,none⟩=some (.slice (some ⟨gv5,0,none⟩) x.said.length x.said.length):=row_cell HB5.out.f 13
 go_wp2_with fail
 refine (eqSStr_same x.said _ HLO.out.2.2.2.2.2 (K5.out.1.next HB5.out.lo) (K5.out.2.next HB5.out.lo)).mono ?_
 rintro e w6 ⟨rfl,hb5⟩
 have HB6:=hid (HB5.out.next hb5)
 clear hb5
 go_wp2
 go_ret
 exact ⟨rfl,HB6.out.lo⟩
end Go.Proofs.YtbkmglknbflkhaaGreatDoor.R
namespace Go.Proofs.YtbkmglknbflkhaaGreatDoor.C
open Go.RowKit
set_option maxRecDepth 20000
set_option maxHeartbeats 2000000 in
theorem l16Ok_any {fns:List Fn} {w:World} {cv:Value} (h1:FnsRow w cv fns) (hC:CodeS fns) :
  Calls Tryz.prog 26 #[.agg #[cv]] w fun e w'=>∃ c k i:Nat,e=.returned (.bool (decide (c=0)))∧Chk fns c k i∧Below w.heap.size w w':=by
 have HX0:=hid (PX.start w cv)
 have HCO:=hid (check_any (h1.next HX0.out.lo) hC)
 obtain ⟨aF,cF,hcv⟩:=h1.sl
 subst hcv
 clear h1 hC
 go_enter Tryz.func26,Tryz.ntmps26
 go_upto_region 1 with fail
 obtain ⟨W1,hW1⟩:∃ W,w.alloc (.cells #[.slice aF fns.length cF] 59)=W:=⟨_,rfl⟩
 rw [hW1] at HX0 HCO ⊢
 clear hW1
 have k0:=cx HX0.out.e0
 go_wp2_with fail
 refine HCO.out.mono ?_
 rintro e w2 ⟨c,k,i,rfl,hck,hb2⟩
 have HX:=hid (HX0.out.next hb2)
 have HCK:=hid hck
 clear hb2 hck k0 HX0 HCO
 by_cases hc:c=0
 ·subst hc
  go_wp2
  go_ret
  exact ⟨0,k,i,rfl,HCK.out,HX.out.lo⟩
 ·have hcb:((c:Int) == 0)=false:=by simpa using hc
  have HD:Hid (decide (c=0)=false):=hid (decide_eq_false hc)
  clear hc
  go_wp2
  go_ret
  exact ⟨c,k,i,by rw [HD.out];rfl,HCK.out,HX.out.lo⟩
end Go.Proofs.YtbkmglknbflkhaaGreatDoor.C
namespace Go.Proofs.YtbkmglknbflkhaaGreatDoor.C
open Go.RowKit Go.Shelf
set_option maxRecDepth 20000
def flaw (c k i:Nat):Value:=.iface 174 (.agg #[.int .i64 c,.int .i64 k,.int .i64 i])
def TxEnd (fns:List Fn) (w:World) (e:Ending) (w':World):Prop:=((e=.returned .nilIface∧Plain fns 0 0 0)∨∃ c k i:Nat,¬ c=0∧e=.returned (flaw c k i)∧Plain fns c k i)∧Below w.heap.size w w'
structure TX (w:World) (cv:Value) (r:Nat) (W:World):Prop where
 lo:Below w.heap.size w W
 e0:W.heap[w.heap.size]?=some (.cells #[cv] 59)
 er:W.heap[r]?=some (.map (Q.mwE 35) 35)
theorem TX.next {w:World} {cv:Value} {r:Nat} {W V:World} (h:TX w cv r W) (hb:Below W.heap.size W V):TX w cv r V:=⟨h.lo.trans (hb.mono h.lo.size),hp_next h.e0 hb,hp_next h.er hb⟩
structure Gr (w:World) where
 W:World
 h:Below w.heap.size w W
theorem wp_region_gr {P:Program} {id:Nat} {Q:Exit→Act→World→Prop} {a:Act} {w:World} {l:List Oper} (hm:P.follows .mixedOrders=true) (hB:Region.lexB .any l.toArray=true)
  (h:wpQuiet P l.toArray (fun w'=>∃ p:Gr w,w'=p.W) (fun a'=>∀ w',(∃ p:Gr w,w'=p.W)→Q .normal a' w') l a):(Code.region id l.toArray true).wp P Q a w :=
 wp_region_quiet (C:=fun w'=>∃ p:Gr w,w'=p.W) hm hB ⟨⟨w.drew,(Below.refl _ _).drew⟩,rfl⟩ (by simpa using h)
theorem calls_gr {P:Program} {f:FuncId} {args:Array Value} {w:World} {p:Gr w} {v:Value} (h:Below w.heap.size w p.W→Calls P f args p.W fun e w'=>e=.returned v∧Below p.W.heap.size p.W w') :
  Calls P f args p.W fun e w''=>e=.returned v∧∃ p:Gr w,w''=p.W :=
 (h p.h).mono fun _ w' ⟨he,hb⟩=>⟨he,⟨w',p.h.trans (hb.mono p.h.size)⟩,rfl⟩
theorem says_true {p:Nat} {args:Array Value} {w:World} {P:Prop} (h:Calls Tryz.prog p args w fun e w'=>Q.Says e P∧Below w.heap.size w w') (hp:P):Calls Tryz.prog p args w fun e w'=>e=.returned (.bool true)∧Below w.heap.size w w' :=
 h.mono fun _ _ h=>⟨by obtain ⟨⟨x,e1,hx⟩,_⟩:=h;rw [e1,hx.2 hp],h.2⟩
theorem says_false {p:Nat} {args:Array Value} {w:World} {P:Prop} (h:Calls Tryz.prog p args w fun e w'=>Q.Says e P∧Below w.heap.size w w') (hp:¬ P):Calls Tryz.prog p args w fun e w'=>e=.returned (.bool false)∧Below w.heap.size w w' :=
 h.mono fun _ _ h=>⟨by
  obtain ⟨⟨x,e1,hx⟩,_⟩:=h
  rw [e1]
  cases x with
  | false=>rfl
  | true=>exact absurd (hx.1 rfl) hp,h.2⟩
set_option maxHeartbeats 8000000 in
theorem text_any {fns:List Fn} {w:World} {cv:Value} (h1:FnsRow w cv fns) (hC:CodeS fns) (hE:EnvI w) :
  Calls Tryz.prog 118 #[.agg #[cv]] w (TxEnd fns w):=by
 have H1:=hid h1
 have HC:=hid hC
 have HE:=hid hE
 obtain ⟨aF,cF,hcv⟩:=h1.sl
 subst hcv
 have hcap:fns.length≤cF∧cF≤maxLen:=by
  obtain ⟨_,c,e,h2,h3,_⟩:=h1
  injection e with _ _ ec
  subst ec
  exact ⟨h2,h3⟩
 have hfl:fns.length≤9223372036854775807:=by
  have:=hcap.2
  unfold maxLen at this
  omega
 clear h1 hC hE
 go_enter Tryz.func118,Tryz.ntmps118
 go_upto_region 1 with fail
 have HX0:=hid (PX.start w (.slice aF fns.length cF))
 obtain ⟨W1,hW1⟩:∃ W,w.alloc (.cells #[.slice aF fns.length cF] 59)=W:=⟨_,rfl⟩
 rw [hW1] at HX0 ⊢
 clear hW1
 have k0:=cx HX0.out.e0
 by_cases hn0:fns.length=0
 ·have HPL:Hid (Plain fns 1 0 0):=hid (.many fun h=>by omega)
  rw [hn0] at k0
  go_wp2_with fail
  go_ret
  exact ⟨.inr ⟨1,0,0,by decide,rfl,HPL.out⟩,HX0.out.lo⟩
 ·have hnb:((fns.length:Int) == 0)=false:=by simp;intro h;rw [h] at hn0;exact hn0 rfl
  by_cases h60:fns.length≤60
  ·have h60i:¬ (60:Int) < (fns.length:Int):=by omega
   have HLEN:Hid (1≤fns.length∧fns.length≤60):=hid (by omega)
   clear hn0
   go_wp2_with (go_at_call 137;refine (Q.millWords_any _).mono ?_;rintro e w2 ⟨rfl,hw2⟩;have HX:Hid (TX w (.slice aF fns.length cF) W1.heap.size w2):=hid (by rw [hw2];exact ⟨HX0.out.lo.alloc HX0.out.lo.size _,hp_next HX0.out.e0 ((Below.refl _ _).alloc (Nat.le_refl _) _),heap_alloc_new _ _⟩);clear hw2;have k1:=cx HX.out.e0)
   obtain ⟨r,hr⟩:∃ r,W1.heap.size=r:=⟨_,rfl⟩
   rw [hr] at HX ⊢
   clear hr k0 k1 HX0
   go_loopw [26] (fun i wr=>∃ j:Nat,j≤fns.length∧i=.int .i64 j∧TX w (.slice aF fns.length cF) r wr∧∀ p,p < j→FnOk fns p) (fun i _=>fns.length - (intOf i).toNat)
   case atStart=>exact ⟨0,Nat.zero_le _,rfl,HX.out,fun p hp=>absurd hp (Nat.not_lt_zero _)⟩
   case round =>
    obtain ⟨j,hj,rfl,hx,hall⟩:=hrel
    have HX2:=hid hx
    have HALL:=hid hall
    have k0:=cx hx.e0
    clear hx hall HX
    by_cases hlt:j < fns.length
    ·have hlti:(j:Int) < (fns.length:Int):=by omega
     obtain ⟨gF,cF2,e9,_,pv,iv,n0,n1,n2,n3,n4,hpv,hiv⟩:=(H1.out.next HX2.out.lo).at hlt
     injection e9 with ea en ec
     clear en
     subst ea ec
     have HP:=hid hpv
     have HI:=hid hiv
     obtain ⟨aP,cP,rfl⟩:=hpv.sl
     obtain ⟨aI,cI,rfl⟩:=hiv.sl
     have HNS:=hid (HC.out.names j hlt)
     have HIF:Hid (FnOk fns j ↔ _):=hid fnOk_iff
     have HPT:Hid (∀ V,Below wr.heap.size wr V→FnsRow V (.slice (some ⟨gF,0,none⟩) j cF) (fns.take j)):=hid fun V hV=>(H1.out.next (HX2.out.next hV).lo).part hj
     have HTK:Hid ((∃ q,q < (fns.take j).length∧((fns.take j).getD q fn0).name=(fns.getD j fn0).name) ↔ ¬ ∀ i,i < j→¬ (fns.getD i fn0).name=(fns.getD j fn0).name):=hid (by
      have hl:(fns.take j).length=j:=by simp;omega
      rw [hl]
      have eg:∀ i,i < j→(fns.take j).getD i fn0=fns.getD i fn0:=fun i hi=>by rw [List.getD_eq_getElem?_getD,List.getD_eq_getElem?_getD,List.getElem?_take_of_lt hi]
      constructor
      ·rintro ⟨q,hq,h⟩ h9
       rw [eg q hq] at h
       exact h9 q hq h
      ·intro h
       apply Classical.byContradiction
       intro h9
       exact h fun i hi h8=>h9 ⟨i,hi,by rw [eg i hi];exact h8⟩)
     have HTL:Hid ((fns.take j).length≤60):=hid (by simp;omega)
     obtain ⟨f,hf⟩:∃ f,fns.getD j fn0=f:=⟨_,rfl⟩
     rw [hf] at n0 n1 n2 n3 n4 HP HI HNS HIF HTK
     clear hf hpv hiv
     have E5:Hid ((wr.alloc (fbox f (.slice aP f.params.length cP) (.slice aI f.ins.length cI))).heap[wr.heap.size]?=some (fbox f (.slice aP f.params.length cP) (.slice aI f.ins.length cI))):=hid (heap_alloc_new _ _)
     have HAL:Hid (Below wr.heap.size wr (wr.alloc (fbox f (.slice aP f.params.length cP) (.slice aI f.ins.length cI)))):=hid ((Below.refl _ _).alloc (Nat.le_refl _) _)
     go_upto_region 7 with fail
     obtain ⟨W3,hW3⟩:∃ W,wr.alloc (fbox f (.slice aP f.params.length cP) (.slice aI f.ins.length cI))=W:=⟨_,rfl⟩
     rw [hW3] at E5 HAL
     unfold fbox at hW3
     rw [hW3]
     obtain ⟨b5,hb5⟩:∃ b5,wr.heap.size=b5:=⟨_,rfl⟩
     have HAL':Hid (∀ V,Below W3.heap.size W3 V→Below wr.heap.size wr V):=hid fun V hV=>HAL.out.trans (hV.mono HAL.out.size)
     rw [hb5] at E5
     rw [hb5]
     clear hW3 hb5 k0 n0 n1 n2 n3 n4
     have HS:Hid (∀ V,Below W3.heap.size W3 V→V.cell? ⟨w.heap.size,0,none⟩=some (.slice (some ⟨gF,0,none⟩) fns.length cF)∧V.cell? ⟨b5,0,none⟩=some (.string f.name)∧V.cell? ⟨b5,1,none⟩=some (.slice aP f.params.length cP)∧V.cell? ⟨b5,2,none⟩=some (.int .i64 f.result)∧V.cell? ⟨b5,3,none⟩=some (.int .i64 f.slots)∧V.cell? ⟨b5,4,none⟩=some (.slice aI f.ins.length cI)):=hid fun V hV=>by
      obtain ⟨a0,a1,a2,a3,a4⟩:=fx (hp_next E5.out hV)
      exact ⟨cx (HX2.out.next (HAL'.out V hV)).e0,a0,a1,a2,a3,a4⟩
     have HNM:Hid (∀ V,Below W3.heap.size W3 V→Calls Tryz.prog 138 #[.string f.name,.map (some r)] V fun e w'=>Q.Says e (Q.NameOk f.name)∧Below V.heap.size V w'):=hid fun V hV=>Q.isName_at _ _ _ HNS.out (HX2.out.next (HAL'.out V hV)).er
     have HHS:Hid (∀ V,Below W3.heap.size W3 V→Calls Tryz.prog 139 #[.slice (some ⟨gF,0,none⟩) j cF,.string f.name] V fun e w'=>Q.Says e (∃ q,q < (fns.take j).length∧((fns.take j).getD q fn0).name=f.name)∧Below V.heap.size V w'):=hid fun V hV=>hasName_any (HPT.out V (HAL'.out V hV)) HTL.out
     have HRT:Hid (∀ V,Below W3.heap.size W3 V→Calls Tryz.prog 140 #[.agg #[.string f.name,.slice aP f.params.length cP,.int .i64 f.result,.int .i64 f.slots,.slice aI f.ins.length cI]] V fun e w'=>Q.Says e (FnOkR f)∧Below V.heap.size V w'):=hid fun V hV=>fnRight_any (HP.out.next (HAL'.out V hV)) (HI.out.next (HAL'.out V hV))
     have hjc:j≤cF:=by omega
     have hjci:(j:Int)≤(cF:Int):=by omega
     have hjz:(0:Int)≤(j:Int):=by omega
     by_cases hq1:Q.NameOk f.name
     ·have HQ1:=hid hq1
      clear hq1
      by_cases hq2:∃ q,q < (fns.take j).length∧((fns.take j).getD q fn0).name=f.name
      ·have HQ2:=hid hq2
       clear hq2
       obtain ⟨c0,c1,c2,c3,c4,c5⟩:=HS.out _ (Below.refl _ _)
       go_region_with (first | (go_at_call 138;refine (says_true (HNM.out _ (by first | (exact (Below.refl W3.heap.size W3).drew) | (exact (Below.refl _ _).drew) | (exact (Below.refl _ _)))) HQ1.out).mono ?_;rintro e w1 ⟨rfl,hb1⟩;have HB1:=hid (Below.trans (show Below W3.heap.size W3 _ from (by first | (exact (Below.refl W3.heap.size W3).drew) | (exact (Below.refl _ _).drew) | (exact (Below.refl _ _)))) (hb1.mono (by first | (exact ((Below.refl W3.heap.size W3).drew).size) | (exact Nat.le_refl _))));clear hb1;obtain ⟨d0,d1,d2,d3,d4,d5⟩:=HS.out _ HB1.out) | (go_at_call 139;refine (says_true (HHS.out _ (by first | (exact HB1.out) | (exact (Below.refl _ _).drew) | (exact (Below.refl _ _)))) HQ2.out).mono ?_;rintro e w2 ⟨rfl,hb2⟩;have HB2:=hid (Below.trans (show Below W3.heap.size W3 _ from (by first | (exact HB1.out) | (exact (Below.refl _ _).drew) | (exact (Below.refl _ _)))) (hb2.mono (by first | (exact (HB1.out).size) | (exact Nat.le_refl _))));clear hb2;obtain ⟨g0,g1,g2,g3,g4,g5⟩:=HS.out _ HB2.out))
       all_goals go_wp2_with fail
       all_goals go_ret
       all_goals exact ⟨.inr ⟨2,j,0,by decide,rfl,.fn HLEN.out j hlt HALL.out (fun h=>HTK.out.1 HQ2.out (HIF.out.1 h).2.2)⟩,(HX2.out.next (HAL'.out _ HB2.out)).lo⟩
      ·have HQ2:=hid hq2
       clear hq2
       by_cases hq3:FnOkR f
       ·have HQ3:=hid hq3
        clear hq3
        have HOK:Hid (FnOk fns j):=hid (HIF.out.2 ⟨HQ1.out,HQ3.out,Classical.byContradiction fun h=>HQ2.out (HTK.out.2 h)⟩)
        go_region_held3 (fun V=>V.cell? ⟨w.heap.size,0,none⟩=some (.slice (some ⟨gF,0,none⟩) fns.length cF)∧V.cell? ⟨b5,0,none⟩=some (.string f.name)∧V.cell? ⟨b5,1,none⟩=some (.slice aP f.params.length cP)∧V.cell? ⟨b5,2,none⟩=some (.int .i64 f.result)∧V.cell? ⟨b5,3,none⟩=some (.int .i64 f.slots)∧V.cell? ⟨b5,4,none⟩=some (.slice aI f.ins.length cI)) (first | (exact HS.out _ HB3.out) | (exact HS.out _ HB2.out) | (exact HS.out _ HB1.out) | (exact HS.out _ (Below.refl _ _).drew) | go_keep) (first | (go_at_call 138;refine (says_true (HNM.out _ (by first | (exact (Below.refl W3.heap.size W3).drew) | (exact (Below.refl _ _).drew) | (exact (Below.refl _ _)))) HQ1.out).mono ?_;rintro e w1 ⟨rfl,hb1⟩;have HB1:=hid (Below.trans (show Below W3.heap.size W3 _ from (by first | (exact (Below.refl W3.heap.size W3).drew) | (exact (Below.refl _ _).drew) | (exact (Below.refl _ _)))) (hb1.mono (by first | (exact ((Below.refl W3.heap.size W3).drew).size) | (exact Nat.le_refl _))));clear hb1) | (go_at_call 139;refine (says_false (HHS.out _ (by first | (exact HB1.out) | (exact (Below.refl _ _).drew) | (exact (Below.refl _ _)))) HQ2.out).mono ?_;rintro e w2 ⟨rfl,hb2⟩;have HB2:=hid (Below.trans (show Below W3.heap.size W3 _ from (by first | (exact HB1.out) | (exact (Below.refl _ _).drew) | (exact (Below.refl _ _)))) (hb2.mono (by first | (exact (HB1.out).size) | (exact Nat.le_refl _))));clear hb2) | (go_at_call 140;refine (says_true (HRT.out _ (by first | (exact HB2.out) | (exact (Below.refl _ _).drew) | (exact (Below.refl _ _)))) HQ3.out).mono ?_;rintro e w3 ⟨rfl,hb3⟩;have HB3:=hid (Below.trans (show Below W3.heap.size W3 _ from (by first | (exact HB2.out) | (exact (Below.refl _ _).drew) | (exact (Below.refl _ _)))) (hb3.mono (by first | (exact (HB2.out).size) | (exact Nat.le_refl _))));clear hb3))
        all_goals go_wp2_with fail
        all_goals go_roundw
        case rel =>
         refine ⟨j+1,by omega,by go_num,HX2.out.next (HAL'.out _ HB3.out),fun p hp=>?_⟩
         by_cases e:p=j
         ·subst e;exact HOK.out
         ·exact HALL.out p (by omega)
        case measure=>simp [intOf];omega
       ·have HQ3:=hid hq3
        clear hq3
        go_region_held3 (fun V=>V.cell? ⟨w.heap.size,0,none⟩=some (.slice (some ⟨gF,0,none⟩) fns.length cF)∧V.cell? ⟨b5,0,none⟩=some (.string f.name)∧V.cell? ⟨b5,1,none⟩=some (.slice aP f.params.length cP)∧V.cell? ⟨b5,2,none⟩=some (.int .i64 f.result)∧V.cell? ⟨b5,3,none⟩=some (.int .i64 f.slots)∧V.cell? ⟨b5,4,none⟩=some (.slice aI f.ins.length cI)) (first | (exact HS.out _ HB3.out) | (exact HS.out _ HB2.out) | (exact HS.out _ HB1.out) | (exact HS.out _ (Below.refl _ _).drew) | go_keep) (first | (go_at_call 138;refine (says_true (HNM.out _ (by first | (exact (Below.refl W3.heap.size W3).drew) | (exact (Below.refl _ _).drew) | (exact (Below.refl _ _)))) HQ1.out).mono ?_;rintro e w1 ⟨rfl,hb1⟩;have HB1:=hid (Below.trans (show Below W3.heap.size W3 _ from (by first | (exact (Below.refl W3.heap.size W3).drew) | (exact (Below.refl _ _).drew) | (exact (Below.refl _ _)))) (hb1.mono (by first | (exact ((Below.refl W3.heap.size W3).drew).size) | (exact Nat.le_refl _))));clear hb1) | (go_at_call 139;refine (says_false (HHS.out _ (by first | (exact HB1.out) | (exact (Below.refl _ _).drew) | (exact (Below.refl _ _)))) HQ2.out).mono ?_;rintro e w2 ⟨rfl,hb2⟩;have HB2:=hid (Below.trans (show Below W3.heap.size W3 _ from (by first | (exact HB1.out) | (exact (Below.refl _ _).drew) | (exact (Below.refl _ _)))) (hb2.mono (by first | (exact (HB1.out).size) | (exact Nat.le_refl _))));clear hb2) | (go_at_call 140;refine (says_false (HRT.out _ (by first | (exact HB2.out) | (exact (Below.refl _ _).drew) | (exact (Below.refl _ _)))) HQ3.out).mono ?_;rintro e w3 ⟨rfl,hb3⟩;have HB3:=hid (Below.trans (show Below W3.heap.size W3 _ from (by first | (exact HB2.out) | (exact (Below.refl _ _).drew) | (exact (Below.refl _ _)))) (hb3.mono (by first | (exact (HB2.out).size) | (exact Nat.le_refl _))));clear hb3))
        all_goals go_wp2_with fail
        all_goals go_ret
        all_goals exact ⟨.inr ⟨2,j,0,by decide,rfl,.fn HLEN.out j hlt HALL.out (fun h=>HQ3.out (HIF.out.1 h).2.1)⟩,(HX2.out.next (HAL'.out _ HB3.out)).lo⟩
     ·have HQ1:=hid hq1
      clear hq1
      have c0:=fun p:Gr W3=>(HS.out p.W p.h).1
      have c1:=fun p:Gr W3=>(HS.out p.W p.h).2.1
      have hne2:Nonempty (Gr W3):=⟨⟨W3,Below.refl _ _⟩⟩
      refine wp_region_gr (by kernel_rfl) (by kernel_rfl) ?_
      repeat (go_big_quiet_step (first | (go_at_call 138;refine calls_gr (v:=.bool false) fun h=>?_;exact says_false (HNM.out _ h) HQ1.out)))
      refine wpQuiet_nil ?_
      intro _ hw'
      obtain ⟨pw,rfl⟩:=hw'
      have HB1:=hid pw.h
      clear c0 c1 hne2
      all_goals go_wp2_with fail
      all_goals go_ret
      all_goals exact ⟨.inr ⟨2,j,0,by decide,rfl,.fn HLEN.out j hlt HALL.out (fun h=>HQ1.out (HIF.out.1 h).1)⟩,(HX2.out.next (HAL'.out _ HB1.out)).lo⟩
    ·obtain rfl:j=fns.length:=by omega
     have hge:¬ ((fns.length:Int) < (fns.length:Int)):=by omega
     go_wp2_with fail
     clear k0
     go_loopw [57] (fun i wr=>∃ j:Nat,j≤fns.length∧i=.int .i64 j∧TX w (.slice aF fns.length cF) r wr∧∀ q,q < j→∀ p,p < (fns.getD q fn0).ins.length→insB fns (fns.getD q fn0) ((fns.getD q fn0).ins.getD p in0)=true) (fun i _=>fns.length - (intOf i).toNat)
     case atStart=>exact ⟨0,Nat.zero_le _,rfl,HX2.out,fun p hp=>absurd hp (Nat.not_lt_zero _)⟩
     case round =>
      obtain ⟨j,hj,rfl,hx,hins⟩:=hrel
      have HX3:=hid hx
      have HINS:=hid hins
      have k0:=cx hx.e0
      clear hx hins HX2
      by_cases hlt:j < fns.length
      ·have hlti:(j:Int) < (fns.length:Int):=by omega
       obtain ⟨gF,cF2,e9,_,pv,iv,n0,n1,n2,n3,n4,hpv,hiv⟩:=(H1.out.next HX3.out.lo).at hlt
       injection e9 with ea en ec
       clear en
       subst ea ec
       have HI:=hid hiv
       obtain ⟨aP,cP,rfl⟩:=hpv.sl
       obtain ⟨aI,cI,rfl⟩:=hiv.sl
       have hok:=HALL.out j hlt
       have hsl:0≤(fns.getD j fn0).slots∧(fns.getD j fn0).slots≤200:=by have:=hok.slots;omega
       have hil:=hok.some_.2
       have HNU:=hid (HC.out.nums j hlt)
       obtain ⟨f,hf⟩:∃ f,fns.getD j fn0=f:=⟨_,rfl⟩
       rw [hf] at n0 n1 n2 n3 n4 HI HNU hsl hil
       have HFE:=hid hf
       clear hf hpv hiv hok
       have E5:Hid ((wr.alloc (fbox f (.slice aP f.params.length cP) (.slice aI f.ins.length cI))).heap[wr.heap.size]?=some (fbox f (.slice aP f.params.length cP) (.slice aI f.ins.length cI))):=hid (heap_alloc_new _ _)
       have HX4:=hid (HX3.out.next ((Below.refl wr.heap.size wr).alloc (Nat.le_refl _) (fbox f (.slice aP f.params.length cP) (.slice aI f.ins.length cI))))
       have HI4:=hid (HI.out.next ((Below.refl wr.heap.size wr).alloc (Nat.le_refl _) (fbox f (.slice aP f.params.length cP) (.slice aI f.ins.length cI))))
       go_upto_region 13 with fail
       obtain ⟨W3,hW3⟩:∃ W,wr.alloc (fbox f (.slice aP f.params.length cP) (.slice aI f.ins.length cI))=W:=⟨_,rfl⟩
       rw [hW3] at E5 HX4 HI4
       unfold fbox at hW3
       rw [hW3]
       obtain ⟨b5,hb5⟩:∃ b5,wr.heap.size=b5:=⟨_,rfl⟩
       rw [hb5] at E5
       rw [hb5]
       clear hW3 hb5 k0 n0 n1 n2 n3 n4 HX3 HI
       obtain ⟨a0,a1,a2,a3,a4⟩:=fx E5.out
       go_wp2_with fail
       clear a0 a1 a2 a3 a4
       go_loopw [65] (fun i wr=>∃ z:Nat,z≤f.ins.length∧i=.int .i64 z∧Below W3.heap.size W3 wr∧∀ p,p < z→insB fns f (f.ins.getD p in0)=true) (fun i _=>f.ins.length - (intOf i).toNat)
       case atStart=>exact ⟨0,Nat.zero_le _,rfl,Below.refl _ _,fun p hp=>absurd hp (Nat.not_lt_zero _)⟩
       case round =>
        obtain ⟨z,hz,rfl,hlo,hsf⟩:=hrel
        have HLO:=hid hlo
        have HSF:=hid hsf
        clear hlo hsf
        by_cases hzt:z < f.ins.length
        ·have hzi:(z:Int) < (f.ins.length:Int):=by omega
         obtain ⟨gI,cI2,e8,_,hgc⟩:=(HI4.out.next HLO.out).at hzt
         injection e8 with e8 en ec
         clear en
         subst e8 ec
         obtain ⟨m0,m1,m2,m3⟩:=hgc z hzt
         have HN9:=hid (HNU.out z hzt)
         obtain ⟨i,hi⟩:∃ i,f.ins.getD z in0=i:=⟨_,rfl⟩
         rw [hi] at m0 m1 m2 m3 HN9
         have HIE:=hid hi
         clear hi hgc
         have HAL:Hid (Below wr.heap.size wr (wr.alloc (ibox i))):=hid ((Below.refl _ _).alloc (Nat.le_refl _) _)
         have HL9:Hid (Below W3.heap.size W3 (wr.alloc (ibox i))):=hid (HLO.out.trans (HAL.out.mono HLO.out.size))
         have HIR:Hid (Calls Tryz.prog 141 #[.agg #[.int .i64 i.op,.int .i64 i.a,.int .i64 i.n,.string i.text],.agg #[.string f.name,.slice aP f.params.length cP,.int .i64 f.result,.int .i64 f.slots,.slice (some ⟨gI,0,none⟩) f.ins.length cI],.int .i64 fns.length] (wr.alloc (ibox i)) fun e w'=>e=.returned (.bool (insB fns f i))∧Below (wr.alloc (ibox i)).heap.size (wr.alloc (ibox i)) w'):=hid (insRight_any (HE.out.next (HX4.out.next HL9.out).lo) hsl h60 hil HN9.out)
         obtain ⟨op,a,n,tx⟩:=i
         dsimp only at m0 m1 m2 m3 HIR
         unfold ibox at HAL HL9 HIR
         dsimp only at HAL HL9 HIR
         have E9:Hid ((wr.alloc (ibox ⟨op,a,n,tx⟩)).heap[wr.heap.size]?=some (ibox ⟨op,a,n,tx⟩)):=hid (heap_alloc_new _ _)
         go_upto_region 16 with fail
         obtain ⟨W9,hW9⟩:∃ W,wr.alloc (.cells #[.int .i64 op,.int .i64 a,.int .i64 n,.string tx] 103)=W:=⟨_,rfl⟩
         have E9':Hid (W9.heap[wr.heap.size]?=some (ibox ⟨op,a,n,tx⟩)):=hid (by rw [← hW9];exact E9.out)
         rw [hW9] at HL9 HIR ⊢
         clear hW9 HAL E9 m0 m1 m2 m3
         have k0:=cx (HX4.out.next HL9.out).e0
         obtain ⟨a0,a1,a2,a3,a4⟩:=fx (hp_next E5.out HL9.out)
         obtain ⟨j0,j1,j2,j3⟩:=ix E9'.out
         dsimp only at j0 j1 j2 j3
         cases hib:insB fns f ⟨op,a,n,tx⟩ with
         | true =>
          rw [hib] at HIR
          have HNX:Hid (∀ p,p < z+1→insB fns f (f.ins.getD p in0)=true):=hid fun p hp=>by
           by_cases e:p=z
           ·subst e;rw [HIE.out];exact hib
           ·exact HSF.out p (by omega)
          clear hib
          go_wp2_with (go_at_call 141;refine HIR.out.mono ?_;rintro e w6 ⟨rfl,hb6⟩;have HB6:=hid (HL9.out.trans (hb6.mono HL9.out.size));clear hb6)
          go_roundw
          case rel=>exact ⟨z+1,by omega,by go_num,HB6.out,HNX.out⟩
          case measure=>simp [intOf];omega
         | false =>
          rw [hib] at HIR
          have HPL:Hid (Plain fns 3 j z):=hid (.ins HLEN.out HALL.out j z hlt (by rw [HFE.out];exact hzt) HINS.out (by rw [HFE.out];exact HSF.out) (by rw [HFE.out,HIE.out];exact hib))
          clear hib
          go_wp2_with (go_at_call 141;refine HIR.out.mono ?_;rintro e w6 ⟨rfl,hb6⟩;have HB6:=hid (HL9.out.trans (hb6.mono HL9.out.size));clear hb6)
          go_ret
          exact ⟨.inr ⟨3,j,z,by decide,rfl,HPL.out⟩,(HX4.out.next HB6.out).lo⟩
        ·obtain rfl:z=f.ins.length:=by omega
         have hge2:¬ ((f.ins.length:Int) < (f.ins.length:Int)):=by omega
         have HNX:Hid (∀ q,q < j+1→∀ p,p < (fns.getD q fn0).ins.length→insB fns (fns.getD q fn0) ((fns.getD q fn0).ins.getD p in0)=true):=hid fun q hq p hp=>by
          by_cases e:q=j
          ·subst e;rw [HFE.out] at hp ⊢;exact HSF.out p hp
          ·exact HINS.out q (by omega) p hp
         go_wp2_with fail
         go_roundw
         case rel=>exact ⟨j+1,by omega,by go_num,HX4.out.next HLO.out,HNX.out⟩
         case measure=>simp [intOf];omega
      ·obtain rfl:j=fns.length:=by omega
       have hge:¬ ((fns.length:Int) < (fns.length:Int)):=by omega
       have k0:=cx HX3.out.e0
       have HM:=hid (hasMain_any (H1.out.next HX3.out.lo) h60)
       by_cases hm:∃ j,j < fns.length∧isMain (fns.getD j fn0)
       ·have HT:=hid (says_true HM.out hm)
        have HMM:=hid hm
        clear hm
        go_wp2_with (go_at_call 142;refine HT.out.mono ?_;rintro e w5 ⟨rfl,hb5⟩;have HB5:=hid (HX3.out.next hb5).lo;clear hb5)
        go_ret
        obtain ⟨q,hq1,hq2⟩:=HMM.out
        exact ⟨.inl ⟨rfl,.ok HLEN.out HALL.out HINS.out q hq1 hq2⟩,HB5.out⟩
       ·have HT:=hid (says_false HM.out hm)
        have HMM:=hid hm
        clear hm
        go_wp2_with (go_at_call 142;refine HT.out.mono ?_;rintro e w5 ⟨rfl,hb5⟩;have HB5:=hid (HX3.out.next hb5).lo;clear hb5)
        go_ret
        exact ⟨.inr ⟨4,0,0,by decide,rfl,.main HLEN.out HALL.out HINS.out (fun q hq h=>HMM.out ⟨q,hq,h⟩)⟩,HB5.out⟩
  ·have h60i:(60:Int) < (fns.length:Int):=by omega
   have HPL:Hid (Plain fns 1 0 0):=hid (.many fun h=>h60 h.2)
   go_wp2_with fail
   go_ret
   exact ⟨.inr ⟨1,0,0,by decide,rfl,HPL.out⟩,HX0.out.lo⟩
end Go.Proofs.YtbkmglknbflkhaaGreatDoor.C
namespace Go.Proofs.YtbkmglknbflkhaaGreatDoor.M
open Go.RowKit
open Go.Proofs.YtbkmglknbflkhaaGreatDoor.J (Says says_t says_f Says.pos Says.neg)
open Go.Proofs.YtbkmglknbflkhaaGreatDoor.R (hid)
open C (kt Ok10)
set_option maxRecDepth 20000
def eqVB (k n:Int) (t:ByteArray) (k' n':Int) (t':ByteArray):Bool:=k == k' && n == n' && t.toList == t'.toList
theorem eqVB_iff {k n:Int} {t:ByteArray} {k' n':Int} {t':ByteArray}:eqVB k n t k' n' t'=true ↔ (⟨k,n,t⟩:R.Va)=⟨k',n',t'⟩:=by
 unfold eqVB
 simp only [Bool.and_eq_true,beq_iff_eq,R.Va.mk.injEq,and_assoc]
 constructor
 ·rintro ⟨a,b,c⟩
  exact ⟨a,b,J.bytes_eq (by simpa using c)⟩
 ·rintro ⟨a,b,c⟩
  exact ⟨a,b,by rw [c]⟩
theorem eqV1 (k n k' n':Int) (t t':ByteArray) (w:World):(Op.equalIn 10000 127 (.agg #[.int .i64 k,.int .i64 n,.string t]) (.agg #[.int .i64 k',.int .i64 n',.string t'])).run Tryz.prog w=.ok (eqVB k n t k' n' t') w:=by
 have u3:=Tryz.underlying3
 have u2:=Tryz.underlying2
 have u9:=Tryz.underlying9
 have hS:Tryz.prog.underlying 127=some (.struct (Tryz.prog.fieldsOf 127)):=by kernel_rfl
 have hp:Tryz.prog.stoodInHeld 127=false:=by kernel_rfl
 rw [show (10000:Nat)=9999+1 from rfl,run_equalIn_agg w 9999 127 _ _ hS hp]
 simp only [Program.fieldsOf,Tryz.underlying127]
 go_simp
 unfold eqVB
 by_cases h1:k=k' <;> by_cases h2:n=n' <;> by_cases h3:t.toList=t'.toList <;> simp [h1,h2,h3]
theorem neqVBin (k n k' n':Int) (t t':ByteArray) (w:World):(binOp .neq 127 (.agg #[.int .i64 k,.int .i64 n,.string t]) (.agg #[.int .i64 k',.int .i64 n',.string t'])).run Tryz.prog w=.ok (.bool (!eqVB k n t k' n' t')) w:=by
 rw [run_neq_struct,eqV1];rfl
theorem va_at {B:Nat} {W:World} {g n c:Nat} {l:List R.Va} (h:R.SVaR B W (.slice (some ⟨g,0,none⟩) n c) l) {i:Nat} (hi:i < l.length):g < W.heap.size∧W.cell? ⟨g,i * 3,none⟩=some (.int .i64 (l.getD i R.va0).ty)∧W.cell? ⟨g,i * 3+1,none⟩=some (.int .i64 (l.getD i R.va0).n)∧W.cell? ⟨g,i * 3+2,none⟩=some (.string (l.getD i R.va0).text):=by
 obtain ⟨g2,e9,_,hg,a0⟩:=h.at hi
 injection e9 with ea en ec
 injection ea with eb
 injection eb with ec2
 subst ec2
 exact ⟨hg,a0⟩
theorem ok10_at {ks:List Int} (h:Ok10 ks) (i:Nat):0≤ks.getD i 0∧ks.getD i 0≤10:=C.getD_range0 h i
structure VX (wr:World) (x:R.Va) (W:World):Prop where
 lo:Below wr.heap.size wr W
 e:W.heap[wr.heap.size]?=some (.cells #[.int .i64 x.ty,.int .i64 x.n,.string x.text] 127)
theorem VX.start (wr:World) (x:R.Va):VX wr x (wr.alloc (.cells #[.int .i64 x.ty,.int .i64 x.n,.string x.text] 127)):=⟨(Below.refl _ _).alloc (Nat.le_refl _) _,heap_alloc_new _ _⟩
theorem VX.next {wr:World} {x:R.Va} {W V:World} (h:VX wr x W) (hb:Below W.heap.size W V):VX wr x V:=⟨h.lo.trans (hb.mono h.lo.size),C.hp_next h.e hb⟩
theorem VX.c0 {wr:World} {x:R.Va} {W:World} (h:VX wr x W):W.cell? ⟨wr.heap.size,0,none⟩=some (.int .i64 x.ty):=C.cell_hp h.e 0
theorem VX.c1 {wr:World} {x:R.Va} {W:World} (h:VX wr x W):W.cell? ⟨wr.heap.size,1,none⟩=some (.int .i64 x.n):=C.cell_hp h.e 1
theorem VX.c2 {wr:World} {x:R.Va} {W:World} (h:VX wr x W):W.cell? ⟨wr.heap.size,2,none⟩=some (.string x.text):=C.cell_hp h.e 2
theorem vv_true (x:R.Va) (w:World) (h:R.OkVa x) (hv:VOk x):Calls Tryz.prog 121 #[.agg #[.int .i64 x.ty,.int .i64 x.n,.string x.text]] w fun e w'=>e=.returned (.bool true)∧Below w.heap.size w w':=by
 have:=V.implVV x.ty x.n x.text h.2.1.1 h.2.1.2 w
 rwa [show V.validB x.ty x.n x.text=true from hv] at this
theorem vv_false (x:R.Va) (w:World) (h:R.OkVa x) (hv:¬ VOk x):Calls Tryz.prog 121 #[.agg #[.int .i64 x.ty,.int .i64 x.n,.string x.text]] w fun e w'=>e=.returned (.bool false)∧Below w.heap.size w w':=by
 have:=V.implVV x.ty x.n x.text h.2.1.1 h.2.1.2 w
 rwa [show V.validB x.ty x.n x.text=false from Bool.eq_false_iff.2 hv] at this
set_option maxHeartbeats 4000000 in
theorem implStack_any (l:List R.Va) (ks:List Int) {v:Value} {B:Nat} (w:World) (h10:Ok10 ks) (hx:R.OkVaS l) (hl:l.length≤1048576) (k0:R.SVaR B w v l) :
  Calls Tryz.prog 98 #[v,.string (kt ks)] w fun e w'=>Says e (StackOk l ks)∧Below w.heap.size w w':=by
 have HK:=hid k0
 have HX:=hid hx
 have HT:=hid h10
 have HKS:=hid (C.kt_size ks)
 obtain ⟨g,rfl⟩:=k0.sl
 obtain ⟨s,hs⟩:∃ s,kt ks=s:=⟨_,rfl⟩
 have HS:=hid hs
 rw [hs] at HKS ⊢
 clear k0 hx h10 hs
 by_cases he:l.length=ks.length
 ·have hne:((l.length:Int) != (s.size:Int))=false:=by have:=HKS.out;simp;omega
  have HE:=hid he
  clear he
  go_enter Tryz.func98,Tryz.ntmps98
  go_wp2
  go_loopw [14] (fun i wr=>∃ k:Nat,k≤l.length∧i=.int .i64 k∧(∀ i,i < k→(l.getD i R.va0).ty=ks.getD i 0∧VOk (l.getD i R.va0))∧Below w.heap.size w wr) (fun i _=>l.length - (intOf i).toNat)
  case atStart=>exact ⟨0,Nat.zero_le _,rfl,fun i h=>absurd h (Nat.not_lt_zero _),Below.refl _ _⟩
  case round =>
   obtain ⟨k,hk2,rfl,hr,hb⟩:=hrel
   have HB:=hid hb
   have HR:=hid hr
   clear hr hb
   by_cases hlt:k < l.length
   ·obtain ⟨_,a0,a1,a2⟩:=va_at (HK.out.next HB.out) hlt
    have HO:=hid (HX.out.2 k hlt)
    obtain ⟨x,hxe⟩:∃ x,l.getD k R.va0=x:=⟨_,rfl⟩
    have HXE:=hid hxe
    rw [hxe] at a0 a1 a2 HO
    clear hxe
    have hks2:k < s.size:=by have:=HKS.out;have:=HE.out;omega
    have HKT:Hid (((s[k]).toNat:Int)=ks.getD k 0):=by
     have h9:=HS.out
     subst h9
     exact C.kt_get HT.out hks2
    obtain ⟨kd,hkd⟩:∃ kd,ks.getD k 0=kd:=⟨_,rfl⟩
    have HKD:=hid hkd
    have HKB:=hid (ok10_at HT.out k)
    rw [hkd] at HKT HKB
    clear hkd
    obtain ⟨cb,hcb⟩:∃ cb,s[k]=cb:=⟨_,rfl⟩
    rw [hcb] at HKT
    have hlti:(k:Int) < (l.length:Int):=by omega
    go_upto_region 6 with fail
    have HV:=hid (VX.start wr x)
    obtain ⟨W3,hW3⟩:∃ W,wr.alloc (.cells #[.int .i64 x.ty,.int .i64 x.n,.string x.text] 127)=W:=⟨_,rfl⟩
    rw [hW3] at HV ⊢
    clear hW3 a0 a1 a2
    have c0:=fun p:J.Gr W3=>(HV.out.next p.h).c0
    have c1:=fun p:J.Gr W3=>(HV.out.next p.h).c1
    have c2:=fun p:J.Gr W3=>(HV.out.next p.h).c2
    have hne2:Nonempty (J.Gr W3):=⟨⟨W3,Below.refl _ _⟩⟩
    have hcbi:(0:Int)≤(cb.toNat:Int)∧(cb.toNat:Int)≤255:=by have:=cb.toNat_lt;omega
    obtain ⟨cn,hcn⟩:∃ cn:Int,(cb.toNat:Int)=cn:=⟨_,rfl⟩
    have HCN:=hid hcn
    rw [hcn] at HKT hcbi
    by_cases hv:VOk x
    ·have HVO:=hid hv
     clear hv
     refine J.wp_region_gr (by kernel_rfl) (by kernel_rfl) ?_
     repeat (go_big_quiet_step (first | (go_at_call 121;refine J.Calls.gr_of (v:=.bool true) fun _=>?_;exact vv_true x _ HO.out HVO.out)))
     refine wpQuiet_nil ?_
     intro _ hw'
     obtain ⟨pw,rfl⟩:=hw'
     have HB1:=hid pw.h
     clear c0 c1 c2 hne2
     by_cases ht:x.ty=kd
     ·have htb:(x.ty != cn)=false:=by have:=HKT.out;simp;omega
      have HR2:Hid (∀ i,i < k+1→(l.getD i R.va0).ty=ks.getD i 0∧VOk (l.getD i R.va0)):=hid fun i hi=>by
       rcases Nat.lt_or_ge i k with h9 | h9
       ·exact HR.out i h9
       ·obtain rfl:i=k:=by omega
        rw [HXE.out,HKD.out]
        exact ⟨ht,HVO.out⟩
      clear ht
      go_wp2_with fail
      go_roundw
      case rel=>exact ⟨k+1,by omega,by go_num,HR2.out,HB.out.trans ((HV.out.lo.trans (HB1.out.mono HV.out.lo.size)).mono HB.out.size)⟩
      case measure=>simp [intOf];omega
     ·have htb:(x.ty != cn)=true:=by have:=HKT.out;simp;omega
      have HTN:=hid ht
      clear ht
      go_wp2_with fail
      go_ret
      exact ⟨says_f fun h=>HTN.out (by have:=(h.2 k hlt).1;rwa [HXE.out,HKD.out] at this),HB.out.trans ((HV.out.lo.trans (HB1.out.mono HV.out.lo.size)).mono HB.out.size)⟩
    ·have HVO:=hid hv
     clear hv
     refine J.wp_region_gr (by kernel_rfl) (by kernel_rfl) ?_
     repeat (go_big_quiet_step (first | (go_at_call 121;refine J.Calls.gr_of (v:=.bool false) fun _=>?_;exact vv_false x _ HO.out HVO.out)))
     refine wpQuiet_nil ?_
     intro _ hw'
     obtain ⟨pw,rfl⟩:=hw'
     have HB1:=hid pw.h
     clear c0 c1 c2 hne2
     go_wp2_with fail
     go_ret
     exact ⟨says_f fun h=>HVO.out (by have:=(h.2 k hlt).2;rwa [HXE.out] at this),HB.out.trans ((HV.out.lo.trans (HB1.out.mono HV.out.lo.size)).mono HB.out.size)⟩
   ·obtain rfl:k=l.length:=by omega
    have hge:¬ ((l.length:Int) < (l.length:Int)):=by omega
    go_wp2
    go_ret
    exact ⟨says_t ⟨HE.out,HR.out⟩,HB.out⟩
 ·have hne:((l.length:Int) != (s.size:Int))=true:=by have:=HKS.out;simp;omega
  go_enter Tryz.func98,Tryz.ntmps98
  go_wp2
  go_ret
  exact ⟨says_f fun h=>he h.1,Below.refl _ _⟩
end Go.Proofs.YtbkmglknbflkhaaGreatDoor.M
