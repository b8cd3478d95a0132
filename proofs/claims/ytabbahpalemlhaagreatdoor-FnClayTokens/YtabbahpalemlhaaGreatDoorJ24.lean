import Derived.Deep.RegionLaw
import Derived.Test.YtabbahpalemlhaaGreatDoorJ02
import Derived.Test.YtabbahpalemlhaaGreatDoorJ22
import Derived.Test.YtabbahpalemlhaaGreatDoorJ23
import Derived.Test.YtabbahpalemlhaaGreatDoorJ18
namespace Go.Proofs.YtabbahpalemlhaaGreatDoor.Tk
open Go.RowKit
set_option maxRecDepth 20000
theorem scanR_len (l:List UInt8):(scanR l).1.length≤8001:=by
 unfold scanR
 by_cases h:8000 < l.length
 ·rw [if_pos h];simp
 ·rw [if_neg h]
  have hl:=scanA_len (l.length+1) l (gapN false l)
  rcases hr:scanA (l.length+1) l (gapN false l) with ⟨ts,o⟩
  rw [hr] at hl
  cases o with
  | none=>simp [itemsOf] at hl;simp;omega
  | some x=>simp
theorem sScan_all (s:ByteArray) (w:World) (hs:s.size≤maxLen) :
  Calls Tryz.prog 6 #[.string s] w fun e w'=>∃ v,e=.returned (.tuple #[v,.agg #[.int .i64 (scanR s.data.toList).2.1,.int .i64 (scanR s.data.toList).2.2]]) ∧
   w'.ownsRow w.heap.size 30 4 v (scanR s.data.toList).1.length (tokRow (scanR s.data.toList).1)∧Below w.heap.size w w':=by
 by_cases h:8000 < s.size
 ·have e:scanR s.data.toList=([],1,0):=by unfold scanR;rw [if_pos (by rw [len_size];exact h)]
  rw [e];exact sScan_long s w hs h
 ·exact sScan_any s w (by omega)
theorem iScan_all (s:ByteArray) (w:World) (hs:s.size≤maxLen) (hE:Env w) :
  Calls Tryz.prog 5 #[.string s] w fun e w'=>∃ v,e=.returned (.tuple #[v,.agg #[.int .i64 (scanR s.data.toList).2.1,.int .i64 (scanR s.data.toList).2.2]]) ∧
   w'.ownsRow w.heap.size 30 4 v (scanR s.data.toList).1.length (tokRow (scanR s.data.toList).1)∧Below w.heap.size w w':=by
 by_cases h:8000 < s.size
 ·have e:scanR s.data.toList=([],1,0):=by unfold scanR;rw [if_pos (by rw [len_size];exact h)]
  rw [e];exact iScan_long s w hs h
 ·exact iScan_any s w (by omega) hE
theorem own_empty (w:World):(w.alloc (.cells #[] 5)).ownsRow w.heap.size 5 1 (.slice (some ⟨w.heap.size,0,none⟩) 0 0) 0 [] :=
 ⟨rfl,.inr ⟨w.heap.size,0,#[],rfl,Nat.le_refl _,heap_alloc_new w _,Nat.le_refl _,by unfold maxLen;omega,rfl,rfl⟩⟩
def Bytes (B:Nat) (W:World) (v:Value) (m:Nat):Prop:=∃ l:List UInt8,W.ownsRow B 5 1 v l.length (Lib.byteCells l)∧l.length≤m
theorem bytes_empty (w:World):Bytes w.heap.size (w.alloc (.cells #[] 5)) (.slice (some ⟨w.heap.size,0,none⟩) 0 0) 0:=⟨[],own_empty w,Nat.le_refl _⟩
theorem Bytes.mono {B m m':Nat} {W:World} {v:Value} (h:Bytes B W v m) (hm:m≤m'):Bytes B W v m':=by
 obtain ⟨l,h1,h2⟩:=h
 exact ⟨l,h1,by omega⟩
theorem Bytes.next {B m:Nat} {W V:World} {v:Value} (h:Bytes B W v m) (hb:Below W.heap.size W V):Bytes B V v m:=by
 obtain ⟨l,h1,h2⟩:=h
 exact ⟨l,own_below h1 hb,h2⟩
theorem Bytes.app {B m:Nat} {V:World} {v':Value} {l:List UInt8} {y:ByteArray} (hl:l.length≤m) (h:V.ownsRow B 5 1 v' (l.length+y.size) (Lib.byteCells l ++ Lib.strCells y)):Bytes B V v' (m+y.size):=by
 refine ⟨l ++ y.data.toList,?_,by rw [List.length_append,len_size];omega⟩
 rw [Lib.strCells_eq,← Lib.byteCells_append] at h
 rw [List.length_append,len_size]
 exact h
def Listed (W:World) (ad:Option Addr) (L:List Nat):Prop:=L=[]∨∃ gk o,ad=some ⟨gk,o,none⟩∧gk < W.heap.size∧∀ i,i < L.length→W.cell? ⟨gk,o+i,none⟩=some (.int .i64 (L.getD i 0:Nat))
theorem Listed.next {W V:World} {ad:Option Addr} {L:List Nat} (h:Listed W ad L) (hb:Below W.heap.size W V):Listed V ad L:=by
 rcases h with h | ⟨gk,o,h1,h2,h3⟩
 ·exact .inl h
 ·exact .inr ⟨gk,o,h1,Nat.lt_of_lt_of_le h2 hb.size,fun i hi=>(hb.cell (p:=⟨gk,o+i,none⟩) h2).trans (h3 i hi)⟩
set_option maxHeartbeats 4000000 in
theorem list_any {nd:Nat→Nd} {O:List (List Nat)} {N b cap g co P:Nat} (L:List Nat) (ad:Option Addr) (ck:Nat) (w:World) (hp:PenAt nd O N b cap g co P w) (hl:Listed w ad L) (hn:L.length≤5000) (hE:∀ k ∈ L,InkOk nd O N b cap g co P k) (hw:wgts O L≤20000000) :
  Calls Tryz.prog 55 #[.pointer (some ⟨P,0,none⟩),.slice ad L.length ck] w fun e w'=>(∃ y:ByteArray,e=.returned (.string y)∧y.size≤wgts O L)∧Below w.heap.size w w':=by
 obtain ⟨i0,hi,hz0,hz1,hz2⟩:=info_parts (P:=Tryz.prog) (e:=5) (z:=.int .u8 0) (size:=1) (bytes:=1) (by kernel_rfl)
 have HHI:=hid (And.intro hi (And.intro hz0 (And.intro hz1 hz2)))
 have HP:=hid hp
 have HL:=hid hl
 have HE:=hid hE
 have HW:Hid (wgts O L≤20000000):=hw
 clear hi hz0 hz1 hz2 hp hl hE hw
 go_enter Tryz.func55,Tryz.ntmps55
 go_wp2
 go_loopw [5,6] (fun v a wr=>∃ q:Nat,q≤L.length∧a=.int .i64 q∧Bytes w.heap.size wr v (wgts O (L.take q))∧Below w.heap.size w wr) (fun _ a _=>L.length - (intOf a).toNat)
 case atStart=>exact ⟨0,Nat.zero_le _,rfl,bytes_empty w,(Below.refl _ _).alloc (Nat.le_refl _) _⟩
 case round =>
  obtain ⟨q,hq,rfl,hby,hbw⟩:=hrel
  have HBW:=hid hbw
  have hwz:=hbw.size
  have HTL:=hid (wgts_take_le O L q)
  obtain ⟨l,hown,hll⟩:=hby
  have OWN0:=hid hown
  have HLL:=hid hll
  have hl2:l.length≤20000000:=by have:=HW.out;have:=HTL.out;omega
  obtain ⟨ao,cp,rfl⟩:=own_slice' hown
  clear hown hbw hll
  by_cases hlt:q < L.length
  ·obtain ⟨gk,o,rfl,hgk,hcell⟩:=HL.out.resolve_left (fun e=>by rw [e] at hlt;exact absurd hlt (Nat.not_lt_zero _))
   have hc0:=hcell q hlt
   have HTS:=hid (wgts_take_succ O L q hlt)
   have HTM:=hid (wgts_take_le O L (q+1))
   have hgd:L.getD q 0=L[q]:=by rw [List.getD_eq_getElem?_getD,List.getElem?_eq_getElem hlt];rfl
   rw [hgd] at hc0
   have HEY:=hid (HE.out L[q] (List.getElem_mem hlt))
   obtain ⟨y,hy⟩:∃ y,L[q]=y:=⟨_,rfl⟩
   rw [hy] at hc0 HTS HEY
   have hKB:wgt O y≤20000000:=by have:=HW.out;have:=HTS.out;have:=HTM.out;omega
   have HCW:Hid (∀ V,Below w.heap.size w V→V.cell? ⟨gk,o+q,none⟩=some (.int .i64 (y:Nat))):=fun V hb=>(hb.cell (p:=⟨gk,o+q,none⟩) hgk).trans hc0
   have hc:=HCW.out _ HBW.out
   clear hcell hgd hy hc0
   by_cases h0:q=0
   ·subst h0
    rw [Nat.add_zero] at hc
    go_wp2_with (first
     | (go_at_call 36;refine (HEY.out _ (HP.out.next HBW.out)).mono ?_;rintro e w3 ⟨⟨S,rfl,hS⟩,hb3⟩;have HB3:=hid (HBW.out.trans (hb3.mono hwz));have HO3:=hid (own_below OWN0.out hb3);have hz3:=HB3.out.size;have b1:l.length+S.size≤maxLen:=(by unfold maxLen;omega);have b2:l.length+S.size≤140737488355328:=(by omega);have B1:=hid b1;have B2:=hid b2;clear hb3 b1 b2)
     | (at_builtin;refine Lib.wpList_append_own_string _ rfl _ _ 22 9 rfl w.heap.size 5 i0 Tryz.underlying22 Tryz.underlying9 HHI.out.1 HHI.out.2.1 HHI.out.2.2.1 HHI.out.2.2.2 _ _ _ rfl HO3.out S rfl B1.out B2.out hz3 ?_;intro v4 w4 o4 g4 _;have HO4:=hid (Bytes.app HLL.out o4);obtain ⟨a4,c4,rfl⟩:=own_slice' o4;have HB4:=hid (HB3.out.grown g4 hz3 (fun k e=>(HO3.out.lt k e).1));clear o4 g4))
    go_wp2
    go_roundw
    case rel=>exact ⟨0+1,by omega,by go_num,HO4.out.mono (by have:=HTS.out;omega),HB4.out⟩
    case measure=>simp [intOf];omega
   ·have hpos:(0:Int) < q:=by omega
    go_wp2_with (at_builtin;refine Lib.wpList_append_own_string _ rfl _ _ 22 9 rfl w.heap.size 5 i0 Tryz.underlying22 Tryz.underlying9 HHI.out.1 HHI.out.2.1 HHI.out.2.2.1 HHI.out.2.2.2 _ _ _ rfl OWN0.out ⟨#[44,32]⟩ rfl ?c3 ?c4 hwz ?_)
    case c3=>show _+2≤_;unfold maxLen;omega
    case c4=>show _+2≤_;omega
    intro v2 wr2 hown2 hgrow2 _
    have HBY2:=hid (Bytes.app HLL.out hown2)
    have HBW2:=hid (HBW.out.grown hgrow2 hwz (fun k e=>(OWN0.out.lt k e).1))
    have hc2:=HCW.out _ HBW2.out
    clear hown2 hgrow2 OWN0 HBW hwz hc
    obtain ⟨l2,hown3,hll3⟩:=HBY2.out
    have hl3:l2.length≤20000002:=by
     have e:(⟨#[44,32]⟩:ByteArray).size=2:=rfl
     have:=HW.out
     have:=HTL.out
     omega
    obtain ⟨ao2,cp2,rfl⟩:=own_slice' hown3
    have OWN2:=hid hown3
    have HL3:Hid (l2.length≤wgts O (L.take q)+2):=hll3
    have hwz:=HBW2.out.size
    clear hown3 hll3 HBY2 hl2
    go_wp2_with (first
     | (go_at_call 36;refine (HEY.out _ (HP.out.next HBW2.out)).mono ?_;rintro e w3 ⟨⟨S,rfl,hS⟩,hb3⟩;have HB3:=hid (HBW2.out.trans (hb3.mono hwz));have HO3:=hid (own_below OWN2.out hb3);have hz3:=HB3.out.size;have b1:l2.length+S.size≤maxLen:=(by unfold maxLen;omega);have b2:l2.length+S.size≤140737488355328:=(by omega);have B1:=hid b1;have B2:=hid b2;clear hb3 b1 b2)
     | (at_builtin;refine Lib.wpList_append_own_string _ rfl _ _ 22 9 rfl w.heap.size 5 i0 Tryz.underlying22 Tryz.underlying9 HHI.out.1 HHI.out.2.1 HHI.out.2.2.1 HHI.out.2.2.2 _ _ _ rfl HO3.out S rfl B1.out B2.out hz3 ?_;intro v4 w4 o4 g4 _;have HO4:=hid (Bytes.app HL3.out o4);obtain ⟨a4,c4,rfl⟩:=own_slice' o4;have HB4:=hid (HB3.out.grown g4 hz3 (fun k e=>(HO3.out.lt k e).1));clear o4 g4))
    go_wp2
    go_roundw
    case rel=>exact ⟨q+1,by omega,by go_num,HO4.out.mono (by have:=HTS.out;omega),HB4.out⟩
    case measure=>simp [intOf];omega
  ·obtain rfl:q=L.length:=by omega
   have hcv:=conv_row wr w.heap.size _ _ OWN0.out
   have HT:Hid (wgts O (L.take L.length)=wgts O L):=by show _=_;rw [List.take_of_length_le (Nat.le_refl _)]
   go_wp2
   go_ret
   exact ⟨⟨_,rfl,by show l.toArray.size≤_;have:=HLL.out;have:=HT.out;simp;omega⟩,HBW.out⟩
end Go.Proofs.YtabbahpalemlhaaGreatDoor.Tk
namespace Go.Proofs.YtabbahpalemlhaaGreatDoor
open Go.RowKit
set_option maxRecDepth 20000
section
variable {s:Ds} {ov0:Value} {w0:World} {p n:Nat} {bad:Bool} {w:World}
theorem tok_at (h:Ad s ov0 w0 p bad n w) :
  Calls Tryz.prog 80 #[.pointer (some ⟨s.D,0,none⟩)] w fun e w'=>∃ (k m q:Int) (t:ByteArray),e=.returned (.agg #[.int .i64 k,.string t,.int .i64 m,.int .i64 q])∧t.size≤1000∧(k≠0→p < s.T)∧Ad s ov0 w0 p bad n w':=by
 obtain ⟨ov,h1,h2⟩:=h
 refine (tok_dk h1).mono ?_
 rintro e w' ⟨k,m,q,t,rfl,a,b,c⟩
 exact ⟨k,m,q,t,rfl,a,b,ov,h1.next c,h2.next c⟩
theorem stop_at (h:Ad s ov0 w0 p bad n w) :
  Calls Tryz.prog 81 #[.pointer (some ⟨s.D,0,none⟩)] w fun e w'=>e=.returned (.tuple #[])∧Ad s ov0 w0 p true n w':=by
 obtain ⟨ov,h1,h2⟩:=h
 refine (stop_dk h1).mono ?_
 rintro e w' ⟨rfl,a,b⟩
 exact ⟨rfl,ov,a,h2.trans b⟩
theorem is_at (h:Ad s ov0 w0 p bad n w) (x:ByteArray) :
  Calls Tryz.prog 90 #[.pointer (some ⟨s.D,0,none⟩),.string x] w fun e w'=>(e=.returned (.bool true)∧p < s.T∧Ad s ov0 w0 p bad n w')∨(e=.returned (.bool false)∧Ad s ov0 w0 p bad n w'):=by
 obtain ⟨ov,h1,h2⟩:=h
 refine (is_dk h1 x).mono ?_
 rintro e w' ⟨b,rfl,a,c⟩
 cases b
 ·exact .inr ⟨rfl,ov,h1.next c,h2.next c⟩
 ·exact .inl ⟨rfl,(a rfl).2,ov,h1.next c,h2.next c⟩
theorem take_at (h:Ad s ov0 w0 p bad n w) (x:ByteArray) :
  Calls Tryz.prog 75 #[.pointer (some ⟨s.D,0,none⟩),.string x] w fun e w'=>(e=.returned (.bool true)∧p < s.T∧Ad s ov0 w0 (p+1) false n w')∨(e=.returned (.bool false)∧Ad s ov0 w0 p bad n w'):=by
 obtain ⟨ov,h1,h2⟩:=h
 refine (take_dk h1 x).mono ?_
 rintro e w' (⟨rfl,rfl,a,b,c⟩ | ⟨rfl,b,c⟩)
 ·exact .inl ⟨rfl,a,ov,b,h2.trans c⟩
 ·exact .inr ⟨rfl,ov,b,h2.trans c⟩
theorem need_to (h:Ad s ov0 w0 p bad n w) (x:ByteArray) :
  Calls Tryz.prog 78 #[.pointer (some ⟨s.D,0,none⟩),.string x] w fun e w'=>e=.returned (.tuple #[])∧∃ p' bad',p≤p'∧p'≤p+1∧(bad=true→bad'=true)∧(p'=p+1∨bad'=true)∧Ad s ov0 w0 p' bad' n w':=by
 obtain ⟨ov,h1,h2⟩:=h
 refine (need_dk h1 x).mono ?_
 rintro e w' ⟨rfl,p',bad',a,b,c,c2,d,f⟩
 exact ⟨rfl,p',bad',a,b,c,c2,ov,d,h2.trans f⟩
theorem need_at (h:Ad s ov0 w0 p bad n w) (x:ByteArray) :
  Calls Tryz.prog 78 #[.pointer (some ⟨s.D,0,none⟩),.string x] w fun e w'=>e=.returned (.tuple #[])∧∃ p' bad',p≤p'∧p'≤p+1∧Ad s ov0 w0 p' bad' n w':=by
 refine (need_to h x).mono ?_
 rintro e w' ⟨rfl,p',bad',a,b,c,c2,d⟩
 exact ⟨rfl,p',bad',a,b,d⟩
theorem name_at9 (h:Ad s ov0 w0 p bad n w) :
  Calls Tryz.prog 76 #[.pointer (some ⟨s.D,0,none⟩)] w fun e w'=>∃ (t:ByteArray) (p':Nat) (bad':Bool),e=.returned (.string t)∧t.size≤1000∧p≤p'∧p'≤p+1∧(p < p'∨bad'=true)∧Ad s ov0 w0 p' bad' n w':=by
 obtain ⟨ov,h1,h2⟩:=h
 refine (name_dk h1).mono ?_
 rintro e w' ⟨t,p',bad',rfl,a,b,c,d,f,g⟩
 exact ⟨t,p',bad',rfl,a,b,c,d,ov,f,h2.trans g⟩
theorem put_at9 (h:Ad s ov0 w0 p bad n w) (x:Nd) (hx:x.text.size≤1000) (hn:n≤1000000) :
  Calls Tryz.prog 58 #[.pointer (some ⟨s.D,0,none⟩),.agg #[.int .i64 x.kind,.int .i64 x.op,.int .i64 x.n,.string x.text,.int .i64 x.kids]] w fun e w'=>e=.returned (.tuple #[])∧Ad s ov0 w0 p bad (n+1) w':=by
 obtain ⟨ov,h1,h2⟩:=h
 refine (put_dk h1 x hx hn).mono ?_
 rintro e w' ⟨rfl,ov',a,b⟩
 exact ⟨rfl,ov',a,h2.trans b⟩
theorem Ad.inc (h:Ad s ov0 w0 p bad n w) (hp:p < s.T):Ad s ov0 w0 (p+1) bad n (w.setCell ⟨s.D,2,none⟩ (.int .i64 ((p:Int)+1))):=by
 obtain ⟨ov,h1,h2⟩:=h
 exact ⟨ov,h1.inc hp,h2.trans (Dt.set s ov w 2 _)⟩
theorem Ad.cells (h:Ad s ov0 w0 p bad n w):w.cell? ⟨s.D,0,none⟩=some (.slice s.ta s.T s.tc)∧w.cell? ⟨s.D,2,none⟩=some (.int .i64 p)∧w.cell? ⟨s.D,3,none⟩=some (.bool bad)∧w.frozen? ⟨s.D,2,none⟩=false:=by
 obtain ⟨ov,h1,h2⟩:=h
 obtain ⟨c0,c1,c2,c3,c5⟩:=h1.cells
 exact ⟨c0,c2,c3,h1.fz 2⟩
end
def deskP (s:Ds) (w:World):Nat:=match w.cell? ⟨s.D,2,none⟩ with
 | some (.int _ i)=>i.toNat
 | _=>0
theorem Ad.deskP {s:Ds} {ov0:Value} {w0:World} {p n:Nat} {bad:Bool} {w:World} (h:Ad s ov0 w0 p bad n w):deskP s w=p:=by
 unfold Proofs.YtabbahpalemlhaaGreatDoor.deskP
 rw [h.cells.2.1]
 simp
def DE (c:Nat) (s:Ds) (ov0:Value) (w0:World) (p n:Nat) (e:Ending) (w':World):Prop:=e=.returned (.tuple #[])∧∃ p' bad' n',p≤p'∧n≤n'∧n'+2 * p≤n+2 * p'+c∧Ad s ov0 w0 p' bad' n' w'
def DI9 (s:Ds) (ov0:Value) (w0:World) (p n:Nat) (e:Ending) (w':World):Prop:=∃ m p':Nat,∃ bad' n',e=.returned (.int .i64 m)∧m≤p' - p+1∧p≤p'∧n≤n'∧n'+2 * p≤n+2 * p'+1∧Ad s ov0 w0 p' bad' n' w'
def EOk9 (s:Ds) (p:Nat):Prop:=∀ (bad:Bool) (n:Nat) (ov0:Value) (w0 w:World),Ad s ov0 w0 p bad n w→n+2 * s.T≤400000+2 * p→Calls Tryz.prog 79 #[.pointer (some ⟨s.D,0,none⟩)] w (DE 0 s ov0 w0 p n)
def OpsOk9 (s:Ds) (r:Int) (p:Nat):Prop:=∀ (bad:Bool) (n:Nat) (ov0:Value) (w0 w:World),Ad s ov0 w0 p bad n w→n+2 * s.T≤400000+2 * p→Calls Tryz.prog 91 #[.pointer (some ⟨s.D,0,none⟩),.int .i64 r] w (DE 0 s ov0 w0 p n)
theorem Ad.comp {s:Ds} {ov0 ov1:Value} {w0 w1:World} {p n:Nat} {bad:Bool} {w:World} (h:Ad s ov1 w1 p bad n w) (k:Dt s ov0 w0 ov1 w1):Ad s ov0 w0 p bad n w:=by
 obtain ⟨ov,a,b⟩:=h
 exact ⟨ov,a,k.trans b⟩
theorem Ad.box {s:Ds} {ov0:Value} {w0:World} {p n:Nat} {bad:Bool} {w:World} (h:Ad s ov0 w0 p bad n w) (o:Obj) :
  ∃ ov1,Dt s ov0 w0 ov1 (w.alloc o)∧Ad s ov1 (w.alloc o) p bad n (w.alloc o)∧∀ p' bad' n' w',Ad s ov1 (w.alloc o) p' bad' n' w'→w'.heap[w.heap.size]?=some o:=by
 obtain ⟨ov,h1,h2⟩:=h
 have hb:=(Below.refl w.heap.size w).alloc (Nat.le_refl _) o
 refine ⟨ov,h2.next hb,⟨ov,h1.next hb,Dt.refl _ _ _⟩,?_⟩
 rintro p' bad' n' w' ⟨ov',_,b⟩
 refine (b.sv.block w.heap.size (by simp) fun e=>?_).trans (heap_alloc_new w o)
 rcases e with e | e
 ·have:=h1.lt
  omega
 ·obtain ⟨O,_,h8,_⟩:=h1.out
  obtain ⟨_,cur,hc⟩:=own_loD h8 _ e
  have:=(Array.getElem?_eq_some_iff.1 hc).1
  omega
set_option maxHeartbeats 4000000 in
theorem e_zero {d:Int} (hd:d≤0):EOk d 3 25:=by
 intro s kind w h hr
 have HR:=hid hr
 have HA0:=hid (sized_at h)
 have HK0:=hid HA0.out.gk
 obtain ⟨vn,vf,e1,_⟩:=h.ex
 have c4:=cell_hp e1 4
 have f4:=frozen_hp e1 4
 have c0:(w.setCell ⟨s.G,4,none⟩ (.int .i64 (s.sz - 1))).cell? ⟨s.G,0,none⟩=some (.pointer (some ⟨s.R,0,none⟩)):=HA0.out.g0
 simp at c4
 have hlo:=hr.lo
 have hhi:=hr.hi
 have hw4:IntKind.i64.wrap (s.sz - 1)=s.sz - 1:=by rw [IntKind.wrap_i64];omega
 clear hr h e1
 go_enter Tryz.func83,Tryz.ntmps83
 go_wp2_with fail
 refine (pick_at HA0.out (HR.out.sub (by omega)) 40 (by omega)).mono ?_
 rintro e w1 ⟨x1,rfl,hx1,at0,gk0⟩
 have hy1:x1 < 40:=by omega
 have hz1:(x1:Int) < 40:=by omega
 clear hx1
 have HA1:=hid at0
 have HK1:=hid (HK0.out.trans gk0)
 clear at0 gk0
 clear c0 c4 f4 hw4
 have hf1:x1=0∨((x1:Int) == 0)=false:=by rcases Nat.eq_zero_or_pos x1 with h | h;exact .inl h;exact .inr (by simp;omega)
 rcases hf1 with rfl | hf1
 ·go_wp2_with fail
  refine (pick_at HA1.out (HR.out.sub (by omega)) 6 (by omega)).mono ?_
  rintro e w2 ⟨x2,rfl,hx2,at0,gk0⟩
  have hy2:x2 < 6:=by omega
  have hz2:(x2:Int) < 6:=by omega
  clear hx2
  have HA2:=hid at0
  have HK2:=hid (HK1.out.trans gk0)
  clear at0 gk0
  go_wp2_with fail
  refine (leaf_at HA2.out (HR.out.sub (by omega)) _).mono ?_
  rintro e w3 hh
  obtain ⟨g3,n3,k3,rfl,l0,at0,gk0⟩:=hh.get
  clear hh
  have HA3:=hid at0
  have HK3:=hid (HK2.out.trans gk0)
  clear at0 gk0
  have HL3:=hid l0
  clear l0
  go_wp2
  go_ret
  exact HL3.out.fin HA3.out HK3.out (by omega) (by omega)
 ·go_wp2_with fail
  refine (leaf_at HA1.out (HR.out.sub (by omega)) _).mono ?_
  rintro e w2 hh
  obtain ⟨g2,n2,k2,rfl,l0,at0,gk0⟩:=hh.get
  clear hh
  have HA2:=hid at0
  have HK2:=hid (HK1.out.trans gk0)
  clear at0 gk0
  have HL2:=hid l0
  clear l0
  go_wp2
  go_ret
  exact HL2.out.fin HA2.out HK2.out (by omega) (by omega)
end Go.Proofs.YtabbahpalemlhaaGreatDoor
