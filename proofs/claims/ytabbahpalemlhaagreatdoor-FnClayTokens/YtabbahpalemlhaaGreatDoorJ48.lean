import Derived.Deep.QuietTactic
import Derived.BigQuiet
import Derived.Deep.CutBlock
import Derived.Test.YtabbahpalemlhaaGreatDoorJ45
import Derived.Test.YtabbahpalemlhaaGreatDoorJ30
import Derived.Test.YtabbahpalemlhaaGreatDoorJ24
import Derived.Test.YtabbahpalemlhaaGreatDoorJ46
namespace Go.Proofs.YtabbahpalemlhaaGreatDoor.Tk
open Go.RowKit
set_option maxRecDepth 20000
theorem own_sv {R B e size k:Nat} {W V:World} {v:Value} {xs:List Value} (h:W.ownsRow B e size v k xs) (hs:Sv (fun k=>k=R) W V) (hR:R < B):V.ownsRow B e size v k xs:=by
 obtain ⟨h1,h2 | ⟨g,cap,cur,rfl,b,c,d⟩⟩:=h
 ·exact ⟨h1,.inl h2⟩
 ·exact ⟨h1,.inr ⟨g,cap,cur,rfl,b,(hs.block g (Array.getElem?_eq_some_iff.1 c).1 (by show ¬ g=R;omega)).trans c,d⟩⟩
structure LSt (R:Nat) (W2:World) (v:Value) (m q:Nat) (wr:World):Prop where
 by_:Bytes W2.heap.size wr v m
 rd:Rd R wr q
 sv:Sv (fun k=>k=R) W2 wr
 lt:R < W2.heap.size
theorem LSt.next {R m q:Nat} {W2 wr V:World} {v:Value} (h:LSt R W2 v m q wr) (hb:Below wr.heap.size wr V):LSt R W2 v m q V:=⟨h.by_.next hb,h.rd.next hb,Sv.next h.sv hb,h.lt⟩
theorem LSt.drewN {R m q:Nat} {W2 wr:World} {v:Value} (h:LSt R W2 v m q wr) (n:Nat):LSt R W2 v m q (wr.drewN n):=by
 refine ⟨?_,h.rd.sv (S:=fun _=>False) (Sv.drewN (Sv.refl _ _) n) (fun _ h=>h.elim),h.sv.drewN n,h.lt⟩
 obtain ⟨l,h1,h2⟩:=h.by_
 exact ⟨l,own_sv h1 (Sv.drewN (Sv.refl _ _) n) h.lt,h2⟩
theorem LSt.pick {R m q:Nat} {W2 wr V:World} {v:Value} (h:LSt R W2 v m q wr) (hr:Rd R V (q+1)) (hs:Sv (fun k=>k=R) wr V):LSt R W2 v m (q+1) V:=by
 refine ⟨?_,hr,h.sv.trans hs,h.lt⟩
 obtain ⟨l,h1,h2⟩:=h.by_
 exact ⟨l,own_sv h1 hs h.lt,h2⟩
theorem LSt.mono {R m m' q:Nat} {W2 wr:World} {v:Value} (h:LSt R W2 v m q wr) (hm:m≤m'):LSt R W2 v m' q wr:=⟨h.by_.mono hm,h.rd,h.sv,h.lt⟩
theorem LSt.toks {R m q b T:Nat} {W2 wr:World} {v:Value} {tk:Nat→Tk} (h:LSt R W2 v m q wr) (ht:TksAt W2 b T tk) (hb:b < W2.heap.size) (hR:b≠R):TksAt wr b T tk:=ht.keep (h.sv.block b hb hR)
theorem LSt.app {R m q:Nat} {W2 wr V:World} {v v':Value} {l:List UInt8} {y:ByteArray} (h:LSt R W2 v m q wr) (ho:wr.ownsRow W2.heap.size 5 1 v l.length (Lib.byteCells l)) (hl:l.length≤m)
  (ho':V.ownsRow W2.heap.size 5 1 v' (l.length+y.size) (Lib.byteCells l ++ Lib.strCells y)) (hg:wr.grownBy V v.ownBlock):LSt R W2 v' (m+y.size) q V:=by
 have hs:Sv (fun k=>k=R) W2 V:=h.sv.grown hg (fun k e=>.inr (ho.lt k e).1)
 refine ⟨Bytes.app hl ho',?_,hs,h.lt⟩
 obtain ⟨ad,n,cap,h1,h2,h3⟩:=h.rd
 have hRw:R < wr.heap.size:=(Array.getElem?_eq_some_iff.1 h1).1
 have hne:∀ k,k < W2.heap.size→V.heap[k]?=wr.heap[k]?:=fun k hk=>hg.block k (Nat.lt_of_lt_of_le hk h.sv.size) (fun e=>by
  have:=(ho.lt k e.symm).1
  omega)
 refine ⟨ad,n,cap,(hne R h.lt).trans h1,h2,?_⟩
 rcases h3 with h3 | ⟨a,e1,e2,e3⟩
 ·exact .inl h3
 ·refine .inr ⟨a,e1,e2,fun i hi=>?_⟩
  obtain ⟨x,hx⟩:=e3 i hi
  exact ⟨x,(World.cell?_of_block (w:=wr) (hne _ (by rw [add_block];have:=h.lt;omega))).trans hx⟩
def strLen:Value→Nat
 | .string s=>s.size
 | _=>0
structure Plc (T:Nat) (pl:Nat→Nat) (Z:Nat):Prop where
 lt:∀ i,i < T→pl i < Z
 up:∀ i,i+1 < T→pl i < pl (i+1)
theorem plc_of {l:List UInt8} {ts:List Tok} {c a:Nat} (h:scanR l=(ts,c,a)) (hc:c=0):Plc ts.length (fun i=>(ts.getD i tok0).place) l.length :=
 ⟨fun i hi=>(scan_at h hc i hi).2.1,fun i hi=>by
  obtain ⟨_,_,_,_,h5,_,h7,_⟩:=scan_at h hc i (by omega)
  show (ts.getD i tok0).place < (ts.getD (i+1) tok0).place
  rw [h5 hi]
  exact h7⟩
set_option maxHeartbeats 8000000 in
theorem loose_at (R p:Nat) (s:ByteArray) (w:World) (hp:p≤700000000) (hs:s.size≤8000) (hr:Rd R w p) :
  Calls Tryz.prog 18 #[.pointer (some ⟨R,0,none⟩),.string s] w (TxEnd R 20000 p 100000000 w):=by
 obtain ⟨i0,hi,hz0,hz1,hz2⟩:=info_parts (P:=Tryz.prog) (e:=5) (z:=.int .u8 0) (size:=1) (bytes:=1) (by kernel_rfl)
 have HHI:=hid (And.intro hi (And.intro hz0 (And.intro hz1 hz2)))
 have HR:=hid hr
 have hRw:=hr.lt
 clear hr hi hz0 hz1 hz2
 have HSC:=hid (fun W=>sScan_any s W hs)
 obtain ⟨Q,hQ⟩:∃ Q,scanR s.data.toList=Q:=⟨_,rfl⟩
 rw [hQ] at HSC
 obtain ⟨ts,cN,aN⟩:=Q
 dsimp only at HSC
 have HQ:=hid hQ
 have hlen:s.data.toList.length=s.size:=by simp
 have hT:ts.length≤8001:=by
  have:=scanR_len s.data.toList
  rw [hQ] at this
  exact this
 clear hQ
 obtain ⟨ci,hci⟩:∃ i:Int,(cN:Int)=i:=⟨_,rfl⟩
 obtain ⟨ai,hai⟩:∃ i:Int,(aN:Int)=i:=⟨_,rfl⟩
 rw [hci,hai] at HSC
 clear hai
 go_enter Tryz.func18,Tryz.ntmps18
 go_wp2_with fail
 refine (HSC.out _).mono ?_
 rintro e w1 ⟨v1,rfl,ho1,hb1⟩
 have HB1:=hid hb1
 have HO1:=hid ho1
 clear ho1 hb1 HSC
 have HAL:=hid ((Below.refl w1.heap.size w1).alloc (Nat.le_refl _) (.cells #[.int .i64 ci,.int .i64 ai] 26))
 have HF:=hid (heap_alloc_new w1 (.cells #[.int .i64 ci,.int .i64 ai] 26))
 by_cases hc:cN=0
 ·obtain rfl:ci=0:=by omega
  have HP:=hid (plc_of HQ.out hc)
  clear hci
  rw [hlen] at HP
  go_upto_region 2 with fail
  have hb2:Below w.heap.size w (w1.alloc (.cells #[.int .i64 0,.int .i64 ai] 26)):=HB1.out.trans (HAL.out.mono HB1.out.size)
  have ho2:=own_below HO1.out HAL.out
  have h0w:0 < (w1.alloc (.cells #[.int .i64 0,.int .i64 ai] 26)).heap.size:=by simp
  obtain ⟨ta,b,tc,rfl,hta,hbl,htk⟩:=toks_at h0w ho2
  have hbR:ts.length=0∨b≠R:=by
   rcases hta with h | h
   ·exact .inl h
   ·right
    have h9:=(ho2.lt b (by rw [h];rfl)).1
    omega
  obtain ⟨fx,hfx⟩:∃ g,w1.heap.size=g:=⟨_,rfl⟩
  obtain ⟨W2,hW2⟩:∃ W,w1.alloc (.cells #[.int .i64 0,.int .i64 ai] 26)=W:=⟨_,rfl⟩
  rw [hW2] at HF hb2 hbl htk ⊢
  rw [hfx] at HF ⊢
  have hr2:=HR.out.next hb2
  have HTK:=hid htk
  have HB2:=hid hb2
  have hR2:R < W2.heap.size:=hr2.lt
  have HST:Hid (LSt R W2 (.slice (some ⟨W2.heap.size,0,none⟩) 0 0) 0 p (W2.alloc (.cells #[] 5))):=⟨bytes_empty W2,hr2.next ((Below.refl _ _).alloc (Nat.le_refl _) _),(Sv.refl _ _).alloc _,hR2⟩
  have f0:=cell_hp HF.out 0
  simp at f0
  have HTA:=hid hta
  obtain ⟨T,hTe⟩:∃ T,ts.length=T:=⟨_,rfl⟩
  rw [hTe] at HP HTK HTA hT hbR ⊢
  have HBR:=hid hbR
  obtain ⟨pl,hpl⟩:∃ pl:Nat→Nat,(fun i=>(ts.getD i tok0).place)=pl:=⟨_,rfl⟩
  rw [hpl] at HP
  have HPL:Hid (∀ i,(tkOf ts i).place=(pl i:Int)):=fun i=>by rw [← hpl];rfl
  clear hW2 hfx hr2 htk hb2 HAL HB1 HO1 ho2 hta h0w hTe hpl hbR
  go_wp2
  go_loopw [7,8] (fun v a wr=>∃ q pq:Nat,q≤T∧a=.int .i64 q∧LSt R W2 v (9000 * q) pq wr∧pq≤p+2 * q∧p≤pq) (fun _ a _=>T - (intOf a).toNat)
  case atStart=>exact ⟨0,p,Nat.zero_le _,rfl,HST.out,by omega,by omega⟩
  case round =>
   obtain ⟨q,pq,hq,rfl,hst,hpq,hpp⟩:=hrel
   have HS0:=hid hst
   obtain ⟨l,ho,hl⟩:=hst.by_
   obtain ⟨ao,cp,rfl⟩:=own_slice' ho
   have hll:l.length≤72009000:=by omega
   have OWN0:=hid ho
   have HL0:=hid hl
   clear ho hl hst
   by_cases hlt:q < T
   ·have hne:b≠R:=HBR.out.resolve_left (by omega)
    obtain rfl:ta=some ⟨b,0,none⟩:=HTA.out.resolve_left (by omega)
    obtain ⟨k0,k1,k2,k3⟩:=(HS0.out.toks HTK.out hbl hne) q hlt
    rw [HPL.out q] at k3
    have hpq0:=HP.out.lt q hlt
    obtain ⟨P,hP⟩:∃ P,pl q=P:=⟨_,rfl⟩
    rw [hP] at k3 hpq0
    obtain ⟨K,hK⟩:∃ K,(tkOf ts q).kind=K:=⟨_,rfl⟩
    have HK:=hid hK
    rw [hK] at k0
    clear hK
    have hwr:IntKind.i64.wrap ((q:Int)+1)=(q:Int)+1:=by rw [IntKind.wrap_i64];omega
    go_upto_if 33 with fail
    go_cut [9] (fun v wx=>∃ E:Nat,v=.int .i64 E∧P≤E∧E≤s.size∧wx=wr)
    case first =>
     by_cases h1:q+1 < T
     ·have hup:=HP.out.up q h1
      have hlt1:=HP.out.lt (q+1) h1
      obtain ⟨_,_,_,k4⟩:=(HS0.out.toks HTK.out hbl hne) (q+1) h1
      rw [HPL.out (q+1)] at k4
      obtain ⟨E,hE⟩:∃ E,pl (q+1)=E:=⟨_,rfl⟩
      rw [hE] at k4 hup hlt1
      rw [hP] at hup
      clear hP hE
      have h1i:(q:Int)+1 < (T:Int):=by omega
      go_wp2_with fail
      go_meet
      case rel=>exact ⟨E,rfl,by omega,by omega,rfl⟩
     ·have h1i:¬ (q:Int)+1 < (T:Int):=by omega
      go_wp2_with fail
      go_meet
      case rel=>exact ⟨s.size,rfl,by omega,Nat.le_refl _,rfl⟩
    case rest =>
     obtain ⟨E,rfl,hPE,hEs,hwc⟩:=hcut
     have hwc2:=hwc.symm
     subst hwc2
     clear hP
     have hPE1:(P:Int)≤(E:Int):=by omega
     have hPE2:(E:Int)≤(s.size:Int):=by omega
     have hP0:(0:Int)≤(P:Int):=by omega
     have hms:=cut_size s P E
     go_upto_block 2 with fail
     obtain ⟨u0,hu0⟩:∃ u,s.extract P E=u:=⟨_,rfl⟩
     rw [hu0] at hms ⊢
     clear hu0
     go_cut [10] (fun v wx=>∃ u:ByteArray,v=.string u∧u.size≤8000∧LSt R W2 (.slice ao l.length cp) (9000 * q) pq wx)
     case first =>
      go_wp2_with fail
      go_loopw [10] (fun v wx=>∃ u:ByteArray,v=.string u∧u.size≤8000∧LSt R W2 (.slice ao l.length cp) (9000 * q) pq wx) (fun v _=>strLen v)
      case atStart=>exact ⟨_,rfl,by omega,HS0.out⟩
      case round =>
       obtain ⟨u,rfl,hu,hst1⟩:=hrel
       have HS1:=hid hst1
       clear hst1
       by_cases hz:u.size=0
       ·have hzi:¬ (0:Int) < (u.size:Int):=by omega
        go_wp2_with fail
        go_meet
        case rel=>exact ⟨_,rfl,hu,HS1.out⟩
       ·obtain ⟨z,hzz⟩:∃ z,u.size=z+1:=⟨u.size - 1,by omega⟩
        have hzi:(0:Int) < (u.size:Int):=by omega
        have hzl:z < u.size:=by omega
        have hzb:(z:Int) < (u.size:Int):=by omega
        have hze:(z:Int)≤(u.size:Int):=by omega
        have hz0:(0:Int)≤(z:Int):=by omega
        have hwz:IntKind.i64.wrap ((u.size:Int) - 1)=(z:Int):=by rw [IntKind.wrap_i64];omega
        obtain ⟨c,hcc⟩:∃ c,u[z]=c:=⟨_,rfl⟩
        have hxs:(u.extract 0 z).size≤z:=by rw [ByteArray.size_extract];omega
        have HZZ:=hid hzz
        clear hzz
        by_cases h32:c.toNat=32
        ·have hc32:((c.toNat:Int) == 32)=true:=by simp;omega
         go_wp2_with fail
         go_roundw
         case rel=>exact ⟨_,rfl,by omega,HS1.out⟩
         case measure=>show (u.extract 0 z).size < u.size;have:=HZZ.out;omega
        ·have hc32:((c.toNat:Int) == 32)=false:=by simp;omega
         by_cases h10:c.toNat=10
         ·have hc10:((c.toNat:Int) == 10)=true:=by simp;omega
          go_wp2_with fail
          go_roundw
          case rel=>exact ⟨_,rfl,by omega,HS1.out⟩
          case measure=>show (u.extract 0 z).size < u.size;have:=HZZ.out;omega
         ·have hc10:((c.toNat:Int) == 10)=false:=by simp;omega
          go_wp2_with fail
          go_meet
          case rel=>exact ⟨_,rfl,hu,HS1.out⟩
     case rest =>
      obtain ⟨u,rfl,hu,hst1⟩:=hcut
      have HS1:=hid hst1
      clear hst1
      obtain ⟨k0,k1,k2,k3⟩:=(HS1.out.toks HTK.out hbl hne) q hlt
      rw [HK.out] at k0
      go_upto_region 14 with fail
      go_cut [82] (fun c wx=>∃ (bb:Bool) (p2:Nat),c=.bool bb∧p2≤pq+1∧pq≤p2∧LSt R W2 (.slice ao l.length cp) (9000 * q) p2 wx)
      case first =>
       by_cases hK:K=3
       ·subst hK
        go_wp2_with fail
        refine (pick_any R pq 3 _ (by omega) (by omega) HS1.out.rd).mono ?_
        rintro e w5 ⟨⟨y5,rfl,hy5⟩,hr5,hs5⟩
        have HS5:=hid (HS1.out.pick hr5 hs5)
        clear hr5 hs5
        go_wp2_with fail
        go_meet
        case rel=>exact ⟨_,_,rfl,by omega,by omega,HS5.out⟩
       ·have hKf:(K == 3)=false:=by simpa using hK
        go_wp2_with fail
        go_meet
        case rel=>exact ⟨_,_,rfl,by omega,by omega,HS1.out⟩
      case rest =>
       obtain ⟨bb,p2,rfl,hp2,hp3,d2⟩:=hcut
       have HS2:=hid d2
       clear d2 k0 k1 k2 k3 HS1
       go_upto_if 82 with fail
       go_cut [10] (fun v wx=>∃ u2:ByteArray,v=.string u2∧u2.size≤8002∧LSt R W2 (.slice ao l.length cp) (9000 * q) p2 wx)
       case first =>
        cases bb
        ·go_wp2_with fail
         go_meet
         case rel=>exact ⟨_,rfl,by omega,HS2.out⟩
        ·go_wp2_with fail
         go_meet
         case rel=>exact ⟨_,rfl,by rw [ByteArray.size_append,ByteArray.size_append];show 1+u.size+1≤_;omega,HS2.out⟩
       case rest =>
        obtain ⟨u2,rfl,hu2,d3⟩:=hcut
        have HS3:=hid d3
        obtain ⟨l3,ho3,hl3⟩:=d3.by_
        have HO3:=hid ho3
        have HL3:=hid hl3
        have hz3:=d3.sv.size
        clear d3 ho3 hl3 HS2
        have hl3:l3.length≤72009000:=by have:=HL3.out;omega
        have B1:Hid (l3.length+u2.size≤maxLen):=by show _≤_;unfold maxLen;omega
        have B2:Hid (l3.length+u2.size≤140737488355328):=by show _≤_;omega
        go_wp2_with (at_builtin;refine Lib.wpList_append_own_string _ rfl _ _ 22 9 rfl W2.heap.size 5 i0 Tryz.underlying22 Tryz.underlying9 HHI.out.1 HHI.out.2.1 HHI.out.2.2.1 HHI.out.2.2.2 _ _ _ rfl HO3.out u2 rfl B1.out B2.out hz3 ?_;intro v4 w4 o4 g4 _;have HS4:=hid (HS3.out.app HO3.out HL3.out o4 g4);obtain ⟨a4,c4,rfl⟩:=own_slice' o4;clear o4 g4)
        refine (pick_any R p2 5 _ (by omega) (by omega) (HS4.out.next ((Below.refl _ _).alloc (Nat.le_refl _) _)).rd).mono ?_
        rintro e w5 ⟨⟨y5,rfl,hy5⟩,hr5,hs5⟩
        have hy9:y5 < 5:=by omega
        have hz9:(y5:Int) < 5:=by omega
        obtain ⟨t5,c5,hc5⟩:=lit_str (K:=30) hs5 (Nat.lt_of_lt_of_le HS4.out.lt HS4.out.sv.size) y5 (by
         have h7:y5=0∨y5=1∨y5=2∨y5=3∨y5=4:=by omega
         rcases h7 with rfl | rfl | rfl | rfl | rfl <;> exact ⟨_,rfl,by decide⟩)
        have HS5:=hid ((HS4.out.next ((Below.refl _ _).alloc (Nat.le_refl _) _)).pick hr5 hs5)
        obtain ⟨l5,ho5,hl5⟩:=HS5.out.by_
        have HO5:=hid ho5
        have HL5:=hid hl5
        have hz5:=HS5.out.sv.size
        have hl6:l5.length≤72018000:=by have:=HL5.out;omega
        have B3:Hid (l5.length+t5.size≤maxLen):=by show _≤_;unfold maxLen;omega
        have B4:Hid (l5.length+t5.size≤140737488355328):=by show _≤_;omega
        clear hr5 hs5 hy5 ho5 hl5 HS4 B1 B2 HO3 HL3 HS3
        go_wp2_with (at_builtin;refine Lib.wpList_append_own_string _ rfl _ _ 22 9 rfl W2.heap.size 5 i0 Tryz.underlying22 Tryz.underlying9 HHI.out.1 HHI.out.2.1 HHI.out.2.2.1 HHI.out.2.2.2 _ _ _ rfl HO5.out t5 rfl B3.out B4.out hz5 ?_;intro v6 w6 o6 g6 _;have HS6:=hid (HS5.out.app HO5.out HL5.out o6 g6);obtain ⟨a6,c6,rfl⟩:=own_slice' o6;clear o6 g6)
        go_roundw
        case rel=>exact ⟨q+1,p2+1,by omega,by go_num,HS6.out.mono (by omega),by omega,by omega⟩
        case measure=>simp [intOf];omega
   ·obtain rfl:q=T:=by omega
    have hcv:=conv_row wr W2.heap.size _ _ OWN0.out
    have HD:Hid (Drew R 20000 p w wr):=⟨pq,hpp,by omega,HS0.out.rd,(Sv.of_below HB2.out).trans HS0.out.sv⟩
    go_wp2
    go_ret
    exact ⟨⟨_,rfl,by show l.toArray.size≤_;simp;omega⟩,HD.out⟩
 ·have hcf:(ci == 0)=false:=by simp;omega
  have HD:Hid (Drew R 20000 p w (w1.alloc (.cells #[.int .i64 ci,.int .i64 ai] 26))):=⟨p,by omega,by omega,HR.out.next (HB1.out.trans (HAL.out.mono HB1.out.size)),(Sv.of_below HB1.out).alloc _⟩
  go_wp2
  go_ret
  exact ⟨⟨_,rfl,by omega⟩,HD.out⟩
end Go.Proofs.YtabbahpalemlhaaGreatDoor.Tk
