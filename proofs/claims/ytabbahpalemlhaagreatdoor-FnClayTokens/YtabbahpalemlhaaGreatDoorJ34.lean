import Derived.Deep.RegionHeld3
import Derived.Deep.DeepCutAuto
import Derived.Test.YtabbahpalemlhaaGreatDoorJ33
namespace Go.Proofs.YtabbahpalemlhaaGreatDoor
open Go.RowKit
set_option maxRecDepth 20000
def FileEnd (R G:Nat) (P:Nat) (w:World) (e:Ending) (w2:World):Prop:=∃ g n c,e=.returned (.agg #[.slice (some ⟨g,0,none⟩) n c])∧Has 3100 w2 (.slice (some ⟨g,0,none⟩) n c)∧(∃ ns fs,GS R G ns fs (P+30000) w2)∧Gd R w w2
set_option maxHeartbeats 16000000 in
theorem file_any (R G P gl:Nat) (n:Nat) (w:World) (ns:List (ByteArray × Int)) (fs:List Fn) (h:GS R G ns fs P w) (hP:P≤10000) (hns:ns.length≤100) (hfs:fs.length≤100) (hn:n≤5) (hn1:1≤n) :
  Calls Tryz.prog 62 #[.pointer (some ⟨G,0,none⟩),.slice (some ⟨gl,0,none⟩) 0 0,.int .i64 n] w (FileEnd R G P w):=by
 obtain ⟨i0,hi0,hz0,hz1,hz2⟩:=info_parts info_ns
 have HHI:=hid (And.intro hi0 (And.intro hz0 (And.intro hz1 hz2)))
 clear hi0 hz0 hz1 hz2
 obtain ⟨i1,hi1,hz3,hz4,hz5⟩:=info_parts info_sn
 have HH1:=hid (And.intro hi1 (And.intro hz3 (And.intro hz4 hz5)))
 clear hi1 hz3 hz4 hz5
 have hRw:R < w.heap.size:=by obtain ⟨c0,sz0,p0,g0,_⟩:=h;exact g0.rd.lt
 have HB0:=hid ((Below.refl w.heap.size w).alloc (Nat.le_refl _) (.cells #[.slice none 0 0] 50))
 have HBX:=hid (heap_alloc_new w (.cells #[.slice none 0 0] 50))
 have HG0:=hid (h.next HB0.out)
 have HD0:=hid (Gd.of_below HB0.out h.bw)
 clear h
 go_enter Tryz.func62,Tryz.ntmps62
 go_upto_region 1 with fail
 obtain ⟨rb,hrb⟩:∃ g,w.heap.size=g:=⟨_,rfl⟩
 obtain ⟨W0,hW0⟩:∃ W,(w.alloc (.cells #[.slice none 0 0] 50))=W:=⟨_,rfl⟩
 have hR0:R < W0.heap.size:=by rw [← hW0,World.size_alloc];omega
 rw [hW0] at HBX HG0 HD0 ⊢
 rw [hrb] at HBX ⊢
 have HRB:=hid hrb
 clear hrb hW0 HB0
 have HAL:=hid ((Below.refl W0.heap.size W0).alloc (Nat.le_refl _) (.cells #[] 48))
 have HF0:Hid (FI R G W0 0 0 ns.length fs.length P (.slice (some ⟨W0.heap.size,0,none⟩) 0 0) (W0.alloc (.cells #[] 48))):=⟨⟨ns,fs,Nat.le_refl _,Nat.le_refl _,HG0.out.next HAL.out⟩,Parts.none (Nat.le_refl _),Gd.of_below HAL.out HG0.out.bw,hR0⟩
 obtain ⟨xs,ls,q1,q2,q3,q4,q5⟩:=HF0.out.parts
 have HQ2:=hid q2
 have HQ4:=hid q4
 have HQ5:=hid q5
 clear q2 q4 q5
 go_wp2_with (at_builtin;refine wpList_append_own _ rfl _ _ 93 rfl W0.heap.size 48 i0 (.slice none 0 0) 1 24 Tryz.underlying93 HHI.out.1 HHI.out.2.1 HHI.out.2.2.1 HHI.out.2.2.2 rfl (by decide) _ _ xs rfl HQ2.out ⟨gl,0,none⟩ 0 0 [] rfl rfl ?c1 ?c2 ?c3 ?c4 ?c5 ?_)
 case c1=>intro j u hj;simp at hj
 case c2=>intro u hu;simp at hu
 case c3=>unfold maxLen;omega
 case c4=>omega
 case c5=>simp
 intro vz wz oz gz _
 have HF1:=hid (HF0.out.regrown q1 q3 HQ4.out HQ5.out HQ2.out gz (by simpa using oz))
 clear oz gz HQ2 HQ4 HQ5 q1 q3 HF0 HAL
 go_wp2
 go_loopw [7,8,9,10] (fun pv i _ _ wr=>∃ t:Nat,t≤n∧i=.int .i64 t∧FI R G W0 (t * 600) t (ns.length+t) (fs.length+2 * t) (P+t * 5000) pv wr) (fun _ i _ _ _=>n - (intOf i).toNat)
 case atStart=>exact ⟨0,Nat.zero_le _,rfl,by simpa using HF1.out⟩
 case round =>
  obtain ⟨t,ht,rfl,hf⟩:=hrel
  have HF:=hid hf
  obtain ⟨pa,pc,rfl⟩:=hf.psl
  clear hf HF1
  by_cases hlt:t < n
  ·have ht4:t≤4:=by omega
   have hti:(t:Int) < (n:Int):=by omega
   have htm:t * 5000≤20000:=by omega
   have htn:t * 600≤2400:=by omega
   have y0:=HF.out.g0
   go_wp2_with fail
   refine (HF.out.pick (by omega) 8 (by omega)).mono ?_
   rintro e w1 ⟨x,rfl,hx,d1⟩
   have HF1:=hid d1
   clear d1 y0 HF
   have hx7:x=0∨x=1∨x=2∨x=3∨x=4∨(5≤x∧x≤7):=by omega
   clear hx
   rcases hx7 with rfl | rfl | rfl | rfl | rfl | ⟨hx5,hx7⟩
   ·go_wp2_with fail
    refine (l1Dec_any 17 t _ (by have:(5:Nat) < 10 ^ 18:=(by decide);omega) (by decide)).mono ?_
    rintro e w2 ⟨sd,rfl,hsd,hb2⟩
    have HF2:=hid (HF1.out.next hb2)
    clear hb2 HF1
    obtain ⟨nm,hnm⟩:∃ nm:ByteArray,(⟨#[102]⟩:ByteArray) ++ sd=nm:=⟨_,rfl⟩
    have hnz:nm.size≤100:=by rw [← hnm,ByteArray.size_append];show 1+sd.size≤100;omega
    go_wp2_with fail
    refine (HF2.out.def (by omega) (by omega) (by omega) nm hnz).mono ?_
    rintro e w3 ⟨g3,n3,k3,rfl,l3,d3⟩
    have HF3:=hid d3
    have HL3:=hid l3
    clear d3 l3 HF2 hnm
    have HAL:=hid ((Below.refl w3.heap.size w3).alloc (Nat.le_refl _) (.cells #[.slice (some ⟨g3,0,none⟩) n3 k3] 48))
    have HFA:=hid (HF3.out.next HAL.out)
    have HLA:=hid (HL3.out.gk (Gk.of_below (B:=0) HAL.out (Nat.zero_le _)))
    have hwz:W0.heap.size≤w3.heap.size:=HF3.out.gd.size
    obtain ⟨xs,ls,q1,q2,q3,q4,q5⟩:=HFA.out.parts
    have HQ2:=hid q2
    have HQ4:=hid q4
    have HQ5:=hid q5
    clear q2 q4 q5 HL3 HF3
    go_wp2_with (at_builtin;refine wpList_append_own _ rfl _ _ 93 rfl W0.heap.size 48 i0 (.slice none 0 0) 1 24 Tryz.underlying93 HHI.out.1 HHI.out.2.1 HHI.out.2.2.1 HHI.out.2.2.2 rfl (by decide) _ _ xs rfl HQ2.out ⟨w3.heap.size,0,none⟩ 1 1 [.slice (some ⟨g3,0,none⟩) n3 k3] rfl rfl ?c1 ?c2 ?c3 ?c4 ?c5 ?_)
    case c1 =>
     intro j u hj
     match j,hj with
     | 0,hj=>simp at hj;subst hj;exact cell_new_row w3 _ _ 0
    case c2=>intro u hu;simp at hu;subst hu;rfl
    case c3=>unfold maxLen;omega
    case c4=>omega
    case c5=>simp;omega
    intro vz wz oz gz _
    have HFZ:=hid (HFA.out.parted q1 q3 HQ4.out HQ5.out HQ2.out HLA.out gz oz)
    clear oz gz HFA HLA HQ2 HQ4 HQ5 HAL q1 q3
    have hinc:IntKind.i64.wrap ((t:Int)+1)=((t+1:Nat):Int):=by rw [IntKind.wrap_i64];omega
    have HNX:=hid (HFZ.out.mono (N':=(t+1) * 600) (nn':=ns.length+(t+1)) (nf':=fs.length+2 * (t+1)) (P':=P+(t+1) * 5000) (by omega) (by omega) (by omega) (by omega))
    clear HFZ
    go_wp2
    go_roundw
    case rel=>exact ⟨t+1,by omega,by go_num,HNX.out⟩
    case measure=>simp [intOf];omega
   ·go_wp2_with fail
    refine (l1Dec_any 17 t _ (by have:(5:Nat) < 10 ^ 18:=(by decide);omega) (by decide)).mono ?_
    rintro e w2 ⟨sd,rfl,hsd,hb2⟩
    have HF2:=hid (HF1.out.next hb2)
    clear hb2 HF1
    obtain ⟨nm,hnm⟩:∃ nm:ByteArray,(⟨#[102]⟩:ByteArray) ++ sd=nm:=⟨_,rfl⟩
    have hnz:nm.size≤100:=by rw [← hnm,ByteArray.size_append];show 1+sd.size≤100;omega
    go_wp2_with fail
    refine (HF2.out.def (by omega) (by omega) (by omega) nm hnz).mono ?_
    rintro e w3 ⟨g3,n3,k3,rfl,l3,d3⟩
    have HF3:=hid d3
    have HL3:=hid l3
    clear d3 l3 HF2 hnm
    have HAL:=hid ((Below.refl w3.heap.size w3).alloc (Nat.le_refl _) (.cells #[.slice (some ⟨g3,0,none⟩) n3 k3] 48))
    have HFA:=hid (HF3.out.next HAL.out)
    have HLA:=hid (HL3.out.gk (Gk.of_below (B:=0) HAL.out (Nat.zero_le _)))
    have hwz:W0.heap.size≤w3.heap.size:=HF3.out.gd.size
    obtain ⟨xs,ls,q1,q2,q3,q4,q5⟩:=HFA.out.parts
    have HQ2:=hid q2
    have HQ4:=hid q4
    have HQ5:=hid q5
    clear q2 q4 q5 HL3 HF3
    go_wp2_with (at_builtin;refine wpList_append_own _ rfl _ _ 93 rfl W0.heap.size 48 i0 (.slice none 0 0) 1 24 Tryz.underlying93 HHI.out.1 HHI.out.2.1 HHI.out.2.2.1 HHI.out.2.2.2 rfl (by decide) _ _ xs rfl HQ2.out ⟨w3.heap.size,0,none⟩ 1 1 [.slice (some ⟨g3,0,none⟩) n3 k3] rfl rfl ?c1 ?c2 ?c3 ?c4 ?c5 ?_)
    case c1 =>
     intro j u hj
     match j,hj with
     | 0,hj=>simp at hj;subst hj;exact cell_new_row w3 _ _ 0
    case c2=>intro u hu;simp at hu;subst hu;rfl
    case c3=>unfold maxLen;omega
    case c4=>omega
    case c5=>simp;omega
    intro vz wz oz gz _
    have HFZ:=hid (HFA.out.parted q1 q3 HQ4.out HQ5.out HQ2.out HLA.out gz oz)
    clear oz gz HFA HLA HQ2 HQ4 HQ5 HAL q1 q3
    have hinc:IntKind.i64.wrap ((t:Int)+1)=((t+1:Nat):Int):=by rw [IntKind.wrap_i64];omega
    have HNX:=hid (HFZ.out.mono (N':=(t+1) * 600) (nn':=ns.length+(t+1)) (nf':=fs.length+2 * (t+1)) (P':=P+(t+1) * 5000) (by omega) (by omega) (by omega) (by omega))
    clear HFZ
    go_wp2
    go_roundw
    case rel=>exact ⟨t+1,by omega,by go_num,HNX.out⟩
    case measure=>simp [intOf];omega
   ·go_wp2_with fail
    refine (l1Dec_any 17 t _ (by have:(5:Nat) < 10 ^ 18:=(by decide);omega) (by decide)).mono ?_
    rintro e w2 ⟨sd,rfl,hsd,hb2⟩
    have HF2:=hid (HF1.out.next hb2)
    clear hb2 HF1
    obtain ⟨nm0,hnm⟩:∃ nm:ByteArray,(⟨#[115]⟩:ByteArray) ++ sd=nm:=⟨_,rfl⟩
    have hnz:nm0.size≤99:=by rw [← hnm,ByteArray.size_append];show 1+sd.size≤99;omega
    have y0:=HF2.out.g0
    go_wp2_with fail
    refine (HF2.out.pick (by omega) 8 (by omega)).mono ?_
    rintro e w3 ⟨y,rfl,hy,d3⟩
    have HF3:=hid d3
    clear d3 hy y0 HF2
    go_upto_if 55 with fail
    clear hnm
    go_cut [9] (fun v wx=>∃ nm:ByteArray,v=.string nm∧nm.size≤100∧FI R G W0 (t * 600) t (ns.length+t) (fs.length+2 * t) (P+t * 5000+1+1) (.slice pa t pc) wx)
    case first =>
     by_cases hy0:y=0
     ·subst hy0
      go_wp2_with fail
      go_meet
      case rel=>exact ⟨_,rfl,by rw [ByteArray.size_append];show 1+nm0.size≤100;omega,HF3.out⟩
     ·have hy1:((y:Int) == 0)=false:=by simpa using hy0
      go_wp2_with fail
      go_meet
      case rel=>exact ⟨_,rfl,by omega,HF3.out⟩
    case rest =>
     obtain ⟨nm,rfl,hnm,d4⟩:=hcut
     have HF4:=hid d4
     clear d4 HF3
     obtain ⟨w4,hw4⟩:∃ w4,wc=w4:=⟨_,rfl⟩
     rw [hw4] at HF4 ⊢
     clear hw4
     have y0:=HF4.out.g0
     go_wp2_with fail
     refine (HF4.out.pick (by omega) 6 (by omega)).mono ?_
     rintro e w5 ⟨k,rfl,hk,d5⟩
     have HF5:=hid d5
     clear d5 hk y0 HF4
     go_wp2_with fail
     refine (HF5.out.e e_four (by omega) (by omega) (by omega) _).mono ?_
     rintro e w6 ⟨g6,n6,k6,rfl,l6,d6⟩
     have HF6:=hid d6
     have HL6:=hid l6
     clear d6 l6 HF5
     go_wp2_with fail
     refine (HF6.out.put1 ⟨21,0,0,nm,0⟩ _ HL6.out (by show nm.size≤1000;omega) (by omega)).mono ?_
     rintro e w7 ⟨g7,n7,k7,rfl,l7,d7⟩
     have HF7:=hid d7
     have HL7:=hid l7
     clear d7 l7 HF6 HL6
     have HAL:=hid ((Below.refl w7.heap.size w7).alloc (Nat.le_refl _) (.cells #[.slice (some ⟨g7,0,none⟩) n7 k7] 48))
     have HFA:=hid (HF7.out.next HAL.out)
     have HLA:=hid (HL7.out.gk (Gk.of_below (B:=0) HAL.out (Nat.zero_le _)))
     have hwz:W0.heap.size≤w7.heap.size:=HF7.out.gd.size
     obtain ⟨xs,ls,q1,q2,q3,q4,q5⟩:=HFA.out.parts
     have HQ2:=hid q2
     have HQ4:=hid q4
     have HQ5:=hid q5
     clear q2 q4 q5 HL7 HF7
     go_wp2_with (at_builtin;refine wpList_append_own _ rfl _ _ 93 rfl W0.heap.size 48 i0 (.slice none 0 0) 1 24 Tryz.underlying93 HHI.out.1 HHI.out.2.1 HHI.out.2.2.1 HHI.out.2.2.2 rfl (by decide) _ _ xs rfl HQ2.out ⟨w7.heap.size,0,none⟩ 1 1 [.slice (some ⟨g7,0,none⟩) n7 k7] rfl rfl ?c1 ?c2 ?c3 ?c4 ?c5 ?_)
     case c1 =>
      intro j u hj
      match j,hj with
      | 0,hj=>simp at hj;subst hj;exact cell_new_row w7 _ _ 0
     case c2=>intro u hu;simp at hu;subst hu;rfl
     case c3=>unfold maxLen;omega
     case c4=>omega
     case c5=>simp;omega
     intro vz wz oz gz _
     have HFZ:=hid (HFA.out.parted q1 q3 HQ4.out HQ5.out HQ2.out HLA.out gz oz)
     clear oz gz HFA HLA HQ2 HQ4 HQ5 HAL q1 q3
     have HAL:=hid ((Below.refl wz.heap.size wz).alloc (Nat.le_refl _) (.cells #[.string nm,.int .i64 k] 123))
     have HFA:=hid (HFZ.out.next HAL.out)
     clear HFZ
     obtain ⟨pa8,pc8,hv8⟩:=HFA.out.psl
     subst hv8
     obtain ⟨ns9,an9,cn9,hl9,z1,zf,ho9,hnx⟩:=HFA.out.named
     have HO9:=hid ho9
     have HNX9:=hid hnx
     have hR9:R≤wz.heap.size+1:=by have:=ho9;obtain ⟨_,_,_,_,hg⟩:=HFA.out.gs;have:=hg.bw;rwa [World.size_alloc] at this
     clear ho9 hnx
     obtain ⟨z1',zf'⟩:wz.cell? ⟨G,1,none⟩=some (.slice an9 ns9.length cn9)∧True:=⟨by
      have hlt:G < wz.heap.size:=by
       rcases Nat.lt_or_ge G wz.heap.size with h | h
       ·exact h
       ·exfalso
        obtain ⟨ns1,fs1,_,_,c1,sz1,p1,g1,_⟩:=HFA.out.gs
        obtain ⟨un,uf,f1,_,_⟩:=g1.ex
        have h2:=(Array.getElem?_eq_some_iff.1 f1).1
        rw [World.size_alloc] at h2
        have hG:G=wz.heap.size:=by omega
        rw [hG,heap_alloc_new] at f1
        cases f1
      exact (HAL.out.cell (p:=⟨G,1,none⟩) hlt).symm.trans z1,trivial⟩
     go_wp2_with (at_builtin;refine wpList_append_own _ rfl _ _ 99 rfl R 123 i1 (.agg #[.string ⟨#[]⟩,.int .i64 0]) 2 24 Tryz.underlying99 HH1.out.1 HH1.out.2.1 HH1.out.2.2.1 HH1.out.2.2.2 rfl (by decide) _ _ _ rfl HO9.out ⟨wz.heap.size,0,none⟩ 1 1 [.string nm,.int .i64 k] rfl rfl ?c1 ?c2 ?c3 ?c4 ?c5 ?_)
     case c1=>intro j u hj;exact cell_two_new wz _ _ _ j u hj
     case c2=>intro u hu;simp at hu;rcases hu with rfl | rfl <;> rfl
     case c3=>unfold maxLen;omega
     case c4=>omega
     case c5=>simp;omega
     intro vq wq oq gq _
     obtain ⟨m1,m2,hfq⟩:=HNX9.out (nm,(k:Int)) vq wq hnm gq oq
     obtain ⟨aq,cq,rfl⟩:=own_sl oq
     have HFQ:=hid hfq
     clear hfq oq gq z1 zf z1' HO9 HNX9 HFA HAL
     have hinc:IntKind.i64.wrap ((t:Int)+1)=((t+1:Nat):Int):=by rw [IntKind.wrap_i64];omega
     have HNX:=hid (HFQ.out.mono (N':=(t+1) * 600) (nn':=ns.length+(t+1)) (nf':=fs.length+2 * (t+1)) (P':=P+(t+1) * 5000) (by omega) (by omega) (by omega) (by omega))
     clear HFQ
     go_wp2
     go_roundw
     case rel=>exact ⟨t+1,by omega,by go_num,HNX.out⟩
     case measure=>simp [intOf];omega
   ·go_wp2_with fail
    refine (l1Dec_any 17 t _ (by have:(5:Nat) < 10 ^ 18:=(by decide);omega) (by decide)).mono ?_
    rintro e w2 ⟨sd,rfl,hsd,hb2⟩
    have HF2:=hid (HF1.out.next hb2)
    clear hb2 HF1
    obtain ⟨nm0,hnm⟩:∃ nm:ByteArray,(⟨#[115]⟩:ByteArray) ++ sd=nm:=⟨_,rfl⟩
    have hnz:nm0.size≤99:=by rw [← hnm,ByteArray.size_append];show 1+sd.size≤99;omega
    have y0:=HF2.out.g0
    go_wp2_with fail
    refine (HF2.out.pick (by omega) 8 (by omega)).mono ?_
    rintro e w3 ⟨y,rfl,hy,d3⟩
    have HF3:=hid d3
    clear d3 hy y0 HF2
    go_upto_if 55 with fail
    clear hnm
    go_cut [9] (fun v wx=>∃ nm:ByteArray,v=.string nm∧nm.size≤100∧FI R G W0 (t * 600) t (ns.length+t) (fs.length+2 * t) (P+t * 5000+1+1) (.slice pa t pc) wx)
    case first =>
     by_cases hy0:y=0
     ·subst hy0
      go_wp2_with fail
      go_meet
      case rel=>exact ⟨_,rfl,by rw [ByteArray.size_append];show 1+nm0.size≤100;omega,HF3.out⟩
     ·have hy1:((y:Int) == 0)=false:=by simpa using hy0
      go_wp2_with fail
      go_meet
      case rel=>exact ⟨_,rfl,by omega,HF3.out⟩
    case rest =>
     obtain ⟨nm,rfl,hnm,d4⟩:=hcut
     have HF4:=hid d4
     clear d4 HF3
     obtain ⟨w4,hw4⟩:∃ w4,wc=w4:=⟨_,rfl⟩
     rw [hw4] at HF4 ⊢
     clear hw4
     have y0:=HF4.out.g0
     go_wp2_with fail
     refine (HF4.out.pick (by omega) 6 (by omega)).mono ?_
     rintro e w5 ⟨k,rfl,hk,d5⟩
     have HF5:=hid d5
     clear d5 hk y0 HF4
     go_wp2_with fail
     refine (HF5.out.e e_four (by omega) (by omega) (by omega) _).mono ?_
     rintro e w6 ⟨g6,n6,k6,rfl,l6,d6⟩
     have HF6:=hid d6
     have HL6:=hid l6
     clear d6 l6 HF5
     go_wp2_with fail
     refine (HF6.out.put1 ⟨21,0,0,nm,0⟩ _ HL6.out (by show nm.size≤1000;omega) (by omega)).mono ?_
     rintro e w7 ⟨g7,n7,k7,rfl,l7,d7⟩
     have HF7:=hid d7
     have HL7:=hid l7
     clear d7 l7 HF6 HL6
     have HAL:=hid ((Below.refl w7.heap.size w7).alloc (Nat.le_refl _) (.cells #[.slice (some ⟨g7,0,none⟩) n7 k7] 48))
     have HFA:=hid (HF7.out.next HAL.out)
     have HLA:=hid (HL7.out.gk (Gk.of_below (B:=0) HAL.out (Nat.zero_le _)))
     have hwz:W0.heap.size≤w7.heap.size:=HF7.out.gd.size
     obtain ⟨xs,ls,q1,q2,q3,q4,q5⟩:=HFA.out.parts
     have HQ2:=hid q2
     have HQ4:=hid q4
     have HQ5:=hid q5
     clear q2 q4 q5 HL7 HF7
     go_wp2_with (at_builtin;refine wpList_append_own _ rfl _ _ 93 rfl W0.heap.size 48 i0 (.slice none 0 0) 1 24 Tryz.underlying93 HHI.out.1 HHI.out.2.1 HHI.out.2.2.1 HHI.out.2.2.2 rfl (by decide) _ _ xs rfl HQ2.out ⟨w7.heap.size,0,none⟩ 1 1 [.slice (some ⟨g7,0,none⟩) n7 k7] rfl rfl ?c1 ?c2 ?c3 ?c4 ?c5 ?_)
     case c1 =>
      intro j u hj
      match j,hj with
      | 0,hj=>simp at hj;subst hj;exact cell_new_row w7 _ _ 0
     case c2=>intro u hu;simp at hu;subst hu;rfl
     case c3=>unfold maxLen;omega
     case c4=>omega
     case c5=>simp;omega
     intro vz wz oz gz _
     have HFZ:=hid (HFA.out.parted q1 q3 HQ4.out HQ5.out HQ2.out HLA.out gz oz)
     clear oz gz HFA HLA HQ2 HQ4 HQ5 HAL q1 q3
     have HAL:=hid ((Below.refl wz.heap.size wz).alloc (Nat.le_refl _) (.cells #[.string nm,.int .i64 k] 123))
     have HFA:=hid (HFZ.out.next HAL.out)
     clear HFZ
     obtain ⟨pa8,pc8,hv8⟩:=HFA.out.psl
     subst hv8
     obtain ⟨ns9,an9,cn9,hl9,z1,zf,ho9,hnx⟩:=HFA.out.named
     have HO9:=hid ho9
     have HNX9:=hid hnx
     have hR9:R≤wz.heap.size+1:=by have:=ho9;obtain ⟨_,_,_,_,hg⟩:=HFA.out.gs;have:=hg.bw;rwa [World.size_alloc] at this
     clear ho9 hnx
     obtain ⟨z1',zf'⟩:wz.cell? ⟨G,1,none⟩=some (.slice an9 ns9.length cn9)∧True:=⟨by
      have hlt:G < wz.heap.size:=by
       rcases Nat.lt_or_ge G wz.heap.size with h | h
       ·exact h
       ·exfalso
        obtain ⟨ns1,fs1,_,_,c1,sz1,p1,g1,_⟩:=HFA.out.gs
        obtain ⟨un,uf,f1,_,_⟩:=g1.ex
        have h2:=(Array.getElem?_eq_some_iff.1 f1).1
        rw [World.size_alloc] at h2
        have hG:G=wz.heap.size:=by omega
        rw [hG,heap_alloc_new] at f1
        cases f1
      exact (HAL.out.cell (p:=⟨G,1,none⟩) hlt).symm.trans z1,trivial⟩
     go_wp2_with (at_builtin;refine wpList_append_own _ rfl _ _ 99 rfl R 123 i1 (.agg #[.string ⟨#[]⟩,.int .i64 0]) 2 24 Tryz.underlying99 HH1.out.1 HH1.out.2.1 HH1.out.2.2.1 HH1.out.2.2.2 rfl (by decide) _ _ _ rfl HO9.out ⟨wz.heap.size,0,none⟩ 1 1 [.string nm,.int .i64 k] rfl rfl ?c1 ?c2 ?c3 ?c4 ?c5 ?_)
     case c1=>intro j u hj;exact cell_two_new wz _ _ _ j u hj
     case c2=>intro u hu;simp at hu;rcases hu with rfl | rfl <;> rfl
     case c3=>unfold maxLen;omega
     case c4=>omega
     case c5=>simp;omega
     intro vq wq oq gq _
     obtain ⟨m1,m2,hfq⟩:=HNX9.out (nm,(k:Int)) vq wq hnm gq oq
     obtain ⟨aq,cq,rfl⟩:=own_sl oq
     have HFQ:=hid hfq
     clear hfq oq gq z1 zf z1' HO9 HNX9 HFA HAL
     have hinc:IntKind.i64.wrap ((t:Int)+1)=((t+1:Nat):Int):=by rw [IntKind.wrap_i64];omega
     have HNX:=hid (HFQ.out.mono (N':=(t+1) * 600) (nn':=ns.length+(t+1)) (nf':=fs.length+2 * (t+1)) (P':=P+(t+1) * 5000) (by omega) (by omega) (by omega) (by omega))
     clear HFQ
     go_wp2
     go_roundw
     case rel=>exact ⟨t+1,by omega,by go_num,HNX.out⟩
     case measure=>simp [intOf];omega
   ·go_wp2_with fail
    refine (l1Dec_any 17 t _ (by have:(5:Nat) < 10 ^ 18:=(by decide);omega) (by decide)).mono ?_
    rintro e w2 ⟨sd,rfl,hsd,hb2⟩
    have HF2:=hid (HF1.out.next hb2)
    clear hb2 HF1
    obtain ⟨nm0,hnm⟩:∃ nm:ByteArray,(⟨#[115]⟩:ByteArray) ++ sd=nm:=⟨_,rfl⟩
    have hnz:nm0.size≤99:=by rw [← hnm,ByteArray.size_append];show 1+sd.size≤99;omega
    have y0:=HF2.out.g0
    go_wp2_with fail
    refine (HF2.out.pick (by omega) 8 (by omega)).mono ?_
    rintro e w3 ⟨y,rfl,hy,d3⟩
    have HF3:=hid d3
    clear d3 hy y0 HF2
    go_upto_if 55 with fail
    clear hnm
    go_cut [9] (fun v wx=>∃ nm:ByteArray,v=.string nm∧nm.size≤100∧FI R G W0 (t * 600) t (ns.length+t) (fs.length+2 * t) (P+t * 5000+1+1) (.slice pa t pc) wx)
    case first =>
     by_cases hy0:y=0
     ·subst hy0
      go_wp2_with fail
      go_meet
      case rel=>exact ⟨_,rfl,by rw [ByteArray.size_append];show 1+nm0.size≤100;omega,HF3.out⟩
     ·have hy1:((y:Int) == 0)=false:=by simpa using hy0
      go_wp2_with fail
      go_meet
      case rel=>exact ⟨_,rfl,by omega,HF3.out⟩
    case rest =>
     obtain ⟨nm,rfl,hnm,d4⟩:=hcut
     have HF4:=hid d4
     clear d4 HF3
     obtain ⟨w4,hw4⟩:∃ w4,wc=w4:=⟨_,rfl⟩
     rw [hw4] at HF4 ⊢
     clear hw4
     have y0:=HF4.out.g0
     go_wp2_with fail
     refine (HF4.out.pick (by omega) 6 (by omega)).mono ?_
     rintro e w5 ⟨k,rfl,hk,d5⟩
     have HF5:=hid d5
     clear d5 hk y0 HF4
     go_wp2_with fail
     refine (HF5.out.e e_four (by omega) (by omega) (by omega) _).mono ?_
     rintro e w6 ⟨g6,n6,k6,rfl,l6,d6⟩
     have HF6:=hid d6
     have HL6:=hid l6
     clear d6 l6 HF5
     go_wp2_with fail
     refine (HF6.out.put1 ⟨21,0,0,nm,0⟩ _ HL6.out (by show nm.size≤1000;omega) (by omega)).mono ?_
     rintro e w7 ⟨g7,n7,k7,rfl,l7,d7⟩
     have HF7:=hid d7
     have HL7:=hid l7
     clear d7 l7 HF6 HL6
     have HAL:=hid ((Below.refl w7.heap.size w7).alloc (Nat.le_refl _) (.cells #[.slice (some ⟨g7,0,none⟩) n7 k7] 48))
     have HFA:=hid (HF7.out.next HAL.out)
     have HLA:=hid (HL7.out.gk (Gk.of_below (B:=0) HAL.out (Nat.zero_le _)))
     have hwz:W0.heap.size≤w7.heap.size:=HF7.out.gd.size
     obtain ⟨xs,ls,q1,q2,q3,q4,q5⟩:=HFA.out.parts
     have HQ2:=hid q2
     have HQ4:=hid q4
     have HQ5:=hid q5
     clear q2 q4 q5 HL7 HF7
     go_wp2_with (at_builtin;refine wpList_append_own _ rfl _ _ 93 rfl W0.heap.size 48 i0 (.slice none 0 0) 1 24 Tryz.underlying93 HHI.out.1 HHI.out.2.1 HHI.out.2.2.1 HHI.out.2.2.2 rfl (by decide) _ _ xs rfl HQ2.out ⟨w7.heap.size,0,none⟩ 1 1 [.slice (some ⟨g7,0,none⟩) n7 k7] rfl rfl ?c1 ?c2 ?c3 ?c4 ?c5 ?_)
     case c1 =>
      intro j u hj
      match j,hj with
      | 0,hj=>simp at hj;subst hj;exact cell_new_row w7 _ _ 0
     case c2=>intro u hu;simp at hu;subst hu;rfl
     case c3=>unfold maxLen;omega
     case c4=>omega
     case c5=>simp;omega
     intro vz wz oz gz _
     have HFZ:=hid (HFA.out.parted q1 q3 HQ4.out HQ5.out HQ2.out HLA.out gz oz)
     clear oz gz HFA HLA HQ2 HQ4 HQ5 HAL q1 q3
     have HAL:=hid ((Below.refl wz.heap.size wz).alloc (Nat.le_refl _) (.cells #[.string nm,.int .i64 k] 123))
     have HFA:=hid (HFZ.out.next HAL.out)
     clear HFZ
     obtain ⟨pa8,pc8,hv8⟩:=HFA.out.psl
     subst hv8
     obtain ⟨ns9,an9,cn9,hl9,z1,zf,ho9,hnx⟩:=HFA.out.named
     have HO9:=hid ho9
     have HNX9:=hid hnx
     have hR9:R≤wz.heap.size+1:=by have:=ho9;obtain ⟨_,_,_,_,hg⟩:=HFA.out.gs;have:=hg.bw;rwa [World.size_alloc] at this
     clear ho9 hnx
     obtain ⟨z1',zf'⟩:wz.cell? ⟨G,1,none⟩=some (.slice an9 ns9.length cn9)∧True:=⟨by
      have hlt:G < wz.heap.size:=by
       rcases Nat.lt_or_ge G wz.heap.size with h | h
       ·exact h
       ·exfalso
        obtain ⟨ns1,fs1,_,_,c1,sz1,p1,g1,_⟩:=HFA.out.gs
        obtain ⟨un,uf,f1,_,_⟩:=g1.ex
        have h2:=(Array.getElem?_eq_some_iff.1 f1).1
        rw [World.size_alloc] at h2
        have hG:G=wz.heap.size:=by omega
        rw [hG,heap_alloc_new] at f1
        cases f1
      exact (HAL.out.cell (p:=⟨G,1,none⟩) hlt).symm.trans z1,trivial⟩
     go_wp2_with (at_builtin;refine wpList_append_own _ rfl _ _ 99 rfl R 123 i1 (.agg #[.string ⟨#[]⟩,.int .i64 0]) 2 24 Tryz.underlying99 HH1.out.1 HH1.out.2.1 HH1.out.2.2.1 HH1.out.2.2.2 rfl (by decide) _ _ _ rfl HO9.out ⟨wz.heap.size,0,none⟩ 1 1 [.string nm,.int .i64 k] rfl rfl ?c1 ?c2 ?c3 ?c4 ?c5 ?_)
     case c1=>intro j u hj;exact cell_two_new wz _ _ _ j u hj
     case c2=>intro u hu;simp at hu;rcases hu with rfl | rfl <;> rfl
     case c3=>unfold maxLen;omega
     case c4=>omega
     case c5=>simp;omega
     intro vq wq oq gq _
     obtain ⟨m1,m2,hfq⟩:=HNX9.out (nm,(k:Int)) vq wq hnm gq oq
     obtain ⟨aq,cq,rfl⟩:=own_sl oq
     have HFQ:=hid hfq
     clear hfq oq gq z1 zf z1' HO9 HNX9 HFA HAL
     have hinc:IntKind.i64.wrap ((t:Int)+1)=((t+1:Nat):Int):=by rw [IntKind.wrap_i64];omega
     have HNX:=hid (HFQ.out.mono (N':=(t+1) * 600) (nn':=ns.length+(t+1)) (nf':=fs.length+2 * (t+1)) (P':=P+(t+1) * 5000) (by omega) (by omega) (by omega) (by omega))
     clear HFQ
     go_wp2
     go_roundw
     case rel=>exact ⟨t+1,by omega,by go_num,HNX.out⟩
     case measure=>simp [intOf];omega
   ·have e0:((x:Int) == 0)=false:=by simp;omega
    have e1:((x:Int) == 1)=false:=by simp;omega
    have e2:((x:Int) == 2)=false:=by simp;omega
    have e3:((x:Int) == 3)=false:=by simp;omega
    have e4:((x:Int) == 4)=false:=by simp;omega
    go_wp2_with fail
    refine (HF1.out.e e_three (by omega) (by omega) (by omega) _).mono ?_
    rintro e w6 ⟨g6,n6,k6,rfl,l6,d6⟩
    have HF6:=hid d6
    have HL6:=hid l6
    clear d6 l6 HF1
    go_wp2_with fail
    refine (HF6.out.put1 ⟨22,0,0,⟨#[]⟩,0⟩ _ HL6.out (by show (⟨#[]⟩:ByteArray).size≤1000;decide) (by omega)).mono ?_
    rintro e w7 ⟨g7,n7,k7,rfl,l7,d7⟩
    have HF7:=hid d7
    have HL7:=hid l7
    clear d7 l7 HF6 HL6
    have HAL:=hid ((Below.refl w7.heap.size w7).alloc (Nat.le_refl _) (.cells #[.slice (some ⟨g7,0,none⟩) n7 k7] 48))
    have HFA:=hid (HF7.out.next HAL.out)
    have HLA:=hid (HL7.out.gk (Gk.of_below (B:=0) HAL.out (Nat.zero_le _)))
    have hwz:W0.heap.size≤w7.heap.size:=HF7.out.gd.size
    obtain ⟨xs,ls,q1,q2,q3,q4,q5⟩:=HFA.out.parts
    have HQ2:=hid q2
    have HQ4:=hid q4
    have HQ5:=hid q5
    clear q2 q4 q5 HL7 HF7
    go_wp2_with (at_builtin;refine wpList_append_own _ rfl _ _ 93 rfl W0.heap.size 48 i0 (.slice none 0 0) 1 24 Tryz.underlying93 HHI.out.1 HHI.out.2.1 HHI.out.2.2.1 HHI.out.2.2.2 rfl (by decide) _ _ xs rfl HQ2.out ⟨w7.heap.size,0,none⟩ 1 1 [.slice (some ⟨g7,0,none⟩) n7 k7] rfl rfl ?c1 ?c2 ?c3 ?c4 ?c5 ?_)
    case c1 =>
     intro j u hj
     match j,hj with
     | 0,hj=>simp at hj;subst hj;exact cell_new_row w7 _ _ 0
    case c2=>intro u hu;simp at hu;subst hu;rfl
    case c3=>unfold maxLen;omega
    case c4=>omega
    case c5=>simp;omega
    intro vz wz oz gz _
    have HFZ:=hid (HFA.out.parted q1 q3 HQ4.out HQ5.out HQ2.out HLA.out gz oz)
    clear oz gz HFA HLA HQ2 HQ4 HQ5 HAL q1 q3
    have hinc:IntKind.i64.wrap ((t:Int)+1)=((t+1:Nat):Int):=by rw [IntKind.wrap_i64];omega
    have HNX:=hid (HFZ.out.mono (N':=(t+1) * 600) (nn':=ns.length+(t+1)) (nf':=fs.length+2 * (t+1)) (P':=P+(t+1) * 5000) (by omega) (by omega) (by omega) (by omega))
    clear HFZ
    go_wp2
    go_roundw
    case rel=>exact ⟨t+1,by omega,by go_num,HNX.out⟩
    case measure=>simp [intOf];omega
  ·obtain rfl:t=n:=by omega
   have hti:¬ (t:Int) < (t:Int):=by omega
   obtain ⟨pg,pk,hv⟩:=HF.out.parts.sl (by omega)
   cases hv
   have htn:t * 600≤3000:=by omega
   have htm:t * 5000≤25000:=by omega
   go_wp2_with fail
   refine (HF.out.putAll ⟨24,0,0,⟨#[]⟩,0⟩ rfl (by omega) (by show (⟨#[]⟩:ByteArray).size≤1000;decide) (by omega)).mono ?_
   rintro e w8 ⟨g8,n8,k8,rfl,l8,d8⟩
   have hb8:=(d8.gd.block rb _ _ _ HBX.out (by unfold GenT;decide) (by decide)).trans HBX.out
   have r0:=cell_hp hb8 0
   have rf:=frozen_hp hb8 0
   simp at r0
   have HF8:=hid d8
   have HL8:=hid l8
   have HB8:=hid hb8
   clear d8 l8 hb8 HF
   go_wp2
   refine bodyPost_ret (v:=.agg #[.slice (some ⟨g8,0,none⟩) n8 k8]) (by simp [results,Tryz.results62,go_sem,r0]) rfl ⟨g8,n8,k8,rfl,?_,?_,?_⟩
   ·obtain ⟨l,h1,h2⟩:=HL8.out
    refine ⟨l,h1.keep fun g cur hc=>Below.heap_setCell _ _ _ _ (fun e=>?_),h2.mono (by omega)⟩
    have e':g=rb:=e
    subst e'
    rw [HB8.out] at hc
    cases hc
   ·obtain ⟨ns8,fs8,_,_,hg8⟩:=HF8.out.gs
    refine ⟨ns8,fs8,(hg8.set_other HB8.out (by unfold GenT;decide) (by decide) (by decide) ?_ _).mono (by omega)⟩
    have:=HRB.out
    omega
   ·have hd:=HD0.out.trans HF8.out.gd
    have hne:∀ k,k < w.heap.size→(w8.setCell ⟨rb,0,none⟩ (.slice (some ⟨g8,0,none⟩) n8 k8)).heap[k]?=w8.heap[k]?:=fun k hk=>Below.heap_setCell _ _ _ _ (by show k≠rb;have:=HRB.out;omega)
    exact ⟨hd.os,hd.tape,hd.output,by have:=hd.size;simpa [World.setCell] using this,fun k hk=>(hne k (by omega)).trans (hd.low k hk),fun k cs t fr hc h1 h2=>(hne k (Array.getElem?_eq_some_iff.1 hc).1).trans (hd.block k cs t fr hc h1 h2)⟩
end Go.Proofs.YtabbahpalemlhaaGreatDoor
