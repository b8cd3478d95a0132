import Derived.Deep.DeepCutAuto
import Derived.Test.YthnohneaanphbaaGreatDoorJ49
import Derived.Test.YthnohneaanphbaaGreatDoorJ45
import Derived.Test.YthnohneaanphbaaGreatDoorJ15
namespace Go.Proofs.YthnohneaanphbaaGreatDoor
open Go.RowKit
set_option maxRecDepth 20000
theorem ints_next9 {W V:World} {ad:Option Addr} {M:Nat} {bn:Nat→Int} (h:IntsA W ad M bn) (hb:Below W.heap.size W V):IntsA V ad M bn:=by
 rcases h with h | ⟨g,cur,rfl,h1,h2⟩
 ·exact .inl h
 ·exact .inr ⟨g,cur,rfl,hp_next h1 hb,h2⟩
theorem ints_at9 {W:World} {ad:Option Addr} {M i:Nat} {bn:Nat→Int} (h:IntsA W ad M bn) (hi:i < M):∃ g,ad=some ⟨g,0,none⟩∧∀ V,Below W.heap.size W V→V.cell? ⟨g,i,none⟩=some (.int .i64 (bn i)):=by
 rcases h with h | ⟨g,cur,rfl,h1,h2⟩
 ·omega
 ·exact ⟨g,rfl,fun V hb=>(cell_hp (hp_next h1 hb) i).trans (h2 i hi)⟩
def Tv9 (W:World) (v:Value) (M:Nat) (nd:Nat→Nd):Prop:=∃ ad c,v=.slice ad M c∧(M=0∨∃ g,ad=some ⟨g,0,none⟩∧g < W.heap.size∧NodesAt W g M nd)
theorem TreeF.tv {W:World} {B:Nat} {v:Value} {M:Nat} {nd:Nat→Nd} (h:TreeF W B v M nd):Tv9 W v M nd:=by
 rcases h with ⟨rfl,rfl⟩ | ⟨g,rfl,_,⟨cur,h1,_⟩,h2⟩
 ·exact ⟨_,_,rfl,.inl rfl⟩
 ·exact ⟨_,_,rfl,.inr ⟨g,rfl,(Array.getElem?_eq_some_iff.1 h1).1,h2⟩⟩
theorem TreeV.tv {W:World} {B:Nat} {v:Value} {M:Nat} {nd:Nat→Nd} (h:TreeV W B v M nd):Tv9 W v M nd:=by
 rcases h with ⟨rfl,rfl⟩ | ⟨g,c,rfl,_,h1,h2⟩
 ·exact ⟨_,_,rfl,.inl rfl⟩
 ·exact ⟨_,_,rfl,.inr ⟨g,rfl,h1,h2⟩⟩
theorem Tv9.next {W V:World} {v:Value} {M:Nat} {nd:Nat→Nd} (h:Tv9 W v M nd) (hb:Below W.heap.size W V):Tv9 V v M nd:=by
 obtain ⟨ad,c,e,h⟩:=h
 exact ⟨ad,c,e,h.imp_right fun ⟨g,e,h1,h2⟩=>⟨g,e,Nat.lt_of_lt_of_le h1 hb.size,h2.below hb h1⟩⟩
theorem wc_tv {W:World} {v v2:Value} {M:Nat} {nd nd2:Nat→Nd} (h:Tv9 W v M nd) (h2:Tv9 W v2 M nd2) (hM:M≤1048576) (he:∀ i,i < M→nd2 i=nd i) :
  Calls Tryz.prog 7 #[.agg #[v],.agg #[v2]] W fun e w'=>e=.returned (.bool true)∧Below W.heap.size W w':=by
 obtain ⟨ad,c,rfl,h⟩:=h
 obtain ⟨ad2,c2,rfl,h2⟩:=h2
 by_cases h0:M=0
 ·subst h0
  exact wcTree_0 ad ad2 c c2 W
 ·obtain ⟨g,rfl,l1,n1⟩:=h.resolve_left h0
  obtain ⟨g2,rfl,l2,n2⟩:=h2.resolve_left h0
  exact wcTree_same g c g2 c2 M nd nd2 W hM l1 l2 n1 n2 he
structure Lr9 (w0:World) (xt g N c1:Nat) (nd:Nat→Nd) (W:World):Prop where
 lo:Below w0.heap.size w0 W
 bx:W.heap[xt]?=some (.cells #[.slice (some ⟨g,0,none⟩) N c1] 25 (0,0))
 no:NodesAt W g N nd
 gl:g < W.heap.size
 en:BEnv W
theorem Lr9.next {w0 W V:World} {xt g N c1:Nat} {nd:Nat→Nd} (h:Lr9 w0 xt g N c1 nd W) (hb:Below W.heap.size W V):Lr9 w0 xt g N c1 nd V :=
 ⟨h.lo.trans (hb.mono h.lo.size),hp_next h.bx hb,h.no.below hb h.gl,Nat.lt_of_lt_of_le h.gl hb.size,h.en.below hb h.en.pos⟩
theorem Lr9.cell {w0 W:World} {xt g N c1:Nat} {nd:Nat→Nd} (h:Lr9 w0 xt g N c1 nd W):W.cell? ⟨xt,0,none⟩=some (.slice (some ⟨g,0,none⟩) N c1):=cell_hp h.bx 0
theorem Lr9.text {w0 W:World} {xt g N c1 i:Nat} {nd:Nat→Nd} (h:Lr9 w0 xt g N c1 nd W) (hi:i < N):W.cell? ⟨g,i * 5+3,none⟩=some (.string (nd i).text):=(h.no i hi).2.2.2.1
theorem Lr9.tv {w0 W:World} {xt g N c1:Nat} {nd:Nat→Nd} (h:Lr9 w0 xt g N c1 nd W):Tv9 W (.slice (some ⟨g,0,none⟩) N c1) N nd:=⟨_,_,rfl,.inr ⟨g,rfl,h.gl,h.no⟩⟩
def Bk9 (w0:World) (xt g N c1:Nat) (nd:Nat→Nd) (b e:Value) (wx:World):Prop:=∃ (xb:Nat) (v:Value) (M3:Nat) (e3:Int) (nd3:Nat→Nd),b=.pointer (some ⟨xb,0,none⟩)∧e=.int .i64 e3∧Lr9 w0 xt g N c1 nd wx∧wx.heap[xb]?=some (.cells #[v] 25 (0,0))∧Tv9 wx v M3 nd3∧(e3=3∨(e3=0∧M3=N∧∀ i,i < N→nd3 i=nd i))
theorem Tv9.set {W:World} {v u:Value} {M xb:Nat} {nd:Nat→Nd} (h:Tv9 W v M nd) (hx:W.heap[xb]?=some (.cells #[.slice none 0 0] 25 (0,0))):Tv9 (W.setCell ⟨xb,0,none⟩ u) v M nd:=by
 obtain ⟨ad,c,e,h⟩:=h
 refine ⟨ad,c,e,?_⟩
 by_cases h0:M=0
 ·exact .inl h0
 ·obtain ⟨g,e1,h1,h2⟩:=h.resolve_left h0
  have hg:g≠xb:=fun e2=>by
   have h3:=(h2 0 (by omega)).1
   rw [e2,cell_hp hx] at h3
   cases h3
  have hh:=Below.heap_setCell W ⟨xb,0,none⟩ u g hg
  have hc:∀ o,(W.setCell ⟨xb,0,none⟩ u).cell? ⟨g,o,none⟩=W.cell? ⟨g,o,none⟩:=fun o=>by unfold World.cell?;rw [hh]
  refine .inr ⟨g,e1,?_,fun i hi=>?_⟩
  ·have:=(Array.getElem?_eq_some_iff.1 (hh.trans (Array.getElem?_eq_getElem h1))).1
   exact this
  ·obtain ⟨a0,a1,a2,a3,a4⟩:=h2 i hi
   exact ⟨(hc _).trans a0,(hc _).trans a1,(hc _).trans a2,(hc _).trans a3,(hc _).trans a4⟩
theorem Lr9.check {w0 W:World} {xt g N c1:Nat} {nd:Nat→Nd} (h:Lr9 w0 xt g N c1 nd W) (hN:N≤1048576) (hx:∀ i,i < N→(nd i).text.size≤maxLen) (hf:FaultI nd N 0 0) :
  Calls Tryz.prog 10 #[.agg #[.slice (some ⟨g,0,none⟩) N c1]] W fun e w'=>e=.returned (.agg #[.int .i64 0,.int .i64 0])∧Below W.heap.size W w':=by
 refine (specCheck_any g N c1 nd W hN h.gl h.no hx).mono ?_
 rintro e w' ⟨⟨c',a',rfl,hf'⟩,hb'⟩
 obtain ⟨rfl,rfl⟩:=(faultI_of hf').unique hf
 exact ⟨rfl,hb'⟩
set_option maxHeartbeats 16000000 in
theorem law_ren (ad:Option Addr) (n cap:Nat) (w:World) (hc:n≤cap) (hcm:cap≤9223372036854775807) (h:n≤1048576→CodeA w ad n) (hnil:ad=none→n=0∧cap=0) (hE:BEnv w) :
  Calls Tryz.prog 3 #[.slice ad n cap] w fun e w'=>e=.returned (.bool true)∧Below w.heap.size w w':=by
 have hn9:(n:Int)≤9223372036854775807:=by omega
 by_cases hn:n≤1048576
 ·have hni:¬ (1048576:Int) < (n:Int):=by omega
  have HC:=hid (h hn)
  have HNIL:=hid hnil
  have HE:=hid hE
  clear h hnil hE
  go_enter Tryz.func3,Tryz.ntmps3
  go_wp2_with fail
  refine (drawRen_any ad n cap _ hn hc hcm HC.out HNIL.out).mono ?_
  rintro e w1 ⟨v1,at_,nm,rfl,ht1,hnm,hb1⟩
  have HB1:=hid hb1
  have HE1:=hid (HE.out.below hb1 HE.out.pos)
  clear hb1 HC HNIL HE
  rcases ht1 with ⟨ad1,c1,rfl⟩ | hh1
  ·have HAL:=hid ((Below.refl w1.heap.size w1).alloc (Nat.le_refl _) (.cells #[.slice ad1 0 c1] 25))
   have HX2:=hid (heap_alloc_new w1 (.cells #[.slice ad1 0 c1] 25))
   have HB2:=hid (HB1.out.trans (HAL.out.mono HB1.out.size))
   go_wp2_with fail
   refine (implRename_0 ad1 c1 at_ nm _).mono ?_
   rintro e w3 ⟨rfl,hb3⟩
   have HX3:=hid (hp_next HX2.out hb3)
   have HB3:=hid (HB2.out.trans (hb3.mono HB2.out.size))
   have HA3:=hid ((Below.refl w3.heap.size w3).alloc (Nat.le_refl _) (.cells #[.slice none 0 0] 25))
   have HU4:=hid (heap_alloc_new w3 (.cells #[.slice none 0 0] 25))
   have HX4:=hid (hp_next HX3.out HA3.out)
   have HB4:=hid (HB3.out.trans (HA3.out.mono HB3.out.size))
   have t4:=cell_hp HX4.out 0
   simp at t4
   clear hb3 HX3 HB3 HX2 HB2 HAL HB1
   go_wp2_with fail
   refine (specRename_0 ad1 c1 at_ nm _).mono ?_
   rintro e w5 ⟨rfl,hb5⟩
   have HU5:=hid (hp_next HU4.out hb5)
   have HB5:=hid (HB4.out.trans (hb5.mono HB4.out.size))
   have HA5:=hid ((Below.refl w5.heap.size w5).alloc (Nat.le_refl _) (.cells #[.slice none 0 0] 25))
   have HW6:=hid (heap_alloc_new w5 (.cells #[.slice none 0 0] 25))
   have HU6:=hid (hp_next HU5.out HA5.out)
   have HB6:=hid (HB5.out.trans (HA5.out.mono HB5.out.size))
   have u6:=cell_hp HU6.out 0
   have v6:=cell_hp HW6.out 0
   simp at u6 v6
   clear hb5 HU5 HB5 HX4 HU4 HB4 HA3 t4
   go_wp2_with fail
   refine (wcTree_0 none none 0 0 _).mono ?_
   rintro e w7 ⟨rfl,hb7⟩
   have HU7:=hid (hp_next HU6.out hb7)
   have HB7:=hid (HB6.out.trans (hb7.mono HB6.out.size))
   have u7:=cell_hp HU7.out 0
   simp at u7
   clear hb7 u6 v6 HA5 HW6 HU6 HB6
   go_wp2
   go_ret
   exact ⟨rfl,HB7.out⟩
  ·obtain ⟨g,N,c1,rfl⟩:=hh1.sl
   obtain ⟨nd,hnd,htx,hNK,hN1,hgw,hNc⟩:=has_nodes9 hh1
   have HTX:Hid (∀ i,i < N→(nd i).text.size≤1048576):=fun i hi=>by have:=htx i hi;omega
   have HTM:Hid (∀ i,i < N→(nd i).text.size≤maxLen):=fun i hi=>by have:=htx i hi;unfold maxLen;omega
   have HT9:=hid htx
   have hNM:N≤1048576:=by omega
   have HNM:Hid (nm.size≤maxLen):=by show nm.size≤maxLen;unfold maxLen;omega
   have HAL:=hid ((Below.refl w1.heap.size w1).alloc (Nat.le_refl _) (.cells #[.slice (some ⟨g,0,none⟩) N c1] 25))
   have HL2:Hid (Lr9 w w1.heap.size g N c1 nd (w1.alloc (.cells #[.slice (some ⟨g,0,none⟩) N c1] 25))):=⟨HB1.out.trans (HAL.out.mono HB1.out.size),heap_alloc_new w1 _,hnd.below HAL.out hgw,by simp;omega,HE1.out.below HAL.out HE1.out.pos⟩
   clear hh1 hnd htx HB1 HE1
   go_wp2_with fail
   refine (implRename_any g N c1 nd at_ nm _ hNM HL2.out.gl HL2.out.no HTX.out (by omega) HL2.out.en).mono ?_
   rintro e w3 ⟨⟨v3,c,M,nd',rfl,hp3,htf3⟩,hb3⟩
   have HL3:=hid (HL2.out.next hb3)
   have HT3:=hid htf3.tv
   obtain ⟨ad3,c3,rfl,-⟩:=htf3.tv
   have HP:=hid hp3
   have hMN:M≤N:=hp3.le9
   have HA3:=hid ((Below.refl w3.heap.size w3).alloc (Nat.le_refl _) (.cells #[.slice ad3 M c3] 25))
   have HL4:=hid (HL3.out.next HA3.out)
   have HT4:=hid (HT3.out.next HA3.out)
   have HU4:=hid (heap_alloc_new w3 (.cells #[.slice ad3 M c3] 25))
   have t4:=HL4.out.cell
   clear hb3 hp3 htf3 HL3 HT3 HL2 HAL
   go_wp2_with fail
   refine (specRename_any g N c1 nd at_ nm _ hNM HL4.out.gl HL4.out.no HTM.out HNM.out).mono ?_
   rintro e w5 ⟨⟨v5,d,M5,nd5,rfl,hp5,htv5⟩,hb5⟩
   obtain ⟨hcd,hMM,hnd5⟩:=HP.out.unique hp5
   subst hcd hMM
   have HL5:=hid (HL4.out.next hb5)
   have HT5:=hid (HT4.out.next hb5)
   have HU5:=hid (hp_next HU4.out hb5)
   have HW5:=hid htv5.tv
   have HN5:=hid hnd5
   obtain ⟨ad5,c5,rfl,-⟩:=htv5.tv
   have HA5:=hid ((Below.refl w5.heap.size w5).alloc (Nat.le_refl _) (.cells #[.slice ad5 M c5] 25))
   have HL6:=hid (HL5.out.next HA5.out)
   have HT6:=hid (HT5.out.next HA5.out)
   have HW6:=hid (HW5.out.next HA5.out)
   have HU6:=hid (hp_next HU5.out HA5.out)
   have u6:=cell_hp HU6.out 0
   have v6:=cell_hp (heap_alloc_new w5 (.cells #[.slice ad5 M c5] 25)) 0
   simp at u6 v6
   have hcc:(c != c)=false:=by simp
   clear hb5 hp5 htv5 hnd5 HL5 HT5 HU5 HW5 HL4 HT4 HU4 HA3 t4
   go_wp2_with fail
   refine (wc_tv HT6.out HW6.out (by omega) (fun i hi=>by rw [HN5.out (by omega)])).mono ?_
   rintro e w7 ⟨rfl,hb7⟩
   have HL7:=hid (HL6.out.next hb7)
   have HT7:=hid (HT6.out.next hb7)
   have HU7:=hid (hp_next HU6.out hb7)
   have u7:=cell_hp HU7.out 0
   simp at u7
   clear hb7 u6 v6 HA5 HL6 HT6 HW6 HU6 HN5 hcc
   by_cases hc0:c=0
   ·subst hc0
    obtain ⟨hM,a,bn,ha,HR⟩:=HP.out.good9
    subst hM ha
    have HR:=hid HR
    obtain ⟨ad9,c9,e9,h9⟩:=HT7.out
    cases e9
    obtain ⟨gu,rfl,hgl,hgn⟩:=h9.resolve_left (by omega)
    have HV7:Hid (Lr9 w w3.heap.size gu M c3 nd' w7):=⟨HL7.out.lo,HU7.out,hgn,hgl,HL7.out.en⟩
    have HXU:Hid (∀ i,i < M→(nd' i).text.size≤1048576):=fun i hi=>by
     rcases HR.out.text i with e | e
     ·rw [e];omega
     ·rw [e];exact HTX.out i hi
    have HXM:Hid (∀ i,i < M→(nd' i).text.size≤maxLen):=fun i hi=>by
     rcases HR.out.text i with e | e
     ·rw [e];exact HNM.out
     ·rw [e];exact HTM.out i hi
    have haM:=HR.out.lt
    have HTA:Hid ((nd a).text.size≤1000):=HT9.out a haM
    clear HT7 HU7 h9 hgl hgn HP HT9
    have t7:=HL7.out.cell
    go_wp2_with fail
    refine (implBinds_any g M c1 nd w7 hNM HL7.out.gl HL7.out.no HTM.out HL7.out.en).mono ?_
    rintro e w8 ⟨⟨adb,M8,bn8,rfl,hi8,hbi8,-,-⟩,hb8⟩
    obtain ⟨e8,hbn8⟩:=HR.out.b.unique hbi8
    subst e8
    have e8:=hbn8 (by omega)
    subst e8
    have HL8:=hid (HL7.out.next hb8)
    have HV8:=hid (HV7.out.next hb8)
    have HI8:=hid hi8
    have u8:=HV8.out.cell
    clear hb8 hi8 hbi8 hbn8 HL7 HV7 t7 u7
    go_wp2_with fail
    refine (implBinds_any gu M c3 nd' w8 hNM HV8.out.gl HV8.out.no HXM.out HV8.out.en).mono ?_
    rintro e w9 ⟨⟨adw,M9,bn9,rfl,hi9,hbi9,-,-⟩,hb9⟩
    obtain ⟨e9,hbn9⟩:=HR.out.b'.unique hbi9
    subst e9
    have e9:=hbn9 (by omega)
    subst e9
    have HL9:=hid (HL8.out.next hb9)
    have HV9:=hid (HV8.out.next hb9)
    have HI9:=hid (ints_next9 HI8.out hb9)
    have HJ9:=hid hi9
    have u9:=HV9.out.cell
    clear hb9 hi9 hbi9 hbn9 HL8 HV8 HI8 u8
    have hMM:((M:Int) != (M:Int))=false:=by simp
    go_wp2_with fail
    refine (wcFits_of (.slice (some ⟨gu,0,none⟩) M c3) 0 0 _ (fun W hW=>(HV9.out.next hW).check hNM HXM.out HR.out.f') ⟨_,_,_,rfl⟩).mono ?_
    rintro e w10 ⟨rfl,hb10⟩
    rw [show ((0:Int) == 0 && (0:Int) == 0)=true from rfl]
    have HL10:=hid (HL9.out.next hb10)
    have HV10:=hid (HV9.out.next hb10)
    have HI10:=hid (ints_next9 HI9.out hb10)
    have HJ10:=hid (ints_next9 HJ9.out hb10)
    clear hb10 HL9 HV9 HI9 HJ9 u9
    go_wp2
    go_loopw [12] (fun c6 wr=>∃ j:Nat,c6=.int .i64 j∧j≤M∧Below w10.heap.size w10 wr) (fun c6 _=>M - (intOf c6).toNat)
    case atStart=>exact ⟨0,rfl,Nat.zero_le _,Below.refl _ _⟩
    case round =>
     obtain ⟨j,rfl,hj,hbr⟩:=hrel
     have HBR:=hid hbr
     clear hbr
     by_cases hlt:j < M
     ·obtain ⟨gi,rfl,hci⟩:=ints_at9 HI10.out hlt
      obtain ⟨gw,rfl,hcw⟩:=ints_at9 HJ10.out hlt
      have ci:=hci _ HBR.out
      have cw:=hcw _ HBR.out
      clear hci hcw
      obtain ⟨v,hv⟩:∃ v,bn j=v:=⟨_,rfl⟩
      rw [hv] at ci cw
      clear hv
      have hvv:(v != v)=false:=by simp
      have hji:(j:Int) < (M:Int):=by omega
      go_wp2_with fail
      go_quiet (fail)
      go_wp2
      go_roundw
      case rel=>exact ⟨j+1,by go_num,by omega,HBR.out.trans ((below_drewN (Below.refl _ _) _).mono HBR.out.size)⟩
      case measure=>simp [intOf];omega
     ·obtain rfl:j=M:=by omega
      have hlf:¬ (j:Int) < (j:Int):=by omega
      have HL11:=hid (HL10.out.next HBR.out)
      have HV11:=hid (HV10.out.next HBR.out)
      clear HBR HL10 HV10 HI10 HJ10
      have t11:=HL11.out.cell
      have u11:=HV11.out.cell
      have x11:=HL11.out.text haM
      have hai:(a:Int) < (j:Int):=by omega
      have hnn:0≤(a:Int):=by omega
      clear t11 u11 x11
      have HCB:Hid (∀ W,Below wr.heap.size wr W→Calls Tryz.prog 5 #[.agg #[.slice (some ⟨gu,0,none⟩) j c3],.int .i64 (a:Int),.string (nd a).text] W fun e w'=>(∃ ad3 M3 k3 e3 nd3,e=.returned (.tuple #[.agg #[.slice ad3 M3 k3],.int .i64 e3])∧Tv9 w' (.slice ad3 M3 k3) M3 nd3∧(e3=3∨(e3=0∧M3=j∧∀ i,i < j→nd3 i=nd i)))∧Below W.heap.size W w'):=fun W hW=>by
       have hv:=HV11.out.next hW
       refine (implRename_any gu j c3 nd' (a:Int) (nd a).text W hNM hv.gl hv.no HXU.out (by have:=HTA.out;omega) hv.en).mono ?_
       rintro e w' ⟨⟨v,c,M3,nd3,rfl,hp,htf⟩,hb⟩
       have ht:=htf.tv
       obtain ⟨ad3,k3,rfl,-⟩:=id ht
       exact ⟨⟨ad3,M3,k3,c,nd3,rfl,ht,HR.out.back hp⟩,hb⟩
      have HBd:=hid (Below.refl wr.heap.size wr).drew
      have HBz:=hid ((Below.refl wr.heap.size wr).alloc (Nat.le_refl _) (.cells #[.slice none 0 0] 25))
      have HBzd:=hid ((Below.refl wr.heap.size wr).alloc (Nat.le_refl _) (.cells #[.slice none 0 0] 25)).drew
      have HZ:=hid (heap_alloc_new wr (.cells #[.slice none 0 0] 25))
      have t0:=HL11.out.cell
      have u0:=HV11.out.cell
      have x0:=HL11.out.text haM
      have t1:=(HL11.out.next HBd.out).cell
      have u1:=(HV11.out.next HBd.out).cell
      have x1:=(HL11.out.next HBd.out).text haM
      have t2:=(HL11.out.next HBz.out).cell
      have u2:=(HV11.out.next HBz.out).cell
      have x2:=(HL11.out.next HBz.out).text haM
      have t3:=(HL11.out.next HBzd.out).cell
      have u3:=(HV11.out.next HBzd.out).cell
      have x3:=(HL11.out.next HBzd.out).text haM
      obtain ⟨tx,htx⟩:∃ t,(nd a).text=t:=⟨_,rfl⟩
      rw [htx] at HCB x0 x1 x2 x3
      clear htx
      go_upto_region 19 with fail
      go_cut [13,14] (fun b e wx=>Bk9 w w1.heap.size g j c1 nd b e wx)
      case first =>
       go_wp2_with fail
       go_region_law (first
        | (refine step_enter rfl (f:=5) (vals:=#[.agg #[.slice (some ⟨gu,0,none⟩) j c3],.int .i64 (a:Int),.string tx]) (by kernel_rfl) (HCB.out _ HBd.out) ?_;intro e w12 hq;obtain ⟨⟨ad3,M3,k3,e3,nd3,rfl,ht3,hk3⟩,hb12⟩:=hq;refine ⟨_,rfl,?_⟩;have HB12:=hid (HBd.out.trans (hb12.mono HBd.out.size));have HT12:=hid ht3;have HK12:=hid hk3;clear ht3 hk3 hb12)
        | (refine step_enter rfl (f:=5) (vals:=#[.agg #[.slice (some ⟨gu,0,none⟩) j c3],.int .i64 (a:Int),.string tx]) (by kernel_rfl) (HCB.out _ HBzd.out) ?_;intro e w12 hq;obtain ⟨⟨ad3,M3,k3,e3,nd3,rfl,ht3,hk3⟩,hb12⟩:=hq;refine ⟨_,rfl,?_⟩;have HB12:=hid (HBzd.out.trans (hb12.mono HBzd.out.size));have HT12:=hid ht3;have HK12:=hid hk3;have HZ12:=hid (hp_next (hp_next HZ.out (Below.refl (wr.alloc (.cells #[.slice none 0 0] 25)).heap.size (wr.alloc (.cells #[.slice none 0 0] 25))).drew) hb12);have z0:=cell_hp HZ12.out 0;have z1:=frozen_hp HZ12.out 0;simp at z0;clear ht3 hk3 hb12))
       all_goals
        go_wp2_with fail
        go_meet
        case rel =>
         first
         | exact ⟨wr.heap.size,_,M3,e3,nd3,rfl,rfl,HL11.out.next (HB12.out.setCell (p:=⟨wr.heap.size,0,none⟩) (Nat.le_refl _) _),set_at (i:=0) (.slice ad3 M3 k3) HZ12.out,HT12.out.set HZ12.out,HK12.out⟩
         | exact ⟨w12.heap.size,_,M3,e3,nd3,rfl,rfl,HL11.out.next (HB12.out.alloc HB12.out.size _),heap_alloc_new w12 _,HT12.out.next ((Below.refl w12.heap.size w12).alloc (Nat.le_refl _) _),HK12.out⟩
         | (trace_state;fail)
      case rest =>
       obtain ⟨xb,v,M3,e3,nd3,rfl,rfl,hl,hx,ht,hk⟩:=hcut
       obtain ⟨ad3,k3,rfl,-⟩:=id ht
       have HL12:=hid hl
       have HT12:=hid ht
       have HX12:=hid hx
       clear hl ht hx t0 u0 x0 t1 u1 x1 t2 u2 x2 t3 u3 x3 HCB HBd HBz HBzd HZ
       obtain ⟨w12,hw12⟩:∃ w9,wc=w9:=⟨_,rfl⟩
       rw [hw12] at HL12 HT12 HX12 ⊢
       clear hw12
       have t12:=HL12.out.cell
       rcases hk with rfl | ⟨rfl,rfl,hnd⟩
       ·go_wp2_with fail
        refine (HL12.out.check hNM HTM.out HR.out.f).mono ?_
        rintro e w13 ⟨rfl,hb13⟩
        have HL13:=hid (HL12.out.next hb13)
        have hfc:=field_code 0 0 w13
        clear hb13
        go_wp2
        go_ret
        exact ⟨rfl,HL13.out.lo⟩
       ·have HND:=hid hnd
        have b12:=cell_hp HX12.out 0
        simp at b12
        clear hnd
        go_wp2_with fail
        refine (wc_tv HT12.out HL12.out.tv (by omega) (fun i hi=>(HND.out i hi).symm)).mono ?_
        rintro e w13 ⟨rfl,hb13⟩
        have HL13:=hid (HL12.out.next hb13)
        clear hb13
        go_wp2
        go_ret
        exact ⟨rfl,HL13.out.lo⟩
   ·have hM0:M=0:=HP.out.none9 hc0
    subst hM0
    have hcn:(c != 0)=true:=by simpa using hc0
    go_wp2
    go_ret
    exact ⟨rfl,HL7.out.lo⟩
 ·have hni:(1048576:Int) < (n:Int):=by omega
  clear h hnil hE
  go_enter Tryz.func3,Tryz.ntmps3
  go_wp2
  go_ret
  exact ⟨rfl,Below.refl _ _⟩
end Go.Proofs.YthnohneaanphbaaGreatDoor
