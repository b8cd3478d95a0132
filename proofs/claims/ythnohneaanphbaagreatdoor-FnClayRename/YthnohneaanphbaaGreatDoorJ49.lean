import Derived.Deep.DeepCutAuto
import Derived.Test.YthnohneaanphbaaGreatDoorJ48
import Derived.Test.YthnohneaanphbaaGreatDoorJ44
import Derived.Test.YthnohneaanphbaaGreatDoorJ45
import Derived.Test.YthnohneaanphbaaGreatDoorJ25
import Derived.Test.YthnohneaanphbaaGreatDoorJ47
namespace Go.Proofs.YthnohneaanphbaaGreatDoor
open Go.RowKit Go.Maps Go.WideMaps
set_option maxRecDepth 20000
def TreeF (W:World) (B:Nat) (v:Value) (M:Nat) (nd':Nat→Nd):Prop:=(M=0∧v=.slice none 0 0)∨∃ g,v=.slice (some ⟨g,0,none⟩) M M∧B≤g∧Filling W g M M nd'
theorem look_place {W W':World} {m n:Nat} {D:DataW Unit} (h:W.ownsMap Tryz.prog 3 unitElem m n D) (hk:W'.heap[m]?=W.heap[m]?) {k:Nat} (hk2:k≤1048576) :
  (Instr.lookup 50 (.map (some m)) (.int .i64 k) true).run Tryz.prog W'=.ok (.tuple #[.agg #[],.bool (Maps.has D (keyI k))]) W':=by
 have h':W'.ownsMap Tryz.prog 3 unitElem m n D:=by
  obtain ⟨es,clock,h1,h2⟩:=h
  exact ⟨es,clock,hk.trans h1,h2⟩
 obtain ⟨v,ps,hrun,hv⟩:=h'.look_ok (int_keyed Tryz.underlying3) Tryz.underlying50 (z:=.agg #[]) (by rfl) unitElem_mk (keyOf_int_mk Tryz.underlying3 (keyI_wf hk2))
 obtain ⟨rfl,_⟩:=unitElem_inv hv
 exact hrun
theorem ren_mid {wr w7:World} {gn M j:Nat} {f:Nat→Nd} {c0 c1 c2 c3 c4:Value} {E:Obj} (hf:Filling wr gn M j f) (hb:Below ((wr.alloc (.cells #[c0,c1,c2,c3,c4] 35)).alloc E).heap.size ((wr.alloc (.cells #[c0,c1,c2,c3,c4] 35)).alloc E) w7) :
  (w7.cell? ⟨wr.heap.size,0,none⟩=some c0∧w7.cell? ⟨wr.heap.size,1,none⟩=some c1∧w7.cell? ⟨wr.heap.size,2,none⟩=some c2∧w7.cell? ⟨wr.heap.size,3,none⟩=some c3∧w7.cell? ⟨wr.heap.size,4,none⟩=some c4)∧w7.frozen? ⟨wr.heap.size,3,none⟩=false∧w7.heap[gn]?=some (.cells hf.1.choose 35 (0,0))∧hf.1.choose.size=M * 5:=by
 have e:w7.heap[wr.heap.size]?=some (.cells #[c0,c1,c2,c3,c4] 35 (0,0)):=(hb.block _ (by simp;omega)).trans ((Below.heap_alloc _ _ _ (by simp)).trans (heap_alloc_new wr _))
 have hg:=hf.1.choose_spec
 have hl:=(Array.getElem?_eq_some_iff.1 hg.1).1
 exact ⟨⟨cell_hpC e 0,cell_hpC e 1,cell_hpC e 2,cell_hpC e 3,cell_hpC e 4⟩,frozen_hpC e 3,(hb.block _ (by simp;omega)).trans ((Below.heap_alloc _ _ _ (by simp;omega)).trans ((Below.heap_alloc _ _ _ hl).trans hg.1)),hg.2⟩
theorem ren_step {w4 wr w7:World} {M j:Nat} {f:Nat→Nd} {y:Nd} {t:ByteArray} {x:Value} (hf:Filling wr w4.heap.size M j f) (hC:w7.heap[w4.heap.size]?=some (.cells hf.1.choose 35 (0,0))∧hf.1.choose.size=M * 5) (hB:Below w4.heap.size w4 w7) (hj:j < M) (hws:w4.heap.size≤wr.heap.size) (hR:f j={ y with text:=t }) :
  Filling ((((((w7.setCell ⟨wr.heap.size,3,none⟩ x).setCell ⟨w4.heap.size,j * 5,none⟩ (.int .i64 y.kind)).setCell ⟨w4.heap.size,j * 5+1,none⟩ (.int .i64 y.op)).setCell ⟨w4.heap.size,j * 5+2,none⟩ (.int .i64 y.n)).setCell ⟨w4.heap.size,j * 5+3,none⟩ (.string t)).setCell ⟨w4.heap.size,j * 5+4,none⟩ (.int .i64 y.kids)) w4.heap.size M (j+1) f ∧
  Below w4.heap.size w4 ((((((w7.setCell ⟨wr.heap.size,3,none⟩ x).setCell ⟨w4.heap.size,j * 5,none⟩ (.int .i64 y.kind)).setCell ⟨w4.heap.size,j * 5+1,none⟩ (.int .i64 y.op)).setCell ⟨w4.heap.size,j * 5+2,none⟩ (.int .i64 y.n)).setCell ⟨w4.heap.size,j * 5+3,none⟩ (.string t)).setCell ⟨w4.heap.size,j * 5+4,none⟩ (.int .i64 y.kids)):=by
 have hl:=(Array.getElem?_eq_some_iff.1 hf.1.choose_spec.1).1
 have h8:(w7.setCell ⟨wr.heap.size,3,none⟩ x).heap[w4.heap.size]?=some (.cells hf.1.choose 35 (0,0)):=(Below.heap_setCell _ _ _ _ (by show w4.heap.size≠wr.heap.size;omega)).trans hC.1
 have hold:∀ i,i < j→hf.1.choose[i * 5]?=some (.int .i64 (f i).kind)∧hf.1.choose[i * 5+1]?=some (.int .i64 (f i).op)∧hf.1.choose[i * 5+2]?=some (.int .i64 (f i).n)∧hf.1.choose[i * 5+3]?=some (.string (f i).text)∧hf.1.choose[i * 5+4]?=some (.int .i64 (f i).kids):=fun i hi=>by
  have hg:=hf.1.choose_spec.1
  obtain ⟨d0,d1,d2,d3,d4⟩:=hf.2 i hi
  exact ⟨(cell_hpC hg _).symm.trans d0,(cell_hpC hg _).symm.trans d1,(cell_hpC hg _).symm.trans d2,(cell_hpC hg _).symm.trans d3,(cell_hpC hg _).symm.trans d4⟩
 refine ⟨filling_arr hold hC.2 hj (set_atC _ (set_atC _ (set_atC _ (set_atC _ (set_atC _ h8))))) (by rw [hR]) (by rw [hR]) (by rw [hR]) (by rw [hR]) (by rw [hR]),?_⟩
 exact below_set (below_set (below_set (below_set (below_set (hB.setCell (p:=⟨wr.heap.size,3,none⟩) hws _) _ _ (Nat.le_refl _) _) _ _ (Nat.le_refl _) _) _ _ (Nat.le_refl _) _) _ _ (Nat.le_refl _) _) _ _ (Nat.le_refl _) _
set_option maxHeartbeats 4000000 in
theorem implRename_any (b N cap:Nat) (nd:Nat→Nd) (at_:Int) (s:ByteArray) (w:World) (hN:N≤1048576) (hb:b < w.heap.size) (hn:NodesAt w b N nd) (hx:∀ i,i < N→(nd i).text.size≤1048576) (hs:s.size≤1048576) (hE:BEnv w) :
  Calls Tryz.prog 5 #[.agg #[.slice (some ⟨b,0,none⟩) N cap],.int .i64 at_,.string s] w fun e w'=>(∃ v c M nd',e=.returned (.tuple #[.agg #[v],.int .i64 c])∧RenI nd N at_ s c M nd'∧TreeF w' w.heap.size v M nd')∧Below w.heap.size w w':=by
 have HN:=hid hn
 have HX:=hid hx
 have HXM:Hid (∀ i,i < N→(nd i).text.size≤maxLen):=fun i hi=>by have:=hx i hi;unfold maxLen;omega
 have HS:=hid hs
 have HE:=hid hE
 obtain ⟨i0,hi,hz0,hz1,hz2⟩:=info_parts info_ndC
 have HHI:=hid (And.intro hi (And.intro hz0 (And.intro hz1 hz2)))
 clear hi hz0 hz1 hn hx hs hE
 have HB0:=hid (Below.refl (w.heap.size+2) ((w.alloc (.cells #[.slice (some ⟨b,0,none⟩) N cap] 25)).alloc (.cells #[.slice none 0 0] 25)))
 have HCH:Hid (∀ W W',Below (w.heap.size+2) ((w.alloc (.cells #[.slice (some ⟨b,0,none⟩) N cap] 25)).alloc (.cells #[.slice none 0 0] 25)) W→Below W.heap.size W W'→Below (w.heap.size+2) ((w.alloc (.cells #[.slice (some ⟨b,0,none⟩) N cap] 25)).alloc (.cells #[.slice none 0 0] 25)) W'):=fun W W' h h2=>h.trans (h2.mono (ren_cells h).2.2.2)
 have HRET:Hid (∀ W,Below (w.heap.size+2) ((w.alloc (.cells #[.slice (some ⟨b,0,none⟩) N cap] 25)).alloc (.cells #[.slice none 0 0] 25)) W→Below w.heap.size w (W.setCell ⟨w.heap.size+1,0,none⟩ (.slice none 0 0))∧(W.setCell ⟨w.heap.size+1,0,none⟩ (.slice none 0 0)).cell? ⟨w.heap.size+1,0,none⟩=some (.slice none 0 0)):=fun W h=>⟨(ren_cells h).2.2.1.setCell (p:=⟨w.heap.size+1,0,none⟩) (Nat.le_succ _) _,(one_cell (one_set (ren_cells h).2.1 _)).1⟩
 go_enter Tryz.func5,Tryz.ntmps5
 go_wp2_with fail
 refine (bound_any b N cap nd _ hN (by simp;omega) (HN.out.below (ren_cells HB0.out).2.2.1 hb) HXM.out (HE.out.below (ren_cells HB0.out).2.2.1 HE.out.pos)).mono ?_
 intro e w1 he
 obtain ⟨hb1,ad,M,c,ca,bn,rfl,hf,hi1,hbi,hg1,hMN⟩:=he.fault
 have HC:=hid hf
 have HB1:=hid (HCH.out _ _ (HB0.out.trans (hb1.mono (by simp))) ((Below.refl w1.heap.size w1).alloc (Nat.le_refl _) (.cells #[.int .i64 c,.int .i64 ca] 37)))
 obtain ⟨t1,r1,-,hz1⟩:=ren_cells HB1.out
 obtain ⟨r2,r3⟩:=one_cell r1
 by_cases h0:c=0
 ·subst h0
  have HF0:=hid (faultI_code HC.out)
  have hMN2:M=N:=by
   rcases hbi with ⟨_,h⟩ | ⟨h,_⟩
   ·exact absurd HF0.out h
   ·exact h
  subst hMN2
  have HBI:=hid hbi
  have HIN:Hid (IntsA (w1.alloc (.cells #[.int .i64 0,.int .i64 ca] 37)) ad M bn):=by
   rcases hi1 with h | ⟨g,cur,e,h1,h2⟩
   ·exact .inl h
   ·exact .inr ⟨g,cur,e,(Below.heap_alloc _ _ _ (Array.getElem?_eq_some_iff.1 h1).1).trans h1,h2⟩
  clear he hf hi1 hbi hg1 hb1 hMN
  by_cases hin:0≤at_∧at_ < (M:Int)
  ·obtain ⟨hl,hh⟩:=hin
   obtain ⟨a,rfl⟩:=Int.eq_ofNat_of_zero_le hl
   have haN:a < M:=by omega
   obtain ⟨a0,a1,a2,a3,a4⟩:=(HN.out.below (ren_cells HB1.out).2.2.1 hb) a haN
   have HIL:Hid (∀ W,Calls Tryz.prog 17 #[.agg #[.int .i64 (nd a).kind,.int .i64 (nd a).op,.int .i64 (nd a).n,.string (nd a).text,.int .i64 (nd a).kids]] W fun e w'=>e=.returned (.bool (isLoc nd a))∧Below W.heap.size W w'):=fun W=>isLocal_any (nd a) W
   cases hlo:isLoc nd a with
   | true =>
    have HLO:=hid hlo
    clear hlo
    go_wp2_with (first
     | (go_at_call 17;refine (HIL.out _).mono ?_;rintro e w2 ⟨rfl,hb2⟩;rw [HLO.out];have HB2:=hid (HCH.out _ _ HB1.out hb2);have HIN2:=hid (HIN.out.next hb2);obtain ⟨t2,u1,-,hz2b⟩:=ren_cells HB2.out;obtain ⟨u2,u3⟩:=one_cell u1;clear hb2))
    refine (isFresh_any b M cap nd s _ hN (Nat.lt_of_lt_of_le hb (ren_cells HB2.out).2.2.1.size) (HN.out.below (ren_cells HB2.out).2.2.1 hb) (by have:=HS.out;unfold maxLen;omega) (HE.out.below (ren_cells HB2.out).2.2.1 HE.out.pos)).mono ?_
    rintro e w3 ⟨hs3,hb3⟩
    have HB3:=hid (HCH.out _ _ HB2.out hb3)
    have HIN3:=hid (HIN2.out.next hb3)
    obtain ⟨t3,v1,-,hz3⟩:=ren_cells HB3.out
    obtain ⟨v2,v3⟩:=one_cell v1
    clear hb3 t1 r1 r2 r3 t2 u1 u2 u3 a0 a1 a2 a3 a4
    rcases hs3.get with ⟨rfl,hfr⟩ | ⟨rfl,hfr⟩
    ·have HFR:=hid hfr
     clear hfr hs3
     obtain ⟨gB,hgB,hlB,hcB⟩:∃ gB,ad=some ⟨gB,0,none⟩∧gB < w3.heap.size∧∀ i,i < M→w3.cell? ⟨gB,i,none⟩=some (.int .i64 (bn i)):=by
      rcases HIN3.out with h | ⟨g,cur,e,h1,h2⟩
      ·omega
      ·exact ⟨g,e,(Array.getElem?_eq_some_iff.1 h1).1,fun i hi=>(cell_hpC h1 i).trans (h2 i hi)⟩
     subst hgB
     have HCB:=hid hcB
     clear hcB v1 v2 v3
     go_wp2_with fail
     refine (placesOf_any gB M M a bn _ hN haN hlB HCB.out).mono ?_
     rintro e w4 ⟨nD,D,rfl,hown,hinv,hb4⟩
     have HOWN:=hid hown
     have HINV:=hid hinv
     have HB4:=hid (HCH.out _ _ HB3.out hb4)
     obtain ⟨t4,v1,-,hz4⟩:=ren_cells HB4.out
     have hm4:w3.heap.size < w4.heap.size:=hown.lt
     clear hown hinv hb4 t3
     go_wp2_with (at_make;refine wpList_make_full _ rfl _ _ 23 rfl w4.heap.size 35 i0 (.agg #[.int .i64 0,.int .i64 0,.int .i64 0,.string ⟨#[]⟩,.int .i64 0]) 5 Tryz.underlying23 HHI.out.1 HHI.out.2.1 HHI.out.2.2.1 _ _ _ _ M rfl rfl rfl rfl (by rw [hz2];omega) (by unfold maxLen;omega) (Nat.le_refl _) ?_;intro w5 o5 g5;have HB5:=hid ((Below.refl w4.heap.size w4).grown g5 (Nat.le_refl _) (fun q e=>by cases e));have HF5:Hid (Filling w5 w4.heap.size M 0 (renN nd bn a s)):=(by obtain ⟨h1,⟨h2,_⟩ | ⟨g,c,cur,e,_,h4,_,_,h7,_⟩⟩:=o5;(cases h2);(cases e;exact ⟨⟨cur,h4,h7⟩,fun i h=>absurd h (Nat.not_lt_zero _)⟩));obtain ⟨t5,-,-,hz5⟩:=ren_cells (HCH.out _ _ HB4.out HB5.out);clear o5 g5)
     clear t4 t5
     go_loopw [60] (fun i wr=>∃ j:Nat,j≤M∧i=.int .i64 j∧Filling wr w4.heap.size M j (renN nd bn a s)∧Below w4.heap.size w4 wr) (fun i _=>M - (intOf i).toNat)
     case atStart=>exact ⟨0,Nat.zero_le _,rfl,HF5.out,HB5.out⟩
     case round =>
      obtain ⟨j,hj,rfl,hfi,hbw⟩:=hrel
      have HFI:=hid hfi
      have HBW:=hid hbw
      have HBC:=hid (HCH.out _ _ HB4.out hbw)
      obtain ⟨t6,r1,-,hz6⟩:=ren_cells HBC.out
      obtain ⟨r2,r3⟩:=one_cell r1
      have hws:=hbw.size
      clear hfi hbw
      by_cases hlt:j < M
      ·obtain ⟨a0,a1,a2,a3,a4⟩:=(HN.out.below (ren_cells HBC.out).2.2.1 hb) j hlt
       have hne:¬ w4.heap.size=wr.heap.size:=fun e=>by have:=(Array.getElem?_eq_some_iff.1 HFI.out.1.choose_spec.1).1;omega
       have hne2:¬ wr.heap.size=w4.heap.size:=fun e=>hne e.symm
       have hlk0:∀ r,Maps.has D (keyI j)=r→(Instr.lookup 50 (.map (some w3.heap.size)) (.int .i64 j) true).run Tryz.prog (wr.alloc (.cells #[.int .i64 (nd j).kind,.int .i64 (nd j).op,.int .i64 (nd j).n,.string (nd j).text,.int .i64 (nd j).kids] 35))=.ok (.tuple #[.agg #[],.bool r]) (wr.alloc (.cells #[.int .i64 (nd j).kind,.int .i64 (nd j).op,.int .i64 (nd j).n,.string (nd j).text,.int .i64 (nd j).kids] 35)):=fun r hr=>by
        have:=look_place (HOWN.out) (W':=wr.alloc (.cells #[.int .i64 (nd j).kind,.int .i64 (nd j).op,.int .i64 (nd j).n,.string (nd j).text,.int .i64 (nd j).kids] 35)) ((Below.heap_alloc _ _ _ (by omega)).trans (HBW.out.block _ hm4)) (k:=j) (by omega)
        rw [hr] at this
        exact this
       by_cases hr:j=a∨(j < M∧bn j=(a:Int))
       ·have HHAS:Hid (Maps.has D (keyI j)=true):=(HINV.out j).2 hr
        have HR:Hid (renN nd bn a s j={ nd j with text:=s }):=by show _=_;unfold renN;rw [if_pos (hr.imp_right (·.2))]
        clear hr
        have hlk:=hlk0 true HHAS.out
        clear hlk0
        go_wp2_with (go_at_call 20;refine (clone_any s _ HS.out).mono ?_;rintro e w7 ⟨rfl,hb7⟩;obtain ⟨⟨n0,n1,n2,n3,n4⟩,m3,hC7⟩:=ren_mid HFI.out hb7;have HC7:=hid hC7;obtain ⟨⟨v0,x0⟩,⟨v1',x1⟩,⟨v2',x2⟩,⟨v3',x3⟩,⟨v4',x4⟩,y0,y1,y2,y3,y4⟩:=five_room (j:=j) hC7.1 (by rw [hC7.2];omega);have HB7:=hid (HBW.out.trans ((((Below.refl wr.heap.size wr).alloc (Nat.le_refl _) _).alloc (by simp) _).trans (hb7.mono (by simp;omega)) |>.mono hws));clear hb7 hC7)
        have HNX:=hid (ren_step (x:=.string s) HFI.out HC7.out HB7.out hlt hws HR.out)
        go_roundw
        case rel=>exact ⟨j+1,by omega,by go_num,HNX.out.1,HNX.out.2⟩
        case measure=>simp [intOf];omega
       ·have HHAS:Hid (Maps.has D (keyI j)=false):=by
         show _=_
         cases hq:Maps.has D (keyI j) with
         | false=>rfl
         | true=>exact absurd ((HINV.out j).1 hq) hr
        have HR:Hid (renN nd bn a s j={ nd j with text:=(nd j).text }):=by show _=_;unfold renN;rw [if_neg (fun h=>hr (h.imp_right fun h=>⟨hlt,h⟩))]
        clear hr
        have hlk:=hlk0 false HHAS.out
        clear hlk0
        go_wp2_with (go_at_call 20;refine (clone_any (nd j).text _ (HX.out j hlt)).mono ?_;rintro e w7 ⟨rfl,hb7⟩;obtain ⟨⟨n0,n1,n2,n3,n4⟩,m3,hC7⟩:=ren_mid HFI.out hb7;have HC7:=hid hC7;obtain ⟨⟨v0,x0⟩,⟨v1',x1⟩,⟨v2',x2⟩,⟨v3',x3⟩,⟨v4',x4⟩,y0,y1,y2,y3,y4⟩:=five_room (j:=j) hC7.1 (by rw [hC7.2];omega);have HB7:=hid (HBW.out.trans ((((Below.refl wr.heap.size wr).alloc (Nat.le_refl _) _).alloc (by simp) _).trans (hb7.mono (by simp;omega)) |>.mono hws));clear hb7 hC7)
        have HNX:=hid (ren_step (x:=.string (nd j).text) HFI.out HC7.out HB7.out hlt hws HR.out)
        go_roundw
        case rel=>exact ⟨j+1,by omega,by go_num,HNX.out.1,HNX.out.2⟩
        case measure=>simp [intOf];omega
      ·obtain rfl:j=M:=by omega
       have q2:=(one_cell (one_set r1 (.slice (some ⟨w4.heap.size,0,none⟩) j j))).1
       have HQ1:=hid ((ren_cells HBC.out).2.2.1.setCell (p:=⟨w.heap.size+1,0,none⟩) (Nat.le_succ _) (.slice (some ⟨w4.heap.size,0,none⟩) j j))
       have HFQ:Hid (Filling (wr.setCell ⟨w.heap.size+1,0,none⟩ (.slice (some ⟨w4.heap.size,0,none⟩) j j)) w4.heap.size j j (renN nd bn a s)):=by
        obtain ⟨⟨cur,h1,h2⟩,h3⟩:=HFI.out
        exact ⟨⟨cur,(Below.heap_setCell _ _ _ _ (by show w4.heap.size≠w.heap.size+1;omega)).trans h1,h2⟩,h3.set (by omega) _⟩
       go_wp2
       generalize wr.setCell ⟨w.heap.size+1,0,none⟩ (.slice (some ⟨w4.heap.size,0,none⟩) j j)=w9 at *
       refine bodyPost_ret (v:=.tuple #[.agg #[.slice (some ⟨w4.heap.size,0,none⟩) j j],.int .i64 0]) (by simp [results,Tryz.results5,go_sem,q2]) rfl ?_
       exact ⟨⟨_,0,j,renN nd bn a s,rfl,.inr ⟨HF0.out,.inr ⟨a,rfl,haN,HLO.out,.inr ⟨HFR.out,rfl,rfl,bn,HBI.out,rfl⟩⟩⟩,.inr ⟨w4.heap.size,rfl,by omega,HFQ.out⟩⟩,HQ1.out⟩
    ·have HFR:=hid hfr
     clear hfr hs3
     obtain ⟨q1,q2⟩:=HRET.out _ HB3.out
     have HQ1:=hid q1
     clear q1
     go_wp2
     generalize w3.setCell ⟨w.heap.size+1,0,none⟩ (.slice none 0 0)=w9 at *
     refine bodyPost_ret (v:=.tuple #[.agg #[.slice none 0 0],.int .i64 3]) (by simp [results,Tryz.results5,go_sem,q2]) rfl ?_
     exact ⟨⟨_,3,0,nd,rfl,.inr ⟨HF0.out,.inr ⟨a,rfl,haN,HLO.out,.inl ⟨rfl,rfl,HFR.out⟩⟩⟩,.inl ⟨rfl,rfl⟩⟩,HQ1.out⟩
   | false =>
    have HLO:=hid hlo
    have HNL:Hid (¬ LocAt nd M (a:Int)):=fun ⟨a',e,_,h⟩=>by have:a=a':=(by omega);rw [← this,HLO.out] at h;cases h
    clear hlo
    go_wp2_with (first
     | (go_at_call 17;refine (HIL.out _).mono ?_;rintro e w2 ⟨rfl,hb2⟩;rw [HLO.out];have HB2:=hid (HCH.out _ _ HB1.out hb2);obtain ⟨t2,u1,-,hz2b⟩:=ren_cells HB2.out;obtain ⟨u2,u3⟩:=one_cell u1;clear hb2))
    obtain ⟨q1,q2⟩:=HRET.out _ HB2.out
    have HQ1:=hid q1
    clear q1
    go_wp2
    generalize w2.setCell ⟨w.heap.size+1,0,none⟩ (.slice none 0 0)=w9 at *
    refine bodyPost_ret (v:=.tuple #[.agg #[.slice none 0 0],.int .i64 2]) (by simp [results,Tryz.results5,go_sem,q2]) rfl ?_
    exact ⟨⟨_,2,0,nd,rfl,.inr ⟨HF0.out,.inl ⟨rfl,rfl,HNL.out⟩⟩,.inl ⟨rfl,rfl⟩⟩,HQ1.out⟩
  ·have HNL:Hid (¬ LocAt nd M at_):=fun ⟨a',e,h,_⟩=>hin (by omega)
   by_cases hlt:at_ < 0
   ·clear hin
    obtain ⟨q1,q2⟩:=HRET.out _ HB1.out
    have HQ1:=hid q1
    clear q1
    go_wp2
    generalize (w1.alloc (.cells #[.int .i64 0,.int .i64 ca] 37)).setCell ⟨w.heap.size+1,0,none⟩ (.slice none 0 0)=w9 at *
    refine bodyPost_ret (v:=.tuple #[.agg #[.slice none 0 0],.int .i64 2]) (by simp [results,Tryz.results5,go_sem,q2]) rfl ?_
    exact ⟨⟨_,2,0,nd,rfl,.inr ⟨HF0.out,.inl ⟨rfl,rfl,HNL.out⟩⟩,.inl ⟨rfl,rfl⟩⟩,HQ1.out⟩
   ·have hge:(M:Int)≤at_:=by
     rcases Int.lt_or_le at_ (M:Int) with h | h
     ·exact absurd ⟨by omega,h⟩ hin
     ·exact h
    clear hin
    obtain ⟨q1,q2⟩:=HRET.out _ HB1.out
    have HQ1:=hid q1
    clear q1
    go_wp2
    generalize (w1.alloc (.cells #[.int .i64 0,.int .i64 ca] 37)).setCell ⟨w.heap.size+1,0,none⟩ (.slice none 0 0)=w9 at *
    refine bodyPost_ret (v:=.tuple #[.agg #[.slice none 0 0],.int .i64 2]) (by simp [results,Tryz.results5,go_sem,q2]) rfl ?_
    exact ⟨⟨_,2,0,nd,rfl,.inr ⟨HF0.out,.inl ⟨rfl,rfl,HNL.out⟩⟩,.inl ⟨rfl,rfl⟩⟩,HQ1.out⟩
 ·have HNF:Hid (¬ FaultI nd N 0 0):=fun h=>h0 (HC.out.unique h).1
  have hc0:(c != 0)=true:=by simpa using h0
  clear he hf hi1 hbi hg1 hb1
  obtain ⟨q1,q2⟩:=HRET.out _ HB1.out
  have HQ1:=hid q1
  clear q1
  go_wp2
  generalize (w1.alloc (.cells #[.int .i64 c,.int .i64 ca] 37)).setCell ⟨w.heap.size+1,0,none⟩ (.slice none 0 0)=w9 at *
  refine bodyPost_ret (v:=.tuple #[.agg #[.slice none 0 0],.int .i64 1]) (by simp [results,Tryz.results5,go_sem,q2]) rfl ?_
  exact ⟨⟨_,1,0,nd,rfl,.inl ⟨rfl,rfl,HNF.out⟩,.inl ⟨rfl,rfl⟩⟩,HQ1.out⟩
end Go.Proofs.YthnohneaanphbaaGreatDoor
namespace Go.Proofs.YthnohneaanphbaaGreatDoor
open Go.RowKit
set_option maxRecDepth 20000
set_option maxHeartbeats 16000000 in
theorem drawRen_any (ad:Option Addr) (n cap:Nat) (w:World) (hn:n≤1048576) (hc:n≤cap) (hcm:cap≤9223372036854775807) (h:CodeA w ad n) (hnil:ad=none→n=0∧cap=0) :
  Calls Tryz.prog 4 #[.slice ad n cap] w (RnEnd 3101 w):=by
 have HB0:=hid ((Below.refl w.heap.size w).alloc (Nat.le_refl _) (.cells #[.slice none 0 0] 25))
 have HX0:=hid (heap_alloc_new w (.cells #[.slice none 0 0] 25))
 have HC0:Hid (CodeA (w.alloc (.cells #[.slice none 0 0] 25)) ad n):=by
  rcases h with h | ⟨a,e,h1,h2⟩
  ·exact .inl h
  ·refine .inr ⟨a,e,by simp;omega,fun i hi=>?_⟩
   obtain ⟨x,hx⟩:=h2 i hi
   exact ⟨x,(HB0.out.cell (p:=a.add i) (by rw [add_block];exact h1)).trans hx⟩
 have HNIL:=hid hnil
 clear h hnil
 go_enter Tryz.func4,Tryz.ntmps4
 go_upto_region 1 with fail
 obtain ⟨rb,hrb⟩:∃ g,w.heap.size=g:=⟨_,rfl⟩
 obtain ⟨W0,hW0⟩:∃ W,w.alloc (.cells #[.slice none 0 0] 25)=W:=⟨_,rfl⟩
 have hrW:rb < W0.heap.size:=by rw [← hW0,← hrb];simp
 have hwW:w.heap.size≤W0.heap.size:=by rw [← hW0];simp
 rw [hW0] at HB0 HX0 HC0 ⊢
 rw [hrb] at HX0 ⊢
 have hrw:w.heap.size≤rb:=by omega
 clear hW0 hrb
 go_wp2_with fail
 refine (l1Open_any ad n cap W0 hn hc hcm HC0.out HNIL.out).mono ?_
 rintro e w1 ⟨rfl,r1,hb1⟩
 obtain ⟨R,hR⟩:∃ g,W0.heap.size=g:=⟨_,rfl⟩
 have HX1:=hid (hp_next HX0.out hb1)
 have HB1:=hid (HB0.out.trans (hb1.mono hwW))
 have HR1:=hid r1
 rw [hR] at HR1 hrW hwW ⊢
 clear hb1 r1 hR HX0 HB0 HC0 HNIL
 go_wp2_with fail
 refine (any_at R 0 w1 HR1.out (by omega)).mono ?_
 rintro e w2 ⟨v2,rfl,ht2,⟨p2,hp2,hr2⟩,br2⟩
 obtain ⟨ad2,n2,c2,rfl⟩:=ht2.sl
 have hn2:n2≤3101:=ht2.len
 have HX2:=hid ((br2.lo.block rb hrW).trans HX1.out)
 have HB2:=hid (HB1.out.trans (br2.lo.mono hwW))
 have HR2:=hid hr2
 have HT2:=hid ht2
 have HAL:=hid ((Below.refl w2.heap.size w2).alloc (Nat.le_refl _) (.cells #[.slice ad2 n2 c2] 25))
 have HX3a:=hid (heap_alloc_new w2 (.cells #[.slice ad2 n2 c2] 25))
 clear hr2 ht2 br2 HX1 HB1 HR1
 go_upto_region 3 with fail
 obtain ⟨xt,hxt⟩:∃ g,w2.heap.size=g:=⟨_,rfl⟩
 obtain ⟨W3,hW3⟩:∃ W,w2.alloc (.cells #[.slice ad2 n2 c2] 25)=W:=⟨_,rfl⟩
 rw [hW3] at HAL HX3a ⊢
 have hRx:R < w2.heap.size:=HR2.out.lt
 rw [hxt] at HX3a hRx ⊢
 have HD3:Hid (Dr9 R rb xt 50000 w (.slice ad2 n2 c2) W3):=⟨⟨p2,by omega,HR2.out.next HAL.out⟩,hp_next HX2.out HAL.out,HX3a.out,HT2.out.next HAL.out,HB2.out.trans (HAL.out.mono HB2.out.size),hrW,hRx⟩
 clear hW3 hxt HAL HX2 HB2 HR2 HT2 HX3a
 have x3:=cell_hp HD3.out.xy 0
 simp at x3
 go_wp2_with fail
 refine (locals_tr HD3.out.tr (by omega)).mono ?_
 rintro e w4 ⟨⟨adl,M,cl,bn,rfl,hi4,hM⟩,hb4⟩
 have HD4:=hid (HD3.out.next hb4)
 have HI4:=hid hi4
 clear hb4 hi4 HD3 x3
 have x4:=cell_hp HD4.out.xy 0
 simp at x4
 go_wp2_with fail
 refine (HD4.out.pick (by omega) hwW _ (by omega)).mono ?_
 rintro e w5 ⟨x5,rfl,hx5,d5,s5⟩
 obtain ⟨p4,_,hr4⟩:=HD4.out.rd
 have HI5:=hid (ints_pick HI4.out hr4 s5)
 have HD5:=hid d5
 clear d5 s5 hr4 HD4 HI4 x4
 go_upto_region 5 with fail
 go_cut [29] (fun b wx=>∃ bb:Bool,b=.bool bb∧Dr9 R rb xt 50002 w (.slice ad2 n2 c2) wx∧IntsA wx adl M bn∧(bb=true→0 < M))
 case first =>
  rcases Nat.eq_zero_or_pos M with rfl | hM0
  ·go_wp2_with fail
   go_meet
   case rel=>exact ⟨_,rfl,HD5.out.mono (by omega),HI5.out,fun e=>by cases e⟩
  ·have hM1:(0:Int) < (M:Int):=by omega
   go_wp2_with fail
   refine (HD5.out.pick (by omega) hwW 4 (by omega)).mono ?_
   rintro e w6 ⟨x6,rfl,hx6,d6,s6⟩
   obtain ⟨p5,_,hr5⟩:=HD5.out.rd
   have HI6:=hid (ints_pick HI5.out hr5 s6)
   have HD6:=hid d6
   clear d6 s6 hr5 hx6
   go_wp2_with fail
   go_meet
   case rel=>exact ⟨_,rfl,HD6.out.mono (by omega),HI6.out,fun _=>hM0⟩
 case rest =>
  obtain ⟨bb,rfl,d6,i6,hbb⟩:=hcut
  have HD6:=hid d6
  have HI6:=hid i6
  clear d6 i6 HD5 HI5
  obtain ⟨w6,hw6⟩:∃ w6,wc=w6:=⟨_,rfl⟩
  rw [hw6] at HD6 HI6 ⊢
  clear hw6
  go_upto_if 29 with fail
  go_cut [8] (fun v wx=>∃ q:Int,v=.int .i64 q∧Dr9 R rb xt 50003 w (.slice ad2 n2 c2) wx)
  case first =>
   cases bb
   ·go_wp2_with fail
    go_meet
    case rel=>exact ⟨_,rfl,HD6.out.mono (by omega)⟩
   ·have hM0:=hbb rfl
    go_wp2_with fail
    refine (HD6.out.pick (by omega) hwW M (by omega)).mono ?_
    rintro e w7 ⟨x7,rfl,hx7,d7,s7⟩
    obtain ⟨p6,_,hr6⟩:=HD6.out.rd
    obtain ⟨gi,rfl,hci⟩:=ints_at8 (ints_pick HI6.out hr6 s7) (i:=x7) (by omega)
    have ci:=hci
    have hx7i:(x7:Int) < (M:Int):=by omega
    have HD7:=hid d7
    clear d7 s7 hr6 hx7 hci
    go_wp2_with fail
    go_meet
    case rel=>exact ⟨_,rfl,HD7.out.mono (by omega)⟩
  case rest =>
   obtain ⟨q,rfl,d8⟩:=hcut
   have HD8:=hid d8
   clear d8 HD6 HI6 hbb
   obtain ⟨w8,hw8⟩:∃ w8,wc=w8:=⟨_,rfl⟩
   rw [hw8] at HD8 ⊢
   clear hw8
   have HDd:=hid (HD8.out.next (Below.refl w8.heap.size w8).drew)
   have x8:=cell_hp HD8.out.xy 0
   have xd:=cell_hp HDd.out.xy 0
   simp at x8 xd
   have hR8:R < w8.heap.size:=by have:=(Array.getElem?_eq_some_iff.1 HD8.out.xy).1;omega
   go_wp2_with fail
   go_region_law (first
    | (refine step_enter rfl (f:=14) (vals:=#[.pointer (some ⟨R,0,none⟩),.int .i64 2]) (by kernel_rfl) (HDd.out.pick (by omega) hwW 2 (by omega)) ?_;intro e w9 hq9;obtain ⟨x9,rfl,hx9,d9,s9⟩:=hq9;refine ⟨_,rfl,?_⟩;have HD9:=hid d9;have HX9:=hid hx9;have c9:=cell_hp d9.xy 0;simp at c9;have hw9:IntKind.i64.wrap (30+(x9:Int))=30+(x9:Int):=(by rw [IntKind.wrap_i64];omega);clear d9 s9 hx9)
    | (refine step_enter rfl (f:=15) (vals:=#[.string ⟨#[110]⟩,.int .i64 (30+(x9:Int))]) (by kernel_rfl) (many8 x9 w9 HX9.out) ?_;intro e wm hqm;obtain ⟨⟨tm,rfl,htm⟩,hwm⟩:=hqm;subst hwm;refine ⟨_,rfl,?_⟩;have HTM:=hid htm;have HBA:=hid ((Below.refl wm.heap.size wm).alloc (Nat.le_refl _) (.cells #[(.string ⟨#[110,101,119,95,110,97,109,101]⟩),(.string ⟨#[110,101,119,95,110,97,109,101]⟩),(.string ⟨#[110,101,119,95,110,97,109,101]⟩),(.string ⟨#[110,49]⟩),(.string ⟨#[108,101,110]⟩),(.string ⟨#[108,101,116]⟩),(.string ⟨#[65]⟩),(.string tm)] 9));have HDA:=hid (HD9.out.next HBA.out);have cA:=cell_hp HDA.out.xy 0;simp at cA;clear htm)
    | (refine step_enter rfl (f:=14) (vals:=#[.pointer (some ⟨R,0,none⟩),.int .i64 8]) (by kernel_rfl) (HDA.out.pick (by omega) hwW 8 (by omega)) ?_;intro e w10 hq10;obtain ⟨x10,rfl,hx10,d10,s10⟩:=hq10;refine ⟨_,rfl,?_⟩;have hx10i:(x10:Int) < 8:=(by omega);have hRm:R < wm.heap.size:=(by have:=(Array.getElem?_eq_some_iff.1 HD9.out.xy).1;omega);have hnm:=name9 tm HTM.out x10 hx10i;obtain ⟨y,hy,hn⟩:=hnm;have y10:=(s10.cell (p:=⟨wm.heap.size,x10,none⟩) (by simp) (by show ¬ wm.heap.size=R;omega)).trans (hn wm);have y11:=(cell_set9 w10 rb wm.heap.size x10 (.slice ad2 n2 c2) (by omega)).trans y10;have hfin:=d10.fin hrw q hy;have HF:=hid hfin.1;have r1:=hfin.2.1;have r2:=hfin.2.2.1;have r3:=hfin.2.2.2;have c10:=cell_hp d10.xy 0;simp at c10;clear d10 s10 hx10 hfin hn hy)
    | (refine step_enter rfl (f:=14) (vals:=#[.pointer (some ⟨R,0,none⟩),.int .i64 8]) (by kernel_rfl) (HD9.out.pick (by omega) hwW 8 (by omega)) ?_;intro e w10 hq10;obtain ⟨x10,rfl,hx10,d10,s10⟩:=hq10;refine ⟨_,rfl,?_⟩;have hx10i:(x10:Int) < 8:=(by omega);have hRm:R < w10.heap.size:=(by have:=(Array.getElem?_eq_some_iff.1 d10.xy).1;omega);have hnm:=name9 tm HTM.out x10 hx10i;obtain ⟨y,hy,hn⟩:=hnm;have HB10:=hid ((Below.refl w10.heap.size w10).alloc (Nat.le_refl _) (.cells #[(.string ⟨#[110,101,119,95,110,97,109,101]⟩),(.string ⟨#[110,101,119,95,110,97,109,101]⟩),(.string ⟨#[110,101,119,95,110,97,109,101]⟩),(.string ⟨#[110,49]⟩),(.string ⟨#[108,101,110]⟩),(.string ⟨#[108,101,116]⟩),(.string ⟨#[65]⟩),(.string tm)] 9));have y10:=hn w10;have y11:=(cell_set9 (w10.alloc (.cells #[(.string ⟨#[110,101,119,95,110,97,109,101]⟩),(.string ⟨#[110,101,119,95,110,97,109,101]⟩),(.string ⟨#[110,101,119,95,110,97,109,101]⟩),(.string ⟨#[110,49]⟩),(.string ⟨#[108,101,110]⟩),(.string ⟨#[108,101,116]⟩),(.string ⟨#[65]⟩),(.string tm)] 9)) rb w10.heap.size x10 (.slice ad2 n2 c2) (by omega)).trans y10;have y12:=hn (w10.setCell ⟨rb,0,none⟩ (.slice ad2 n2 c2));have hfin:=d10.fin hrw q hy;have hfi2:=(d10.next HB10.out).fin hrw q hy;have HFA:=hid hfi2.1;have HFB:=hid (hfin.1.next ((Below.refl (w10.setCell ⟨rb,0,none⟩ (.slice ad2 n2 c2)).heap.size (w10.setCell ⟨rb,0,none⟩ (.slice ad2 n2 c2))).alloc (Nat.le_refl _) (.cells #[(.string ⟨#[110,101,119,95,110,97,109,101]⟩),(.string ⟨#[110,101,119,95,110,97,109,101]⟩),(.string ⟨#[110,101,119,95,110,97,109,101]⟩),(.string ⟨#[110,49]⟩),(.string ⟨#[108,101,110]⟩),(.string ⟨#[108,101,116]⟩),(.string ⟨#[65]⟩),(.string tm)] 9)));have r1:=hfin.2.1;have r2:=hfin.2.2.1;have r3:=hfin.2.2.2;have r4:=hfi2.2.1;have r5:=hfi2.2.2.1;have r6:=hfi2.2.2.2;have r7:=(((Below.refl (w10.setCell ⟨rb,0,none⟩ (.slice ad2 n2 c2)).heap.size (w10.setCell ⟨rb,0,none⟩ (.slice ad2 n2 c2))).alloc (Nat.le_refl _) (.cells #[(.string ⟨#[110,101,119,95,110,97,109,101]⟩),(.string ⟨#[110,101,119,95,110,97,109,101]⟩),(.string ⟨#[110,101,119,95,110,97,109,101]⟩),(.string ⟨#[110,49]⟩),(.string ⟨#[108,101,110]⟩),(.string ⟨#[108,101,116]⟩),(.string ⟨#[65]⟩),(.string tm)] 9)).cell (p:=⟨rb,0,none⟩) (by show rb < _;rw [size_set9];omega)).trans r1;have hsz:=size_set9 w10 ⟨rb,0,none⟩ (.slice ad2 n2 c2);rw [hsz] at y12;have c10:=cell_hp d10.xy 0;have c11:=cell_hp (d10.next HB10.out).xy 0;simp at c10 c11;clear d10 s10 hx10 hfin hfi2 hn hy))
   all_goals
    go_wp2
    first
    | exact bodyPost_ret (v:=.tuple #[.agg #[.slice ad2 n2 c2],.int .i64 q,.string y]) (by simp [results,Tryz.results4,go_sem,r1]) rfl HF.out
    | exact bodyPost_ret (v:=.tuple #[.agg #[.slice ad2 n2 c2],.int .i64 q,.string y]) (by simp [results,Tryz.results4,go_sem,r4]) rfl HFA.out
    | exact bodyPost_ret (v:=.tuple #[.agg #[.slice ad2 n2 c2],.int .i64 q,.string y]) (by simp [results,Tryz.results4,go_sem,r7]) rfl HFB.out
    | (trace_state;fail)
end Go.Proofs.YthnohneaanphbaaGreatDoor
