import Derived.BigRegion
import Derived.Test.YtbkmglknbflkhaaGreatDoorJ26
namespace Go.Proofs.YtbkmglknbflkhaaGreatDoor.C
open Go.RowKit
set_option maxRecDepth 20000
theorem takes_few {fns:List Fn} {f:Fn} {i:In} (hi:InsR fns f i) (hF:∀ g ∈ fns,FnR fns g):takesN fns i≤8:=by
 unfold takesN
 split
 ·omega
 ·split
  ·omega
  ·split
   ·unfold sig
    (repeat' split) <;> simp
   ·split
    ·rename_i h
     have hc:=hi.call h
     have hlt:i.a.toNat < fns.length:=by omega
     exact (hF _ (by rw [List.getD_eq_getElem?_getD,List.getElem?_eq_getElem hlt];exact List.getElem_mem hlt)).few
    ·split
     ·rename_i h
      have:=hi.ret h
      omega
     ·omega
set_option maxHeartbeats 8000000 in
theorem leaves_any {fns:List Fn} {f:Fn} {b:Nat} {cv pv iv wv:Value} {gL:Nat} {A:Nat→Sh} {w:World} (hM:MS fns f b cv pv iv (.slice (some ⟨gL,0,none⟩) f.ins.length f.ins.length) wv w) (hE:EnvI w) (hY:LyRow w gL f.ins.length A) {p:Nat} (hp:p < f.ins.length) (hF:∀ g ∈ fns,FnR fns g) (hf:FnR fns f) (hs:OkSh f.S (A p)) (h0:¬ (A p).st=0) :
  Calls Tryz.prog 145 #[.pointer (some ⟨b,0,none⟩),.int .i64 p] w (LvEnd fns f p (A p) w):=by
 have hIL:f.ins.length≤50000:=hf.some_.2
 have HIR:Hid (InsR fns f (f.ins.getD p in0)):=hid (hf.ins _ (by rw [List.getD_eq_getElem?_getD,List.getElem?_eq_getElem hp];exact List.getElem_mem hp))
 have HGI:=hid (goes_in hp HIR.out)
 have HF:=hid hF
 have HOK:=hid hs
 have hpi:(p:Int) < (f.ins.length:Int):=by omega
 have HLO:Hid (Below w.heap.size w (w.alloc (lbox 0 ⟨#[]⟩ ⟨#[]⟩))):=hid ((Below.refl _ _).alloc (Nat.le_refl _) _)
 have E4:Hid ((w.alloc (lbox 0 ⟨#[]⟩ ⟨#[]⟩)).heap[w.heap.size]?=some (lbox 0 ⟨#[]⟩ ⟨#[]⟩)):=hid (heap_alloc_new _ _)
 have HM:=hid (hM.next HLO.out)
 have HE:=hid (hE.next HLO.out)
 have HY:=hid (hY.next HLO.out)
 obtain ⟨s,hsA⟩:∃ s,A p=s:=⟨_,rfl⟩
 obtain ⟨u0,u1,u2,_,_,_⟩:=HY.out.at hp
 rw [hsA] at u0 u1 u2 HOK h0 ⊢
 obtain ⟨gI,cI,rfl,hgI,hcI⟩:=HM.out.ir.at hp
 obtain ⟨d0,d1,d2,d3⟩:=hcI p hp
 obtain ⟨i,hi⟩:∃ i,f.ins.getD p in0=i:=⟨_,rfl⟩
 rw [hi] at d0 d1 d2 d3 HIR HGI
 have HIE:=hid hi
 obtain ⟨m0,m1,m2,m3,m4,m5,m6,m7⟩:=mx HM.out
 clear hM hE hY hcI hi hF hs
 go_enter Tryz.func145,Tryz.ntmps145
 go_upto_region 1 with fail
 obtain ⟨W0,hW0⟩:∃ W,w.alloc (lbox 0 ⟨#[]⟩ ⟨#[]⟩)=W:=⟨_,rfl⟩
 rw [hW0] at HLO E4 HM HE HY u0 u1 u2 hgI d0 d1 d2 d3 m0 m1 m2 m3 m4 m5 m6 m7
 unfold lbox at hW0
 rw [hW0]
 clear hW0
 go_cut [6,7] (fun u v wx=>∃ b6 b7:Nat,u=.pointer (some ⟨b6,0,none⟩)∧v=.pointer (some ⟨b7,0,none⟩)∧LX fns f w b cv pv (.slice (some ⟨gI,0,none⟩) f.ins.length cI) wv gL A b6 b7 s i wx)
 case first =>
  have HS1:Hid (∀ V,Below W0.heap.size W0 V→V.cell? ⟨b,5,none⟩=some (.slice (some ⟨gI,0,none⟩) f.ins.length cI)∧V.cell? ⟨b,6,none⟩=some (.slice (some ⟨gL,0,none⟩) f.ins.length f.ins.length)∧V.cell? ⟨gL,p * 3,none⟩=some (.int .i64 (s.st:Nat))∧V.cell? ⟨gL,p * 3+1,none⟩=some (.string (kt s.sl))∧V.cell? ⟨gL,p * 3+2,none⟩=some (.string (kt s.sk))∧V.cell? ⟨gI,p * 4,none⟩=some (.int .i64 i.op)∧V.cell? ⟨gI,p * 4+1,none⟩=some (.int .i64 i.a)∧V.cell? ⟨gI,p * 4+2,none⟩=some (.int .i64 i.n)∧V.cell? ⟨gI,p * 4+3,none⟩=some (.string i.text)):=hid fun V hV=>⟨(hV.cell (p:=⟨b,5,none⟩) HM.out.lt).trans m5,(hV.cell (p:=⟨b,6,none⟩) HM.out.lt).trans m6,(hV.cell (p:=⟨gL,p * 3,none⟩) HY.out.lt).trans u0,(hV.cell (p:=⟨gL,p * 3+1,none⟩) HY.out.lt).trans u1,(hV.cell (p:=⟨gL,p * 3+2,none⟩) HY.out.lt).trans u2,(hV.cell (p:=⟨gI,p * 4,none⟩) hgI).trans d0,(hV.cell (p:=⟨gI,p * 4+1,none⟩) hgI).trans d1,(hV.cell (p:=⟨gI,p * 4+2,none⟩) hgI).trans d2,(hV.cell (p:=⟨gI,p * 4+3,none⟩) hgI).trans d3⟩
  go_region_held3 (fun V=>V.cell? ⟨b,5,none⟩=some (.slice (some ⟨gI,0,none⟩) f.ins.length cI)∧V.cell? ⟨b,6,none⟩=some (.slice (some ⟨gL,0,none⟩) f.ins.length f.ins.length)∧V.cell? ⟨gL,p * 3,none⟩=some (.int .i64 (s.st:Nat))∧V.cell? ⟨gL,p * 3+1,none⟩=some (.string (kt s.sl))∧V.cell? ⟨gL,p * 3+2,none⟩=some (.string (kt s.sk))∧V.cell? ⟨gI,p * 4,none⟩=some (.int .i64 i.op)∧V.cell? ⟨gI,p * 4+1,none⟩=some (.int .i64 i.a)∧V.cell? ⟨gI,p * 4+2,none⟩=some (.int .i64 i.n)∧V.cell? ⟨gI,p * 4+3,none⟩=some (.string i.text)) (first | (exact HS1.out _ (Below.refl _ _).drew) | (exact HS1.out _ ((Below.refl _ _).alloc (Nat.le_refl _) _)) | (exact HS1.out _ ((Below.refl _ _).drew.alloc (Nat.le_refl _) _)) | (exact HS1.out _ (((Below.refl _ _).alloc (Nat.le_refl _) _).alloc (by simp) _)) | (exact HS1.out _ (((Below.refl _ _).drew.alloc (Nat.le_refl _) _).alloc (by simp) _)) | go_keep) (first | fail)
  all_goals go_wp2_with fail
  all_goals go_meet
  all_goals first
   | (exact ⟨_,_,rfl,rfl,(LX.start1 HLO.out HM.out HY.out HE.out E4.out).1⟩)
   | (exact ⟨_,_,rfl,rfl,(LX.start1 HLO.out HM.out HY.out HE.out E4.out).2⟩)
 case rest =>
  obtain ⟨b6,b7,rfl,rfl,hx⟩:=hcut
  obtain ⟨W1,hW1⟩:∃ W,wc=W:=⟨_,rfl⟩
  rw [hW1] at hx ⊢
  have HX:=hid hx
  clear hW1 hx HLO E4 HM HE HY u0 u1 u2 d0 d1 d2 d3 m0 m1 m2 m3 m4 m5 m6 m7
  have HC2:Hid (∀ V,Below W1.heap.size W1 V→(V.cell? ⟨b6,0,none⟩=some (.int .i64 (s.st:Nat))∧V.cell? ⟨b6,1,none⟩=some (.string (kt s.sl))∧V.cell? ⟨b6,2,none⟩=some (.string (kt s.sk)))∧(V.cell? ⟨b7,0,none⟩=some (.int .i64 i.op)∧V.cell? ⟨b7,1,none⟩=some (.int .i64 i.a)∧V.cell? ⟨b7,2,none⟩=some (.int .i64 i.n)∧V.cell? ⟨b7,3,none⟩=some (.string i.text))):=hid fun V hV=>by
   obtain ⟨a0,a1,a2,_,_,_⟩:=six_l (HX.out.next hV).e6
   exact ⟨⟨a0,a1,a2⟩,ix (HX.out.next hV).e7⟩
  have HTB:Hid (∀ V,Below W1.heap.size W1 V→Calls Tryz.prog 167 #[.pointer (some ⟨b,0,none⟩),.agg #[.int .i64 i.op,.int .i64 i.a,.int .i64 i.n,.string i.text]] V fun e w'=>e=.returned (.int .i64 (takesN fns i:Nat))∧Below V.heap.size V w'):=hid fun V hV=>takenBy_any (HX.out.next hV).ms (HX.out.next hV).en HIR.out
  have hlk:=(ok_len HOK.out).2
  have hls:=(ok_len HOK.out).1
  have hks:=kt_size s.sk
  have hkl:=kt_size s.sl
  have HTN:=hid (takes_few HIR.out HF.out)
  obtain ⟨T,hT⟩:∃ T,takesN fns i=T:=⟨_,rfl⟩
  rw [hT] at HTB HTN
  have HTE:=hid hT
  have hT8:=HTN.out
  have hwk:IntKind.i64.wrap ((s.sk.length:Int) - (T:Int))=(s.sk.length:Int) - (T:Int):=by rw [IntKind.wrap_i64];omega
  clear hT
  go_upto_region 2 with fail
  go_region_held3 (fun V=>(V.cell? ⟨b6,0,none⟩=some (.int .i64 (s.st:Nat))∧V.cell? ⟨b6,1,none⟩=some (.string (kt s.sl))∧V.cell? ⟨b6,2,none⟩=some (.string (kt s.sk)))∧(V.cell? ⟨b7,0,none⟩=some (.int .i64 i.op)∧V.cell? ⟨b7,1,none⟩=some (.int .i64 i.a)∧V.cell? ⟨b7,2,none⟩=some (.int .i64 i.n)∧V.cell? ⟨b7,3,none⟩=some (.string i.text))) (first | (exact HC2.out _ (Below.refl _ _).drew) | (exact HC2.out _ HB2.out) | go_keep) (first
   | (go_at_call 167;refine (HTB.out _ (Below.refl _ _).drew).mono ?_;rintro e W2 ⟨rfl,hb2⟩;have HB2:=hid ((Below.refl W1.heap.size W1).drew.trans hb2);clear hb2) | fail)
  go_upto_region 3 with fail
  have HX2:=hid (HX.out.next HB2.out)
  clear HX HC2 HTB HB2
  obtain ⟨x0,x1,x2,_,_,_⟩:=six_l HX2.out.e6
  obtain ⟨z0,z1,z2,z3⟩:=ix HX2.out.e7
  obtain ⟨r0,r1,r2,q0,q1,q2⟩:=six_l HX2.out.e4
  by_cases hst:s.st=2
  ·have hstb:(((s.st:Nat):Int) == 2)=true:=by rw [hst];rfl
   have HTOP:=hid (behind_top (fns:=fns) (f:=f) (p:=p) (s:=s) (by omega))
   clear hst
   go_quiet (fail)
   go_wp2_with fail
   exact bodyPost_ret (v:=.tuple #[.agg #[.int .i64 0,.string ⟨#[]⟩,.string ⟨#[]⟩],.bool false]) (by simp [results,Tryz.results145,go_sem,r0,r1,r2]) rfl (lv_none (set_lo (set_lo (set_lo (below_drewN HX2.out.lo _) _ _ (Nat.le_refl _) _) _ _ (Nat.le_refl _) _) _ _ (Nat.le_refl _) _) HTOP.out)
  ·have hst1:s.st=1:=by rcases ok_st HOK.out with h | h | h <;> omega
   have HS1:=hid hst1
   have hstb:(((s.st:Nat):Int) == 2)=false:=by rw [hst1];rfl
   have x0':=x0
   rw [hst1] at x0'
   clear hst hst1
   by_cases hlt:s.sk.length < T
   ·have hlti:(s.sk.length:Int) - (T:Int) < 0:=by omega
    have HTOP:Hid (behind fns f p s=top):=hid (by
     unfold behind
     rw [if_neg]
     rintro ⟨_,h2,_⟩
     rw [HIE.out,HTE.out] at h2
     omega)
    go_quiet (fail)
    go_wp2_with fail
    exact bodyPost_ret (v:=.tuple #[.agg #[.int .i64 0,.string ⟨#[]⟩,.string ⟨#[]⟩],.bool false]) (by simp [results,Tryz.results145,go_sem,r0,r1,r2]) rfl (lv_none (set_lo (set_lo (set_lo (below_drewN HX2.out.lo _) _ _ (Nat.le_refl _) _) _ _ (Nat.le_refl _) _) _ _ (Nat.le_refl _) _) HTOP.out)
   ·obtain ⟨B,hB⟩:∃ B:Nat,s.sk.length=B+T:=⟨s.sk.length - T,by omega⟩
    have hBi:(s.sk.length:Int) - (T:Int)=(B:Int):=by omega
    have hBn:¬ (B:Int) < 0:=by omega
    rw [hBi]
    have HBE:Hid (s.sk.length - T=B):=hid (by omega)
    have hB600:B≤600:=by omega
    clear hlt hBi hwk
    obtain ⟨m0,m1,m2,m3,m4,m5,m6,m7⟩:=mx HX2.out.ms
    have HC3:Hid (∀ V,Below W2.heap.size W2 V→(V.cell? ⟨b6,0,none⟩=some (.int .i64 1)∧V.cell? ⟨b,6,none⟩=some (.slice (some ⟨gL,0,none⟩) f.ins.length f.ins.length))):=hid fun V hV=>⟨(hV.cell (p:=⟨b6,0,none⟩) (lt_hp HX2.out.e6)).trans x0',(hV.cell (p:=⟨b,6,none⟩) HX2.out.ms.lt).trans m6⟩
    have HAF:Hid (∀ V,Below W2.heap.size W2 V→Calls Tryz.prog 166 #[.pointer (some ⟨b,0,none⟩),.int .i64 p] V (GoesEnd i p V)):=hid fun V hV=>by
     have:=after_any (HX2.out.next hV).ms hp (by omega) (by rw [HIE.out];exact HIR.out)
     rw [HIE.out] at this
     exact this
    have hgl:=goes_few i p
    go_region_held3 (fun V=>V.cell? ⟨b6,0,none⟩=some (.int .i64 1)∧V.cell? ⟨b,6,none⟩=some (.slice (some ⟨gL,0,none⟩) f.ins.length f.ins.length)) (first | (exact HC3.out _ (Below.refl _ _).drew) | (exact HC3.out _ HB4.out) | (exact HC3.out _ HB3.out) | go_keep) (first
     | (go_at_call 166;refine (HAF.out _ (Below.refl _ _).drew).mono ?_;rintro e W3 ⟨gv,rfl,hgr,hb3⟩;have HB3:=hid ((Below.refl W2.heap.size W2).drew.trans hb3);have HGR:=hid hgr;obtain ⟨gad,gc,hgv⟩:=hgr.sl;subst hgv;clear hgr hb3)
     | (go_at_call 168;refine (contains_any HGR.out (by rw [nums_length];omega)).mono ?_;rintro e W4 ⟨rfl,hb4⟩;have HB4:=hid (HB3.out.trans (hb4.mono HB3.out.size));clear hb4) | fail)
    have HX4:=hid (HX2.out.next HB4.out)
    have HGOES:=HGI.out
    clear HGR HB3 HB4 HC3 HAF HX2 x0 x0' x1 x2 z0 z1 z2 z3 r0 r1 r2 q0 q1 q2 m0 m1 m2 m3 m4 m5 m6 m7
    obtain ⟨x0,x1,x2,_,_,_⟩:=six_l HX4.out.e6
    obtain ⟨z0,z1,z2,z3⟩:=ix HX4.out.e7
    obtain ⟨r0,r1,r2,q0,q1,q2⟩:=six_l HX4.out.e4
    rw [HS1.out] at x0
    by_cases hin:(f.ins.length:Int) ∈ nums (goes i p)
    ·have hd:decide ((f.ins.length:Int) ∈ nums (goes i p))=true:=by simpa using hin
     rw [hd]
     have HTOP:Hid (behind fns f p s=top):=hid (by
      unfold behind
      rw [if_neg]
      rintro ⟨_,_,h3⟩
      rw [HIE.out] at h3
      exact HGOES.1 h3 hin)
     clear hin hd HGOES
     go_wp2_with fail
     exact bodyPost_ret (v:=.tuple #[.agg #[.int .i64 0,.string ⟨#[]⟩,.string ⟨#[]⟩],.bool false]) (by simp [results,Tryz.results145,go_sem,r0,r1,r2]) rfl (lv_none (set_lo (set_lo (set_lo HX4.out.lo _ _ (Nat.le_refl _) _) _ _ (Nat.le_refl _) _) _ _ (Nat.le_refl _) _) HTOP.out)
    ·have hd:decide ((f.ins.length:Int) ∈ nums (goes i p))=false:=by simpa using hin
     rw [hd]
     have HGO:=hid (HGOES.2 hin)
     clear hin hd HGOES
     obtain ⟨tk,htk⟩:∃ tk,s.sk.drop B=tk:=⟨_,rfl⟩
     have htl:tk.length=T:=by rw [← htk,List.length_drop];omega
     have hex:(kt s.sk).extract B (kt s.sk).size=kt tk:=by rw [← htk];exact kt_drop _ _
     have HTR:Hid (∀ x ∈ tk,1≤x∧x≤10):=hid (by rw [← htk];intro x hx;exact (ok_known HOK.out HS1.out).2.2.1 x (List.mem_of_mem_drop hx))
     subst htl
     have HLM:Hid (LM fns f p s i B tk):=hid ⟨HS1.out,HIE.out,HIR.out,HF.out,hB,htk,HTE.out,HGO.out,HTR.out⟩
     have HKO:Hid (Ok10 tk):=hid fun x hx=>by have:=HTR.out x hx;omega
     have hBs:(B:Int)≤((kt s.sk).size:Int):=by rw [kt_size];omega
     have hBs2:B≤(kt s.sk).size:=by rw [kt_size];omega
     have hex2:(kt s.sk).extract B (B+tk.length)=kt tk:=by rw [← hB,← kt_size];exact hex
     have hex3:(kt s.sk).extract B s.sk.length=kt tk:=by rw [← kt_size];exact hex
     clear htk
     go_wp2_with (go_at_call 169;refine (kindsOf_any HKO.out (by omega) _).mono ?_;rintro e W5 ⟨tv,rfl,htr,hb5⟩;have HX5:=hid (HX4.out.next hb5);have HTV:=hid htr;obtain ⟨at5,ct5,htv⟩:=htr.sl;subst htv;clear htr hb5)
     go_loopw [61] (fun ix wr=>∃ z:Nat,z≤tk.length∧ix=.int .i64 z∧LX fns f w b cv pv (.slice (some ⟨gI,0,none⟩) f.ins.length cI) wv gL A b6 b7 s i wr∧IntRow wr (.slice at5 tk.length ct5) tk∧∀ q,q < z→tkB fns f i q (tk.getD q 0)=true) (fun ix _=>tk.length - (intOf ix).toNat)
     case atStart=>exact ⟨0,Nat.zero_le _,rfl,HX5.out,HTV.out,fun q hq=>absurd hq (Nat.not_lt_zero _)⟩
     case round =>
      clear HX4 HX5 HTV x0 x1 x2 z0 z1 z2 z3 r0 r1 r2 q0 q1 q2 hex hex2 hex3
      obtain ⟨z,hz,rfl,hx6,htv6,hso⟩:=hrel
      have HX6:=hid hx6
      have HTV6:=hid htv6
      have HSO:=hid hso
      clear hx6 htv6 hso
      obtain ⟨x0,x1,x2,_,_,_⟩:=six_l HX6.out.e6
      obtain ⟨z0,z1,z2,z3⟩:=ix HX6.out.e7
      obtain ⟨r0,r1,r2,q0,q1,q2⟩:=six_l HX6.out.e4
      by_cases hzt:z < tk.length
      ·have hzi:(z:Int) < (tk.length:Int):=by omega
       obtain ⟨gT,cT,e9,_,_,_,hcT⟩:=HTV6.out.at hzt
       injection e9 with ea en ec
       clear en
       subst ea ec
       have kT:=hcT z hzt
       have HTK1:Hid (Calls Tryz.prog 170 #[.pointer (some ⟨b,0,none⟩),.agg #[.int .i64 i.op,.int .i64 i.a,.int .i64 i.n,.string i.text],.int .i64 z,.int .i64 (tk.getD z 0)] wr fun e w'=>e=.returned (.bool (tkB fns f i z (tk.getD z 0)))∧Below wr.heap.size wr w'):=hid (takes_any HX6.out.ms HX6.out.en HIR.out (by rw [HTE.out];exact hzt))
       obtain ⟨k,hk⟩:∃ k,tk.getD z 0=k:=⟨_,rfl⟩
       rw [hk] at kT HTK1
       have HKE:=hid hk
       clear hk hcT
       cases hv:tkB fns f i z k with
       | false =>
        rw [hv] at HTK1
        have HTOP:Hid (behind fns f p s=top):=hid (HLM.out.bad fun h9=>by
         have:=h9.1 z (by rw [HTE.out];exact hzt)
         rw [HKE.out,hv] at this
         cases this)
        clear hv
        go_wp2_with (go_at_call 170;refine HTK1.out.mono ?_;rintro e W7 ⟨rfl,hb7⟩;have HX7:=hid (HX6.out.next hb7);obtain ⟨r0,r1,r2,q0,q1,q2⟩:=six_l HX7.out.e4;clear hb7)
        exact bodyPost_ret (v:=.tuple #[.agg #[.int .i64 0,.string ⟨#[]⟩,.string ⟨#[]⟩],.bool false]) (by simp [results,Tryz.results145,go_sem,r0,r1,r2]) rfl (lv_none (set_lo (set_lo (set_lo HX7.out.lo _ _ (Nat.le_refl _) _) _ _ (Nat.le_refl _) _) _ _ (Nat.le_refl _) _) HTOP.out)
       | true =>
        rw [hv] at HTK1
        have HV:=hid hv
        clear hv
        go_wp2_with (go_at_call 170;refine HTK1.out.mono ?_;rintro e W7 ⟨rfl,hb7⟩;have HX7:=hid (HX6.out.next hb7);have HTV7:=hid (HTV6.out.next hb7);clear hb7)
        go_roundw
        case rel =>
         refine ⟨z+1,by omega,by go_num,HX7.out,HTV7.out,fun q hq=>?_⟩
         by_cases e:q=z
         ·subst e;rw [HKE.out];exact HV.out
         ·exact HSO.out q (by omega)
        case measure=>simp [intOf];omega
      ·obtain rfl:z=tk.length:=by omega
       have hge:¬ ((tk.length:Int) < (tk.length:Int)):=by omega
       have HALL:Hid (AllT fns f i tk):=hid fun q hq=>HSO.out q (by rw [← HTE.out];exact hq)
       have HPUT:Hid (Calls Tryz.prog 171 #[.pointer (some ⟨b,0,none⟩),.agg #[.int .i64 i.op,.int .i64 i.a,.int .i64 i.n,.string i.text],.string (kt s.sl),.slice at5 tk.length ct5] wr (PutEnd fns i s.sl tk wr)):=hid (put_any HX6.out.ms HX6.out.en HIR.out (ok_sl HOK.out).1 HTV6.out HTR.out HTE.out.symm (ok_known HOK.out HS1.out).1 HF.out)
       have HPL:=hid (put_len fns i s.sl tk)
       obtain ⟨l,hl⟩:∃ l,(putR fns i s.sl tk).1=l:=⟨_,rfl⟩
       obtain ⟨ok,hok⟩:∃ ok,(putR fns i s.sl tk).2=ok:=⟨_,rfl⟩
       unfold PutEnd at HPUT
       rw [hl,hok] at HPUT
       rw [hl] at HPL
       have HL9:=hid hl
       have HO9:=hid hok
       have hl1:=HPL.out
       have hktl:=kt_size l
       have hpre:(kt s.sk).extract 0 B=kt (s.sk.take B):=kt_take _ _
       have hcat:kt (s.sk.take B) ++ kt l=kt (s.sk.take B ++ l):=(kt_append _ _).symm
       have hsz9:(kt (s.sk.take B)).size=B:=by rw [kt_size,List.length_take];omega
       have hcat2:¬ 9223372036854775807 < B+l.length:=by omega
       have hBs:(B:Int)≤((kt s.sk).size:Int):=by rw [kt_size];omega
       have hBs2:B≤(kt s.sk).size:=by rw [kt_size];omega
       clear hl hok
       go_upto_region 13 with (go_at_call 171;refine HPUT.out.mono ?_;rintro e W7 ⟨rfl,hb7⟩;have HX7:=hid (HX6.out.next hb7);have HTV7:=hid (HTV6.out.next hb7);clear hb7)
       clear HX6 HTV6 x0 x1 x2 z0 z1 z2 z3 r0 r1 r2 q0 q1 q2
       obtain ⟨x0,x1,x2,_,_,_⟩:=six_l HX7.out.e6
       obtain ⟨z0,z1,z2,z3⟩:=ix HX7.out.e7
       obtain ⟨r0,r1,r2,q0,q1,q2⟩:=six_l HX7.out.e4
       go_region
       have HZ8:=hid (HX7.out.store HS1.out HTV7.out (kt s.sl) (kt (s.sk.take B ++ l)))
       obtain ⟨W8,hW8⟩:∃ W,(((W7.setCell ⟨w.heap.size,0,none⟩ (.int .i64 1)).setCell ⟨w.heap.size,1,none⟩ (.string (kt s.sl))).setCell ⟨w.heap.size,2,none⟩ (.string (kt (s.sk.take B ++ l)))).drew=W:=⟨_,rfl⟩
       rw [hW8] at HZ8 ⊢
       have hszz:(kt (s.sk.take B ++ l)).size=B+l.length:=by rw [kt_size,List.length_append,List.length_take];omega
       clear hW8 HX7 HTV7 x0 x1 x2 z0 z1 z2 z3 r0 r1 r2 q0 q1 q2 HPUT hcat hcat2 hpre hsz9
       obtain ⟨x0,x1,x2,_,_,_⟩:=six_l HZ8.out.e6
       obtain ⟨z0,z1,z2,z3⟩:=ix HZ8.out.e7
       by_cases h3:i.op=3
       ·have HLAST:=hid (HLM.out.last h3)
        have hb3:=HIR.out.slot (.inr h3)
        obtain ⟨q,hq⟩:∃ q:Nat,i.a=q:=⟨i.a.toNat,by omega⟩
        have hq1:q < s.sl.length:=by rw [(ok_known HOK.out HS1.out).1];unfold Fn.S;omega
        have h3f:(i.op == 3)=true:=by simpa using h3
        have hS200:s.sl.length≤200:=by have h8:=(ok_known HOK.out HS1.out).1;have h9:=hf.slots;unfold Fn.S at h8;omega
        rw [hq] at z1
        have ht1:=HLAST.out.1
        obtain ⟨gT,cT,e9,_,_,hgT,hcT⟩:=HZ8.out.row.at (i:=0) (by omega)
        injection e9 with ea en ec
        clear en
        subst ea ec
        have kT:=hcT 0 (by omega)
        have HKR:=hid (getD1 HTR.out (z:=0) (by omega))
        have HSLE0:Hid (∀ x,tk.getD 0 0=x→s.sl.set q x=if i.op=3 then s.sl.set i.a.toNat (s.sk.getLastD 0) else s.sl):=hid fun x hx=>by rw [if_pos h3,HLAST.out.2,hx,hq];rfl
        obtain ⟨x,hx⟩:∃ x,tk.getD 0 0=x:=⟨_,rfl⟩
        rw [hx] at kT HKR
        have HSLE:=hid (HSLE0.out x hx)
        have HKX:Hid (0≤x∧x≤10):=hid (by have:=HKR.out;omega)
        have htki:(0:Int) < (tk.length:Int):=by omega
        have htkn:0 < tk.length:=by omega
        have hwq:IntKind.i64.wrap ((q:Int)+1)=((q+1:Nat):Int):=by rw [IntKind.wrap_i64];omega
        have hA1:(kt s.sl).extract 0 q=kt (s.sl.take q):=kt_take _ _
        have hA2:(kt s.sl).extract (q+1) (kt s.sl).size=kt (s.sl.drop (q+1)):=kt_drop _ _
        have hA3:(kt s.sl).extract (q+1) s.sl.length=kt (s.sl.drop (q+1)):=by rw [← kt_size];exact kt_drop _ _
        have hA4:kt (s.sl.take q) ++ kt [x]=kt (s.sl.take q ++ [x]):=(kt_append _ _).symm
        have hA5:kt (s.sl.take q ++ [x]) ++ kt (s.sl.drop (q+1))=kt (s.sl.set q x):=by rw [← hA4];exact kt_set hq1 x
        have hS1':(kt (s.sl.take q)).size=q:=by rw [kt_size,List.length_take];omega
        have hS2':(kt [x]).size=1:=kt_size _
        have hS3':(kt (s.sl.take q ++ [x])).size=q+1:=by rw [kt_size,List.length_append,List.length_take,List.length_singleton];omega
        have hS4':(kt (s.sl.drop (q+1))).size=s.sl.length - (q+1):=by rw [kt_size,List.length_drop]
        have ho1:¬ 9223372036854775807 < q+1:=by omega
        have ho2:¬ 9223372036854775807 < q+1+(s.sl.length - (q+1)):=by omega
        have hqi:(q:Int)≤((kt s.sl).size:Int):=by rw [kt_size];omega
        have hqn:q≤(kt s.sl).size:=by rw [kt_size];omega
        have hqi1:((q+1:Nat):Int)≤((kt s.sl).size:Int):=by rw [kt_size];omega
        have hqn1:q+1≤(kt s.sl).size:=by rw [kt_size];omega
        have HS15:Hid (∀ V,Below W8.heap.size W8 V→V.cell? ⟨b6,1,none⟩=some (.string (kt s.sl))∧V.cell? ⟨b7,1,none⟩=some (.int .i64 (q:Int))∧V.cell? ⟨gT,0,none⟩=some (.int .i64 x)):=hid fun V hV=>⟨(hV.cell (p:=⟨b6,1,none⟩) (lt_hp HZ8.out.e6)).trans x1,(hV.cell (p:=⟨b7,1,none⟩) (lt_hp HZ8.out.e7)).trans z1,(hV.cell (p:=⟨gT,0,none⟩) hgT).trans kT⟩
        have hgne:¬ gT=w.heap.size:=row_ne HZ8.out.row (by omega) HZ8.out.e4
        have ho3:¬ 9223372036854775807 < s.sl.length:=by omega
        have hqL:q≤s.sl.length:=by omega
        have hqL1:q+1≤s.sl.length:=by omega
        have hqLi:(q:Int)≤(s.sl.length:Int):=by omega
        have hqLi1:(q:Int)+1≤(s.sl.length:Int):=by omega
        have hqLi2:((q+1:Nat):Int)≤(s.sl.length:Int):=by omega
        have hq0:(0:Int)≤(q:Int):=by omega
        have hq01:(0:Int)≤((q+1:Nat):Int):=by omega
        have hq02:(0:Int)≤(q:Int)+1:=by omega
        clear h3 hb3 hq hcT hx HSLE0 HKR
        go_upto_region 15 with fail
        go_region_held3 (fun V=>V.cell? ⟨b6,1,none⟩=some (.string (kt s.sl))∧V.cell? ⟨b7,1,none⟩=some (.int .i64 (q:Int))∧V.cell? ⟨gT,0,none⟩=some (.int .i64 x)) (first | (exact HS15.out _ (Below.refl _ _).drew) | (exact HS15.out _ HB9.out) | (rw [cell_set_ne _ HZ8.out.n6,cell_set_ne _ HZ8.out.n7,cell_set_ne _ hgne];exact HS15.out _ HB9.out) | go_keep) (first
         | (go_at_call 172;refine (kindText_any _ HKX.out _).mono ?_;rintro e W9 ⟨rfl,hb9⟩;have HB9:=hid ((Below.refl W8.heap.size W8).drew.trans hb9);have HZ9:=hid (HZ8.out.next HB9.out);obtain ⟨r0,r1,r2,q0,q1,q2⟩:=six_l HZ9.out.e4;clear hb9) | fail)
        have e10:=set1_l HZ9.out.e4 (kt (s.sl.set q x))
        have HLO10:=hid (set_lo HZ9.out.lo w.heap.size 1 (Nat.le_refl _) (.string (kt (s.sl.set q x))))
        obtain ⟨W10,hW10⟩:∃ W,W9.setCell ⟨w.heap.size,1,none⟩ (.string (kt (s.sl.set q x)))=W:=⟨_,rfl⟩
        rw [hW10] at e10 HLO10 ⊢
        clear hW10 r0 r1 r2 q0 q1 q2
        obtain ⟨r0,r1,r2,q0,q1,q2⟩:=six_l e10
        clear e10
        cases ok with
        | false =>
         go_wp2_with fail
         exact bodyPost_ret (v:=.tuple #[.agg #[.int .i64 1,.string (kt (s.sl.set q x)),.string (kt (s.sk.take B ++ l))],.bool false]) (by simp [results,Tryz.results145,go_sem,r0,r1,r2]) rfl (lv_last2 HLM.out HALL.out HL9.out HO9.out HSLE.out (by rfl) (set_lo (set_lo (set_lo HLO10.out _ _ (Nat.le_refl _) _) _ _ (Nat.le_refl _) _) _ _ (Nat.le_refl _) _))
        | true =>
         by_cases h6:B+l.length≤600
         ·have h6i:((B+l.length:Nat):Int)≤600:=by omega
          have h6j:(B:Int)+(l.length:Int)≤600:=by omega
          have h6k:((kt (s.sk.take B ++ l)).size:Int)≤600:=by rw [hszz];exact h6i
          have HD:Hid (decide (B+l.length≤600)=true):=hid (by simpa using h6)
          clear h6
          go_wp2_with fail
          exact bodyPost_ret (v:=.tuple #[.agg #[.int .i64 1,.string (kt (s.sl.set q x)),.string (kt (s.sk.take B ++ l))],.bool true]) (by simp [results,Tryz.results145,go_sem,r0,r1,r2]) rfl (lv_last2 HLM.out HALL.out HL9.out HO9.out HSLE.out (by rw [HD.out];rfl) (set_lo (set_lo (set_lo HLO10.out _ _ (Nat.le_refl _) _) _ _ (Nat.le_refl _) _) _ _ (Nat.le_refl _) _))
         ·exact absurd (show B+l.length≤600 by omega) h6
       ·have h3f:(i.op == 3)=false:=by simpa using h3
        have HSLE:Hid (s.sl=if i.op=3 then s.sl.set i.a.toNat (s.sk.getLastD 0) else s.sl):=hid (by rw [if_neg h3])
        obtain ⟨r0,r1,r2,q0,q1,q2⟩:=six_l HZ8.out.e4
        clear h3
        cases ok with
        | false =>
         go_wp2_with fail
         exact bodyPost_ret (v:=.tuple #[.agg #[.int .i64 1,.string (kt s.sl),.string (kt (s.sk.take B ++ l))],.bool false]) (by simp [results,Tryz.results145,go_sem,r0,r1,r2]) rfl (lv_last2 HLM.out HALL.out HL9.out HO9.out HSLE.out (by rfl) (set_lo (set_lo (set_lo HZ8.out.lo _ _ (Nat.le_refl _) _) _ _ (Nat.le_refl _) _) _ _ (Nat.le_refl _) _))
        | true =>
         by_cases h6:B+l.length≤600
         ·have h6i:((B+l.length:Nat):Int)≤600:=by omega
          have h6j:(B:Int)+(l.length:Int)≤600:=by omega
          have h6k:((kt (s.sk.take B ++ l)).size:Int)≤600:=by rw [hszz];exact h6i
          have HD:Hid (decide (B+l.length≤600)=true):=hid (by simpa using h6)
          clear h6
          go_wp2_with fail
          exact bodyPost_ret (v:=.tuple #[.agg #[.int .i64 1,.string (kt s.sl),.string (kt (s.sk.take B ++ l))],.bool true]) (by simp [results,Tryz.results145,go_sem,r0,r1,r2]) rfl (lv_last2 HLM.out HALL.out HL9.out HO9.out HSLE.out (by rw [HD.out];rfl) (set_lo (set_lo (set_lo HZ8.out.lo _ _ (Nat.le_refl _) _) _ _ (Nat.le_refl _) _) _ _ (Nat.le_refl _) _))
         ·have h6i:¬ ((B+l.length:Nat):Int)≤600:=by omega
          have h6j:¬ (B:Int)+(l.length:Int)≤600:=by omega
          have h6k:¬ ((kt (s.sk.take B ++ l)).size:Int)≤600:=by rw [hszz];exact h6i
          have HD:Hid (decide (B+l.length≤600)=false):=hid (by simpa using h6)
          clear h6
          go_wp2_with fail
          exact bodyPost_ret (v:=.tuple #[.agg #[.int .i64 1,.string (kt s.sl),.string (kt (s.sk.take B ++ l))],.bool false]) (by simp [results,Tryz.results145,go_sem,r0,r1,r2]) rfl (lv_last2 HLM.out HALL.out HL9.out HO9.out HSLE.out (by rw [HD.out];rfl) (set_lo (set_lo (set_lo HZ8.out.lo _ _ (Nat.le_refl _) _) _ _ (Nat.le_refl _) _) _ _ (Nat.le_refl _) _))
end Go.Proofs.YtbkmglknbflkhaaGreatDoor.C
