import Derived.Laws.StructEq
import Derived.Deep.QuietTactic
import Derived.BigQuiet
import Derived.Deep.DeepCutAuto
import Derived.Test.YtabbahpalemlhaaGreatDoorJ49
namespace Go.Proofs.YtabbahpalemlhaaGreatDoor.Tk
open Go.RowKit
set_option maxRecDepth 20000
theorem eqFlt (c a c' a':Int) (w:World):(Op.equalIn 10000 26 (.agg #[.int .i64 c,.int .i64 a]) (.agg #[.int .i64 c',.int .i64 a'])).run Tryz.prog w=.ok (c == c' && a == a') w:=by
 have u3:=Tryz.underlying3
 have hS:Tryz.prog.underlying 26=some (.struct (Tryz.prog.fieldsOf 26)):=by kernel_rfl
 have hp:Tryz.prog.stoodInHeld 26=false:=by kernel_rfl
 rw [show (10000:Nat)=9999+1 from rfl,run_equalIn_agg w 9999 26 _ _ hS hp]
 simp only [Program.fieldsOf,Tryz.underlying26]
 go_simp
 by_cases h1:c=c' <;> by_cases h2:a=a' <;> simp [h1,h2]
theorem neqFlt (c a:Int) (w:World):(binOp .neq 26 (.agg #[.int .i64 c,.int .i64 a]) (.agg #[.int .i64 c,.int .i64 a])).run Tryz.prog w=.ok (.bool false) w:=by
 rw [run_neq_struct,eqFlt]
 simp
theorem eqTok (k n p:Int) (t:ByteArray) (w:World):(Op.equalIn 10000 30 (.agg #[.int .i64 k,.string t,.int .i64 n,.int .i64 p]) (.agg #[.int .i64 k,.string t,.int .i64 n,.int .i64 p])).run Tryz.prog w=.ok true w:=by
 have u3:=Tryz.underlying3
 have u4:=Tryz.underlying9
 have u5:=Tryz.underlying2
 have hS:Tryz.prog.underlying 30=some (.struct (Tryz.prog.fieldsOf 30)):=by kernel_rfl
 have hp:Tryz.prog.stoodInHeld 30=false:=by kernel_rfl
 rw [show (10000:Nat)=9999+1 from rfl,run_equalIn_agg w 9999 30 _ _ hS hp]
 simp only [Program.fieldsOf,Tryz.underlying30]
 go_simp
theorem neqTok (k n p:Int) (t:ByteArray) (w:World):(binOp .neq 30 (.agg #[.int .i64 k,.string t,.int .i64 n,.int .i64 p]) (.agg #[.int .i64 k,.string t,.int .i64 n,.int .i64 p])).run Tryz.prog w=.ok (.bool false) w:=by
 rw [run_neq_struct,eqTok]
 simp
theorem ext_list (s:ByteArray) (a b:Nat):(s.extract a b).data.toList=(s.data.toList.drop a).take (b - a):=by
 have e:=ByteArray.data_extract (a:=s) (b:=a) (e:=b)
 rw [e,Array.toList_extract,List.extract_eq_take_drop]
theorem piece_scan {s:ByteArray} {ts:List Tok} {c a:Nat} (h:scanR s.data.toList=(ts,c,a)) (hc:c=0) {i E:Nat} (hi:i < ts.length) (h1:i+1 < ts.length→E=(ts.getD (i+1) tok0).place) (h2:¬ i+1 < ts.length→E=s.size) :
  scanR (s.extract (ts.getD i tok0).place E).data.toList=([{ ts.getD i tok0 with place:=0 }],0,0):=by
 obtain ⟨g1,g2,g3,g4,g5,g6,g7,g8⟩:=scan_at h hc i hi
 have hE:E=cnextAt s.data.toList (ts.getD i tok0).place:=by
  by_cases hq:i+1 < ts.length
  ·rw [h1 hq,g5 hq]
  ·rw [h2 hq,g6 hq];simp
 rw [ext_list,hE]
 have:=cpiece_alone g2 g3 g1
 rw [← g4] at this
 exact this
set_option maxHeartbeats 8000000 in
theorem law_tokens (ad:Option Addr) (n cap:Nat) (w:World) (hc:n≤cap) (hcm:cap≤9223372036854775807) (h:n≤1048576→CodeA w ad n) (hnil:ad=none→n=0∧cap=0) (hE:Env w) :
  Calls Tryz.prog 3 #[.slice ad n cap] w fun e w'=>e=.returned (.bool true)∧Below w.heap.size w w':=by
 have hn9:(n:Int)≤9223372036854775807:=by omega
 by_cases hn:n≤1048576
 ·have hni:¬ (1048576:Int) < (n:Int):=by omega
  have HC:=hid (h hn)
  have HNIL:=hid hnil
  have HE:=hid hE
  clear h hnil hE
  go_enter Tryz.func3,Tryz.ntmps3
  go_wp2_with fail
  refine (drawScan_any ad n cap _ hn hc hcm HC.out HNIL.out).mono ?_
  rintro e w1 ⟨⟨s,rfl,hs⟩,hb1⟩
  have HB1:=hid hb1
  have HE1:=hid (HE.out.below hb1)
  clear hb1 HC HNIL HE
  have HIS:=hid (fun W hW=>iScan_all s W (by unfold maxLen;omega) hW)
  have HSS:=hid (fun W=>sScan_all s W (by unfold maxLen;omega))
  obtain ⟨Q,hQ⟩:∃ Q,scanR s.data.toList=Q:=⟨_,rfl⟩
  rw [hQ] at HIS HSS
  obtain ⟨ts,cN,aN⟩:=Q
  dsimp only at HIS HSS
  have HQ:=hid hQ
  have hT:ts.length≤8001:=by
   have:=scanR_len s.data.toList
   rw [hQ] at this
   exact this
  clear hQ
  obtain ⟨ci,hci⟩:∃ i:Int,(cN:Int)=i:=⟨_,rfl⟩
  obtain ⟨ai,hai⟩:∃ i:Int,(aN:Int)=i:=⟨_,rfl⟩
  rw [hci,hai] at HIS HSS
  clear hci hai
  go_wp2_with fail
  refine (HIS.out _ HE1.out).mono ?_
  rintro e w2 ⟨v2,rfl,ho2,hb2⟩
  have HB2:=hid (HB1.out.trans (hb2.mono HB1.out.size))
  have HE2:=hid (HE1.out.below hb2)
  have HO2:=hid ho2
  clear hb2 ho2 HB1 HE1
  have HAL:=hid ((Below.refl w2.heap.size w2).alloc (Nat.le_refl _) (.cells #[.int .i64 ci,.int .i64 ai] 26))
  have HF3:=hid (heap_alloc_new w2 (.cells #[.int .i64 ci,.int .i64 ai] 26))
  go_upto_region 5 with fail
  have ho3:=own_below HO2.out HAL.out
  have hb3:=HB2.out.trans (HAL.out.mono HB2.out.size)
  have he3:=HE2.out.below HAL.out
  obtain ⟨f1,hf1⟩:∃ g,w2.heap.size=g:=⟨_,rfl⟩
  obtain ⟨W3,hW3⟩:∃ W,w2.alloc (.cells #[.int .i64 ci,.int .i64 ai] 26)=W:=⟨_,rfl⟩
  rw [hW3] at HF3 ho3 hb3 he3 ⊢
  rw [hf1] at HF3 ⊢
  have HB3:=hid hb3
  have HE3:=hid he3
  have HO3:=hid ho3
  clear hW3 hf1 HAL HB2 HE2 HO2 hb3 he3 ho3
  go_wp2_with fail
  refine (HSS.out _).mono ?_
  rintro e w4 ⟨v4,rfl,ho4,hb4⟩
  have HB4:=hid (HB3.out.trans (hb4.mono HB3.out.size))
  have HE4:=hid (HE3.out.below hb4)
  have HO4:=hid ho4
  have HO4a:=hid (own_below HO3.out hb4)
  have HF4:=hid (hp_next HF3.out hb4)
  clear hb4 ho4 HB3 HE3 HO3 HF3
  have HAL:=hid ((Below.refl w4.heap.size w4).alloc (Nat.le_refl _) (.cells #[.int .i64 ci,.int .i64 ai] 26))
  have HG5:=hid (heap_alloc_new w4 (.cells #[.int .i64 ci,.int .i64 ai] 26))
  go_upto_region 6 with fail
  have ho5:=own_below HO4.out HAL.out
  have ho5a:=own_below HO4a.out HAL.out
  have hb5:=HB4.out.trans (HAL.out.mono HB4.out.size)
  have he5:=HE4.out.below HAL.out
  have hf5:=hp_next HF4.out HAL.out
  have h0w:0 < (w4.alloc (.cells #[.int .i64 ci,.int .i64 ai] 26)).heap.size:=by simp
  obtain ⟨ta,ba,ca,rfl,hta,hbla,htka⟩:=toks_at h0w ho5a
  obtain ⟨tb,bb,cb,rfl,htb,hblb,htkb⟩:=toks_at h0w ho5
  obtain ⟨f2,hf2⟩:∃ g,w4.heap.size=g:=⟨_,rfl⟩
  obtain ⟨W5,hW5⟩:∃ W,w4.alloc (.cells #[.int .i64 ci,.int .i64 ai] 26)=W:=⟨_,rfl⟩
  rw [hW5] at HG5 hb5 he5 hf5 hbla htka hblb htkb ⊢
  rw [hf2] at HG5 ⊢
  have HB5:=hid hb5
  have HE5:=hid he5
  have HTA:=hid htka
  have HTB:=hid htkb
  have x0:=cell_hp hf5 0
  have x1:=cell_hp hf5 1
  have y0:=cell_hp HG5.out 0
  have y1:=cell_hp HG5.out 1
  simp at x0 x1 y0 y1
  have HAA:=hid hta
  have HAB:=hid htb
  obtain ⟨T,hTe⟩:∃ T,ts.length=T:=⟨_,rfl⟩
  rw [hTe] at HTA HTB HAA HAB hT ⊢
  have HTe:=hid hTe
  have hq:=fun W=>neqFlt ci ai W
  clear hW5 hf2 htka htkb hb5 he5 HAL HB4 HE4 HO4 HO4a ho5 ho5a hta htb h0w hTe HF4
  have hTT:((T:Int) != (T:Int))=false:=by simp
  go_wp2
  go_loopw [8] (fun a wr=>∃ q:Nat,a=.int .i64 q∧q≤T∧Below W5.heap.size W5 wr) (fun a _=>T - (intOf a).toNat)
  case atStart=>exact ⟨0,rfl,Nat.zero_le _,Below.refl _ _⟩
  case round =>
   obtain ⟨q,rfl,hqT,hbr⟩:=hrel
   have HBR:=hid hbr
   clear hbr
   by_cases hlt:q < T
   ·have hcz:cN=0:=Decidable.byContradiction fun hne=>by
     have h0:=scan_none HQ.out hne
     have h1:=HTe.out
     rw [h0] at h1
     simp at h1
     omega
    obtain rfl:ta=some ⟨ba,0,none⟩:=HAA.out.resolve_left (by omega)
    obtain rfl:tb=some ⟨bb,0,none⟩:=HAB.out.resolve_left (by omega)
    have HTK1:Hid (∀ V,Below W5.heap.size W5 V→TksAt V ba T (tkOf ts)):=fun V hV=>HTA.out.keep (hV.block ba hbla)
    have HTK2:Hid (∀ V,Below W5.heap.size W5 V→TksAt V bb T (tkOf ts)):=fun V hV=>HTB.out.keep (hV.block bb hblb)
    obtain ⟨K,hK⟩:∃ K,(tkOf ts q).kind=K:=⟨_,rfl⟩
    obtain ⟨X,hX⟩:∃ X,(tkOf ts q).text=X:=⟨_,rfl⟩
    obtain ⟨M,hM⟩:∃ M,(tkOf ts q).n=M:=⟨_,rfl⟩
    obtain ⟨P,hP⟩:∃ P,(ts.getD q tok0).place=P:=⟨_,rfl⟩
    have hPi:(tkOf ts q).place=(P:Int):=by rw [← hP];rfl
    obtain ⟨g1,g2,g3,g4,g5,g6,g7,g8⟩:=scan_at HQ.out hcz q (by rw [HTe.out];exact hlt)
    rw [hP] at g2 g7 g8
    have hsz:s.data.toList.length=s.size:=by simp
    rw [hsz] at g1 g2 g8
    have HC1:Hid (∀ V,Below W5.heap.size W5 V→V.cell? ⟨ba,q * 4,none⟩=some (.int .i64 K)∧V.cell? ⟨ba,q * 4+1,none⟩=some (.string X)∧V.cell? ⟨ba,q * 4+2,none⟩=some (.int .i64 M)∧V.cell? ⟨ba,q * 4+3,none⟩=some (.int .i64 (P:Int))):=fun V hV=>by
     have:=HTK1.out V hV q hlt
     rwa [hK,hX,hM,hPi] at this
    have HC2:Hid (∀ V,Below W5.heap.size W5 V→V.cell? ⟨bb,q * 4,none⟩=some (.int .i64 K)∧V.cell? ⟨bb,q * 4+1,none⟩=some (.string X)∧V.cell? ⟨bb,q * 4+2,none⟩=some (.int .i64 M)∧V.cell? ⟨bb,q * 4+3,none⟩=some (.int .i64 (P:Int))):=fun V hV=>by
     have:=HTK2.out V hV q hlt
     rwa [hK,hX,hM,hPi] at this
    have HKX:Hid ((ts.getD q tok0).kind=K∧(⟨(ts.getD q tok0).text.toArray⟩:ByteArray)=X∧(ts.getD q tok0).n=M):=⟨hK,hX,hM⟩
    have HPP:=hid hP
    have HG:=hid (And.intro g5 g6)
    clear hK hX hM hP hPi g3 g4 g5 g6
    obtain ⟨c0,c1,c2,c3⟩:=HC1.out _ HBR.out
    obtain ⟨d0,d1,d2,d3⟩:=HC2.out _ HBR.out
    have hnt:=fun W=>neqTok K M (P:Int) X W
    go_upto_region 11 with fail
    go_cut [69] (fun c wx=>c=.bool false∧Below W5.heap.size W5 wx)
    case first =>
     by_cases hq0:q=0
     ·subst hq0
      go_quiet (fail)
      go_wp2_with fail
      go_meet
      case rel=>exact ⟨rfl,below_drewN HBR.out _⟩
     ·obtain ⟨z,hz⟩:∃ z,q=z+1:=⟨q - 1,by omega⟩
      obtain ⟨_,_,_,_,e5,_,e7,_⟩:=scan_at HQ.out hcz z (by rw [HTe.out];omega)
      obtain ⟨Z,hZ⟩:∃ Z,(ts.getD z tok0).place=Z:=⟨_,rfl⟩
      have hZP:Z < P:=by
       have h9:=e5 (by rw [HTe.out];omega)
       rw [← hz,HPP.out,hZ] at h9
       rw [hZ] at e7
       omega
      obtain ⟨_,_,_,z3⟩:=HTK1.out _ HBR.out z (by omega)
      have hzi:(tkOf ts z).place=(Z:Int):=by rw [← hZ];rfl
      rw [hzi] at z3
      have hqp:(0:Int) < (q:Int):=by omega
      have hqn:0 < q:=by omega
      have hwz:IntKind.i64.wrap ((q:Int) - 1)=(z:Int):=by rw [IntKind.wrap_i64];omega
      have hzT:(z:Int) < (T:Int):=by omega
      have hzT2:z < T:=by omega
      have hgt:¬ (P:Int)≤(Z:Int):=by omega
      have hgt2:¬ P≤Z:=by omega
      have hdec:decide ((P:Int)≤(Z:Int))=false:=by simp;omega
      have HZ1:=hid hz
      clear hz hzi hZ e5 e7
      go_quiet (fail)
      go_wp2_with fail
      go_meet
      case rel=>exact ⟨rfl,below_drewN HBR.out _⟩
    case rest =>
     obtain ⟨rfl,hb6⟩:=hcut
     have HB6:=hid hb6
     clear hb6 c0 c1 c2 c3 d0 d1 d2 d3
     obtain ⟨W6,hW6⟩:∃ W,wc=W:=⟨_,rfl⟩
     rw [hW6] at HB6 ⊢
     clear hW6
     obtain ⟨_,_,_,d3⟩:=HC2.out _ HB6.out
     have hwr:IntKind.i64.wrap ((q:Int)+1)=(q:Int)+1:=by rw [IntKind.wrap_i64];omega
     go_upto_if 76 with fail
     go_cut [9] (fun v wx=>∃ E:Nat,v=.int .i64 E∧P≤E∧E≤s.size∧scanR (s.extract P E).data.toList=([{ ts.getD q tok0 with place:=0 }],0,0)∧wx=W6)
     case first =>
      by_cases h1:q+1 < T
      ·have h1i:(q:Int)+1 < (T:Int):=by omega
       obtain ⟨_,_,_,k4⟩:=HTK2.out _ HB6.out (q+1) h1
       obtain ⟨E,hE⟩:∃ E,(ts.getD (q+1) tok0).place=E:=⟨_,rfl⟩
       have hEi:(tkOf ts (q+1)).place=(E:Int):=by rw [← hE];rfl
       rw [hEi] at k4
       have HPS:=hid (piece_scan HQ.out hcz (i:=q) (E:=E) (by rw [HTe.out];exact hlt) (fun _=>hE.symm) (fun h9=>absurd (by rw [HTe.out];exact h1) h9))
       rw [HPP.out] at HPS
       have h5:=HG.out.1 (by rw [HTe.out];exact h1)
       rw [HPP.out,hE] at h5
       rw [← h5] at g7 g8
       clear hE hEi h5
       go_wp2_with fail
       go_meet
       case rel=>exact ⟨E,rfl,by omega,by omega,HPS.out,rfl⟩
      ·have h1i:¬ (q:Int)+1 < (T:Int):=by omega
       have HPS:=hid (piece_scan HQ.out hcz (i:=q) (E:=s.size) (by rw [HTe.out];exact hlt) (fun h9=>absurd (by rw [← HTe.out];exact h9) h1) (fun _=>rfl))
       rw [HPP.out] at HPS
       go_wp2_with fail
       go_meet
       case rel=>exact ⟨s.size,rfl,by omega,Nat.le_refl _,HPS.out,rfl⟩
     case rest =>
      obtain ⟨E,rfl,hPE,hEs,hps,hwc⟩:=hcut
      have hwc2:=hwc
      subst hwc2
      have hPE1:(P:Int)≤(E:Int):=by omega
      have hPE2:(E:Int)≤(s.size:Int):=by omega
      have hP0:(0:Int)≤(P:Int):=by omega
      have hms:=cut_size s P E
      have HI7:=hid (fun W hW=>iScan_all (s.extract P E) W (by unfold maxLen;omega) hW)
      rw [hps] at HI7
      dsimp only at HI7
      have HE7:=hid (HE5.out.below HB6.out)
      obtain ⟨tk1,htk1⟩:∃ t:Tok,({ ts.getD q tok0 with place:=0 }:Tok)=t:=⟨_,rfl⟩
      rw [htk1] at HI7
      have HK1:Hid (tk1.kind=K∧(⟨tk1.text.toArray⟩:ByteArray)=X∧tk1.n=M∧tk1.place=0):=by rw [← htk1];exact ⟨HKX.out.1,HKX.out.2.1,HKX.out.2.2,rfl⟩
      have z0:((0:Nat):Int)=0:=rfl
      rw [z0] at HI7
      clear hps htk1 z0
      have HB7:=hid (HB5.out.trans (HB6.out.mono HB5.out.size))
      go_wp2_with fail
      refine (HI7.out _ HE7.out).mono ?_
      rintro e w8 ⟨v8,rfl,ho8,hb8⟩
      have HB8:=hid (HB6.out.trans (hb8.mono HB6.out.size))
      have HO8:=hid ho8
      clear hb8 ho8 HI7
      have HAL:=hid ((Below.refl w8.heap.size w8).alloc (Nat.le_refl _) (.cells #[.int .i64 0,.int .i64 0] 26))
      have HG9:=hid (heap_alloc_new w8 (.cells #[.int .i64 0,.int .i64 0] 26))
      go_upto_region 17 with fail
      have ho9:=own_below HO8.out HAL.out
      have hb9:=HB8.out.trans (HAL.out.mono HB8.out.size)
      have h0w:0 < (w8.alloc (.cells #[.int .i64 0,.int .i64 0] 26)).heap.size:=by simp
      obtain ⟨tc,bc,cc,rfl,htc,hblc,htkc⟩:=toks_at h0w ho9
      have hl1:[tk1].length=1:=rfl
      rw [hl1] at htc htkc ⊢
      obtain rfl:tc=some ⟨bc,0,none⟩:=htc.resolve_left (by omega)
      obtain ⟨f3,hf3⟩:∃ g,w8.heap.size=g:=⟨_,rfl⟩
      obtain ⟨W9,hW9⟩:∃ W,w8.alloc (.cells #[.int .i64 0,.int .i64 0] 26)=W:=⟨_,rfl⟩
      rw [hW9] at HG9 hb9 htkc ⊢
      rw [hf3] at HG9 ⊢
      have HB9:=hid hb9
      obtain ⟨o0,o1,o2,o3⟩:=htkc 0 (by omega)
      have q0:(tkOf [tk1] 0).kind=K:=HK1.out.1
      have q1:(tkOf [tk1] 0).text=X:=HK1.out.2.1
      have q2:(tkOf [tk1] 0).n=M:=HK1.out.2.2.1
      have q3:(tkOf [tk1] 0).place=0:=by show ((tk1.place:Nat):Int)=0;rw [HK1.out.2.2.2];rfl
      rw [q0] at o0
      rw [q1] at o1
      rw [q2] at o2
      rw [q3] at o3
      rw [Nat.zero_mul] at o0 o1 o2 o3
      rw [Nat.zero_add] at o1 o2 o3
      have p0:=cell_hp HG9.out 0
      have p1:=cell_hp HG9.out 1
      simp at p0 p1
      obtain ⟨d0,d1,d2,d3⟩:=HC2.out _ HB9.out
      have hqz:=fun W=>neqFlt 0 0 W
      have hKK:(K != K)=false:=by simp
      have hMM:(M != M)=false:=by simp
      have hXX:(X.toList != X.toList)=false:=by simp
      have hlq:(q:Int) < (T:Int):=by omega
      clear hb9 htkc hW9 hf3 q0 q1 q2 q3 HAL HO8 HB8 ho9 h0w hl1 htc
      go_cut [145] (fun c wx=>c=.bool false∧Below W5.heap.size W5 wx)
      case first =>
       go_quiet (fail)
       go_wp2_with fail
       go_meet
       case rel=>exact ⟨rfl,below_drewN HB9.out _⟩
      case rest =>
       obtain ⟨rfl,hb10⟩:=hcut
       have HB10:=hid hb10
       clear hb10
       go_wp2
       go_roundw
       case rel=>exact ⟨q+1,by go_num,by omega,HB10.out⟩
       case measure=>simp [intOf];omega
   ·obtain rfl:q=T:=by omega
    have HBE:=hid (HB5.out.trans (HBR.out.mono HB5.out.size))
    go_wp2
    go_ret
    exact ⟨rfl,HBE.out⟩
 ·have hni:(1048576:Int) < (n:Int):=by omega
  clear h hnil hE
  go_enter Tryz.func3,Tryz.ntmps3
  go_wp2
  go_ret
  exact ⟨rfl,Below.refl _ _⟩
end Go.Proofs.YtabbahpalemlhaaGreatDoor.Tk
