import Derived.Test.YtbkmglknbflkhaaGreatDoorJ32
namespace Go.Proofs.YtbkmglknbflkhaaGreatDoor.C
open Go.RowKit
set_option maxRecDepth 20000
structure CodeS (fns:List Fn):Prop where
 names:∀ j,j < fns.length→(fns.getD j fn0).name.size≤maxLen
 nums:∀ j,j < fns.length→∀ p,p < (fns.getD j fn0).ins.length→-9223372036854775808≤((fns.getD j fn0).ins.getD p in0).n∧((fns.getD j fn0).ins.getD p in0).n≤9223372036854775807
def PlainEnd (fns:List Fn) (w:World) (e:Ending) (w':World):Prop:=∃ c k i:Nat,e=.returned (.tuple #[.int .i64 c,.int .i64 k,.int .i64 i])∧Plain fns c k i∧Below w.heap.size w w'
structure PX (w:World) (cv:Value) (W:World):Prop where
 lo:Below w.heap.size w W
 e0:W.heap[w.heap.size]?=some (.cells #[cv] 59)
theorem PX.next {w:World} {cv:Value} {W V:World} (h:PX w cv W) (hb:Below W.heap.size W V):PX w cv V:=⟨h.lo.trans (hb.mono h.lo.size),hp_next h.e0 hb⟩
theorem PX.start (w:World) (cv:Value):PX w cv (w.alloc (.cells #[cv] 59)):=⟨(Below.refl _ _).alloc (Nat.le_refl _) _,heap_alloc_new _ _⟩
set_option maxHeartbeats 8000000 in
theorem plain_any {fns:List Fn} {w:World} {cv:Value} (h1:FnsRow w cv fns) (hC:CodeS fns) :
  Calls Tryz.prog 80 #[.agg #[cv]] w (PlainEnd fns w):=by
 have H1:=hid h1
 have HC:=hid hC
 obtain ⟨aF,cF,hcv⟩:=h1.sl
 subst hcv
 have hfl:fns.length≤9223372036854775807:=by
  obtain ⟨_,c,e,h2,h3,_⟩:=h1
  unfold maxLen at h3
  omega
 clear h1 hC
 go_enter Tryz.func80,Tryz.ntmps80
 go_upto_region 1 with fail
 have HX:=hid (PX.start w (.slice aF fns.length cF))
 obtain ⟨W1,hW1⟩:∃ W,w.alloc (.cells #[.slice aF fns.length cF] 59)=W:=⟨_,rfl⟩
 rw [hW1] at HX ⊢
 clear hW1
 have k0:=cx HX.out.e0
 cases hb:inB fns.length 1 60 with
 | false =>
  have HPL:Hid (Plain fns 1 0 0):=hid (.many fun h=>by have:=inB_iff.2 (show (1:Int)≤(fns.length:Int)∧(fns.length:Int)≤60 by omega);rw [hb] at this;cases this)
  go_wp2_with (go_at_call 22;refine (l16In_any _ _ _ _).mono ?_;rintro e w' ⟨rfl,hw⟩;have hw2:=hw.symm;clear hw;subst hw2)
  go_ret3
  exact ⟨1,0,0,rfl,HPL.out,HX.out.lo⟩
 | true =>
  have HLEN:Hid (1≤fns.length∧fns.length≤60):=hid (by have:=inB_iff.1 hb;omega)
  have h60:=HLEN.out.2
  go_wp2_with (go_at_call 22;refine (l16In_any _ _ _ _).mono ?_;rintro e w' ⟨rfl,hw⟩;have hw2:=hw.symm;clear hw;subst hw2)
  clear hb k0
  go_loopw [5] (fun i wr=>∃ j:Nat,j≤fns.length∧i=.int .i64 j∧PX w (.slice aF fns.length cF) wr∧∀ p,p < j→FnOk fns p) (fun i _=>fns.length - (intOf i).toNat)
  case atStart=>exact ⟨0,Nat.zero_le _,rfl,HX.out,fun p hp=>absurd hp (Nat.not_lt_zero _)⟩
  case round =>
   obtain ⟨j,hj,rfl,hx,hall⟩:=hrel
   have HX2:=hid hx
   have HALL:=hid hall
   have k0:=cx hx.e0
   clear hx hall HX
   by_cases hlt:j < fns.length
   ·have hlti:(j:Int) < (fns.length:Int):=by omega
    by_cases hok:FnOk fns j
    ·have HOK:=hid hok
     clear hok
     go_wp2_with (go_at_call 106;refine (fnOk_any (H1.out.next HX2.out.lo) hlt h60 HC.out.names).mono ?_;rintro e w5 ⟨⟨b5,rfl,hb5⟩,hlo5⟩;obtain rfl:b5=true:=hb5.2 HOK.out;have HX5:=hid (HX2.out.next hlo5);clear hb5 hlo5)
     go_roundw
     case rel =>
      refine ⟨j+1,by omega,by go_num,HX5.out,fun p hp=>?_⟩
      by_cases e:p=j
      ·subst e;exact HOK.out
      ·exact HALL.out p (by omega)
     case measure=>simp [intOf];omega
    ·have HOK:=hid hok
     clear hok
     go_wp2_with (go_at_call 106;refine (fnOk_any (H1.out.next HX2.out.lo) hlt h60 HC.out.names).mono ?_;rintro e w5 ⟨⟨b5,rfl,hb5⟩,hlo5⟩;obtain rfl:b5=false:=(Bool.eq_false_iff.2 fun h=>HOK.out (hb5.1 h));have HX5:=hid (HX2.out.next hlo5);clear hb5 hlo5)
     go_ret3
     exact ⟨2,j,0,rfl,.fn HLEN.out j hlt HALL.out HOK.out,HX5.out.lo⟩
   ·obtain rfl:j=fns.length:=by omega
    have hge:¬ ((fns.length:Int) < (fns.length:Int)):=by omega
    go_wp2_with fail
    go_loopw [6] (fun i wr=>∃ j:Nat,j≤fns.length∧i=.int .i64 j∧PX w (.slice aF fns.length cF) wr∧∀ q,q < j→∀ p,p < (fns.getD q fn0).ins.length→insB fns (fns.getD q fn0) ((fns.getD q fn0).ins.getD p in0)=true) (fun i _=>fns.length - (intOf i).toNat)
    case atStart=>exact ⟨0,Nat.zero_le _,rfl,HX2.out,fun p hp=>absurd hp (Nat.not_lt_zero _)⟩
    case round =>
     obtain ⟨j,hj,rfl,hx,hins⟩:=hrel
     have HX3:=hid hx
     have HINS:=hid hins
     clear hx hins HX2 k0
     have k0:=cx HX3.out.e0
     by_cases hlt:j < fns.length
     ·have hlti:(j:Int) < (fns.length:Int):=by omega
      have hFO:=HALL.out j hlt
      obtain ⟨gF,cF2,e9,hgF,pv,iv,n0,n1,n2,n3,n4,hpv,hiv⟩:=H1.out.at hlt
      injection e9 with ea en ec
      clear en
      subst ea ec
      have HNU:=hid (HC.out.nums j hlt)
      have hsl9:=hFO.slots
      have hin9:=hFO.some_
      obtain ⟨f,hf⟩:∃ f,fns.getD j fn0=f:=⟨_,rfl⟩
      rw [hf] at n0 n2 n3 hpv hiv HNU hsl9 hin9
      have HFE:=hid hf
      have HSL:Hid (0≤f.slots∧f.slots≤200):=hid (by omega)
      have HP:=hid hpv
      have HI:=hid hiv
      obtain ⟨aP,cP,rfl⟩:=hpv.sl
      obtain ⟨gI,cI,rfl,hgI,hcI⟩:=hiv.at (show 0 < f.ins.length by omega)
      have HCI:=hid hcI
      have HN5:=hid (And.intro n0 (And.intro n1 (And.intro n2 (And.intro n3 n4))))
      clear hf hpv hiv hcI n0 n1 n2 n3 n4 hFO hsl9
      obtain ⟨hi1,hi2⟩:=hin9
      go_wp2_with fail
      go_loopw [7] (fun i wr=>∃ z:Nat,z≤f.ins.length∧i=.int .i64 z∧PX w (.slice (some ⟨gF,0,none⟩) fns.length cF) wr∧∀ p,p < z→insB fns f (f.ins.getD p in0)=true) (fun i _=>f.ins.length - (intOf i).toNat)
      case atStart=>exact ⟨0,Nat.zero_le _,rfl,HX3.out,fun p hp=>absurd hp (Nat.not_lt_zero _)⟩
      case round =>
       obtain ⟨z,hz,rfl,hx,hsofar⟩:=hrel
       have HX4:=hid hx
       have HSF:=hid hsofar
       clear hx hsofar k0
       have k0:=cx HX4.out.e0
       have HCE:Hid (∀ V,Below wr.heap.size wr V→V.cell? ⟨w.heap.size,0,none⟩=some (.slice (some ⟨gF,0,none⟩) fns.length cF)∧V.cell? ⟨gF,j * 5,none⟩=some (.string f.name)∧V.cell? ⟨gF,j * 5+1,none⟩=some (.slice aP f.params.length cP)∧V.cell? ⟨gF,j * 5+2,none⟩=some (.int .i64 f.result)∧V.cell? ⟨gF,j * 5+3,none⟩=some (.int .i64 f.slots)∧V.cell? ⟨gF,j * 5+4,none⟩=some (.slice (some ⟨gI,0,none⟩) f.ins.length cI)):=hid fun V hV=>by
        have hb:=(HX4.out.next hV).lo
        obtain ⟨n0,n1,n2,n3,n4⟩:=HN5.out
        exact ⟨cx (HX4.out.next hV).e0,(hb.cell (p:=⟨gF,_,none⟩) hgF).trans n0,(hb.cell (p:=⟨gF,_,none⟩) hgF).trans n1,(hb.cell (p:=⟨gF,_,none⟩) hgF).trans n2,(hb.cell (p:=⟨gF,_,none⟩) hgF).trans n3,(hb.cell (p:=⟨gF,_,none⟩) hgF).trans n4⟩
       obtain ⟨_,n0,n1,n2,n3,n4⟩:=HCE.out wr (Below.refl _ _)
       by_cases hzt:z < f.ins.length
       ·have hzi:(z:Int) < (f.ins.length:Int):=by omega
        have HID:Hid (∀ V,Below wr.heap.size wr V→V.cell? ⟨gI,z * 4,none⟩=some (.int .i64 (f.ins.getD z in0).op)∧V.cell? ⟨gI,z * 4+1,none⟩=some (.int .i64 (f.ins.getD z in0).a)∧V.cell? ⟨gI,z * 4+2,none⟩=some (.int .i64 (f.ins.getD z in0).n)∧V.cell? ⟨gI,z * 4+3,none⟩=some (.string (f.ins.getD z in0).text)):=hid fun V hV=>by
         have hb:=(HX4.out.next hV).lo
         obtain ⟨d0,d1,d2,d3⟩:=HCI.out z hzt
         exact ⟨(hb.cell (p:=⟨gI,_,none⟩) hgI).trans d0,(hb.cell (p:=⟨gI,_,none⟩) hgI).trans d1,(hb.cell (p:=⟨gI,_,none⟩) hgI).trans d2,(hb.cell (p:=⟨gI,_,none⟩) hgI).trans d3⟩
        have HNZ:=hid (HNU.out z hzt)
        obtain ⟨i,hi⟩:∃ i,f.ins.getD z in0=i:=⟨_,rfl⟩
        rw [hi] at HID HNZ
        have HIE:=hid hi
        clear hi
        have HCALL:Hid (∀ V,Below wr.heap.size wr V→Calls Tryz.prog 107 #[.agg #[.slice (some ⟨gF,0,none⟩) fns.length cF],.agg #[.string f.name,.slice aP f.params.length cP,.int .i64 f.result,.int .i64 f.slots,.slice (some ⟨gI,0,none⟩) f.ins.length cI],.agg #[.int .i64 i.op,.int .i64 i.a,.int .i64 i.n,.string i.text]] V fun e w'=>e=.returned (.bool (insB fns f i))∧Below V.heap.size V w'):=hid fun V hV=>insOk_any (H1.out.next (HX4.out.next hV).lo) (HP.out.next (HX4.out.next hV).lo) (HI.out.next (HX4.out.next hV).lo) HSL.out h60 HNZ.out
        obtain ⟨d0,d1,d2,d3⟩:=HID.out wr (Below.refl _ _)
        cases hv:insB fns f i with
        | false =>
         rw [hv] at HCALL
         have HV:=hid hv
         clear hv
         go_wp2_with fail
         go_region_held3 (fun V=>(V.cell? ⟨w.heap.size,0,none⟩=some (.slice (some ⟨gF,0,none⟩) fns.length cF)∧V.cell? ⟨gF,j * 5,none⟩=some (.string f.name)∧V.cell? ⟨gF,j * 5+1,none⟩=some (.slice aP f.params.length cP)∧V.cell? ⟨gF,j * 5+2,none⟩=some (.int .i64 f.result)∧V.cell? ⟨gF,j * 5+3,none⟩=some (.int .i64 f.slots)∧V.cell? ⟨gF,j * 5+4,none⟩=some (.slice (some ⟨gI,0,none⟩) f.ins.length cI))∧(V.cell? ⟨gI,z * 4,none⟩=some (.int .i64 i.op)∧V.cell? ⟨gI,z * 4+1,none⟩=some (.int .i64 i.a)∧V.cell? ⟨gI,z * 4+2,none⟩=some (.int .i64 i.n)∧V.cell? ⟨gI,z * 4+3,none⟩=some (.string i.text))) (first | (exact ⟨HCE.out _ (Below.refl _ _).drew,HID.out _ (Below.refl _ _).drew⟩) | (exact ⟨HCE.out _ HB9.out,HID.out _ HB9.out⟩) | go_keep) (first
          | (go_at_call 107;refine (HCALL.out _ (Below.refl _ _).drew).mono ?_;rintro e w9 ⟨rfl,hb9⟩;have HB9:=hid ((Below.refl wr.heap.size wr).drew.trans hb9);clear hb9) | fail)
         go_wp2_with fail
         go_ret3
         exact ⟨3,j,z,rfl,.ins HLEN.out HALL.out j z hlt (by rw [HFE.out];exact hzt) HINS.out (by rw [HFE.out];exact HSF.out) (by rw [HFE.out,HIE.out];exact HV.out),(HX4.out.next HB9.out).lo⟩
        | true =>
         rw [hv] at HCALL
         have HV:=hid hv
         clear hv
         go_wp2_with fail
         go_region_held3 (fun V=>(V.cell? ⟨w.heap.size,0,none⟩=some (.slice (some ⟨gF,0,none⟩) fns.length cF)∧V.cell? ⟨gF,j * 5,none⟩=some (.string f.name)∧V.cell? ⟨gF,j * 5+1,none⟩=some (.slice aP f.params.length cP)∧V.cell? ⟨gF,j * 5+2,none⟩=some (.int .i64 f.result)∧V.cell? ⟨gF,j * 5+3,none⟩=some (.int .i64 f.slots)∧V.cell? ⟨gF,j * 5+4,none⟩=some (.slice (some ⟨gI,0,none⟩) f.ins.length cI))∧(V.cell? ⟨gI,z * 4,none⟩=some (.int .i64 i.op)∧V.cell? ⟨gI,z * 4+1,none⟩=some (.int .i64 i.a)∧V.cell? ⟨gI,z * 4+2,none⟩=some (.int .i64 i.n)∧V.cell? ⟨gI,z * 4+3,none⟩=some (.string i.text))) (first | (exact ⟨HCE.out _ (Below.refl _ _).drew,HID.out _ (Below.refl _ _).drew⟩) | (exact ⟨HCE.out _ HB9.out,HID.out _ HB9.out⟩) | go_keep) (first
          | (go_at_call 107;refine (HCALL.out _ (Below.refl _ _).drew).mono ?_;rintro e w9 ⟨rfl,hb9⟩;have HB9:=hid ((Below.refl wr.heap.size wr).drew.trans hb9);clear hb9) | fail)
         go_wp2_with fail
         go_roundw
         case rel =>
          refine ⟨z+1,by omega,by go_num,HX4.out.next HB9.out,fun p hp=>?_⟩
          by_cases e:p=z
          ·subst e;rw [HIE.out];exact HV.out
          ·exact HSF.out p (by omega)
         case measure=>simp [intOf];omega
       ·obtain rfl:z=f.ins.length:=by omega
        have hge:¬ ((f.ins.length:Int) < (f.ins.length:Int)):=by omega
        go_wp2_with fail
        go_roundw
        case rel =>
         refine ⟨j+1,by omega,by go_num,HX4.out,fun q hq=>?_⟩
         by_cases e:q=j
         ·subst e;rw [HFE.out];exact HSF.out
         ·exact HINS.out q (by omega)
        case measure=>simp [intOf];omega
     ·obtain rfl:j=fns.length:=by omega
      go_wp2_with (go_at_call 55;refine (main_any (H1.out.next HX3.out.lo) h60).mono ?_;rintro e w9 ⟨r,rfl,hcase,hb9⟩;have HB9:=hid ((HX3.out.next hb9).lo);have HCASE:=hid hcase;clear hb9 hcase;rcases HCASE.out with ⟨hr,hno⟩ | ⟨jm,hjm,hr,hyes⟩)
      ·go_ret3
       exact ⟨4,0,0,rfl,.main HLEN.out HALL.out HINS.out hno,HB9.out⟩
      ·go_ret3
       exact ⟨0,0,0,rfl,.ok HLEN.out HALL.out HINS.out jm hjm hyes,HB9.out⟩
def ComeEnd (fns:List Fn) (f:Fn) (w:World) (b gL:Nat) (cv pv iv:Value) (A:Nat→Sh) (wk:List Nat) (wv:Value) (W:World) (p:Nat) (s:Sh) (e:Ending) (w':World):Prop:=e=.returned (.tuple #[])∧CK b gL wv.ownBlock W w'∧∃ wv',OwnLater W wv wv'∧((join (A p) s=A p∧SP fns f w b gL cv pv iv A wk wv' w')∨(¬ join (A p) s=A p∧SP fns f w b gL cv pv iv (upd A p (join (A p) s)) (ins1 wk p) wv' w'))
set_option maxHeartbeats 8000000 in
theorem come_any {fns:List Fn} {f:Fn} {w:World} {b gL:Nat} {cv pv iv:Value} {A:Nat→Sh} {wk:List Nat} {wv:Value} {W:World} (hP:SP fns f w b gL cv pv iv A wk wv W) {p:Nat} (hp:p < f.ins.length) (hIL:f.ins.length≤50000) {s:Sh} (ha:OkSh f.S (A p)) (hs:OkSh f.S s) (h0:¬ s.st=0) (hS:f.S≤200) (hd:wk.Pairwise (· > ·)) (hw:∀ q ∈ wk,q < f.ins.length) (hwl:wk.length≤50000) :
  Calls Tryz.prog 143 #[.pointer (some ⟨b,0,none⟩),.int .i64 p,lv s] W (ComeEnd fns f w b gL cv pv iv A wk wv W p s):=by
 have hpi:(p:Int) < (f.ins.length:Int):=by omega
 have HLO:Hid (Below W.heap.size W (W.alloc (lbox (s.st:Nat) (kt s.sl) (kt s.sk)))):=hid ((Below.refl _ _).alloc (Nat.le_refl _) _)
 have HP:=hid (hP.next HLO.out)
 have HK0:Hid (CK b gL wv.ownBlock W (W.alloc (lbox (s.st:Nat) (kt s.sl) (kt s.sk)))):=hid (.of_below HLO.out)
 have E5:Hid ((W.alloc (lbox (s.st:Nat) (kt s.sl) (kt s.sk))).heap[W.heap.size]?=some (lbox (s.st:Nat) (kt s.sl) (kt s.sk))):=hid (heap_alloc_new _ _)
 have HJ:Hid (∀ V,Calls Tryz.prog 162 #[.agg #[.int .i64 ((A p).st:Nat),.string (kt (A p).sl),.string (kt (A p).sk)],.agg #[.int .i64 (s.st:Nat),.string (kt s.sl),.string (kt s.sk)]] V (JdEnd (A p) s V)):=hid fun V=>joined_any ha hs h0 hS V
 have HJO:=hid (join_ok ha hs h0)
 have HEQ:=hid (eqLB_sh HJO.out ha)
 obtain ⟨J,hJ⟩:∃ J,join (A p) s=J:=⟨_,rfl⟩
 unfold JdEnd ComeEnd at *
 rw [hJ] at HJ HJO HEQ ⊢
 obtain ⟨a,hA⟩:∃ a,A p=a:=⟨_,rfl⟩
 have HAE:=hid hA
 have HDD:=hid hd
 have HWK:=hid hw
 unfold lv at *
 rw [hA] at HJ HEQ ⊢
 clear hP ha hs h0 hd hw hJ
 go_enter Tryz.func143,Tryz.ntmps143
 go_upto_region 1 with fail
 obtain ⟨W1,hW1⟩:∃ W',W.alloc (lbox (s.st:Nat) (kt s.sl) (kt s.sk))=W':=⟨_,rfl⟩
 obtain ⟨b5,hb5⟩:∃ b5,W.heap.size=b5:=⟨_,rfl⟩
 rw [hW1] at HLO HP E5 HK0
 rw [hb5] at E5
 unfold lbox at hW1
 rw [hW1,hb5]
 clear hW1
 have HS1:Hid (∀ V,Below W1.heap.size W1 V→V.cell? ⟨b,6,none⟩=some (.slice (some ⟨gL,0,none⟩) f.ins.length f.ins.length)∧V.cell? ⟨gL,p * 3,none⟩=some (.int .i64 (a.st:Nat))∧V.cell? ⟨gL,p * 3+1,none⟩=some (.string (kt a.sl))∧V.cell? ⟨gL,p * 3+2,none⟩=some (.string (kt a.sk))∧V.cell? ⟨b5,0,none⟩=some (.int .i64 (s.st:Nat))∧V.cell? ⟨b5,1,none⟩=some (.string (kt s.sl))∧V.cell? ⟨b5,2,none⟩=some (.string (kt s.sk))):=hid fun V hV=>by
  obtain ⟨u0,u1,u2,_,_,_⟩:=(HP.out.next hV).ly.at hp
  rw [HAE.out] at u0 u1 u2
  obtain ⟨x0,x1,x2,_,_,_⟩:=six_l (hp_next E5.out hV)
  exact ⟨(cell_hp (HP.out.next hV).e 6).trans rfl,u0,u1,u2,x0,x1,x2⟩
 go_cut [6] (fun u wx=>∃ b6:Nat,u=.pointer (some ⟨b6,0,none⟩)∧wx.heap[b6]?=some (lbox (J.st:Nat) (kt J.sl) (kt J.sk))∧SP fns f w b gL cv pv iv A wk wv wx∧¬ b6=gL∧Below W1.heap.size W1 wx)
 case first =>
  have hgl:=HP.out.ly.lt
  go_region_held3 (fun V=>V.cell? ⟨b,6,none⟩=some (.slice (some ⟨gL,0,none⟩) f.ins.length f.ins.length)∧V.cell? ⟨gL,p * 3,none⟩=some (.int .i64 (a.st:Nat))∧V.cell? ⟨gL,p * 3+1,none⟩=some (.string (kt a.sl))∧V.cell? ⟨gL,p * 3+2,none⟩=some (.string (kt a.sk))∧V.cell? ⟨b5,0,none⟩=some (.int .i64 (s.st:Nat))∧V.cell? ⟨b5,1,none⟩=some (.string (kt s.sl))∧V.cell? ⟨b5,2,none⟩=some (.string (kt s.sk))) (first | (exact HS1.out _ (Below.refl _ _).drew) | (exact HS1.out _ ((Below.refl _ _).alloc (Nat.le_refl _) _)) | (exact HS1.out _ ((Below.refl _ _).alloc (Nat.le_refl _) _).drew) | (exact HS1.out _ HB9.out) | (exact HS1.out _ (HB9.out.alloc HB9.out.size _)) | (exact HS1.out _ (set_lo (set_lo (set_lo HB9.out _ _ (Nat.le_refl _) _) _ _ (Nat.le_refl _) _) _ _ (Nat.le_refl _) _)) | go_keep) (first
   | (go_at_call 162;refine (HJ.out _).mono ?_;rintro e w9 ⟨rfl,hb9⟩;have e9:w9.heap[W1.heap.size]?=some (lbox 0 ⟨#[]⟩ ⟨#[]⟩):=hp_next (heap_alloc_new W1 _) (show Below (W1.alloc (lbox 0 ⟨#[]⟩ ⟨#[]⟩)).heap.size (W1.alloc (lbox 0 ⟨#[]⟩ ⟨#[]⟩)) w9 from (Below.refl _ _).drew.trans hb9);have HE9:=hid e9;obtain ⟨z0,z1,z2,y0,y1,y2⟩:=six_l e9;have HB9:=hid (((Below.refl W1.heap.size W1).alloc (Nat.le_refl _) (lbox 0 ⟨#[]⟩ ⟨#[]⟩)).drew.trans (hb9.mono (by simp)));clear e9 hb9)
   | (go_at_call 162;refine (HJ.out _).mono ?_;rintro e w9 ⟨rfl,hb9⟩;have HB9:=hid ((Below.refl W1.heap.size W1).drew.trans hb9);clear hb9))
  all_goals go_wp2_with fail
  all_goals go_meet
  all_goals first
   | (exact ⟨_,rfl,set3_l HE9.out _ _ _,(HP.out.next HB9.out).box3 HE9.out (Nat.le_of_lt (Nat.lt_of_le_of_lt HP.out.ng hgl)) (Nat.ne_of_lt hgl) _ _ _,fun e=>absurd e.symm (Nat.ne_of_lt hgl),set_lo (set_lo (set_lo HB9.out _ _ (Nat.le_refl _) _) _ _ (Nat.le_refl _) _) _ _ (Nat.le_refl _) _⟩)
   | (exact ⟨_,rfl,heap_alloc_new _ _,(HP.out.next HB9.out).next ((Below.refl _ _).alloc (Nat.le_refl _) _),fun e=>absurd e.symm (Nat.ne_of_lt (Nat.lt_of_lt_of_le hgl HB9.out.size)),HB9.out.alloc HB9.out.size _⟩)
 case rest =>
  obtain ⟨b6,rfl,e6,hp2,hn6,hb2⟩:=hcut
  obtain ⟨W2,hW2⟩:∃ W',wc=W':=⟨_,rfl⟩
  rw [hW2] at e6 hp2 hb2 ⊢
  have HK2:=hid (HK0.out.trans (.of_below hb2))
  clear hb2 HK0
  have HP2:=hid hp2
  have E6:=hid e6
  clear hW2 hp2 e6 HS1 HP E5 HLO HJ
  obtain ⟨x0,x1,x2,_,_,_⟩:=six_l E6.out
  obtain ⟨u0,u1,u2,v0,v1,v2⟩:=HP2.out.ly.at hp
  rw [HAE.out] at u0 u1 u2
  have m6:W2.cell? ⟨b,6,none⟩=some (.slice (some ⟨gL,0,none⟩) f.ins.length f.ins.length):=(cell_hp HP2.out.e 6).trans rfl
  have heq:∀ V,(binOp .eql 101 (.agg #[.int .i64 (J.st:Nat),.string (kt J.sl),.string (kt J.sk)]) (.agg #[.int .i64 (a.st:Nat),.string (kt a.sl),.string (kt a.sk)])).run Tryz.prog V=.ok (.bool (decide (J=a))) V:=fun V=>by rw [eqLBin,HEQ.out]
  by_cases hja:J=a
  ·have hdd:decide (J=a)=true:=by simpa using hja
   rw [hdd] at heq
   have HJA:=hid hja
   clear hja hdd
   go_wp2_with fail
   go_quiet (fail)
   go_wp2_with fail
   exact bodyPost_ret (v:=.tuple #[]) (by simp [results,Tryz.results143,go_sem]) rfl ⟨rfl,HK2.out.trans (.of_below (below_drewN (Below.refl _ _) _)),wv,.inl rfl,.inl ⟨HJA.out,HP2.out.next (below_drewN (Below.refl _ _) _)⟩⟩
  ·have hdd:decide (J=a)=false:=by simpa using hja
   rw [hdd] at heq
   have HJA:=hid hja
   clear hja hdd
   go_wp2_with fail
   go_quiet (fail)
   go_wp2_with fail
   go_region
   have HP3:=hid (fun n:Nat=>(HP2.out.next (below_drewN (Below.refl _ _) n)).put hp J)
   have HP4:=hid (HP3.out (nq+1))
   have HK4:Hid (CK b gL wv.ownBlock W ((((W2.drewN (nq+1)).setCell ⟨gL,p * 3,none⟩ (.int .i64 (J.st:Nat))).setCell ⟨gL,p * 3+1,none⟩ (.string (kt J.sl))).setCell ⟨gL,p * 3+2,none⟩ (.string (kt J.sk)))):=hid ((((HK2.out.trans (.of_below (below_drewN (Below.refl _ _) _))).trans (.set_g _ _ _)).trans (.set_g _ _ _)).trans (.set_g _ _ _))
   obtain ⟨W3,hW3⟩:∃ W',((((W2.drewN (nq+1)).setCell ⟨gL,p * 3,none⟩ (.int .i64 (J.st:Nat))).setCell ⟨gL,p * 3+1,none⟩ (.string (kt J.sl))).setCell ⟨gL,p * 3+2,none⟩ (.string (kt J.sk)))=W':=⟨_,rfl⟩
   rw [hW3] at HP4 HK4 ⊢
   clear hW3 HP3 HP2 E6 x0 x1 x2 u0 u1 u2 v0 v1 v2 m6 heq
   obtain ⟨adw,cw,hwv⟩:=own_form HP4.out.own
   subst hwv
   have m7:W3.cell? ⟨b,7,none⟩=some (.slice adw wk.length cw):=(cell_hp HP4.out.e 7).trans rfl
   have hnl:=nums_length wk
   have HSB:Hid (Calls Tryz.prog 163 #[.slice adw wk.length cw,.int .i64 p,.func (.func 164) #[] #[]] W3 (BsEnd (nums wk) p W3)):=hid (search_any (IntRow.own (B:=w.heap.size) (by rw [hnl];exact HP4.out.own)) (fun q r hq hr=>by rw [hnl] at hr;rw [nums_getD wk hr,nums_getD wk (by omega)];have:=desc_get HDD.out hq hr;omega) (fun q hq=>by rw [hnl] at hq;rw [nums_getD wk hq];have:=wk_lt HWK.out hq;omega) (by omega) (by rw [hnl];omega))
   clear hnl
   go_upto_region 5 with (go_at_call 163;refine HSB.out.mono ?_;rintro e W4 ⟨i,hil,he,h1,h2,hb4⟩;obtain ⟨F,hF⟩:∃ F,decide (i < (nums wk).length∧(nums wk).getD i 0=(p:Int))=F:=⟨_,rfl⟩;rw [hF] at he;have HFF:=hid hF;clear hF;subst he;have HP5:=hid (HP4.out.next hb4);have HK5:=hid (HK4.out.trans (.of_below hb4));have H1:=hid h1;have H2:=hid h2;clear h1 h2 hb4)
   rw [nums_length] at hil
   have HA1:Hid (∀ q,q < i→p < wk.getD q 0):=hid fun q hq=>by have:=H1.out q hq;rw [nums_getD wk (by omega)] at this;omega
   have HA2:Hid (∀ q,i≤q→q < wk.length→wk.getD q 0≤p):=hid fun q h1 h2=>by have:=H2.out q h1 (by rw [nums_length];exact h2);rw [nums_getD wk h2] at this;omega
   clear HSB H1 H2 HP4 m7
   cases F with
   | true =>
    have hf:i < (nums wk).length∧(nums wk).getD i 0=(p:Int):=by have:=HFF.out;rw [decide_eq_true_iff] at this;exact this
    have hil2:i < wk.length:=by have:=hf.1;rw [nums_length] at this;exact this
    have HIN:Hid (ins1 wk p=wk):=hid (ins1_in HDD.out HA1.out HA2.out hil2 (by have:=hf.2;rw [nums_getD wk hil2] at this;omega))
    clear hf HFF
    go_wp2_with fail
    go_end0
    exact ⟨rfl,HK5.out,_,.inl rfl,.inr ⟨HJA.out,by rw [HIN.out];exact HP5.out⟩⟩
   | false =>
    have hf:¬ (i < (nums wk).length∧(nums wk).getD i 0=(p:Int)):=by have:=HFF.out;rw [decide_eq_false_iff_not] at this;exact this
    have HIN:=hid (ins1_new HDD.out HA1.out HA2.out hil (fun h=>hf ⟨by rw [nums_length];exact h.1,by rw [nums_getD wk h.1,h.2]⟩))
    clear hf HFF
    have HAL:Hid (Below W4.heap.size W4 (W4.alloc (.cells #[.int .i64 (p:Int)] 3))):=hid ((Below.refl _ _).alloc (Nat.le_refl _) _)
    have HP6:=hid (HP5.out.next HAL.out)
    have m7:W4.cell? ⟨b,7,none⟩=some (.slice adw wk.length cw):=(cell_hp HP5.out.e 7).trans rfl
    have HNE:Hid (some W4.heap.size≠(Value.slice adw wk.length cw).ownBlock):=hid fun e=>by
     have:=(HP5.out.own.lt _ e.symm).2
     omega
    have HINS:Hid (Calls Tryz.prog 165 #[.slice adw wk.length cw,.int .i64 i,.slice (some ⟨W4.heap.size,0,none⟩) 1 1] (W4.alloc (.cells #[.int .i64 (p:Int)] 3)) fun e w'=>∃ v',e=.returned v'∧w'.ownsRow w.heap.size 3 1 v' (ins1 wk p).length ((nums (ins1 wk p)).map fun x=>Value.int .i64 x)∧(W4.alloc (.cells #[.int .i64 (p:Int)] 3)).grownBy w' (Value.slice adw wk.length cw).ownBlock∧(v'.ownBlock=(Value.slice adw wk.length cw).ownBlock∨v'.ownBlock=some (W4.alloc (.cells #[.int .i64 (p:Int)] 3)).heap.size)):=hid (by
     have:=insert_any (l:=nums wk) (i:=i) (x:=p) (vb:=W4.heap.size) (v:=.slice adw wk.length cw) (B:=w.heap.size) (W:=W4.alloc (.cells #[.int .i64 (p:Int)] 3)) (by rw [nums_length];exact HP6.out.own) (by rw [nums_length];exact hil) (by rw [nums_length];omega) (by have:=HP6.out.lo.size;exact this) (heap_alloc_new _ _) HNE.out
     have hll:(nums wk).length+1=(ins1 wk p).length:=by rw [← nums_length (ins1 wk p),HIN.out,insAt_length (by rw [nums_length];exact hil)]
     rw [hll,← HIN.out] at this
     exact this)
    go_wp2_with (go_at_call 165;refine HINS.out.mono ?_;rintro e W6 ⟨v',rfl,hov,hgv,hol⟩;have HK6:=hid ((HK5.out.trans (.of_below HAL.out)).trans (.of_grown hgv));have HOL:=hid hol;have HW:=hid (HP6.out.work hgv hov);obtain ⟨ad9,c9,hv9⟩:=own_form hov;subst hv9;have kb:W6.heap[b]?=_:=(hgv.block b (lt_hp HP6.out.e) (own_neS HP6.out.own (by decide) HP6.out.e)).trans HP6.out.e;have kc:=cell_hp kb 7;have kf:=frozen_hp kb 7;clear hov hgv kb hol)
    go_end0
    refine ⟨rfl,HK6.out.trans (.set_b _ _ _),_,?_,.inr ⟨HJA.out,HW.out⟩⟩
    rcases HOL.out with h | h
    ·exact .inl h
    ·exact .inr ⟨_,h,by have h1:=HK5.out.size;have h2:=HAL.out.size;omega⟩
theorem desc_len:∀ {wk:List Nat} {n:Nat},wk.Pairwise (· > ·)→(∀ q ∈ wk,q < n)→wk.length≤n
 | [],_,_,_=>Nat.zero_le _
 | x :: r,n,h,hb=>by
  obtain ⟨h1,h2⟩:=List.pairwise_cons.1 h
  have:=desc_len (wk:=r) (n:=x) h2 (fun q hq=>h1 q hq)
  have:=hb x (by simp)
  simp only [List.length_cons]
  omega
def RowK (W:World) (v:Value) (l:List Int) (ob:Option Nat):Prop:=IntRow W v l∧(l=[]∨∃ g c,v=.slice (some ⟨g,0,none⟩) l.length c∧g < W.heap.size∧some g≠ob)
theorem RowK.keep {W V:World} {v:Value} {l:List Int} {b gL:Nat} {wv wv':Value} (h:RowK W v l wv.ownBlock) (hc:CK b gL wv.ownBlock W V) (ho:OwnLater W wv wv') {cs cs':Array Value} {t t':TypeId} (eb:W.heap[b]?=some (.cells cs t (0,0))) (eg:W.heap[gL]?=some (.cells cs' t' (0,0))) (ht:¬ t=3) (ht':¬ t'=3):RowK V v l wv'.ownBlock:=by
 obtain ⟨⟨ad,c,e,h1,h2,h3⟩,h4⟩:=h
 rcases h3 with h3 | ⟨g,cur,e1,e2,e3⟩
 ·exact ⟨⟨ad,c,e,h1,h2,.inl h3⟩,.inl h3⟩
 ·rcases h4 with h4 | ⟨g',c',e4,hg,hob⟩
  ·exact ⟨⟨ad,c,e,h1,h2,.inl h4⟩,.inl h4⟩
  ·have hgg:g'=g:=by
    rw [e,e1] at e4
    injection e4 with e4
    injection e4 with e4
    injection e4 with e4
    exact e4.symm
   subst hgg
   have hk:V.heap[g']?=W.heap[g']?:=hc.block g' hg (fun eq=>by rw [eq,eb] at e2;simp at e2;exact ht e2.2) (fun eq=>by rw [eq,eg] at e2;simp at e2;exact ht' e2.2) hob
   refine ⟨⟨ad,c,e,h1,h2,.inr ⟨g',cur,e1,hk.trans e2,e3⟩⟩,.inr ⟨g',c',e4,Nat.lt_of_lt_of_le hg hc.size,?_⟩⟩
   rcases ho with h9 | ⟨k,h9,h10⟩
   ·rw [h9];exact hob
   ·rw [h9]
    intro h11
    injection h11 with h11
    omega
def GoEnd (fns:List Fn) (f:Fn) (w:World) (b gL:Nat) (cv pv iv:Value) (A:Nat→Sh) (wk:List Nat) (e:Ending) (w':World):Prop:=e=.returned (.tuple #[])∧∃ A' wk' wv',SP fns f w b gL cv pv iv A' wk' wv' w'∧WInv fns f A' wk'∧((A'=A∧wk'=wk)∨tot f.S A' f.ins.length < tot f.S A f.ins.length)
structure GX (fns:List Fn) (f:Fn) (w:World) (b gL:Nat) (cv pv iv:Value) (A:Nat→Sh) (wk:List Nat) (p z:Nat) (s:Sh) (b4:Nat) (gv:Value) (i:In) (W:World):Prop where
 sp:∃ A3 wk3 wv3,SP fns f w b gL cv pv iv A3 wk3 wv3 W∧GInv fns f A3 wk3 p z s∧((A3=A∧wk3=wk)∨tot f.S A3 f.ins.length < tot f.S A f.ins.length)∧RowK W gv (nums (goes i p)) wv3.ownBlock
 e4:W.heap[b4]?=some (lbox (s.st:Nat) (kt s.sl) (kt s.sk))
 n4:¬ b4=gL
theorem go_fresh {fns:List Fn} {f:Fn} {w:World} {b gL:Nat} {cv pv iv:Value} {A:Nat→Sh} {wk:List Nat} {wv gv:Value} {W V:World} {l:List Int} (h:SP fns f w b gL cv pv iv A wk wv W) (_hb:Below W.heap.size W V) (hr:IntRow V gv l) (hf:l=[]∨∃ g c,gv=.slice (some ⟨g,0,none⟩) l.length c∧W.heap.size≤g):l=[]∨∃ g c,gv=.slice (some ⟨g,0,none⟩) l.length c∧g < V.heap.size∧some g≠wv.ownBlock:=by
 rcases hf with hf | ⟨g,c,e,hg⟩
 ·exact .inl hf
 ·obtain ⟨ad,c',e1,_,_,h3⟩:=hr
  rcases h3 with h3 | ⟨g',cur,e2,e3,_⟩
  ·exact .inl h3
  ·refine .inr ⟨g,c,e,?_,fun h9=>?_⟩
   ·rw [e,e2] at e1
    injection e1 with e1
    injection e1 with e1
    injection e1 with e1
    rw [e1]
    exact lt_hp e3
   ·have:=(h.own.lt g h9.symm).2
    omega
theorem go_step {fns:List Fn} {f:Fn} {w:World} {b gL:Nat} {cv pv iv:Value} {A:Nat→Sh} {wk:List Nat} {p z:Nat} {s:Sh} {b4:Nat} {gv:Value} {i:In} {W:World} (hx:GX fns f w b gL cv pv iv A wk p z s b4 gv i W) {A3:Nat→Sh} {wk3:List Nat} {wv3:Value} (hp:SP fns f w b gL cv pv iv A3 wk3 wv3 W) (hg:GInv fns f A3 wk3 p z s) (ho:(A3=A∧wk3=wk)∨tot f.S A3 f.ins.length < tot f.S A f.ins.length) (hr:RowK W gv (nums (goes i p)) wv3.ownBlock) {g:Nat} (hgz:(goes (f.ins.getD p in0) p)[z]?=some g) (hgn:g < f.ins.length) {V:World} {wv4:Value} (hck:CK b gL wv3.ownBlock W V) (hol:OwnLater W wv3 wv4)
  (hc:(join (A3 g) s=A3 g∧SP fns f w b gL cv pv iv A3 wk3 wv4 V)∨(¬ join (A3 g) s=A3 g∧SP fns f w b gL cv pv iv (upd A3 g (join (A3 g) s)) (ins1 wk3 g) wv4 V)):GX fns f w b gL cv pv iv A wk p (z+1) s b4 gv i V:=by
 obtain ⟨cu,elg,_⟩:=id hp.ly
 have hrk:=hr.keep hck hol hp.e elg (by decide) (by decide)
 have hnb:¬ b4=b:=fun e=>by
  have h9:=hx.e4
  rw [e,hp.e] at h9
  simp [lbox] at h9
 have hno:some b4≠wv3.ownBlock:=own_neS hp.own (by decide) hx.e4
 have e4:V.heap[b4]?=some (lbox (s.st:Nat) (kt s.sl) (kt s.sk)):=(hck.block b4 (lt_hp hx.e4) hnb hx.n4 hno).trans hx.e4
 rcases hc with ⟨hj,hs4⟩ | ⟨hj,hs4⟩
 ·exact ⟨⟨A3,wk3,wv4,hs4,hg.same hgz hgn hj,ho,hrk⟩,e4,hx.n4⟩
 ·obtain ⟨hgu,hlt⟩:=hg.up hgz hgn hj
  refine ⟨⟨_,_,wv4,hs4,hgu,.inr ?_,hrk⟩,e4,hx.n4⟩
  rcases ho with ⟨h1,_⟩ | h1
  ·rw [h1] at hlt;rw [h1];exact hlt
  ·exact Nat.lt_trans hlt h1
set_option maxHeartbeats 8000000 in
theorem goOn_any {fns:List Fn} {f:Fn} {w:World} {b gL:Nat} {cv pv iv:Value} {A:Nat→Sh} {wk:List Nat} {wv:Value} {W:World} (hP:SP fns f w b gL cv pv iv A wk wv W) (hG:SG fns f w cv pv iv) {p:Nat} (hp:p < f.ins.length) (hF:∀ g ∈ fns,FnR fns g) (hf:FnR fns f) (h0:¬ (A p).st=0) (hI:GInv fns f A wk p 0 (behind fns f p (A p))) :
  Calls Tryz.prog 144 #[.pointer (some ⟨b,0,none⟩),.int .i64 p] W (GoEnd fns f w b gL cv pv iv A wk):=by
 have hIL:f.ins.length≤50000:=hf.some_.2
 have hpi:(p:Int) < (f.ins.length:Int):=by omega
 have HIR:Hid (InsR fns f (f.ins.getD p in0)):=hid (hf.ins _ (by rw [List.getD_eq_getElem?_getD,List.getElem?_eq_getElem hp];exact List.getElem_mem hp))
 have HLV:Hid (Calls Tryz.prog 145 #[.pointer (some ⟨b,0,none⟩),.int .i64 p] W (LvEnd fns f p (A p) W)):=hid (leaves_any (hP.ms hG) (hG.en.next hP.lo) hP.ly hp hF hf (hI.low.ok p hp) h0)
 have HP:=hid hP
 have HG:=hid hG
 have HI:=hid hI
 have HS200:Hid (f.S≤200):=hid (by have:=hf.slots;unfold Fn.S;omega)
 obtain ⟨s,hs⟩:∃ s,behind fns f p (A p)=s:=⟨_,rfl⟩
 unfold LvEnd at HLV
 rw [hs] at HI HLV
 have HSB:=hid hs
 clear hP hG hI hF hf h0 hs
 go_enter Tryz.func144,Tryz.ntmps144
 go_upto_region 1 with (go_at_call 145;refine HLV.out.mono ?_;rintro e W1 ⟨st,u,v,fit,rfl,hft,hff,hb1⟩;have HFT:=hid hft;have HFF:=hid hff;have HB1:=hid hb1;clear hft hff hb1)
 have HP1:=hid (HP.out.next HB1.out)
 have HAL:Hid (Below W1.heap.size W1 (W1.alloc (lbox (s.st:Nat) (kt s.sl) (kt s.sk)))):=hid ((Below.refl _ _).alloc (Nat.le_refl _) _)
 have E4:Hid ((W1.alloc (lbox (s.st:Nat) (kt s.sl) (kt s.sk))).heap[W1.heap.size]?=some (lbox (s.st:Nat) (kt s.sl) (kt s.sk))):=hid (heap_alloc_new _ _)
 cases fit with
 | true =>
  have hlv:=HFT.out rfl
  unfold lv at hlv
  injection hlv with hlv
  simp at hlv
  obtain ⟨h1,h2,h3⟩:=hlv
  subst h1 h2 h3
  go_upto_region 3 with fail
  have HP2:=hid (HP1.out.next HAL.out)
  obtain ⟨b4,hb4⟩:∃ b4,W1.heap.size=b4:=⟨_,rfl⟩
  have HN4:Hid (¬ b4=gL):=hid (by have:=HP1.out.ly.lt;omega)
  obtain ⟨W2,hW2⟩:∃ W',W1.alloc (lbox (s.st:Nat) (kt s.sl) (kt s.sk))=W':=⟨_,rfl⟩
  rw [hW2] at HP2 E4 HAL
  rw [hb4] at E4
  unfold lbox at hW2
  rw [hW2,hb4]
  clear hW2 hb4 HP1 HAL HP HB1 HLV HFT HFF
  have HAF:Hid (Calls Tryz.prog 166 #[.pointer (some ⟨b,0,none⟩),.int .i64 p] W2 (AftEnd (f.ins.getD p in0) p W2)):=hid (after_fresh (HP2.out.ms HG.out) hp (by omega) HIR.out)
  have HGF:=hid (fun q hq=>HI.out.good q hq)
  obtain ⟨i,hi⟩:∃ i,f.ins.getD p in0=i:=⟨_,rfl⟩
  rw [hi] at HAF
  have HIE:=hid hi
  clear hi
  go_wp2_with (go_at_call 166;refine HAF.out.mono ?_;rintro e W3 ⟨gv,rfl,hgr,hb3,hfr⟩;have HP3:=hid (HP2.out.next hb3);have E43:=hid (hp_next E4.out hb3);have HGX:Hid (GX fns f w b gL cv pv iv A wk p 0 s b4 gv i W3):=hid ⟨⟨A,wk,wv,HP3.out,HI.out,.inl ⟨rfl,rfl⟩,hgr,go_fresh HP2.out hb3 hgr hfr⟩,E43.out,HN4.out⟩;obtain ⟨gad,gc,hgv⟩:=hgr.sl;rw [nums_length] at hgv;subst hgv;clear hgr hb3 hfr)
  have hgl:=goes_few i p
  clear HP2 HP3 E4 E43 HAF
  go_loopw [21] (fun ix wr=>∃ z:Nat,z≤(goes i p).length∧ix=.int .i64 z∧GX fns f w b gL cv pv iv A wk p z s b4 (.slice gad (goes i p).length gc) i wr) (fun ix _=>(goes i p).length - (intOf ix).toNat)
  case atStart=>exact ⟨0,Nat.zero_le _,rfl,HGX.out⟩
  case round =>
   clear HGX
   obtain ⟨z,hz,rfl,hgx⟩:=hrel
   have HX:=hid hgx
   obtain ⟨A3,wk3,wv3,hsp3,hg3,hor3,hrk3⟩:=hgx.sp
   have HP3:=hid hsp3
   have HG3:=hid hg3
   have HOR:=hid hor3
   have HRK:=hid hrk3
   clear hgx hsp3 hg3 hor3 hrk3
   obtain ⟨x0,x1,x2,_,_,_⟩:=six_l HX.out.e4
   have m6:wr.cell? ⟨b,6,none⟩=some (.slice (some ⟨gL,0,none⟩) f.ins.length f.ins.length):=(cell_hp HP3.out.e 6).trans rfl
   by_cases hzt:z < (goes i p).length
   ·have hzi:(z:Int) < ((goes i p).length:Int):=by omega
    obtain ⟨g,hgz⟩:∃ g,(goes i p)[z]?=some g:=⟨_,List.getElem?_eq_getElem hzt⟩
    have HGZ:Hid ((goes (f.ins.getD p in0) p)[z]?=some g):=hid (by rw [HIE.out];exact hgz)
    obtain ⟨gg,gc2,e9,_,_,hggl,hgc⟩:=HRK.out.1.at (i:=z) (by rw [nums_length];exact hzt)
    injection e9 with e9 en ec
    clear en
    subst e9 ec
    have n0:=hgc z (by rw [nums_length];exact hzt)
    rw [nums_get hgz] at n0
    clear hgc hgz
    by_cases hgn:g < f.ins.length
    ·have hgni:(g:Int) < (f.ins.length:Int):=by omega
     have HCM:Hid (Calls Tryz.prog 143 #[.pointer (some ⟨b,0,none⟩),.int .i64 g,.agg #[.int .i64 (s.st:Nat),.string (kt s.sl),.string (kt s.sk)]] wr (ComeEnd fns f w b gL cv pv iv A3 wk3 wv3 wr g s)):=hid (come_any HP3.out hgn hIL (HG3.out.low.ok g hgn) HG3.out.src.ok HG3.out.src.st HS200.out HG3.out.desc (fun q hq=>(HG3.out.good q hq).1) (by have:=desc_len HG3.out.desc (fun q hq=>(HG3.out.good q hq).1);omega))
     go_wp2_with (go_at_call 143;refine HCM.out.mono ?_;rintro e W4 ⟨rfl,hck,wv4,hol,hcase⟩;have HNX:Hid (GX fns f w b gL cv pv iv A wk p (z+1) s b4 (.slice (some ⟨gg,0,none⟩) (goes i p).length gc) i W4):=hid (go_step HX.out HP3.out HG3.out HOR.out HRK.out HGZ.out hgn hck hol hcase);clear hck hol hcase)
     go_roundw
     case rel=>exact ⟨z+1,by omega,by go_num,HNX.out⟩
     case measure=>simp [intOf];omega
    ·have hgni:¬ (g:Int) < (f.ins.length:Int):=by omega
     go_wp2_with fail
     go_roundw
     case rel=>exact ⟨z+1,by omega,by go_num,⟨⟨A3,wk3,wv3,HP3.out,HG3.out.out HGZ.out hgn,HOR.out,HRK.out⟩,HX.out.e4,HX.out.n4⟩⟩
     case measure=>simp [intOf];omega
   ·obtain rfl:z=(goes i p).length:=by omega
    have hge:¬ (((goes i p).length:Int) < ((goes i p).length:Int)):=by omega
    go_wp2_with fail
    go_end0
    exact ⟨rfl,A3,wk3,wv3,HP3.out,HG3.out.fin (by rw [HIE.out];exact Nat.le_refl _),HOR.out⟩
 | false =>
  have HTOP:=hid (HFF.out.1 rfl)
  go_upto_region 3 with fail
  have HP2:=hid (HP1.out.next HAL.out)
  obtain ⟨b4,hb4⟩:∃ b4,W1.heap.size=b4:=⟨_,rfl⟩
  have HN4:Hid (¬ b4=gL):=hid (by have:=HP1.out.ly.lt;omega)
  obtain ⟨W2,hW2⟩:∃ W',W1.alloc (lbox (s.st:Nat) (kt s.sl) (kt s.sk))=W':=⟨_,rfl⟩
  rw [hW2] at HP2 E4 HAL
  rw [hb4] at E4
  unfold lbox at hW2
  have hW2':W1.alloc (.cells #[.int .i64 2,.string ⟨#[]⟩,.string ⟨#[]⟩] 101)=W2:=by have h9:=hW2;rw [HTOP.out] at h9;exact h9
  rw [hW2',hb4]
  clear hW2'
  clear hW2 hb4 HP1 HAL HP HB1 HLV HFT HFF
  have HAF:Hid (Calls Tryz.prog 166 #[.pointer (some ⟨b,0,none⟩),.int .i64 p] W2 (AftEnd (f.ins.getD p in0) p W2)):=hid (after_fresh (HP2.out.ms HG.out) hp (by omega) HIR.out)
  have HGF:=hid (fun q hq=>HI.out.good q hq)
  obtain ⟨i,hi⟩:∃ i,f.ins.getD p in0=i:=⟨_,rfl⟩
  rw [hi] at HAF
  have HIE:=hid hi
  clear hi
  go_wp2_with (go_at_call 166;refine HAF.out.mono ?_;rintro e W3 ⟨gv,rfl,hgr,hb3,hfr⟩;have HP3:=hid (HP2.out.next hb3);have E43:=hid (hp_next E4.out hb3);have HGX:Hid (GX fns f w b gL cv pv iv A wk p 0 s b4 gv i W3):=hid ⟨⟨A,wk,wv,HP3.out,HI.out,.inl ⟨rfl,rfl⟩,hgr,go_fresh HP2.out hb3 hgr hfr⟩,E43.out,HN4.out⟩;obtain ⟨gad,gc,hgv⟩:=hgr.sl;rw [nums_length] at hgv;subst hgv;clear hgr hb3 hfr)
  have hgl:=goes_few i p
  clear HP2 HP3 E4 E43 HAF
  go_loopw [21] (fun ix wr=>∃ z:Nat,z≤(goes i p).length∧ix=.int .i64 z∧GX fns f w b gL cv pv iv A wk p z s b4 (.slice gad (goes i p).length gc) i wr) (fun ix _=>(goes i p).length - (intOf ix).toNat)
  case atStart=>exact ⟨0,Nat.zero_le _,rfl,HGX.out⟩
  case round =>
   clear HGX
   obtain ⟨z,hz,rfl,hgx⟩:=hrel
   have HX:=hid hgx
   obtain ⟨A3,wk3,wv3,hsp3,hg3,hor3,hrk3⟩:=hgx.sp
   have HP3:=hid hsp3
   have HG3:=hid hg3
   have HOR:=hid hor3
   have HRK:=hid hrk3
   clear hgx hsp3 hg3 hor3 hrk3
   obtain ⟨x0,x1,x2,_,_,_⟩:=six_l HX.out.e4
   have m6:wr.cell? ⟨b,6,none⟩=some (.slice (some ⟨gL,0,none⟩) f.ins.length f.ins.length):=(cell_hp HP3.out.e 6).trans rfl
   by_cases hzt:z < (goes i p).length
   ·have hzi:(z:Int) < ((goes i p).length:Int):=by omega
    obtain ⟨g,hgz⟩:∃ g,(goes i p)[z]?=some g:=⟨_,List.getElem?_eq_getElem hzt⟩
    have HGZ:Hid ((goes (f.ins.getD p in0) p)[z]?=some g):=hid (by rw [HIE.out];exact hgz)
    obtain ⟨gg,gc2,e9,_,_,hggl,hgc⟩:=HRK.out.1.at (i:=z) (by rw [nums_length];exact hzt)
    injection e9 with e9 en ec
    clear en
    subst e9 ec
    have n0:=hgc z (by rw [nums_length];exact hzt)
    rw [nums_get hgz] at n0
    clear hgc hgz
    by_cases hgn:g < f.ins.length
    ·have hgni:(g:Int) < (f.ins.length:Int):=by omega
     have HCM:Hid (Calls Tryz.prog 143 #[.pointer (some ⟨b,0,none⟩),.int .i64 g,.agg #[.int .i64 (s.st:Nat),.string (kt s.sl),.string (kt s.sk)]] wr (ComeEnd fns f w b gL cv pv iv A3 wk3 wv3 wr g s)):=hid (come_any HP3.out hgn hIL (HG3.out.low.ok g hgn) HG3.out.src.ok HG3.out.src.st HS200.out HG3.out.desc (fun q hq=>(HG3.out.good q hq).1) (by have:=desc_len HG3.out.desc (fun q hq=>(HG3.out.good q hq).1);omega))
     go_wp2_with (go_at_call 143;refine HCM.out.mono ?_;rintro e W4 ⟨rfl,hck,wv4,hol,hcase⟩;have HNX:Hid (GX fns f w b gL cv pv iv A wk p (z+1) s b4 (.slice (some ⟨gg,0,none⟩) (goes i p).length gc) i W4):=hid (go_step HX.out HP3.out HG3.out HOR.out HRK.out HGZ.out hgn hck hol hcase);clear hck hol hcase)
     go_roundw
     case rel=>exact ⟨z+1,by omega,by go_num,HNX.out⟩
     case measure=>simp [intOf];omega
    ·have hgni:¬ (g:Int) < (f.ins.length:Int):=by omega
     go_wp2_with fail
     go_roundw
     case rel=>exact ⟨z+1,by omega,by go_num,⟨⟨A3,wk3,wv3,HP3.out,HG3.out.out HGZ.out hgn,HOR.out,HRK.out⟩,HX.out.e4,HX.out.n4⟩⟩
     case measure=>simp [intOf];omega
   ·obtain rfl:z=(goes i p).length:=by omega
    have hge:¬ (((goes i p).length:Int) < ((goes i p).length:Int)):=by omega
    go_wp2_with fail
    go_end0
    exact ⟨rfl,A3,wk3,wv3,HP3.out,HG3.out.fin (by rw [HIE.out];exact Nat.le_refl _),HOR.out⟩
end Go.Proofs.YtbkmglknbflkhaaGreatDoor.C
