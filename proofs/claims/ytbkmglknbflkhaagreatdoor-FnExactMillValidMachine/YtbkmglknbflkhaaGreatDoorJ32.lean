import Derived.Laws.StructEq
import Derived.Test.YtbkmglknbflkhaaGreatDoorJ22
import Derived.Test.YtbkmglknbflkhaaGreatDoorJ31
import Derived.Test.YtbkmglknbflkhaaGreatDoorJ21
import Derived.Test.YtbkmglknbflkhaaGreatDoorJ30
namespace Go.Proofs.YtbkmglknbflkhaaGreatDoor.R
open Go.RowKit
set_option maxRecDepth 20000
set_option maxHeartbeats 2000000 in
theorem szMc_any (x:Mc) {v0 v1 v2 v3 v4 v5:Value} (l:Int) (w:World) (hl:0≤l) (hl2:l≤1048576) (hx:OkMc x) (k0:SCdA w v0 x.codes) (k1:SStrA w v1 x.args) (k2:SStrA w v2 x.outs) (k3:SFmA w v3 x.frames) (k4:SFlA w v4 x.files) (k5:SStrA w v5 x.said) :
  Calls Tryz.prog 5 #[.agg #[v0,v1,v2,v3,.int .i64 x.steps,.int .i64 x.looks,.int .i64 x.kind,.string x.name,.string x.hold,.bool x.over,.int .i64 x.fin,.string x.text,v4,v5],.int .i64 l] w (SzEnd l (wMc x) w):=by
 have HX:=hid hx
 obtain ⟨hx0,hx1,hx2,hx3,hx4,hx5,hx6,hx7,hx8,hx9,hx10,hx11,hx12,hx13⟩:=hx
 have HB0:=hid (B1.start w (.cells #[v0,v1,v2,v3,.int .i64 x.steps,.int .i64 x.looks,.int .i64 x.kind,.string x.name,.string x.hold,.bool x.over,.int .i64 x.fin,.string x.text,v4,v5] 27))
 have K0:=hid (k0.next HB0.out.lo)
 have K1:=hid (k1.next HB0.out.lo)
 have K2:=hid (k2.next HB0.out.lo)
 have K3:=hid (k3.next HB0.out.lo)
 have K4:=hid (k4.next HB0.out.lo)
 have K5:=hid (k5.next HB0.out.lo)
 obtain ⟨ad0,cp0,rfl⟩:=k0.sl
 obtain ⟨ad1,cp1,rfl⟩:=k1.sl
 obtain ⟨ad2,cp2,rfl⟩:=k2.sl
 obtain ⟨ad3,cp3,rfl⟩:=k3.sl
 obtain ⟨ad4,cp4,rfl⟩:=k4.sl
 obtain ⟨ad5,cp5,rfl⟩:=k5.sl
 clear k0 k1 k2 k3 k4 k5
 have hs_name:=small hx7
 have hs_hold:=small hx8
 have hs_text:=small hx11
 go_enter Tryz.func5,Tryz.ntmps5
 go_wp2_with fail
 refine (szSCd_any x.codes _ _ (by omega) (by omega) hx0 (K0.out)).mono ?_
 rintro e w1 ⟨⟨r0,rfl,p0,q0,h0⟩,hb0⟩
 have HP0:=hid h0
 have HN0:=hid hb0
 have HB1:=hid (HB0.out.next hb0)
 clear h0 hb0
 have b0_1:w1.cell? ⟨w.heap.size,1,none⟩=some (.slice ad1 x.args.length cp1):=row_cell HB1.out.e 1
 have b0_2:w1.cell? ⟨w.heap.size,2,none⟩=some (.slice ad2 x.outs.length cp2):=row_cell HB1.out.e 2
 have b0_3:w1.cell? ⟨w.heap.size,3,none⟩=some (.slice ad3 x.frames.length cp3):=row_cell HB1.out.e 3
 have b0_7:w1.cell? ⟨w.heap.size,7,none⟩=some (.string x.name):=row_cell HB1.out.e 7
 have b0_8:w1.cell? ⟨w.heap.size,8,none⟩=some (.string x.hold):=row_cell HB1.out.e 8
 have b0_11:w1.cell? ⟨w.heap.size,11,none⟩=some (.string x.text):=row_cell HB1.out.e 11
 have b0_12:w1.cell? ⟨w.heap.size,12,none⟩=some (.slice ad4 x.files.length cp4):=row_cell HB1.out.e 12
 have b0_13:w1.cell? ⟨w.heap.size,13,none⟩=some (.slice ad5 x.said.length cp5):=row_cell HB1.out.e 13
 by_cases c0:r0 < 0
 ·go_wp2
  go_ret
  exact ⟨⟨_,rfl,by omega,by omega,fun h=>by omega⟩,HB1.out.lo⟩
 ·go_wp2_with fail
  refine (szSStr_any x.args _ _ (by omega) (by omega) hx1 (K1.out.next HN0.out)).mono ?_
  rintro e w2 ⟨⟨r1,rfl,p1,q1,h1⟩,hb1⟩
  have HP1:=hid h1
  have HN1:=hid (HN0.out.trans (hb1.mono HN0.out.size))
  have HB2:=hid (HB1.out.next hb1)
  clear h1 hb1
  have b1_2:w2.cell? ⟨w.heap.size,2,none⟩=some (.slice ad2 x.outs.length cp2):=row_cell HB2.out.e 2
  have b1_3:w2.cell? ⟨w.heap.size,3,none⟩=some (.slice ad3 x.frames.length cp3):=row_cell HB2.out.e 3
  have b1_7:w2.cell? ⟨w.heap.size,7,none⟩=some (.string x.name):=row_cell HB2.out.e 7
  have b1_8:w2.cell? ⟨w.heap.size,8,none⟩=some (.string x.hold):=row_cell HB2.out.e 8
  have b1_11:w2.cell? ⟨w.heap.size,11,none⟩=some (.string x.text):=row_cell HB2.out.e 11
  have b1_12:w2.cell? ⟨w.heap.size,12,none⟩=some (.slice ad4 x.files.length cp4):=row_cell HB2.out.e 12
  have b1_13:w2.cell? ⟨w.heap.size,13,none⟩=some (.slice ad5 x.said.length cp5):=row_cell HB2.out.e 13
  by_cases c1:r1 < 0
  ·go_wp2
   go_ret
   exact ⟨⟨_,rfl,by omega,by omega,fun h=>by omega⟩,HB2.out.lo⟩
  ·go_wp2_with fail
   refine (szSStr_any x.outs _ _ (by omega) (by omega) hx2 (K2.out.next HN1.out)).mono ?_
   rintro e w3 ⟨⟨r2,rfl,p2,q2,h2⟩,hb2⟩
   have HP2:=hid h2
   have HN2:=hid (HN1.out.trans (hb2.mono HN1.out.size))
   have HB3:=hid (HB2.out.next hb2)
   clear h2 hb2
   have b2_3:w3.cell? ⟨w.heap.size,3,none⟩=some (.slice ad3 x.frames.length cp3):=row_cell HB3.out.e 3
   have b2_7:w3.cell? ⟨w.heap.size,7,none⟩=some (.string x.name):=row_cell HB3.out.e 7
   have b2_8:w3.cell? ⟨w.heap.size,8,none⟩=some (.string x.hold):=row_cell HB3.out.e 8
   have b2_11:w3.cell? ⟨w.heap.size,11,none⟩=some (.string x.text):=row_cell HB3.out.e 11
   have b2_12:w3.cell? ⟨w.heap.size,12,none⟩=some (.slice ad4 x.files.length cp4):=row_cell HB3.out.e 12
   have b2_13:w3.cell? ⟨w.heap.size,13,none⟩=some (.slice ad5 x.said.length cp5):=row_cell HB3.out.e 13
   by_cases c2:r2 < 0
   ·go_wp2
    go_ret
    exact ⟨⟨_,rfl,by omega,by omega,fun h=>by omega⟩,HB3.out.lo⟩
   ·go_wp2_with fail
    refine (szSFm_any x.frames _ _ (by omega) (by omega) hx3 (K3.out.next HN2.out)).mono ?_
    rintro e w4 ⟨⟨r3,rfl,p3,q3,h3⟩,hb3⟩
    have HP3:=hid h3
    have HN3:=hid (HN2.out.trans (hb3.mono HN2.out.size))
    have HB4:=hid (HB3.out.next hb3)
    clear h3 hb3
    have b3_7:w4.cell? ⟨w.heap.size,7,none⟩=some (.string x.name):=row_cell HB4.out.e 7
    have b3_8:w4.cell? ⟨w.heap.size,8,none⟩=some (.string x.hold):=row_cell HB4.out.e 8
    have b3_11:w4.cell? ⟨w.heap.size,11,none⟩=some (.string x.text):=row_cell HB4.out.e 11
    have b3_12:w4.cell? ⟨w.heap.size,12,none⟩=some (.slice ad4 x.files.length cp4):=row_cell HB4.out.e 12
    have b3_13:w4.cell? ⟨w.heap.size,13,none⟩=some (.slice ad5 x.said.length cp5):=row_cell HB4.out.e 13
    by_cases c3:r3 < 0
    ·go_wp2
     go_ret
     exact ⟨⟨_,rfl,by omega,by omega,fun h=>by omega⟩,HB4.out.lo⟩
    ·by_cases c7:r3 - (x.name.size:Int) < 0
     ·go_wp2
      go_ret
      exact ⟨⟨_,rfl,by omega,by omega,fun h=>by omega⟩,HB4.out.lo⟩
     ·by_cases c8:r3 - (x.name.size:Int) - (x.hold.size:Int) < 0
      ·go_wp2
       go_ret
       exact ⟨⟨_,rfl,by omega,by omega,fun h=>by omega⟩,HB4.out.lo⟩
      ·by_cases c11:r3 - (x.name.size:Int) - (x.hold.size:Int) - (x.text.size:Int) < 0
       ·go_wp2
        go_ret
        exact ⟨⟨_,rfl,by omega,by omega,fun h=>by omega⟩,HB4.out.lo⟩
       ·go_wp2_with fail
        refine (szSFl_any x.files _ _ (by omega) (by omega) hx12 (K4.out.next HN3.out)).mono ?_
        rintro e w5 ⟨⟨r4,rfl,p4,q4,h4⟩,hb4⟩
        have HP4:=hid h4
        have HN4:=hid (HN3.out.trans (hb4.mono HN3.out.size))
        have HB5:=hid (HB4.out.next hb4)
        clear h4 hb4
        have b4_13:w5.cell? ⟨w.heap.size,13,none⟩=some (.slice ad5 x.said.length cp5):=row_cell HB5.out.e 13
        by_cases c12:r4 < 0
        ·go_wp2
         go_ret
         exact ⟨⟨_,rfl,by omega,by omega,fun h=>by omega⟩,HB5.out.lo⟩
        ·go_wp2_with fail
         refine (szSStr_any x.said _ _ (by omega) (by omega) hx13 (K5.out.next HN4.out)).mono ?_
         rintro e w6 ⟨⟨r5,rfl,p5,q5,h5⟩,hb5⟩
         have HP5:=hid h5
         have HN5:=hid (HN4.out.trans (hb5.mono HN4.out.size))
         have HB6:=hid (HB5.out.next hb5)
         clear h5 hb5
         by_cases c13:r5 < 0
         ·go_wp2
          go_ret
          exact ⟨⟨_,rfl,by omega,by omega,fun h=>by omega⟩,HB6.out.lo⟩
         ·go_wp2
          go_ret
          refine ⟨⟨_,rfl,by omega,by omega,fun h=>?_⟩,HB6.out.lo⟩
          have eHP0:=HP0.out (by omega)
          have eHP1:=HP1.out (by omega)
          have eHP2:=HP2.out (by omega)
          have eHP3:=HP3.out (by omega)
          have eHP4:=HP4.out (by omega)
          have eHP5:=HP5.out (by omega)
          simp only [wMc]
          omega
end Go.Proofs.YtbkmglknbflkhaaGreatDoor.R
namespace Go.Proofs.YtbkmglknbflkhaaGreatDoor.M
open Go.RowKit
open Go.Proofs.YtbkmglknbflkhaaGreatDoor.J (Says says_t says_f size_zero isEmpty_iff FileOk BegOk JobOk OutOk ltB TextsAt)
open Go.Proofs.YtbkmglknbflkhaaGreatDoor.R (hid)
set_option maxRecDepth 20000
theorem ltB_iff (a b:ByteArray):ltB a b=true ↔ a.toList < b.toList:=by
 unfold ltB
 rw [bytesLess_eq]
 simp
theorem ltB_trans {a b c:ByteArray} (h1:ltB a b=true) (h2:ltB b c=true):ltB a c=true:=by
 rw [ltB_iff] at *
 exact List.lt_trans h1 h2
theorem bsGo_parts (p:Nat→Bool):∀ (g lo hi:Nat),lo≤hi→hi - lo≤g→(∀ a b,a≤b→b < hi→p b=true→p a=true)→(∀ j,j < lo→p j=true) →
  lo≤Lib.bsGo p g lo hi∧Lib.bsGo p g lo hi≤hi∧(∀ j,j < Lib.bsGo p g lo hi→p j=true)∧(∀ j,Lib.bsGo p g lo hi≤j→j < hi→p j=false):=by
 intro g
 induction g with
 | zero =>
  intro lo hi h1 h2 h3 h4
  have e:Lib.bsGo p 0 lo hi=lo:=by simp [Lib.bsGo]
  rw [e]
  exact ⟨Nat.le_refl _,h1,h4,fun j h5 h6=>by omega⟩
 | succ g ih =>
  intro lo hi h1 h2 h3 h4
  by_cases hlt:lo < hi
  ·simp only [Lib.bsGo,hlt,if_true]
   cases hp:p ((lo+hi) / 2)
   ·simp only [Bool.false_eq_true,if_false]
    obtain ⟨a,b,c,d⟩:=ih lo ((lo+hi) / 2) (by omega) (by omega) (fun x y h5 h6 h7=>h3 x y h5 (by omega) h7) h4
    refine ⟨a,by omega,c,fun j h5 h6=>?_⟩
    by_cases h7:j < (lo+hi) / 2
    ·exact d j h5 h7
    ·cases hq:p j
     ·rfl
     ·have:=h3 ((lo+hi) / 2) j (by omega) h6 hq
      rw [hp] at this
      cases this
   ·simp only [if_true]
    obtain ⟨a,b,c,d⟩:=ih ((lo+hi) / 2+1) hi (by omega) (by omega) h3 (fun j h5=>h3 j ((lo+hi) / 2) (by omega) (by omega) hp)
    exact ⟨by omega,b,c,d⟩
  ·have e:Lib.bsGo p (g+1) lo hi=lo:=by simp [Lib.bsGo,hlt]
   rw [e]
   exact ⟨Nat.le_refl _,h1,h4,fun j h5 h6=>by omega⟩
theorem ltB_irr (a:ByteArray):ltB a a=false:=by
 cases h:ltB a a
 ·rfl
 ·rw [ltB_iff] at h
  exact absurd h (List.lt_irrefl _)
def UpT (l:List ByteArray):Prop:=∀ i,0 < i→i < l.length→ltB (l.getD (i - 1) ⟨#[]⟩) (l.getD i ⟨#[]⟩)=true
theorem UpT.lt {l:List ByteArray} (h:UpT l) {a b:Nat} (hab:a < b) (hb:b < l.length):ltB (l.getD a ⟨#[]⟩) (l.getD b ⟨#[]⟩)=true:=by
 induction b with
 | zero=>exact absurd hab (Nat.not_lt_zero _)
 | succ b ih =>
  have h1:=h (b+1) (by omega) hb
  rw [Nat.add_sub_cancel] at h1
  by_cases e:a=b
  ·subst e;exact h1
  ·exact ltB_trans (ih (by omega) (by omega)) h1
theorem found_iff {l:List ByteArray} (h:UpT l) (x:ByteArray):(Lib.bsGo (fun t=>Op.bytesLess (l.getD t ⟨#[]⟩).toList x.toList) l.length 0 l.length < l.length∧l.getD (Lib.bsGo (fun t=>Op.bytesLess (l.getD t ⟨#[]⟩).toList x.toList) l.length 0 l.length) ⟨#[]⟩=x) ↔ ∃ k,k < l.length∧l.getD k ⟨#[]⟩=x:=by
 obtain ⟨_,h2,h3,h4⟩:=bsGo_parts (fun t=>Op.bytesLess (l.getD t ⟨#[]⟩).toList x.toList) l.length 0 l.length (Nat.zero_le _) (by omega)
  (fun a b hab hb hp=>by
   by_cases e:a=b
   ·subst e;exact hp
   ·exact ltB_trans (h.lt (by omega) hb) hp) (fun j hj=>absurd hj (Nat.not_lt_zero _))
 obtain ⟨q,hq⟩:∃ q,Lib.bsGo (fun t=>Op.bytesLess (l.getD t ⟨#[]⟩).toList x.toList) l.length 0 l.length=q:=⟨_,rfl⟩
 rw [hq] at h2 h3 h4 ⊢
 constructor
 ·rintro ⟨a,b⟩
  exact ⟨q,a,b⟩
 ·rintro ⟨k,hk,rfl⟩
  have hpk:Op.bytesLess (l.getD k ⟨#[]⟩).toList (l.getD k ⟨#[]⟩).toList=false:=ltB_irr _
  have h5:¬ k < q:=fun hl=>by
   have:=h3 k hl
   rw [hpk] at this
   cases this
  have h6:¬ q < k:=fun hl=>by
   have h7:=h4 q (Nat.le_refl _) (by omega)
   have h8:Op.bytesLess (l.getD q ⟨#[]⟩).toList (l.getD k ⟨#[]⟩).toList=true:=h.lt hl hk
   rw [h7] at h8
   cases h8
  obtain rfl:k=q:=by omega
  exact ⟨hk,rfl⟩
def JoOk (x:R.Mc):Prop:=x.args.length=x.codes.length∧TxOk 40 x.args∧JobOk ⟨#[]⟩ x.outs.length (fun i=>x.outs.getD i ⟨#[]⟩)∧(∀ i,i < x.files.length→∃ k,k < x.outs.length∧x.outs.getD k ⟨#[]⟩=(x.files.getD i R.fl0).name)∧(0≤x.looks∧x.looks≤100)∧x.fin=0∧x.text.size=0
theorem JobOk.up {a:ByteArray} {l:List ByteArray} (h:JobOk a l.length fun i=>l.getD i ⟨#[]⟩):UpT l:=fun i h0 hi=>(h.2.2 i hi).2 h0
theorem own_of {B:Nat} {W:World} {v:Value} {l:List ByteArray} (h:R.SStrR B W v l) (hl:l.length≤1048576):W.ownsRow B 9 1 v l.length (l.map fun x=>Value.string x):=by
 obtain ⟨g,rfl,hB,cur,h1,h2,h3⟩:=h
 refine ⟨by simp,.inr ⟨g,l.length,cur,rfl,hB,h1,Nat.le_refl _,by unfold maxLen;omega,by rw [h2],?_⟩⟩
 apply List.ext_getElem?
 intro i
 rw [Nat.mul_one]
 by_cases hi:i < l.length
 ·rw [List.getElem?_take_of_lt hi]
  have:=h3 i hi
  simp [hi,List.getD_eq_getElem?_getD] at this ⊢
  exact this
 ·rw [List.getElem?_eq_none (by simp;omega),List.getElem?_eq_none (by simp;omega)]
theorem texts_at {B:Nat} {W:World} {g n c:Nat} {l:List ByteArray} (h:R.SStrR B W (.slice (some ⟨g,0,none⟩) n c) l):TextsAt W g l.length (fun i=>l.getD i ⟨#[]⟩):=fun _ hi=>(tx_at h hi).2
end Go.Proofs.YtbkmglknbflkhaaGreatDoor.M
namespace Go.Proofs.YtbkmglknbflkhaaGreatDoor.C
open Go.RowKit
set_option maxRecDepth 20000
def MainEnd (fns:List Fn) (w:World) (e:Ending) (w':World):Prop:=∃ r:Int,e=.returned (.int .i64 r)∧((r=-1∧∀ j,j < fns.length→¬ isMain (fns.getD j fn0))∨∃ j:Nat,j < fns.length∧r=j∧isMain (fns.getD j fn0))∧Below w.heap.size w w'
set_option maxHeartbeats 4000000 in
theorem main_any {fns:List Fn} {w:World} {cv:Value} (h1:FnsRow w cv fns) (hl:fns.length≤60) :
  Calls Tryz.prog 55 #[.agg #[cv]] w (MainEnd fns w):=by
 have H1:=hid h1
 obtain ⟨aF,cF,rfl⟩:=h1.sl
 clear h1
 go_enter Tryz.func55,Tryz.ntmps55
 go_wp2_with fail
 have HLO:=hid ((Below.refl w.heap.size w).alloc (Nat.le_refl _) (.cells #[.slice aF fns.length cF] 59))
 have k0:=cx (heap_alloc_new w (.cells #[.slice aF fns.length cF] 59))
 obtain ⟨W1,hW1⟩:∃ W,w.alloc (.cells #[.slice aF fns.length cF] 59)=W:=⟨_,rfl⟩
 rw [hW1] at HLO k0 ⊢
 clear hW1
 go_loop [3] (fun i=>∃ j:Nat,j≤fns.length∧i=.int .i64 j∧∀ p,p < j→¬ isMain (fns.getD p fn0)) (fun i=>fns.length - (intOf i).toNat)
 case atStart=>exact ⟨0,Nat.zero_le _,rfl,fun p hp=>absurd hp (Nat.not_lt_zero _)⟩
 case round =>
  obtain ⟨j,hj,rfl,hall⟩:=hrel
  have HALL:=hid hall
  clear hall
  by_cases hlt:j < fns.length
  ·have hlti:(j:Int) < (fns.length:Int):=by omega
   obtain ⟨gF2,cF2,e9,_,pv,iv,n0,n1,n2,n3,n4,hpv,_⟩:=(H1.out.next HLO.out).at hlt
   injection e9 with ea en ec
   clear en
   subst ea ec
   obtain ⟨aP,cP,rfl⟩:=hpv.sl
   obtain ⟨f,hf⟩:∃ f,fns.getD j fn0=f:=⟨_,rfl⟩
   rw [hf] at n0 n1 n2 n3
   have HFE:=hid hf
   clear hf hpv
   have HNO:Hid (¬ isMain f→∀ p,p < j+1→¬ isMain (fns.getD p fn0)):=hid fun h p hp=>by
    by_cases e:p=j
    ·subst e;rw [HFE.out];exact h
    ·exact HALL.out p (by omega)
   by_cases hnm:f.name=⟨#[109,97,105,110]⟩
   ·have hnf:(f.name.toList == (⟨#[109,97,105,110]⟩:ByteArray).toList)=true:=str_eq.2 hnm
    have HNM:=hid hnm
    rw [hnm] at n0
    clear hnm hnf
    by_cases hp0:f.params.length=0
    ·have HP0:=hid hp0
     rw [hp0] at n1
     clear hp0
     by_cases hr:f.result=2
     ·rw [hr] at n2
      have HR:=hid hr
      clear hr
      go_wp2_with fail
      go_ret
      exact ⟨_,rfl,.inr ⟨j,hlt,rfl,by rw [HFE.out];exact ⟨HNM.out,HP0.out,HR.out⟩⟩,HLO.out⟩
     ·have HR:=hid hr
      have hrf:(f.result == 2)=false:=by simpa using hr
      clear hr
      go_wp2_with fail
      go_round
      case rel=>exact ⟨j+1,by omega,by go_num,HNO.out fun h=>HR.out h.2.2⟩
      case measure=>simp [intOf];omega
    ·have HP0:=hid hp0
     have hpf:((f.params.length:Int) == 0)=false:=by simp;intro h;rw [h] at hp0;exact hp0 rfl
     clear hp0
     go_wp2_with fail
     go_round
     case rel=>exact ⟨j+1,by omega,by go_num,HNO.out fun h=>HP0.out h.2.1⟩
     case measure=>simp [intOf];omega
   ·have HNM:=hid hnm
    have hnf:¬ f.name.toList=[109,97,105,110]:=fun h=>hnm (str_eq.1 (by rw [beq_iff_eq,h,Lib.toList_data]))
    clear hnm
    go_wp2_with fail
    go_round
    case rel=>exact ⟨j+1,by omega,by go_num,HNO.out fun h=>HNM.out h.1⟩
    case measure=>simp [intOf];omega
  ·obtain rfl:j=fns.length:=by omega
   have hge:¬ ((fns.length:Int) < (fns.length:Int)):=by omega
   go_wp2
   go_ret
   exact ⟨_,rfl,.inl ⟨rfl,HALL.out⟩,HLO.out⟩
def eqLB (k k':Int) (t t' u u':ByteArray):Bool:=k == k' && t.toList == t'.toList && u.toList == u'.toList
theorem eqL (k k':Int) (t t' u u':ByteArray) (w:World):(Op.equalIn 10000 101 (.agg #[.int .i64 k,.string t,.string u]) (.agg #[.int .i64 k',.string t',.string u'])).run Tryz.prog w=.ok (eqLB k k' t t' u u') w:=by
 have u3:=Tryz.underlying3
 have u9:=Tryz.underlying9
 have hS:Tryz.prog.underlying 101=some (.struct (Tryz.prog.fieldsOf 101)):=by kernel_rfl
 have hp:Tryz.prog.stoodInHeld 101=false:=by kernel_rfl
 rw [show (10000:Nat)=9999+1 from rfl,run_equalIn_agg w 9999 101 _ _ hS hp]
 simp only [Program.fieldsOf,Tryz.underlying101]
 go_simp
 unfold eqLB
 by_cases h1:k=k' <;> by_cases h2:t.toList=t'.toList <;> by_cases h3:u.toList=u'.toList <;> simp [h1,h2,h3]
theorem eqLBin (k k':Int) (t t' u u':ByteArray) (w:World):(binOp .eql 101 (.agg #[.int .i64 k,.string t,.string u]) (.agg #[.int .i64 k',.string t',.string u'])).run Tryz.prog w=.ok (.bool (eqLB k k' t t' u u')) w:=by
 rw [run_eql_struct,eqL];rfl
theorem eqLB_sh {S:Nat} {a b:Sh} (ha:OkSh S a) (hb:OkSh S b):eqLB (a.st:Nat) (b.st:Nat) (kt a.sl) (kt b.sl) (kt a.sk) (kt b.sk)=decide (a=b):=by
 rw [Bool.eq_iff_iff,decide_eq_true_iff,← lv_inj ha hb]
 unfold eqLB
 rw [Bool.and_eq_true,Bool.and_eq_true,str_eq2,str_eq2,beq_iff_eq]
 constructor
 ·rintro ⟨⟨h1,h2⟩,h3⟩;exact ⟨by omega,h2,h3⟩
 ·rintro ⟨h1,h2,h3⟩;exact ⟨⟨by omega,h2⟩,h3⟩
theorem desc_get {wk:List Nat} (h:wk.Pairwise (· > ·)) {p q:Nat} (hp:p < q) (hq:q < wk.length):wk.getD q 0 < wk.getD p 0:=by
 have h2:=List.pairwise_iff_getElem.1 h p q (by omega) hq hp
 simpa [List.getD_eq_getElem?_getD,hq,show p < wk.length by omega] using h2
theorem nums_getD (wk:List Nat) {q:Nat} (h:q < wk.length):(nums wk).getD q 0=(wk.getD q 0:Int):=by
 unfold nums
 rw [List.getD_eq_getElem?_getD,List.getElem?_map,List.getElem?_eq_getElem h,List.getD_eq_getElem?_getD,List.getElem?_eq_getElem h]
 rfl
theorem wk_lt {wk:List Nat} {n q:Nat} (h:∀ x ∈ wk,x < n) (hq:q < wk.length):wk.getD q 0 < n:=by
 rw [List.getD_eq_getElem?_getD,List.getElem?_eq_getElem hq]
 exact h _ (List.getElem_mem hq)
theorem filt_split {wk:List Nat} {i g:Nat} (h1:∀ q,q < i→g < wk.getD q 0) (h2:∀ q,i≤q→q < wk.length→wk.getD q 0≤g) (hi:i≤wk.length):wk.filter (fun q=>decide (g < q))=wk.take i∧wk.filter (fun q=>decide (q < g))=(wk.drop i).filter (fun q=>decide (q < g)):=by
 have ha:∀ x ∈ wk.take i,g < x:=fun x hx=>by
  obtain ⟨q,hq,e⟩:=List.getElem_of_mem hx
  have hq2:q < i:=by rw [List.length_take] at hq;omega
  have:=h1 q hq2
  rw [List.getElem_take] at e
  have hql:q < wk.length:=by omega
  simpa [List.getD_eq_getElem?_getD,hql,e] using this
 have hb:∀ x ∈ wk.drop i,x≤g:=fun x hx=>by
  obtain ⟨q,hq,e⟩:=List.getElem_of_mem hx
  rw [List.length_drop] at hq
  rw [List.getElem_drop] at e
  have:=h2 (i+q) (by omega) (by omega)
  have hql:i+q < wk.length:=by omega
  simpa [List.getD_eq_getElem?_getD,hql,e] using this
 constructor
 ·conv=>lhs;rw [← List.take_append_drop i wk]
  rw [List.filter_append,List.filter_eq_self.2 (fun x hx=>by simpa using ha x hx),List.filter_eq_nil_iff.2 (fun x hx=>by have:=hb x hx;simp;omega),List.append_nil]
 ·conv=>lhs;rw [← List.take_append_drop i wk]
  rw [List.filter_append,List.filter_eq_nil_iff.2 (fun x hx=>by have:=ha x hx;simp;omega),List.nil_append]
theorem drop_desc {wk:List Nat} (h:wk.Pairwise (· > ·)) {i g:Nat} (hi:i < wk.length) (hg:wk.getD i 0=g):wk.drop i=g :: wk.drop (i+1)∧(wk.drop i).filter (fun q=>decide (q < g))=wk.drop (i+1):=by
 have e1:wk.drop i=g :: wk.drop (i+1):=by
  rw [List.drop_eq_getElem_cons hi]
  congr 1
  simpa [List.getD_eq_getElem?_getD,hi] using hg
 refine ⟨e1,?_⟩
 rw [e1,List.filter_cons]
 simp only [Nat.lt_irrefl,decide_false,Bool.false_eq_true,if_false]
 refine List.filter_eq_self.2 fun x hx=>?_
 obtain ⟨q,hq,e⟩:=List.getElem_of_mem hx
 rw [List.length_drop] at hq
 rw [List.getElem_drop] at e
 have:=desc_get h (p:=i) (q:=i+1+q) (by omega) (by omega)
 rw [hg] at this
 have hql:i+1+q < wk.length:=by omega
 simpa [List.getD_eq_getElem?_getD,hql,e] using this
theorem ins1_in {wk:List Nat} (h:wk.Pairwise (· > ·)) {i g:Nat} (h1:∀ q,q < i→g < wk.getD q 0) (h2:∀ q,i≤q→q < wk.length→wk.getD q 0≤g) (hi:i < wk.length) (hg:wk.getD i 0=g):ins1 wk g=wk:=by
 obtain ⟨e1,e2⟩:=filt_split h1 h2 (by omega)
 obtain ⟨d1,d2⟩:=drop_desc h hi hg
 unfold ins1
 rw [e1,e2,d2,← d1,List.take_append_drop]
theorem ins1_new {wk:List Nat} (h:wk.Pairwise (· > ·)) {i g:Nat} (h1:∀ q,q < i→g < wk.getD q 0) (h2:∀ q,i≤q→q < wk.length→wk.getD q 0≤g) (hi:i≤wk.length) (hn:¬ (i < wk.length∧wk.getD i 0=g)):nums (ins1 wk g)=insAt (nums wk) i g:=by
 obtain ⟨e1,e2⟩:=filt_split h1 h2 hi
 have e3:(wk.drop i).filter (fun q=>decide (q < g))=wk.drop i:=List.filter_eq_self.2 fun x hx=>by
  obtain ⟨q,hq,e⟩:=List.getElem_of_mem hx
  rw [List.length_drop] at hq
  rw [List.getElem_drop] at e
  have hql:i+q < wk.length:=by omega
  have hx2:wk.getD (i+q) 0=x:=by simpa [List.getD_eq_getElem?_getD,hql] using e
  have a1:=h2 (i+q) (by omega) hql
  have a2:=h2 i (Nat.le_refl _) (by omega)
  have a3:¬ wk.getD i 0=g:=fun e=>hn ⟨by omega,e⟩
  by_cases hq0:q=0
  ·subst hq0
   rw [Nat.add_zero] at hx2
   rw [decide_eq_true_iff]
   omega
  ·have:=desc_get h (p:=i) (q:=i+q) (by omega) hql
   rw [decide_eq_true_iff]
   omega
 unfold ins1 insAt nums
 rw [e1,e2,e3]
 simp [List.map_take,List.map_drop]
structure SP (fns:List Fn) (f:Fn) (w:World) (b gL:Nat) (cv pv iv:Value) (A:Nat→Sh) (wk:List Nat) (wv:Value) (W:World):Prop where
 lo:Below w.heap.size w W
 e:W.heap[b]?=some (.cells #[cv,.string f.name,pv,.int .i64 f.result,.int .i64 f.slots,iv,.slice (some ⟨gL,0,none⟩) f.ins.length f.ins.length,wv] 177)
 ly:LyRow W gL f.ins.length A
 own:W.ownsRow w.heap.size 3 1 wv wk.length ((nums wk).map fun x=>Value.int .i64 x)
 nb:w.heap.size≤b
 ng:w.heap.size≤gL
 ne:¬ b=gL
theorem SP.next {fns:List Fn} {f:Fn} {w:World} {b gL:Nat} {cv pv iv:Value} {A:Nat→Sh} {wk:List Nat} {wv:Value} {W V:World} (h:SP fns f w b gL cv pv iv A wk wv W) (hb:Below W.heap.size W V):SP fns f w b gL cv pv iv A wk wv V :=
 ⟨h.lo.trans (hb.mono h.lo.size),hp_next h.e hb,h.ly.next hb,own_next h.own hb,h.nb,h.ng,h.ne⟩
structure SG (fns:List Fn) (f:Fn) (w:World) (cv pv iv:Value):Prop where
 fr:FnsRow w cv fns
 pr:IntRow w pv f.params
 ir:InsRow w iv f.ins
 en:EnvI w
theorem SP.ms {fns:List Fn} {f:Fn} {w:World} {b gL:Nat} {cv pv iv:Value} {A:Nat→Sh} {wk:List Nat} {wv:Value} {W:World} (h:SP fns f w b gL cv pv iv A wk wv W) (g:SG fns f w cv pv iv):MS fns f b cv pv iv (.slice (some ⟨gL,0,none⟩) f.ins.length f.ins.length) wv W:=⟨h.e,g.fr.next h.lo,g.pr.next h.lo,g.ir.next h.lo⟩
theorem SP.put {fns:List Fn} {f:Fn} {w:World} {b gL:Nat} {cv pv iv:Value} {A:Nat→Sh} {wk:List Nat} {wv:Value} {W:World} (h:SP fns f w b gL cv pv iv A wk wv W) {i:Nat} (hi:i < f.ins.length) (s:Sh):SP fns f w b gL cv pv iv (upd A i s) wk wv (((W.setCell ⟨gL,i * 3,none⟩ (.int .i64 (s.st:Nat))).setCell ⟨gL,i * 3+1,none⟩ (.string (kt s.sl))).setCell ⟨gL,i * 3+2,none⟩ (.string (kt s.sk))):=by
 have hng:=h.ng
 refine ⟨set_lo (set_lo (set_lo h.lo _ _ hng _) _ _ hng _) _ _ hng _,by rw [set3_other h.ne];exact h.e,h.ly.set hi s,?_,h.nb,h.ng,h.ne⟩
 obtain ⟨h1,h2 | ⟨k,cap,cur,e,hb,hc,r⟩⟩:=h.own
 ·exact ⟨h1,.inl h2⟩
 ·refine ⟨h1,.inr ⟨k,cap,cur,e,hb,?_,r⟩⟩
  rw [set3_other (fun ek=>by
   obtain ⟨cu,e2,_⟩:=h.ly
   rw [ek,e2] at hc
   simp at hc)]
  exact hc
theorem SP.work {fns:List Fn} {f:Fn} {w:World} {b gL:Nat} {cv pv iv:Value} {A:Nat→Sh} {wk wk':List Nat} {wv wv':Value} {W V:World} (h:SP fns f w b gL cv pv iv A wk wv W) (hg:W.grownBy V wv.ownBlock) (ho:V.ownsRow w.heap.size 3 1 wv' wk'.length ((nums wk').map fun x=>Value.int .i64 x)):SP fns f w b gL cv pv iv A wk' wv' (V.setCell ⟨b,7,none⟩ wv'):=by
 have hnb:=h.nb
 have kb:V.heap[b]?=W.heap[b]?:=hg.block b (lt_hp h.e) (own_neS h.own (by decide) h.e)
 have kg:V.heap[gL]?=W.heap[gL]?:=by
  obtain ⟨cu,e2,_⟩:=h.ly
  exact hg.block gL h.ly.lt (own_neS h.own (by decide) e2)
 have hlo:Below w.heap.size w V:=⟨hg.os.trans h.lo.os,hg.tape.trans h.lo.tape,hg.output.trans h.lo.output,Nat.le_trans h.lo.size hg.size,fun i hi=>(hg.block i (Nat.lt_of_lt_of_le hi h.lo.size) (own_ne h.own hi)).trans (h.lo.block i hi)⟩
 refine ⟨set_lo hlo _ _ hnb _,?_,h.ly.keep (by rw [set_other _ _ _ _ _ (fun e=>h.ne e.symm)];exact kg),?_,h.nb,h.ng,h.ne⟩
 ·have e:=kb.trans h.e
  unfold World.setCell
  simp only [Array.getElem?_modify,e]
  simp
 ·obtain ⟨h1,h2 | ⟨k,cap,cur,e,hb,hc,r⟩⟩:=ho
  ·exact ⟨h1,.inl h2⟩
  ·refine ⟨h1,.inr ⟨k,cap,cur,e,hb,?_,r⟩⟩
   rw [set_other _ _ _ _ _ (fun ek=>by
    rw [ek,kb,h.e] at hc
    simp at hc)]
   exact hc
theorem SP.box3 {fns:List Fn} {f:Fn} {w:World} {b gL:Nat} {cv pv iv:Value} {A:Nat→Sh} {wk:List Nat} {wv:Value} {W:World} (h:SP fns f w b gL cv pv iv A wk wv W) {g:Nat} {st:Int} {x y:ByteArray} (e:W.heap[g]?=some (lbox st x y)) (hg:w.heap.size≤g) (hne:¬ gL=g) (p q r:Value):SP fns f w b gL cv pv iv A wk wv (((W.setCell ⟨g,0,none⟩ p).setCell ⟨g,1,none⟩ q).setCell ⟨g,2,none⟩ r):=by
 have hb:¬ b=g:=fun eb=>by
  have h9:=h.e
  rw [eb,e] at h9
  simp [lbox] at h9
 refine ⟨set_lo (set_lo (set_lo h.lo _ _ hg _) _ _ hg _) _ _ hg _,by rw [set3_other hb];exact h.e,h.ly.keep (set3_other hne _ _ _ _ _ _),?_,h.nb,h.ng,h.ne⟩
 obtain ⟨h1,h2 | ⟨k,cap,cur,ev,hbb,hc,r9⟩⟩:=h.own
 ·exact ⟨h1,.inl h2⟩
 ·refine ⟨h1,.inr ⟨k,cap,cur,ev,hbb,?_,r9⟩⟩
  rw [set3_other (fun ek=>by
   rw [ek,e] at hc
   simp [lbox] at hc)]
  exact hc
structure CK (b gL:Nat) (ob:Option Nat) (W V:World):Prop where
 size:W.heap.size≤V.heap.size
 block:∀ k,k < W.heap.size→¬ k=b→¬ k=gL→some k≠ob→V.heap[k]?=W.heap[k]?
theorem CK.of_below {b gL:Nat} {ob:Option Nat} {W V:World} (h:Below W.heap.size W V):CK b gL ob W V:=⟨h.size,fun k hk _ _ _=>h.block k hk⟩
theorem CK.trans {b gL:Nat} {ob:Option Nat} {U V W:World} (h:CK b gL ob U V) (k:CK b gL ob V W):CK b gL ob U W:=⟨Nat.le_trans h.size k.size,fun q hq h1 h2 h3=>(k.block q (Nat.lt_of_lt_of_le hq h.size) h1 h2 h3).trans (h.block q hq h1 h2 h3)⟩
theorem CK.of_grown {b gL:Nat} {ob:Option Nat} {W V:World} (h:W.grownBy V ob):CK b gL ob W V:=⟨h.size,fun k hk _ _ h3=>h.block k hk h3⟩
theorem CK.set_b {b gL:Nat} {ob:Option Nat} (W:World) (j:Nat) (v:Value):CK b gL ob W (W.setCell ⟨b,j,none⟩ v):=⟨by rw [set_size];exact Nat.le_refl _,fun k _ h1 _ _=>set_other _ _ _ _ _ h1⟩
theorem CK.set_g {b gL:Nat} {ob:Option Nat} (W:World) (j:Nat) (v:Value):CK b gL ob W (W.setCell ⟨gL,j,none⟩ v):=⟨by rw [set_size];exact Nat.le_refl _,fun k _ _ h2 _=>set_other _ _ _ _ _ h2⟩
def OwnLater (W:World) (wv wv':Value):Prop:=wv'.ownBlock=wv.ownBlock∨∃ k,wv'.ownBlock=some k∧W.heap.size≤k
end Go.Proofs.YtbkmglknbflkhaaGreatDoor.C
