import Derived.OwnWalk
import Derived.Laws.Bits64
import Derived.Test.YthnohneaanphbaaGreatDoorJ04
import Derived.Test.YthnohneaanphbaaGreatDoorJ05
namespace Go.Proofs.YthnohneaanphbaaGreatDoor
open Go.RowKit
set_option maxRecDepth 20000
set_option maxHeartbeats 4000000 in
theorem KO_B (kind:Int) (hkind:kind=2∨kind=3∨kind=4∨kind=5∨kind=7∨kind=8):KO kind:=by
 intro b N cap g o m c nd ks w hm hb hg hn hk
 have HN:=hid hn
 have HK:=hid hk
 clear hn hk
 go_enter Tryz.func49,Tryz.ntmps49
 go_wp2
 go_loopw [8,10] (fun es i wr=>∃ j e:Nat,j≤m∧e≤j∧i=.int .i64 j∧es=.int .i64 e∧(e=j ↔ AllE j (fun i=>nd (ks i)))∧Below (w.heap.size+1) (w.alloc (.cells #[.slice (some ⟨b,0,none⟩) N cap] 25)) wr) (fun _ i _=>m - (intOf i).toNat)
 case atStart=>exact ⟨0,0,Nat.zero_le _,Nat.zero_le _,rfl,rfl,⟨fun _ i h=>absurd h (Nat.not_lt_zero _),fun _=>rfl⟩,Below.refl _ _⟩
 case round =>
  obtain ⟨j,e,hj,he,rfl,rfl,hall,hbw⟩:=hrel
  have HALL:=hid hall
  have HBW:=hid hbw
  clear hall hbw
  by_cases hlt:j < m
  ·have t0:=tree_cell HBW.out
   obtain ⟨a0,a1⟩:=(HK.out.below (btree HBW.out) hg) j hlt
   obtain ⟨a2,_⟩:=(HN.out.below (btree HBW.out) hb) (ks j) a1
   have HS:=hid (AllE_step HALL.out he)
   cases hE:isE (nd (ks j)).kind
   ·have NX:=hid (HS.out.2 hE)
    clear HS
    go_wp2
    go_region_with (go_at_call 75;refine (l2E_any _ _).mono ?_;rintro e w' ⟨rfl,hw⟩;have hw2:=hw.symm;clear hw;subst hw2)
    all_goals go_wp2
    all_goals
     go_roundw
     case rel=>exact ⟨j+1,e,by omega,by omega,by go_num,rfl,NX.out,HBW.out.drew⟩
     case measure=>simp [intOf];omega
   ·have NX:=hid (HS.out.1 hE)
    clear HS
    go_wp2
    go_region_with (go_at_call 75;refine (l2E_any _ _).mono ?_;rintro e w' ⟨rfl,hw⟩;have hw2:=hw.symm;clear hw;subst hw2)
    all_goals go_wp2
    all_goals
     go_roundw
     case rel=>exact ⟨j+1,e+1,by omega,by omega,by go_num,by go_num,NX.out,HBW.out.drew⟩
     case measure=>simp [intOf];omega
  ·obtain rfl:j=m:=by omega
   rcases hkind with rfl | rfl | rfl | rfl | rfl | rfl
   all_goals go_wp2
   all_goals go_ret
   all_goals refine ⟨⟨_,rfl,?_⟩,btree HBW.out⟩
   all_goals simp [KidsOk,← HALL.out, *]
   all_goals omega
theorem cell_hp {W:World} {k:Nat} {cs:Array Value} {t:TypeId} (h:W.heap[k]?=some (.cells cs t (0,0))) (i:Nat):W.cell? ⟨k,i,none⟩=cs[i]?:=by unfold World.cell?;rw [h];rfl
theorem frozen_hp {W:World} {k:Nat} {cs:Array Value} {t:TypeId} (h:W.heap[k]?=some (.cells cs t (0,0))) (i:Nat):W.frozen? ⟨k,i,none⟩=false:=by unfold World.frozen?;rw [h];simp
theorem add_block (a:Addr) (n:Nat):(a.add n).block=a.block:=by unfold Addr.add;split <;> rfl
theorem set_at {W:World} {g i:Nat} {cur:Array Value} {t:TypeId} (v:Value) (h:W.heap[g]?=some (.cells cur t (0,0))):(W.setCell ⟨g,i,none⟩ v).heap[g]?=some (.cells (cur.setIfInBounds i v) t (0,0)):=by
 unfold World.setCell
 simp only [Array.getElem?_modify,h]
 simp
def CodeIn (R:Nat) (w:World) (ad:Option Addr) (n:Nat):Prop:=n=0∨∃ a:Addr,ad=some a∧a.block < R∧∀ i,i < n→∃ x:UInt8,w.cell? (a.add i)=some (.int .u8 x.toNat)
def Rd (R:Nat) (w:World) (p:Nat):Prop:=∃ ad n cap,w.heap[R]?=some (.cells #[.slice ad n cap,.int .i64 p] 65 (0,0))∧n≤2000∧CodeIn R w ad n
theorem Rd.lt {R:Nat} {w:World} {p:Nat} (h:Rd R w p):R < w.heap.size:=by obtain ⟨_,_,_,h,_⟩:=h;exact (Array.getElem?_eq_some_iff.1 h).1
theorem CodeIn.sv {S:Nat→Prop} {R:Nat} {w w':World} {ad:Option Addr} {n:Nat} (h:CodeIn R w ad n) (hs:Sv S w w') (hS:∀ k,S k→R≤k):CodeIn R w' ad n:=by
 rcases h with h | ⟨a,e,h2,h3⟩
 ·exact .inl h
 ·refine .inr ⟨a,e,h2,fun i hi=>?_⟩
  obtain ⟨x,hx⟩:=h3 i hi
  exact ⟨x,(hs.cell (p:=a.add i) (World.block_lt_of_cell? w _ hx) (by rw [add_block];exact fun h=>by have:=hS _ h;omega)).trans hx⟩
theorem Rd.next {R:Nat} {w w':World} {p:Nat} (h:Rd R w p) (hb:Below w.heap.size w w'):Rd R w' p:=by
 have hl:=h.lt
 obtain ⟨ad,n,cap,h1,h2,h3⟩:=h
 exact ⟨ad,n,cap,(hb.block R hl).trans h1,h2,h3.sv (Sv.of_below (S:=fun _=>False) hb) (fun _ h=>h.elim)⟩
theorem Rd.sv {S:Nat→Prop} {R:Nat} {w w':World} {p:Nat} (h:Rd R w p) (hs:Sv S w w') (hS:∀ k,S k→R < k):Rd R w' p:=by
 have hl:=h.lt
 obtain ⟨ad,n,cap,h1,h2,h3⟩:=h
 exact ⟨ad,n,cap,(hs.block R hl (fun h=>by have:=hS R h;omega)).trans h1,h2,h3.sv hs (fun k h=>Nat.le_of_lt (hS k h))⟩
def Drew (R c p:Nat) (w w':World):Prop:=∃ p',p≤p'∧p'≤p+c∧Rd R w' p'∧Sv (fun k=>k=R) w w'
theorem Drew.trans {R c c' p p1:Nat} {w w1 w2:World} (hs:Sv (fun k=>k=R) w w1) (hp:p≤p1) (hp':p1≤p+c) (h:Drew R c' p1 w1 w2):Drew R (c+c') p w w2:=by
 obtain ⟨p2,h1,h2,h3,h4⟩:=h
 exact ⟨p2,by omega,by omega,h3,hs.trans h4⟩
theorem Sv.drewN {S:Nat→Prop} {a w:World} (h:Sv S a w) (n:Nat):Sv S a (w.drewN n):=by
 induction n with
 | zero=>exact h
 | succ n ih=>exact ih.drew
theorem bits_xor_i64_nat (a b:Nat) (ha:a < 4611686018427387904) (hb:b < 4611686018427387904):bits .xor .i64 (a:Int) (b:Int)=((a ^^^ b:Nat):Int)∧a ^^^ b < 4611686018427387904:=by
 have hx:a ^^^ b < 2 ^ 62:=Nat.xor_lt_two_pow (by omega) (by omega)
 have h1:(BitVec.ofInt 64 (a:Int)).toNat=a:=by
  rw [BitVec.ofInt_natCast,BitVec.toNat_ofNat];exact Nat.mod_eq_of_lt (by omega)
 have h2:(BitVec.ofInt 64 (b:Int)).toNat=b:=by
  rw [BitVec.ofInt_natCast,BitVec.toNat_ofNat];exact Nat.mod_eq_of_lt (by omega)
 refine ⟨?_,by omega⟩
 show IntKind.i64.wrap ((BitVec.ofInt 64 (a:Int) ^^^ BitVec.ofInt 64 (b:Int)).toNat:Int)=_
 rw [BitVec.toNat_xor,h1,h2,IntKind.wrap_i64]
 omega
set_option maxHeartbeats 2000000 in
theorem pick_any (R p:Nat) (n:Int) (w:World) (hp:p≤1000000000) (hn:n≤1000000000) (hr:Rd R w p) :
  Calls Tryz.prog 14 #[.pointer (some ⟨R,0,none⟩),.int .i64 n] w fun e w'=>(∃ x:Nat,e=.returned (.int .i64 x)∧(x=0∨(x:Int) < n))∧Rd R w' (p+1)∧Sv (fun k=>k=R) w w':=by
 obtain ⟨ad,m,cap,hh,hm,hc⟩:=hr
 have HC:=hid hc
 have HH:=hid hh
 have x0:w.cell? ⟨R,0,none⟩=some (.slice ad m cap):=cell_hp hh 0
 have x1:w.cell? ⟨R,1,none⟩=some (.int .i64 p):=cell_hp hh 1
 have y1:w.frozen? ⟨R,1,none⟩=false:=frozen_hp hh 1
 have hS:=hid (Sv.setCell (S:=fun k=>k=R) (Sv.refl _ w) (p:=⟨R,1,none⟩) (.inl rfl) (.int .i64 ((p:Int)+1)))
 have HR:Hid (Rd R (w.setCell ⟨R,1,none⟩ (.int .i64 ((p:Int)+1))) (p+1)):=by
  refine ⟨ad,m,cap,?_,hm,hc.sv hS.out (fun _ h=>by omega)⟩
  have:=set_at (i:=1) (.int .i64 ((p:Int)+1)) hh
  simpa using this
 clear hc hh
 by_cases h1:n < 1
 ·go_enter Tryz.func14,Tryz.ntmps14
  go_wp2
  go_ret
  exact ⟨⟨0,rfl,.inl rfl⟩,HR.out,hS.out⟩
 ·by_cases h0:m=0
  ·subst h0
   go_enter Tryz.func14,Tryz.ntmps14
   go_wp2
   go_ret
   exact ⟨⟨0,rfl,.inl rfl⟩,HR.out,hS.out⟩
  ·have hm0:¬ ((m:Int)=0):=by omega
   by_cases hk:p < m
   ·obtain ⟨a,rfl,haR,hb⟩:=HC.out.resolve_left h0
    obtain ⟨x,hx⟩:=hb p hk
    have hx2:=(hS.out.cell (p:=a.add p) (World.block_lt_of_cell? w _ hx) (by rw [add_block];omega)).trans hx
    have hxb:=byte_bd x
    have hx3:w.cell? (a.add p)=some (.int .u8 x.toNat):=hx
    go_enter Tryz.func14,Tryz.ntmps14
    go_wp2
    go_ret
    have hn0:0 < n:=by omega
    have h2:=Int.emod_nonneg (x.toNat:Int) (by omega:n≠0)
    have h3:=Int.emod_lt_of_pos (x.toNat:Int) hn0
    exact ⟨⟨((x.toNat:Int) % n).toNat,ret_int (by omega),.inr (by omega)⟩,HR.out,hS.out⟩
   ·obtain ⟨a,rfl,haR,hb⟩:=HC.out.resolve_left h0
    have hm1:0 < m:=by omega
    obtain ⟨i1,hi1⟩:∃ i1:Nat,p % m=i1:=⟨_,rfl⟩
    obtain ⟨i2,hi2⟩:∃ i2:Nat,(p * 7+3) % m=i2:=⟨_,rfl⟩
    have l1:i1 < m:=by rw [← hi1];exact Nat.mod_lt _ hm1
    have l2:i2 < m:=by rw [← hi2];exact Nat.mod_lt _ hm1
    have e1:(p:Int) % (m:Int)=(i1:Int):=by rw [← hi1];simp
    have e2:((p:Int) * 7+3) % (m:Int)=(i2:Int):=by rw [← hi2];simp
    obtain ⟨x,hx⟩:=hb i1 l1
    obtain ⟨y,hy⟩:=hb i2 l2
    have hx2:=(hS.out.cell (p:=a.add i1) (World.block_lt_of_cell? w _ hx) (by rw [add_block];omega)).trans hx
    have hy2:=(hS.out.cell (p:=a.add i2) (World.block_lt_of_cell? w _ hy) (by rw [add_block];omega)).trans hy
    have hxb:=byte_bd x
    have hyb:=byte_bd y
    obtain ⟨d,hd⟩:∃ d:Nat,p / m=d:=⟨_,rfl⟩
    have ed:(p:Int) / (m:Int)=(d:Int):=by rw [← hd];simp
    have hdb:d≤1000000000:=by rw [← hd];exact Nat.le_trans (Nat.div_le_self _ _) hp
    have x0':(w.setCell ⟨R,1,none⟩ (.int .i64 ((p:Int)+1))).cell? ⟨R,0,none⟩=some (.slice (some a) m cap):=by
     have:=set_at (i:=1) (.int .i64 ((p:Int)+1)) HH.out
     exact (cell_hp this 0).trans rfl
    clear hi1 hi2 hd hb hx hy
    go_enter Tryz.func14,Tryz.ntmps14
    go_wp2_with fail
    go_quiet (fail)
    obtain ⟨z,hz,hz2⟩:∃ z:Nat,(x.toNat:Int) * 131+(y.toNat:Int) * 1117+(p:Int) * 29+(d:Int) * 53=(z:Int)∧z≤1000000000000:=⟨x.toNat * 131+y.toNat * 1117+p * 29+d * 53,by omega,by omega⟩
    rw [hz]
    obtain ⟨u,hu,hu2⟩:∃ u:Nat,(z:Int) / 64=(u:Int)∧u≤1000000000000:=⟨z / 64,by omega,by omega⟩
    obtain ⟨q,hq,hq2⟩:∃ q:Nat,bits .xor .i64 (z:Int) (u:Int)=(q:Int)∧q < 4611686018427387904:=⟨z ^^^ u,bits_xor_i64_nat z u (by omega) (by omega)⟩
    clear hz e1 e2 ed
    go_wp2
    go_ret
    have hn0:0 < n:=by omega
    have h2:=Int.emod_nonneg (q:Int) (by omega:n≠0)
    have h3:=Int.emod_lt_of_pos (q:Int) hn0
    exact ⟨⟨((q:Int) % n).toNat,ret_int (by omega),.inr (by omega)⟩,HR.out.sv (S:=fun _=>False) (by exact Sv.drewN (Sv.refl _ _) nq) (fun _ h=>h.elim),hS.out.drewN nq⟩
theorem Drew.one {R p:Nat} {w w':World} (h:Rd R w' (p+1)) (hs:Sv (fun k=>k=R) w w'):Drew R 1 p w w':=⟨p+1,by omega,by omega,h,hs⟩
theorem Drew.mono {R c c' p:Nat} {w w':World} (h:Drew R c p w w') (hc:c≤c'):Drew R c' p w w':=by
 obtain ⟨p',h1,h2,h3⟩:=h
 exact ⟨p',h1,by omega,h3⟩
set_option maxHeartbeats 2000000 in
theorem l1DrawText_any (R p:Nat) (w:World) (hp:p≤900000000) (hr:Rd R w p) :
  Calls Tryz.prog 120 #[.pointer (some ⟨R,0,none⟩)] w fun e w'=>(∃ t:ByteArray,e=.returned (.string t)∧t.size≤10)∧Drew R 10 p w w':=by
 have HR:=hid hr
 clear hr
 go_enter Tryz.func120,Tryz.ntmps120
 go_wp2_with fail
 refine (pick_any R p 10 _ (by omega) (by omega) HR.out).mono ?_
 rintro e w1 ⟨⟨x,rfl,hx⟩,hr1,hs1⟩
 have HR1:=hid hr1
 have HS1:=hid hs1
 have HD1:=hid (Drew.mono (Drew.one hr1 hs1) (show 1≤10 by omega))
 clear hr1 hs1
 go_wp2_with fail
 ·go_ret
  exact ⟨⟨_,rfl,by decide⟩,HD1.out⟩
 ·go_ret
  exact ⟨⟨_,rfl,by decide⟩,HD1.out⟩
 ·go_ret
  exact ⟨⟨_,rfl,by decide⟩,HD1.out⟩
 ·go_ret
  exact ⟨⟨_,rfl,by decide⟩,HD1.out⟩
 ·go_ret
  exact ⟨⟨_,rfl,by decide⟩,HD1.out⟩
 ·refine (pick_any R (p+1) 4 _ (by omega) (by omega) HR1.out).mono ?_
  rintro e w2 ⟨⟨y,rfl,hy⟩,hr2,hs2⟩
  have HR2:=hid hr2
  have HS2:=hid (HS1.out.trans hs2)
  clear hr2 hs2
  have hy3:y≤3:=by omega
  go_wp2_with fail
  go_loopw [3,4] (fun a b wr=>∃ (o:ByteArray) (k:Int) (q:Nat),a=.string o∧b=.int .i64 k∧-1≤k∧k≤3∧(o.size:Int)+k≤3∧p≤q∧(q:Int)+k≤p+5∧Rd R wr q∧Sv (fun k=>k=R) w wr) (fun _ b _=>(intOf b+1).toNat)
  case atStart=>exact ⟨⟨#[]⟩,y,p+1+1,rfl,rfl,by omega,by omega,by show ((0:Nat):Int)+y≤3;omega,by omega,by omega,HR2.out,HS2.out⟩
  case round =>
   obtain ⟨o,k,q,rfl,rfl,k1,k2,k3,q1,q2,hrq,hsq⟩:=hrel
   have HRQ:=hid hrq
   have HSQ:=hid hsq
   clear hrq hsq
   by_cases hk:0≤k
   ·go_wp2_with fail
    refine (pick_any R q 4 _ (by omega) (by omega) HRQ.out).mono ?_
    rintro e w3 ⟨⟨z,rfl,hz⟩,hr3,hs3⟩
    have HR3:=hid hr3
    have HS3:=hid (HSQ.out.trans hs3)
    clear hr3 hs3
    obtain rfl | rfl | rfl | rfl:z=0∨z=1∨z=2∨z=3:=by omega
    all_goals
     go_wp2
     go_roundw
     case rel=>exact ⟨_,k - 1,q+1,rfl,by go_num,by omega,by omega,by rw [ByteArray.size_append];simp;omega,by omega,by omega,HR3.out,HS3.out⟩
     case measure=>simp [intOf];omega
   ·go_wp2
    go_ret
    exact ⟨⟨o,rfl,by omega⟩,q,by omega,by omega,HRQ.out,HSQ.out⟩
end Go.Proofs.YthnohneaanphbaaGreatDoor
