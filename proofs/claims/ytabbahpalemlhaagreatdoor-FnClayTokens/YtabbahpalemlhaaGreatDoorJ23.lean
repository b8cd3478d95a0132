import Derived.Lib.AppendStr
import Derived.Deep.RegionHeld3
import Derived.Test.YtabbahpalemlhaaGreatDoorJ04
import Derived.Test.YtabbahpalemlhaaGreatDoorJ22
import Derived.Test.YtabbahpalemlhaaGreatDoorJ19
import Derived.Test.YtabbahpalemlhaaGreatDoorJ03
import Derived.Test.YtabbahpalemlhaaGreatDoorJ02
import Derived.Test.YtabbahpalemlhaaGreatDoorJ05
namespace Go.Proofs.YtabbahpalemlhaaGreatDoor.Tk
open Go.RowKit
set_option maxRecDepth 20000
set_option maxHeartbeats 2000000 in
theorem many_q (s:ByteArray) (n:Nat) (w:World) (h:s.size * n≤20000) (hn:n≤20000) (hs:s.size≤20000) :
  Calls Tryz.prog 10 #[.string s,.int .i64 n] w fun e w'=>(∃ t:ByteArray,e=.returned (.string t)∧t.size≤20000)∧w'=w:=by
 go_enter Tryz.func10,Tryz.ntmps10
 go_wp2
 go_loopw [0,1,5] (fun a b c wr=>∃ (s o:ByteArray) (k:Nat),a=.string s∧b=.int .i64 k∧c=.string o∧o.size+s.size * k≤20000∧k≤20000∧s.size≤40000∧wr=w) (fun _ b _ _=>(intOf b).toNat)
 case atStart=>exact ⟨s,⟨#[]⟩,n,rfl,rfl,rfl,by show 0+s.size * n≤20000;omega,hn,by omega,rfl⟩
 case round =>
  obtain ⟨s,o,k,rfl,rfl,rfl,h1,h2,h3,rfl⟩:=hrel
  by_cases hk:0 < k
  ·have hk2:s.size≤s.size * k:=Nat.le_mul_of_pos_right _ hk
   have hd:k=2 * (k / 2)+k % 2:=(Nat.div_add_mod k 2).symm
   have hq:(k:Int) / 2=((k / 2:Nat):Int):=by omega
   have hr:(k:Int) % 2=((k % 2:Nat):Int):=by omega
   have he:s.size * k=s.size * 2 * (k / 2)+s.size * (k % 2):=by
    conv=>lhs;rw [hd]
    rw [Nat.mul_add,Nat.mul_assoc]
   obtain ⟨m,hm⟩:∃ m,k / 2=m:=⟨_,rfl⟩
   rw [hm] at hq he
   rcases Nat.mod_two_eq_zero_or_one k with hz | hz
   ·rw [hz] at hr he
    have HX:=hid (show o.size+(s.size+s.size) * m≤20000∧m < k from ⟨by rw [Nat.mul_zero,Nat.add_zero] at he;rw [← Nat.mul_two];omega,by omega⟩)
    clear he hd
    go_wp2
    go_roundw
    case rel=>exact ⟨s ++ s,o,m,rfl,by go_num,rfl,by rw [ByteArray.size_append];exact HX.out.1,by have:=HX.out.2;omega,by rw [ByteArray.size_append];omega,by trivial⟩
    case measure=>have:=HX.out.2;simp [intOf];omega
   ·rw [hz] at hr he
    have HX:=hid (show o.size+s.size+(s.size+s.size) * m≤20000∧m < k from ⟨by rw [Nat.mul_one] at he;rw [← Nat.mul_two];omega,by omega⟩)
    clear he hd
    go_wp2
    go_roundw
    case rel=>exact ⟨s ++ s,o ++ s,m,rfl,by go_num,rfl,by rw [ByteArray.size_append,ByteArray.size_append];exact HX.out.1,by have:=HX.out.2;omega,by rw [ByteArray.size_append];omega,by trivial⟩
    case measure=>have:=HX.out.2;simp [intOf];omega
  ·go_wp2
   go_ret
   exact ⟨⟨o,rfl,by omega⟩,rfl⟩
structure PenAt (nd:Nat→Nd) (O:List (List Nat)) (N b cap g co P:Nat) (W:World):Prop where
 c0:W.cell? ⟨P,0,none⟩=some (.slice (some ⟨b,0,none⟩) N cap)
 c1:W.cell? ⟨P,1,none⟩=some (.slice (some ⟨g,0,none⟩) N co)
 pl:P < W.heap.size
 bl:b < W.heap.size
 gl:g < W.heap.size
 nodes:NodesAt W b N nd
 kids:∀ j,j < N→∃ gk ck,W.cell? ⟨g,j,none⟩=some (.slice (some ⟨gk,0,none⟩) (O.getD j []).length ck)∧RowAt W 3 gk ck (O.getD j []).length (intRow (O.getD j []))
theorem PenAt.next {nd:Nat→Nd} {O:List (List Nat)} {N b cap g co P:Nat} {W W':World} (h:PenAt nd O N b cap g co P W) (hb:Below W.heap.size W W'):PenAt nd O N b cap g co P W':=by
 have hz:=hb.size
 refine ⟨(hb.cell (p:=⟨P,_,none⟩) h.pl).trans h.c0,(hb.cell (p:=⟨P,_,none⟩) h.pl).trans h.c1,Nat.lt_of_lt_of_le h.pl hz,Nat.lt_of_lt_of_le h.bl hz,Nat.lt_of_lt_of_le h.gl hz,h.nodes.below hb h.bl,fun j hj=>?_⟩
 obtain ⟨gk,ck,h1,h2⟩:=h.kids j hj
 exact ⟨gk,ck,(hb.cell (p:=⟨g,j,none⟩) h.gl).trans h1,h2.below hb h2.lt⟩
theorem row_int {W:World} {gk ck:Nat} {ks:List Nat} (h:RowAt W 3 gk ck ks.length (intRow ks)) (i:Nat) (hi:i < ks.length):W.cell? ⟨gk,i,none⟩=some (.int .i64 (ks.getD i 0:Nat)):=by
 rw [h.cell i hi]
 simp [intRow,hi]
def InkOk (nd:Nat→Nd) (O:List (List Nat)) (N b cap g co P k:Nat):Prop :=
 ∀ W,PenAt nd O N b cap g co P W→Calls Tryz.prog 36 #[.pointer (some ⟨P,0,none⟩),.int .i64 k] W fun e w'=>(∃ y:ByteArray,e=.returned (.string y)∧y.size+100≤wgt O k)∧Below W.heap.size W w'
set_option maxHeartbeats 1000000 in
theorem rank_q (op:Int) (w:World) (h1:1≤op) (h2:op≤14) :
  Calls Tryz.prog 73 #[.int .i64 op] w fun e w'=>(∃ r:Int,e=.returned (.int .i64 r)∧1≤r∧r≤6)∧w'=w:=by
 by_cases ha:op≤2
 ·go_enter Tryz.func73,Tryz.ntmps73
  go_wp2
  go_ret
  exact ⟨⟨_,rfl,by omega,by omega⟩,rfl⟩
 ·by_cases hb:op≤9
  ·go_enter Tryz.func73,Tryz.ntmps73
   go_wp2
   go_ret
   exact ⟨⟨_,rfl,by omega,by omega⟩,rfl⟩
  ·by_cases hc:op≤11
   ·go_enter Tryz.func73,Tryz.ntmps73
    go_wp2
    go_ret
    exact ⟨⟨_,rfl,by omega,by omega⟩,rfl⟩
   ·go_enter Tryz.func73,Tryz.ntmps73
    go_wp2
    go_ret
    exact ⟨⟨_,rfl,by omega,by omega⟩,rfl⟩
def MarkEnd (e:Ending):Prop:=∃ y:ByteArray,e=.returned (.string y)∧y.size≤3
set_option maxHeartbeats 1000000 in
theorem mark_q (op:Int) (w:World) (h1:1≤op) (h2:op≤14) :
  Calls Tryz.prog 74 #[.int .i64 op] w fun e w'=>MarkEnd e∧Below w.heap.size w w':=by
 obtain rfl | rfl | rfl | rfl | rfl | rfl | rfl | rfl | rfl | rfl | rfl | rfl | rfl | rfl:op=1∨op=2∨op=3∨op=4∨op=5∨op=6∨op=7∨op=8∨op=9∨op=10∨op=11∨op=12∨op=13∨op=14:=by omega
 all_goals
  clear h1 h2
  go_enter Tryz.func74,Tryz.ntmps74
  go_wp2
  go_ret
  exact ⟨⟨_,rfl,by decide⟩,(Below.refl _ _).alloc (Nat.le_refl _) _⟩
def RankEnd (e:Ending):Prop:=∃ r:Int,e=.returned (.int .i64 r)∧0≤r∧r≤9
set_option maxHeartbeats 2000000 in
theorem rankOf_q (x:Nd) (w:World) (h:x.kind=7→1≤x.op∧x.op≤14) :
  Calls Tryz.prog 72 #[ndV x] w fun e w'=>RankEnd e∧Below w.heap.size w w':=by
 obtain ⟨kd,op,n,t,kids⟩:=x
 have HB:=hid ((Below.refl w.heap.size w).alloc (Nat.le_refl _) (.cells #[.int .i64 kd,.int .i64 op,.int .i64 n,.string t,.int .i64 kids] 81))
 unfold ndV
 dsimp only at h ⊢
 by_cases h7:kd=7
 ·subst h7
  obtain ⟨h1,h2⟩:=h rfl
  go_enter Tryz.func72,Tryz.ntmps72
  go_wp2_with fail
  refine (rank_q op _ h1 h2).mono ?_
  rintro e w1 ⟨⟨r,rfl,hr1,hr2⟩,hw⟩
  have e1:=hw.symm
  subst e1
  go_wp2
  go_ret
  exact ⟨⟨_,rfl,by omega,by omega⟩,HB.out⟩
 ·clear h
  have h7i:(kd == 7)=false:=by simpa using h7
  clear h7
  go_enter Tryz.func72,Tryz.ntmps72
  go_wp2
  all_goals go_ret
  all_goals exact ⟨⟨_,rfl,by omega,by omega⟩,HB.out⟩
set_option maxHeartbeats 2000000 in
theorem e_any {nd:Nat→Nd} {O:List (List Nat)} {N b cap g co P k:Nat} (hk:k < N) (hE:InkOk nd O N b cap g co P k) (hw:wgt O k≤20000000) (hx:PlainNd (nd k)) (r:Int) (W:World) (hp:PenAt nd O N b cap g co P W) :
  Calls Tryz.prog 53 #[.pointer (some ⟨P,0,none⟩),.int .i64 k,.int .i64 r] W fun e w'=>(∃ y:ByteArray,e=.returned (.string y)∧y.size+98≤wgt O k)∧Below W.heap.size W w':=by
 have HX:=hid (hx.2.2.2.2.2.2.2.1)
 have HE:=hid hE
 have HP:=hid hp
 clear hE hp hx
 go_enter Tryz.func53,Tryz.ntmps53
 go_wp2_with fail
 refine (HE.out _ HP.out).mono ?_
 rintro e w1 ⟨⟨y,rfl,hy⟩,hb1⟩
 have HP1:=HP.out.next hb1
 have p0:=HP1.c0
 obtain ⟨n0,n1,n2,n3,n4⟩:=HP1.nodes k hk
 have HB1:=hid hb1
 clear hb1 HP1
 go_wp2_with fail
 refine (rankOf_q (nd k) _ HX.out).mono ?_
 rintro e w2 ⟨⟨r2,rfl,_,_⟩,hb2⟩
 have HB2:=hid (HB1.out.trans (hb2.mono HB1.out.size))
 clear hb2 n0 n1 n2 n3 n4 p0
 by_cases hr:r2 < r
 ·go_wp2
  go_ret
  exact ⟨⟨_,rfl,by simp only [ByteArray.size_append];show 1+y.size+1+98≤_;omega⟩,HB2.out⟩
 ·go_wp2
  go_ret
  exact ⟨⟨_,rfl,by omega⟩,HB2.out⟩
set_option maxHeartbeats 1000000 in
theorem dec_step (n:Nat) (k:Nat) (M:Int) (w:World) (hn:10≤n) (hM:IntKind.i64.wrap ((n / 10:Nat):Int)=M) (hk:k≤30)
  (ih:∀ W,Calls Tryz.prog 20 #[.int .i64 M] W fun e w'=>∃ s:ByteArray,e=.returned (.string s)∧s.size≤k∧Below W.heap.size W w') :
  Calls Tryz.prog 20 #[.int .i64 n] w fun e w'=>∃ s:ByteArray,e=.returned (.string s)∧s.size≤k+1∧Below w.heap.size w w':=by
 have hge:(10:Int)≤n:=by omega
 have HIH:=hid ih
 have hq:(n:Int) / 10=((n / 10:Nat):Int):=by omega
 have hr:(n:Int).tmod 10=((n % 10:Nat):Int):=by rw [Int.tmod_eq_emod_of_nonneg (by omega)];omega
 have hm:n % 10 < 10:=Nat.mod_lt _ (by omega)
 obtain ⟨D,hD⟩:∃ D,n % 10=D:=⟨_,rfl⟩
 obtain ⟨Q,hQ⟩:∃ Q,n / 10=Q:=⟨_,rfl⟩
 rw [hD] at hr hm
 rw [hQ] at hq hM
 have hw:IntKind.i64.wrap (48+(D:Int))=48+(D:Int):=by rw [IntKind.wrap_i64];omega
 have hw2:IntKind.u8.wrap (48+(D:Int))=48+(D:Int):=by rw [IntKind.wrap_u8];omega
 have hcv:∀ (g:Nat) (W:World),W.cell? ⟨g,0,none⟩=some (.int .u8 (48+(D:Int)))→(convert 22 9 (.slice (some ⟨g,0,none⟩) 1 1)).run Tryz.prog W=.ok (.string ⟨[UInt8.ofNat (48+D)].toArray⟩) W:=fun g W hg=>by
  refine run_convert_bytes_back W 22 9 5 ⟨g,0,none⟩ 1 [UInt8.ofNat (48+D)] Tryz.underlying22 Tryz.underlying5 Tryz.underlying9 ?_
  intro j hj
  obtain rfl:j=0:=by simpa using hj
  have e:((UInt8.ofNat (48+D)).toNat:Int)=48+(D:Int):=by rw [UInt8.toNat_ofNat'];omega
  show W.cell? _=some (.int .u8 ((UInt8.ofNat (48+D)).toNat:Int))
  rw [e]
  exact hg
 have cA:=hcv w.heap.size (w.drew.alloc (.cells #[.int .u8 (48+(D:Int))] 5)) (cell_new_row w.drew #[.int .u8 (48+(D:Int))] 5 0)
 have cA2:=hcv w.heap.size (w.alloc (.cells #[.int .u8 (48+(D:Int))] 5)).drew (cell_new_row w #[.int .u8 (48+(D:Int))] 5 0)
 have HCV:=hid hcv
 clear hcv hn hD hQ ih
 go_enter Tryz.func20,Tryz.ntmps20
 go_wp2_with fail
 go_region_with (go_at_call 20;refine (HIH.out _).mono ?_;rintro e w1 ⟨s1,rfl,hs1,hb1⟩;first | (have cB:=HCV.out w.heap.size w1 ((hb1.cell (p:=⟨w.heap.size,0,none⟩) (by simp)).trans (cell_new_row w #[.int .u8 (48+(D:Int))] 5 0))) | (have cC:=HCV.out w1.heap.size (w1.alloc (.cells #[.int .u8 (48+(D:Int))] 5)) (cell_new_row w1 #[.int .u8 (48+(D:Int))] 5 0)))
 all_goals
  have HS1:=hid hs1
  have HB1:=hid hb1
  clear hs1 hb1
  go_wp2
  go_ret
  refine ⟨_,rfl,by rw [ByteArray.size_append];have:=HS1.out;show s1.size+1≤_;omega,?_⟩
  first
   | exact (((Below.refl w.heap.size w).drew.trans (HB1.out.mono (Nat.le_refl _))).alloc HB1.out.size _)
   | exact ((Below.refl w.heap.size w).alloc (Nat.le_refl _) _).drew.trans (HB1.out.mono (by simp))
theorem u8_of (x:Int):∃ b:UInt8,(b.toNat:Int)=IntKind.u8.wrap x:=by
 have h:=IntKind.wrap_u8 x
 refine ⟨UInt8.ofNat (IntKind.u8.wrap x).toNat,?_⟩
 rw [UInt8.toNat_ofNat']
 omega
set_option maxHeartbeats 1000000 in
theorem dec_small (m:Int) (w:World) (hm:m < 10) :
  Calls Tryz.prog 20 #[.int .i64 m] w fun e w'=>∃ s:ByteArray,e=.returned (.string s)∧s.size≤1∧Below w.heap.size w w':=by
 obtain ⟨x,hx⟩:∃ x,IntKind.i64.wrap (48+m)=x:=⟨_,rfl⟩
 obtain ⟨b,hb⟩:=u8_of x
 obtain ⟨d,hd⟩:∃ d,IntKind.u8.wrap x=d:=⟨_,rfl⟩
 rw [hd] at hb
 have hc:=conv_one w d b hb
 clear hb
 go_enter Tryz.func20,Tryz.ntmps20
 go_wp2
 go_ret
 exact ⟨_,rfl,Nat.le_refl _,(Below.refl _ _).alloc (Nat.le_refl _) _⟩
theorem dec_nat (k:Nat):∀ (n:Nat) (w:World),n < 10 ^ (k+1)→n≤9223372036854775807→k≤20 →
  Calls Tryz.prog 20 #[.int .i64 n] w fun e w'=>∃ s:ByteArray,e=.returned (.string s)∧s.size≤k+1∧Below w.heap.size w w':=by
 induction k with
 | zero =>
  intro n w hn _ _
  have hn:n < 10:=by simpa using hn
  exact dec_small n w (by omega)
 | succ k ih =>
  intro n w hn hm hk
  by_cases h10:n < 10
  ·exact (dec_small n w (by omega)).mono fun e w' ⟨s,h1,h2,h3⟩=>⟨s,h1,by omega,h3⟩
  ·exact dec_step n (k+1) ((n / 10:Nat):Int) w (by omega) (by rw [IntKind.wrap_i64];omega) (by omega) (fun W=>ih (n / 10) W (by rw [Nat.pow_succ] at hn;omega) (by omega) (by omega))
theorem dec_q (n:Int) (w:World) (h0:0≤n) :
  Calls Tryz.prog 20 #[.int .i64 n] w fun e w'=>(∃ y:ByteArray,e=.returned (.string y)∧y.size≤30)∧Below w.heap.size w w':=by
 obtain ⟨u,rfl⟩:∃ u:Nat,n=(u:Int):=⟨n.toNat,by omega⟩
 have hnat:∀ (v:Nat) (W:World),v≤9223372036854775807→Calls Tryz.prog 20 #[.int .i64 v] W fun e w'=>∃ s:ByteArray,e=.returned (.string s)∧s.size≤20∧Below W.heap.size W w':=fun v W hv=>(dec_nat 18 v W (by omega) hv (by omega)).mono fun e w' ⟨s,h1,h2,h3⟩=>⟨s,h1,by omega,h3⟩
 by_cases hu:u≤9223372036854775807
 ·exact (hnat u w hu).mono fun e w' ⟨s,h1,h2,h3⟩=>⟨⟨s,h1,by omega⟩,h3⟩
 ·refine (dec_step u 20 _ w (by omega) rfl (by omega) ?_).mono fun e w' ⟨s,h1,h2,h3⟩=>⟨⟨s,h1,by omega⟩,h3⟩
  intro W
  have hr:=IntKind.wrap_i64 ((u / 10:Nat):Int)
  obtain ⟨M,hM⟩:∃ M,IntKind.i64.wrap ((u / 10:Nat):Int)=M:=⟨_,rfl⟩
  rw [hM] at hr ⊢
  by_cases hneg:M < 10
  ·exact (dec_small M W hneg).mono fun e w' ⟨s,h1,h2,h3⟩=>⟨s,h1,by omega,h3⟩
  ·obtain ⟨v,rfl⟩:∃ v:Nat,M=(v:Int):=⟨M.toNat,by omega⟩
   exact hnat v W (by omega)
end Go.Proofs.YtabbahpalemlhaaGreatDoor.Tk
