import Derived.Laws.IdiomStrings
import Derived.Deep.DeepCutAuto
import Derived.Test.YtbkmglknbflkhaaGreatDoorJ00
namespace Go.Proofs.YtbkmglknbflkhaaGreatDoor.J
open Go.RowKit
set_option maxRecDepth 20000
def TextsA (W:World) (ad:Option Addr) (N:Nat) (s:Nat→ByteArray):Prop:=N=0∨∃ a,ad=some a∧a.block < W.heap.size∧∀ i,i < N→W.cell? (a.add i)=some (.string (s i))
theorem TextsA.of_cells {W W':World} {ad:Option Addr} {N:Nat} {s:Nat→ByteArray} (h:TextsA W ad N s) (hs:W.heap.size≤W'.heap.size) (hk:∀ a,ad=some a→a.block < W.heap.size→∀ p:Addr,p.block=a.block→W'.cell? p=W.cell? p):TextsA W' ad N s:=by
 rcases h with h | ⟨a,rfl,h1,h2⟩
 ·exact .inl h
 ·exact .inr ⟨a,rfl,Nat.lt_of_lt_of_le h1 hs,fun i hi=>(hk a rfl h1 _ (add_block a i)).trans (h2 i hi)⟩
theorem TextsA.below {W W':World} {ad:Option Addr} {N:Nat} {s:Nat→ByteArray} (h:TextsA W ad N s) (hb:Below W.heap.size W W'):TextsA W' ad N s :=
 h.of_cells hb.size fun a _ ha p hp=>hb.cell (by rw [hp];exact ha)
def TextsAt (W:World) (g N:Nat) (s:Nat→ByteArray):Prop:=∀ i,i < N→W.cell? ⟨g,i,none⟩=some (.string (s i))
theorem TextsAt.a {W:World} {g N:Nat} {s:Nat→ByteArray} (h:TextsAt W g N s) (hg:g < W.heap.size):TextsA W (some ⟨g,0,none⟩) N s:=.inr ⟨_,rfl,hg,fun i hi=>by rw [add_at];exact h i hi⟩
theorem row_room {W:World} {g i:Nat} {cur:Array Value} {t:TypeId} (h:W.heap[g]?=some (.cells cur t (0,0))) (hi:i < cur.size) :
  (∃ v,W.cell? ⟨g,i,none⟩=some v)∧W.frozen? ⟨g,i,none⟩=false :=
 ⟨⟨cur[i],by unfold World.cell?;rw [h];simp [hi]⟩,by unfold World.frozen?;rw [h];simp⟩
theorem row_cell {W:World} {g:Nat} {cur:Array Value} {t:TypeId} (h:W.heap[g]?=some (.cells cur t (0,0))) (i:Nat):W.cell? ⟨g,i,none⟩=cur[i]?:=by
 unfold World.cell?
 rw [h];rfl
def BegOk (s:ByteArray):Prop:=s.size≤60∧∀ i (h:i < s.size),33≤(s[i].toNat:Int)∧(s[i].toNat:Int)≤126
def FileOk (s:ByteArray):Prop:=1≤s.size∧BegOk s
set_option maxHeartbeats 1000000 in
theorem l15Prefix_any (s:ByteArray) (w:World) (hs:s.size≤maxLen) :
  Calls Tryz.prog 53 #[.string s] w fun e w'=>Says e (BegOk s)∧w'=w:=by
 unfold maxLen at hs
 have hs':s.size≤9223372036854775807:=by simpa using hs
 clear hs
 by_cases h1:s.size≤60
 ·go_enter Tryz.func53,Tryz.ntmps53
  go_wp2
  go_loop [3] (fun i=>∃ k:Nat,k≤s.size∧i=.int .i64 k∧∀ j (h:j < s.size),j < k→33≤(s[j].toNat:Int)∧(s[j].toNat:Int)≤126) (fun i=>s.size - (intOf i).toNat)
  case atStart=>exact ⟨0,Nat.zero_le _,rfl,fun j h h0=>absurd h0 (Nat.not_lt_zero _)⟩
  case round =>
   obtain ⟨k,hk,rfl,hr⟩:=hrel
   have HR:=hid hr
   clear hr
   by_cases hlt:k < s.size
   ·by_cases hp:33≤(s[k].toNat:Int)∧(s[k].toNat:Int)≤126
    ·have NX:Hid (∀ j (h:j < s.size),j < k+1→33≤(s[j].toNat:Int)∧(s[j].toNat:Int)≤126):=fun j h hj=>by
      rcases Nat.lt_or_eq_of_le (Nat.lt_succ_iff.1 hj) with h' | h'
      ·exact HR.out j h h'
      ·subst h';exact hp
     obtain ⟨p1,p2⟩:=hp
     go_wp2
     go_round
     case rel=>exact ⟨k+1,by omega,by go_num,NX.out⟩
     case measure=>simp [intOf];omega
    ·have HE:Hid (¬ BegOk s):=fun h=>hp (h.2 k hlt)
     have hp2:(s[k].toNat:Int) < 33∨126 < (s[k].toNat:Int):=by omega
     clear hp
     rcases hp2 with hp | hp
     ·go_wp2
      go_ret
      exact ⟨says_f HE.out,rfl⟩
     ·have hq:¬ (s[k].toNat:Int) < 33:=by omega
      go_wp2
      go_ret
      exact ⟨says_f HE.out,rfl⟩
   ·go_wp2
    go_ret
    exact ⟨says_t ⟨h1,fun i h=>HR.out i h (by omega)⟩,rfl⟩
 ·go_enter Tryz.func53,Tryz.ntmps53
  go_wp2
  go_ret
  exact ⟨says_f fun h=>h1 h.1,rfl⟩
set_option maxHeartbeats 1000000 in
theorem l15Path_any (s:ByteArray) (w:World) (hs:s.size≤maxLen) :
  Calls Tryz.prog 52 #[.string s] w fun e w'=>Says e (FileOk s)∧w'=w:=by
 have hs2:=hs
 unfold maxLen at hs
 have hs':s.size≤9223372036854775807:=by simpa using hs
 clear hs
 by_cases h1:1≤s.size
 ·go_enter Tryz.func52,Tryz.ntmps52
  go_wp2_with (go_at_call 53;refine (l15Prefix_any s _ hs2).mono ?_;rintro e w' ⟨⟨b,rfl,hb⟩,rfl⟩)
  all_goals go_ret
  all_goals exact ⟨⟨b,rfl,hb.trans ⟨fun h=>⟨h1,h⟩,fun h=>h.2⟩⟩,rfl⟩
 ·go_enter Tryz.func52,Tryz.ntmps52
  go_wp2_with (go_at_call 53;refine (l15Prefix_any s _ hs2).mono ?_;rintro e w' ⟨⟨b,rfl,hb⟩,rfl⟩)
  all_goals go_ret
  all_goals exact ⟨says_f fun h=>h1 h.1,rfl⟩
set_option maxHeartbeats 1000000 in
theorem implBeg_any (s:ByteArray) (w:World) (hs:s.size≤1048576) :
  Calls Tryz.prog 91 #[.string s] w fun e w'=>Says e (BegOk s)∧Below w.heap.size w w':=by
 have kc:=fun (w:World)=>run_bytes_of_string (P:=Tryz.prog) w 9 149 5 s Tryz.underlying9 Tryz.underlying149 Tryz.underlying5
 go_enter Tryz.func91,Tryz.ntmps91
 go_wp2_with fail
 clear kc
 generalize hC:bytesRow s (grownCap w s.size 0 5)=C
 generalize grownCap w s.size 0 5=cap at hC ⊢
 obtain ⟨w1,hw1⟩:∃ w1,(w.alloc (.cells C 5 (C.size,C.size+1))).drew=w1:=⟨_,rfl⟩
 have HX:Hid (∀ j (h:j < s.size),w1.cell? ⟨w.heap.size,j,none⟩=some (.int .u8 (s[j].toNat:Int))):=fun j h=>by
  subst hw1 hC
  exact (World.cell?_alloc_mark w _ _ _ j).trans (bytesRow_at s cap j h)
 have HB:Hid (Below w.heap.size w w1):=by subst hw1;exact ((Below.refl _ _).alloc (Nat.le_refl _) _).drew
 rw [hw1]
 clear hw1 hC
 go_loop [4,8] (fun _ i=>∃ k:Nat,k≤s.size∧i=.int .i64 k∧∀ j (h:j < s.size),j < k→33≤(s[j].toNat:Int)∧(s[j].toNat:Int)≤126) (fun _ i=>s.size - (intOf i).toNat)
 case atStart=>exact ⟨0,Nat.zero_le _,rfl,fun j h h0=>absurd h0 (Nat.not_lt_zero _)⟩
 case round =>
  obtain ⟨k,hk,rfl,hr⟩:=hrel
  have HR:=hid hr
  clear hr
  by_cases hlt:k < s.size
  ·have x0:=HX.out k hlt
   by_cases hp:33≤(s[k].toNat:Int)∧(s[k].toNat:Int)≤126
   ·have NX:Hid (∀ j (h:j < s.size),j < k+1→33≤(s[j].toNat:Int)∧(s[j].toNat:Int)≤126):=fun j h hj=>by
     rcases Nat.lt_or_eq_of_le (Nat.lt_succ_iff.1 hj) with h' | h'
     ·exact HR.out j h h'
     ·subst h';exact hp
    obtain ⟨p1,p2⟩:=hp
    go_wp2
    go_round
    case rel=>exact ⟨k+1,by omega,by go_num,NX.out⟩
    case measure=>simp [intOf];omega
   ·have HE:Hid (¬ BegOk s):=fun h=>hp (h.2 k hlt)
    have hp2:(s[k].toNat:Int) < 33∨126 < (s[k].toNat:Int):=by omega
    clear hp
    rcases hp2 with hp | hp
    ·go_wp2
     go_ret
     exact ⟨says_f HE.out,HB.out⟩
    ·have hq:¬ (s[k].toNat:Int) < 33:=by omega
     go_wp2
     go_ret
     exact ⟨says_f HE.out,HB.out⟩
  ·go_wp2
   go_ret
   refine ⟨⟨_,rfl,?_⟩,HB.out⟩
   rw [decide_eq_true_iff]
   exact ⟨fun h=>⟨by omega,fun i h=>HR.out i h (by omega)⟩,fun h=>by have:=h.1;omega⟩
set_option maxHeartbeats 1000000 in
theorem implFile_any (s:ByteArray) (w:World) (hs:s.size≤1048576) :
  Calls Tryz.prog 87 #[.string s] w fun e w'=>Says e (FileOk s)∧Below w.heap.size w w':=by
 by_cases h0:s.size=0
 ·have h1:s.toList.isEmpty=true:=by rw [isEmpty_iff];simp [h0]
  go_enter Tryz.func87,Tryz.ntmps87
  go_wp2_with (go_at_call 91;refine (implBeg_any s _ hs).mono ?_;rintro e w' ⟨⟨b,rfl,hb⟩,hbw⟩)
  go_ret
  exact ⟨says_f fun h=>by have:=h.1;omega,Below.refl _ _⟩
 ·have h1:s.toList.isEmpty=false:=by rw [isEmpty_iff];simp [h0]
  go_enter Tryz.func87,Tryz.ntmps87
  go_wp2_with (go_at_call 91;refine (implBeg_any s _ hs).mono ?_;rintro e w' ⟨⟨b,rfl,hb⟩,hbw⟩)
  go_ret
  exact ⟨⟨b,rfl,hb.trans ⟨fun h=>⟨by omega,h⟩,fun h=>h.2⟩⟩,hbw⟩
end Go.Proofs.YtbkmglknbflkhaaGreatDoor.J
namespace Go.Proofs.YtbkmglknbflkhaaGreatDoor.M
open Go.RowKit
open Go.Proofs.YtbkmglknbflkhaaGreatDoor.J (Says says_t says_f Says.pos Says.neg)
open Go.Proofs.YtbkmglknbflkhaaGreatDoor.R (hid)
set_option maxRecDepth 20000
def TxOk (most:Nat) (l:List ByteArray):Prop:=l.length≤most∧∀ i,i < l.length→(l.getD i ⟨#[]⟩).size≤3000
def LowT (l:List ByteArray):Prop:=l.length≤1048576∧∀ i,i < l.length→(l.getD i ⟨#[]⟩).size≤1048576
theorem tx_at {B:Nat} {W:World} {g n c:Nat} {l:List ByteArray} (h:R.SStrR B W (.slice (some ⟨g,0,none⟩) n c) l) {i:Nat} (hi:i < l.length):g < W.heap.size∧W.cell? ⟨g,i,none⟩=some (.string (l.getD i ⟨#[]⟩)):=by
 obtain ⟨g2,e9,_,hg,a0⟩:=h.at hi
 injection e9 with ea en ec
 injection ea with eb
 injection eb with ec2
 subst ec2
 exact ⟨hg,a0⟩
set_option maxHeartbeats 2000000 in
theorem specTexts_any (l:List ByteArray) (most:Nat) {v:Value} {B:Nat} (w:World) (hm:most≤1000) (hx:LowT l) (k0:R.SStrR B w v l) :
  Calls Tryz.prog 21 #[v,.int .i64 most] w fun e w'=>Says e (TxOk most l)∧w'=w:=by
 have HK:=hid k0
 have HX:=hid hx
 have hN:=hx.1
 obtain ⟨g,rfl⟩:=k0.sl
 clear k0 hx
 by_cases h1:l.length≤most
 ·have h1i:¬ (l.length:Int) > (most:Int):=by omega
  go_enter Tryz.func21,Tryz.ntmps21
  go_wp2
  go_loopw [5] (fun i wr=>∃ k:Nat,k≤l.length∧i=.int .i64 k∧(∀ i,i < k→(l.getD i ⟨#[]⟩).size≤3000)∧wr=w) (fun i _=>l.length - (intOf i).toNat)
  case atStart=>exact ⟨0,Nat.zero_le _,rfl,fun i h=>absurd h (Nat.not_lt_zero _),rfl⟩
  case round =>
   obtain ⟨k,hk,rfl,hr,hw⟩:=hrel
   have hw2:=hw.symm
   clear hw
   subst hw2
   have HR:=hid hr
   clear hr
   by_cases hlt:k < l.length
   ·obtain ⟨_,a0⟩:=tx_at HK.out hlt
    have HS:=hid (HX.out.2 k hlt)
    obtain ⟨x,hxe⟩:∃ x,l.getD k ⟨#[]⟩=x:=⟨_,rfl⟩
    have HXE:=hid hxe
    rw [hxe] at a0 HS
    clear hxe
    have hsz:=HS.out
    by_cases hT:x.size≤3000
    ·have hTi:¬ (x.size:Int) > 3000:=by omega
     go_wp2
     go_roundw
     case rel=>exact ⟨k+1,by omega,by go_num,fun i hi=>by
      rcases Nat.lt_or_ge i k with h9 | h9
      ·exact HR.out i h9
      ·obtain rfl:i=k:=by omega
       rw [HXE.out];exact hT,by trivial⟩
     case measure=>simp [intOf];omega
    ·have hTi:(x.size:Int) > 3000:=by omega
     go_wp2
     go_ret
     exact ⟨says_f fun h=>hT (by have:=h.2 k hlt;rw [HXE.out] at this;exact this),rfl⟩
   ·obtain rfl:k=l.length:=by omega
    go_wp2
    go_ret
    exact ⟨says_t ⟨h1,HR.out⟩,rfl⟩
 ·have h1i:(l.length:Int) > (most:Int):=by omega
  go_enter Tryz.func21,Tryz.ntmps21
  go_wp2
  go_ret
  exact ⟨says_f fun h=>h1 h.1,rfl⟩
theorem long_any (x:ByteArray) (w:World) (hx:x.size≤1048576):Calls Tryz.prog 62 #[.string x] w fun e w'=>e=.returned (.bool (decide (3000 < x.size)))∧w'=w:=by
 go_enter Tryz.func62,Tryz.ntmps62
 by_cases h:3000 < x.size
 ·have hi:(x.size:Int) > 3000:=by omega
  go_wp2
  go_ret
  exact ⟨by simp [h],rfl⟩
 ·have hi:¬ (x.size:Int) > 3000:=by omega
  go_wp2
  go_ret
  exact ⟨by simp,rfl⟩
def IxT (l:List ByteArray) (w:World) (e:Ending) (w':World):Prop:=∃ r:Int,e=.returned (.int .i64 r)∧(0≤r ↔ ∃ j,j < l.length∧3000 < (l.getD j ⟨#[]⟩).size)∧w'=w
set_option maxHeartbeats 2000000 in
theorem idxTexts_any (l:List ByteArray) {v:Value} {B:Nat} (w:World) (hx:LowT l) (k0:R.SStrR B w v l) :
  Calls Tryz.prog 88 #[v,.func (.func 62) #[] #[]] w (IxT l w):=by
 have HK:=hid k0
 have HX:=hid hx
 have hN:=hx.1
 obtain ⟨g,rfl⟩:=k0.sl
 clear k0 hx
 go_enter Tryz.func88,Tryz.ntmps88
 go_wp2_with fail
 go_loopw [8] (fun i wr=>∃ j:Nat,j≤l.length∧i=.int .i64 j∧wr=w∧∀ p,p < j→¬ 3000 < (l.getD p ⟨#[]⟩).size) (fun i _=>l.length - (intOf i).toNat)
 case atStart=>exact ⟨0,Nat.zero_le _,rfl,rfl,fun p hp=>absurd hp (Nat.not_lt_zero _)⟩
 case round =>
  obtain ⟨j,hj,rfl,hw,hall⟩:=hrel
  have hw2:=hw.symm
  clear hw
  subst hw2
  have HALL:=hid hall
  clear hall
  by_cases hlt:j < l.length
  ·have hlti:(j:Int) < (l.length:Int):=by omega
   obtain ⟨_,a0⟩:=tx_at HK.out hlt
   have HS:=hid (HX.out.2 j hlt)
   obtain ⟨x,hxe⟩:∃ x,l.getD j ⟨#[]⟩=x:=⟨_,rfl⟩
   have HXE:=hid hxe
   rw [hxe] at a0 HS
   clear hxe
   by_cases hT:3000 < x.size
   ·have hd:decide (3000 < x.size)=true:=by simpa using hT
    have HLG:=hid (long_any x w HS.out)
    rw [hd] at HLG
    go_wp2_with fail
    refine HLG.out.mono ?_
    rintro e w3 ⟨rfl,hw3⟩
    have hw4:=hw3.symm
    clear hw3
    subst hw4
    go_wp2
    go_ret
    exact ⟨_,rfl,⟨fun _=>⟨j,hlt,by rw [HXE.out];exact hT⟩,fun _=>by omega⟩,rfl⟩
   ·have hd:decide (3000 < x.size)=false:=by simpa using hT
    have HLG:=hid (long_any x w HS.out)
    rw [hd] at HLG
    go_wp2_with fail
    refine HLG.out.mono ?_
    rintro e w3 ⟨rfl,hw3⟩
    have hw4:=hw3.symm
    clear hw3
    subst hw4
    go_wp2
    go_roundw
    case rel=>exact ⟨j+1,by omega,by go_num,by trivial,fun p hp=>by
     rcases Nat.lt_or_ge p j with h9 | h9
     ·exact HALL.out p h9
     ·obtain rfl:p=j:=by omega
      rw [HXE.out];exact hT⟩
    case measure=>simp [intOf];omega
  ·obtain rfl:j=l.length:=by omega
   go_wp2
   go_ret
   exact ⟨_,rfl,⟨fun h=>absurd h (by omega),fun ⟨p,hp,hq⟩=>absurd hq (HALL.out p hp)⟩,rfl⟩
set_option maxHeartbeats 2000000 in
theorem hasLong_any (l:List ByteArray) {v:Value} {B:Nat} (w:World) (hx:LowT l) (k0:R.SStrR B w v l) :
  Calls Tryz.prog 61 #[v,.func (.func 62) #[] #[]] w fun e w'=>Says e (∃ j,j < l.length∧3000 < (l.getD j ⟨#[]⟩).size)∧w'=w:=by
 have H:=hid (idxTexts_any l w hx k0)
 obtain ⟨g,rfl⟩:=k0.sl
 clear k0
 go_enter Tryz.func61,Tryz.ntmps61
 go_wp2_with (go_at_call 88;refine H.out.mono ?_;rintro e w' ⟨r,rfl,hr,hb⟩;have HR:=hid hr;clear hr)
 go_ret
 exact ⟨⟨_,rfl,by rw [← HR.out];simp⟩,rfl⟩
set_option maxHeartbeats 2000000 in
theorem implTexts_any (l:List ByteArray) (most:Nat) {v:Value} {B:Nat} (w:World) (_hm:most≤1000) (hx:LowT l) (k0:R.SStrR B w v l) :
  Calls Tryz.prog 33 #[v,.int .i64 most] w fun e w'=>Says e (TxOk most l)∧w'=w:=by
 have HC:=hid (hasLong_any l w hx k0)
 have hN:=hx.1
 obtain ⟨g,rfl⟩:=k0.sl
 clear k0 hx
 by_cases h1:l.length≤most
 ·have h1i:(l.length:Int)≤(most:Int):=by omega
  by_cases h2:∃ j,j < l.length∧3000 < (l.getD j ⟨#[]⟩).size
  ·have HT:Hid (Calls Tryz.prog 61 #[.slice (some ⟨g,0,none⟩) l.length l.length,.func (.func 62) #[] #[]] w fun e w'=>e=.returned (.bool true)∧w'=w):=hid (HC.out.mono fun e w' h=>⟨h.1.pos h2,h.2⟩)
   have H2:=hid h2
   clear h2 HC
   go_enter Tryz.func33,Tryz.ntmps33
   go_wp2_with (go_at_call 61;refine HT.out.mono ?_;rintro e w2 ⟨rfl,hw3⟩;have hw4:=hw3.symm;clear hw3;subst hw4)
   go_ret
   exact ⟨says_f fun h=>by obtain ⟨j,h3,h4⟩:=H2.out;have:=h.2 j h3;omega,rfl⟩
  ·have HT:Hid (Calls Tryz.prog 61 #[.slice (some ⟨g,0,none⟩) l.length l.length,.func (.func 62) #[] #[]] w fun e w'=>e=.returned (.bool false)∧w'=w):=hid (HC.out.mono fun e w' h=>⟨h.1.neg h2,h.2⟩)
   have H2:=hid h2
   clear h2 HC
   go_enter Tryz.func33,Tryz.ntmps33
   go_wp2_with (go_at_call 61;refine HT.out.mono ?_;rintro e w2 ⟨rfl,hw3⟩;have hw4:=hw3.symm;clear hw3;subst hw4)
   go_ret
   exact ⟨says_t ⟨h1,fun i hi=>by rcases Nat.lt_or_ge 3000 (l.getD i ⟨#[]⟩).size with h3 | h3;exact absurd ⟨i,hi,h3⟩ H2.out;exact h3⟩,rfl⟩
 ·have h1i:¬ (l.length:Int)≤(most:Int):=by omega
  go_enter Tryz.func33,Tryz.ntmps33
  go_wp2_with fail
  go_ret
  exact ⟨says_f fun h=>h1 h.1,rfl⟩
end Go.Proofs.YtbkmglknbflkhaaGreatDoor.M
namespace Go.Proofs.YtbkmglknbflkhaaGreatDoor.P
open Go.RowKit
open Go.Proofs.YtbkmglknbflkhaaGreatDoor.J (Says says_t says_f FileOk l15Path_any implFile_any Says.pos Says.neg)
open Go.Proofs.YtbkmglknbflkhaaGreatDoor.R (hid small Fl fl0 OkFlS SFlR row_cell B1 Gr wp_region_gr Calls.gr_of below_drewN)
set_option maxRecDepth 20000
def ltB (a b:ByteArray):Bool:=Go.Op.bytesLess a.toList b.toList
def FOk (x:Fl):Prop:=FileOk x.name∧x.text.size≤3000
def EOk (l:List Fl) (i:Nat):Prop:=FOk (l.getD i fl0)∧(0 < i→ltB (l.getD (i - 1) fl0).name (l.getD i fl0).name=true)
def PlOk (l:List Fl):Prop:=l.length≤20∧∀ i,i < l.length→EOk l i
theorem all_step {P:Nat→Prop} {k:Nat} (h:∀ i,i < k→P i) (hk:P k):∀ i,i < k+1→P i:=fun i hi=>by
 rcases Nat.lt_or_eq_of_le (Nat.lt_succ_iff.1 hi) with h' | h'
 ·exact h i h'
 ·subst h';exact hk
theorem fl_at {B:Nat} {W:World} {g n c:Nat} {l:List Fl} (h:SFlR B W (.slice (some ⟨g,0,none⟩) n c) l) {i:Nat} (hi:i < l.length):g < W.heap.size∧W.cell? ⟨g,i * 2,none⟩=some (.string (l.getD i fl0).name)∧W.cell? ⟨g,i * 2+1,none⟩=some (.string (l.getD i fl0).text):=by
 obtain ⟨g2,e9,_,hg,a0,a1⟩:=h.at hi
 injection e9 with ea en ec
 injection ea with eb
 injection eb with ec2
 subst ec2
 exact ⟨hg,a0,a1⟩
set_option maxHeartbeats 4000000 in
theorem specFiles_any (l:List Fl) {v:Value} {B:Nat} (w:World) (hx:OkFlS l) (hN:l.length≤1048576) (k0:SFlR B w v l) :
  Calls Tryz.prog 20 #[v,.int .i64 20] w fun e w'=>Says e (PlOk l)∧Below w.heap.size w w':=by
 have HK:=hid k0
 have HX:=hid hx
 obtain ⟨g,rfl⟩:=k0.sl
 clear k0 hx
 by_cases h1:l.length≤20
 ·go_enter Tryz.func20,Tryz.ntmps20
  go_wp2
  go_loopw [5] (fun i wr=>∃ k:Nat,k≤l.length∧i=.int .i64 k∧(∀ i,i < k→EOk l i)∧Below w.heap.size w wr) (fun i _=>l.length - (intOf i).toNat)
  case atStart=>exact ⟨0,Nat.zero_le _,rfl,fun i h=>absurd h (Nat.not_lt_zero _),Below.refl _ _⟩
  case round =>
   obtain ⟨k,hk,rfl,hr,hbw⟩:=hrel
   have HR:=hid hr
   have HBW:=hid hbw
   clear hr hbw
   by_cases hlt:k < l.length
   ·obtain ⟨_,a0,a1⟩:=fl_at (HK.out.next HBW.out) hlt
    have hfail:Hid (¬ EOk l k→¬ PlOk l):=hid fun h h'=>h (h'.2 k hlt)
    have HOK:=hid (HX.out.2 k hlt)
    obtain ⟨x,hxe⟩:∃ x,l.getD k fl0=x:=⟨_,rfl⟩
    have HXE:=hid hxe
    rw [hxe] at a0 a1 HOK
    clear hxe
    have hsz:=small HOK.out.2
    by_cases hP:FileOk x.name
    ·by_cases hT:x.text.size≤3000
     ·have hT2:¬ (3000:Int) < (x.text.size:Int):=by omega
      have hT3:decide ((3000:Int) < (x.text.size:Int))=false:=by simp;omega
      have hT4:¬ 3000 < x.text.size:=by omega
      by_cases h0:0 < k
      ·have h0b:decide ((0:Int) < (k:Int))=true:=by simp;omega
       have h0i:(0:Int) < (k:Int):=by omega
       obtain ⟨p,hp⟩:∃ p:Nat,k=p+1:=⟨k - 1,by omega⟩
       have hpi:(k:Int) - 1=(p:Int):=by omega
       have hpl:p < l.length:=by omega
       have hpw:IntKind.i64.wrap (p:Int)=(p:Int):=by rw [IntKind.wrap_i64];omega
       have HPE:=hid hp
       clear hp
       obtain ⟨_,c0,_⟩:=fl_at (HK.out.next HBW.out) hpl
       obtain ⟨y,hye⟩:∃ y,l.getD p fl0=y:=⟨_,rfl⟩
       have HYE:=hid hye
       rw [hye] at c0
       clear hye
       have HKP:Hid (k - 1=p):=hid (by rw [HPE.out];rfl)
       cases hL:Go.Op.bytesLess y.name.toList x.name.toList
       ·have HE:=hid (hfail.out (fun h=>by have:=h.2 h0;rw [HKP.out,HXE.out,HYE.out] at this;unfold ltB at this;rw [hL] at this;cases this))
        go_wp2_with fail
        go_quiet ((go_at_call 52;refine Calls.quiet_of_same (v:=.bool true) ?_;refine (l15Path_any _ _ HOK.out.1).mono ?_;rintro e w3 ⟨hs3,hb3⟩;exact ⟨hs3.pos hP,hb3⟩))
        go_wp2
        go_ret
        exact ⟨says_f HE.out,below_drewN HBW.out nq⟩
       ·have HO:Hid (EOk l k):=hid ⟨by rw [HXE.out];exact ⟨hP,hT⟩,fun _=>by rw [HKP.out,HXE.out,HYE.out];exact hL⟩
        go_wp2_with fail
        go_quiet ((go_at_call 52;refine Calls.quiet_of_same (v:=.bool true) ?_;refine (l15Path_any _ _ HOK.out.1).mono ?_;rintro e w3 ⟨hs3,hb3⟩;exact ⟨hs3.pos hP,hb3⟩))
        go_wp2
        go_roundw
        case rel=>exact ⟨k+1,by omega,by go_num,all_step HR.out HO.out,below_drewN HBW.out nq⟩
        case measure=>simp [intOf];omega
      ·have h0b:decide ((0:Int) < (k:Int))=false:=by simp;omega
       have h0i:¬ (0:Int) < (k:Int):=by omega
       have HO:Hid (EOk l k):=hid ⟨by rw [HXE.out];exact ⟨hP,hT⟩,fun h=>absurd h h0⟩
       go_wp2_with fail
       go_quiet ((go_at_call 52;refine Calls.quiet_of_same (v:=.bool true) ?_;refine (l15Path_any _ _ HOK.out.1).mono ?_;rintro e w3 ⟨hs3,hb3⟩;exact ⟨hs3.pos hP,hb3⟩))
       go_wp2
       go_roundw
       case rel=>exact ⟨k+1,by omega,by go_num,all_step HR.out HO.out,below_drewN HBW.out nq⟩
       case measure=>simp [intOf];omega
     ·have HE:=hid (hfail.out (fun h=>hT (by have:=h.1.2;rw [HXE.out] at this;exact this)))
      have hT2:(3000:Int) < (x.text.size:Int):=by omega
      have hT3:decide ((3000:Int) < (x.text.size:Int))=true:=by simp;omega
      have hT4:3000 < x.text.size:=by omega
      clear hT
      go_wp2_with fail
      go_quiet ((go_at_call 52;refine Calls.quiet_of_same (v:=.bool true) ?_;refine (l15Path_any _ _ HOK.out.1).mono ?_;rintro e w3 ⟨hs3,hb3⟩;exact ⟨hs3.pos hP,hb3⟩))
      go_wp2
      go_ret
      exact ⟨says_f HE.out,below_drewN HBW.out nq⟩
    ·have HE:=hid (hfail.out (fun h=>hP (by have:=h.1.1;rw [HXE.out] at this;exact this)))
     go_wp2_with fail
     go_quiet ((go_at_call 52;refine Calls.quiet_of_same (v:=.bool false) ?_;refine (l15Path_any _ _ HOK.out.1).mono ?_;rintro e w3 ⟨hs3,hb3⟩;exact ⟨hs3.neg hP,hb3⟩))
     go_wp2
     go_ret
     exact ⟨says_f HE.out,below_drewN HBW.out nq⟩
   ·obtain rfl:k=l.length:=by omega
    have HO:Hid (PlOk l):=hid ⟨h1,HR.out⟩
    go_wp2
    go_ret
    exact ⟨says_t HO.out,HBW.out⟩
 ·go_enter Tryz.func20,Tryz.ntmps20
  go_wp2
  go_ret
  exact ⟨says_f fun h=>h1 h.1,Below.refl _ _⟩
set_option maxHeartbeats 2000000 in
theorem isFile_any (x:Fl) (w:World) (hn:x.name.size≤1048576) (ht:x.text.size≤1048576) :
  Calls Tryz.prog 60 #[.agg #[.string x.name,.string x.text]] w fun e w'=>Says e (FOk x)∧Below w.heap.size w w':=by
 obtain ⟨n,t⟩:=x
 dsimp only at hn ht
 have HB0:=hid (B1.start w (.cells #[.string n,.string t] 55))
 go_enter Tryz.func60,Tryz.ntmps60
 go_wp2_with fail
 refine (implFile_any n _ hn).mono ?_
 rintro e w2 ⟨hs,hb2⟩
 have HB1:=hid (HB0.out.next hb2)
 have k1:w2.cell? ⟨w.heap.size,1,none⟩=some (.string t):=row_cell HB1.out.e 1
 clear hb2
 by_cases hP:FileOk n
 ·obtain rfl:=hs.pos hP
  clear hs
  by_cases hT:t.size≤3000
  ·have hT2:(t.size:Int)≤3000:=by omega
   go_wp2
   go_ret
   exact ⟨says_t ⟨hP,hT⟩,HB1.out.lo⟩
  ·have hT2:¬ (t.size:Int)≤3000:=by omega
   have hT3:decide ((t.size:Int)≤3000)=false:=by simp;omega
   go_wp2
   go_ret
   exact ⟨says_f fun h=>hT h.2,HB1.out.lo⟩
 ·obtain rfl:=hs.neg hP
  clear hs
  go_wp2
  go_ret
  exact ⟨says_f fun h=>hP h.1,HB1.out.lo⟩
end Go.Proofs.YtbkmglknbflkhaaGreatDoor.P
