import Derived.Deep.DeepCutAuto
import Derived.Test.YthnohneaanphbaaGreatDoorJ39
import Derived.Test.YthnohneaanphbaaGreatDoorJ15
import Derived.Test.YthnohneaanphbaaGreatDoorJ42
import Derived.Test.YthnohneaanphbaaGreatDoorJ09
import Derived.Test.YthnohneaanphbaaGreatDoorJ36
import Derived.Test.YthnohneaanphbaaGreatDoorJ41
namespace Go.Proofs.YthnohneaanphbaaGreatDoor
open Go.RowKit
set_option maxRecDepth 20000
theorem Ad.gr {s:Ds} {ov0:Value} {w0:World} {p n:Nat} {bad:Bool} {w:World} (h:Ad s ov0 w0 p bad n w) (G:Gr w):∃ ov,Dk s p bad n ov G.W∧Ad s ov0 w0 p bad n G.W:=by
 obtain ⟨ov,h1,h2⟩:=h
 exact ⟨ov,h1.next G.h,ov,h1.next G.h,h2.next G.h⟩
set_option maxHeartbeats 4000000 in
theorem named_at {s:Ds} {ov0:Value} {w0:World} {p n:Nat} {bad:Bool} {w:World} (h:Ad s ov0 w0 p bad n w) :
  Calls Tryz.prog 132 #[.pointer (some ⟨s.D,0,none⟩)] w fun e w'=>∃ v:Bool,e=.returned (.bool v)∧Ad s ov0 w0 p bad n w':=by
 have HG:=hid h.gr
 have hT:=h.pT.2
 have hpT:=h.pT.1
 have hd:=h.cells.1
 clear h
 have c2:∀ G:Gr w,G.W.cell? ⟨s.D,2,none⟩=some (.int .i64 p):=fun G=>by obtain ⟨ov,h1,_⟩:=HG.out G;exact h1.cells.2.2.1
 have hne:Nonempty (Gr w):=⟨⟨w,Below.refl _ _⟩⟩
 by_cases hp:p < s.T
 ·have hta:s.ta=some ⟨s.b,0,none⟩:=by obtain ⟨ov,h1,_⟩:=HG.out ⟨w,Below.refl _ _⟩;exact h1.tad.resolve_left (by omega)
  have c0:∀ G:Gr w,G.W.cell? ⟨s.D,0,none⟩=some (.slice (some ⟨s.b,0,none⟩) s.T s.tc):=fun G=>by obtain ⟨ov,h1,_⟩:=HG.out G;rw [← hta];exact h1.cells.1
  have HTK:Hid (∀ G:Gr w,Calls Tryz.prog 86 #[.pointer (some ⟨s.D,0,none⟩)] G.W fun e w'=>e=.returned (.agg #[.int .i64 (s.tk p).kind,.string (s.tk p).text,.int .i64 (s.tk p).n,.int .i64 (s.tk p).place])∧Below G.W.heap.size G.W w'):=fun G=>by obtain ⟨ov,h1,_⟩:=HG.out G;exact tok_in h1 hp
  obtain ⟨k,hk⟩:∃ k,(s.tk p).kind=k:=⟨_,rfl⟩
  rw [hk] at HTK
  clear hta hk hd
  have F0:=fun W=>tkKind k (s.tk p).n (s.tk p).place (s.tk p).text W
  by_cases h1:k=1
  ·subst h1
   by_cases h2:p+1 < s.T
   ·have h2i:(p:Int)+1 < (s.T:Int):=by omega
    have HTT:Hid (∀ G:Gr w,G.W.cell? ⟨s.b,(p+1) * 4,none⟩=some (.int .i64 (s.tk (p+1)).kind)∧G.W.cell? ⟨s.b,(p+1) * 4+1,none⟩=some (.string (s.tk (p+1)).text)):=fun G=>by obtain ⟨ov,h1,_⟩:=HG.out G;have:=h1.tks (p+1) h2;exact ⟨this.1,this.2.1⟩
    obtain ⟨k2,hk2⟩:∃ k,(s.tk (p+1)).kind=k:=⟨_,rfl⟩
    rw [hk2] at HTT
    clear hk2
    have t0:=fun G:Gr w=>(HTT.out G).1
    have t1:=fun G:Gr w=>(HTT.out G).2
    by_cases h5:k2=5
    ·subst h5
     go_enter Tryz.func132,Tryz.ntmps132
     go_wp2_with fail
     refine wp_region_gr (by kernel_rfl) (by kernel_rfl) ?_
     repeat (go_big_quiet_step (first | (go_at_call 86;refine Calls.gr_of (v:=.agg #[.int .i64 1,.string (s.tk p).text,.int .i64 (s.tk p).n,.int .i64 (s.tk p).place]) fun _=>?_;exact HTK.out _)))
     refine wpQuiet_nil ?_
     intro _ hw'
     obtain ⟨pw,rfl⟩:=hw'
     obtain ⟨ov9,_,ha⟩:=HG.out pw
     have HA9:=hid ha
     clear ha c2
     go_wp2
     go_ret
     exact ⟨_,rfl,HA9.out⟩
    ·have e5:(k2 == 5)=false:=by simpa using h5
     go_enter Tryz.func132,Tryz.ntmps132
     go_wp2_with fail
     refine wp_region_gr (by kernel_rfl) (by kernel_rfl) ?_
     repeat (go_big_quiet_step (first | (go_at_call 86;refine Calls.gr_of (v:=.agg #[.int .i64 1,.string (s.tk p).text,.int .i64 (s.tk p).n,.int .i64 (s.tk p).place]) fun _=>?_;exact HTK.out _)))
     refine wpQuiet_nil ?_
     intro _ hw'
     obtain ⟨pw,rfl⟩:=hw'
     obtain ⟨ov9,_,ha⟩:=HG.out pw
     have HA9:=hid ha
     clear ha c2
     go_wp2
     go_ret
     exact ⟨_,rfl,HA9.out⟩
   ·have e2:decide ((p:Int)+1 < (s.T:Int))=false:=by simp;omega
    go_enter Tryz.func132,Tryz.ntmps132
    go_wp2_with fail
    refine wp_region_gr (by kernel_rfl) (by kernel_rfl) ?_
    repeat (go_big_quiet_step (first | (go_at_call 86;refine Calls.gr_of (v:=.agg #[.int .i64 1,.string (s.tk p).text,.int .i64 (s.tk p).n,.int .i64 (s.tk p).place]) fun _=>?_;exact HTK.out _)))
    refine wpQuiet_nil ?_
    intro _ hw'
    obtain ⟨pw,rfl⟩:=hw'
    obtain ⟨ov9,_,ha⟩:=HG.out pw
    have HA9:=hid ha
    clear ha c2
    go_wp2
    go_ret
    exact ⟨_,rfl,HA9.out⟩
  ·have e1:(k == 1)=false:=by simpa using h1
   go_enter Tryz.func132,Tryz.ntmps132
   go_wp2_with fail
   refine wp_region_gr (by kernel_rfl) (by kernel_rfl) ?_
   repeat (go_big_quiet_step (first | (go_at_call 86;refine Calls.gr_of (v:=.agg #[.int .i64 k,.string (s.tk p).text,.int .i64 (s.tk p).n,.int .i64 (s.tk p).place]) fun _=>?_;exact HTK.out _)))
   refine wpQuiet_nil ?_
   intro _ hw'
   obtain ⟨pw,rfl⟩:=hw'
   obtain ⟨ov9,_,ha⟩:=HG.out pw
   have HA9:=hid ha
   clear ha c2
   go_wp2
   go_ret
   exact ⟨_,rfl,HA9.out⟩
 ·have HTK:Hid (∀ G:Gr w,Calls Tryz.prog 86 #[.pointer (some ⟨s.D,0,none⟩)] G.W fun e w'=>e=.returned (.agg #[.int .i64 0,.string ⟨#[]⟩,.int .i64 0,.int .i64 s.sz])∧Below G.W.heap.size G.W w'):=fun G=>by obtain ⟨ov,h1,_⟩:=HG.out G;exact tok_out h1 hp
  have F0:=fun W=>tkKind 0 0 s.sz ⟨#[]⟩ W
  go_enter Tryz.func132,Tryz.ntmps132
  go_wp2_with fail
  refine wp_region_gr (by kernel_rfl) (by kernel_rfl) ?_
  repeat (go_big_quiet_step (first | (go_at_call 86;refine Calls.gr_of (v:=.agg #[.int .i64 0,.string ⟨#[]⟩,.int .i64 0,.int .i64 s.sz]) fun _=>?_;exact HTK.out _)))
  refine wpQuiet_nil ?_
  intro _ hw'
  obtain ⟨pw,rfl⟩:=hw'
  obtain ⟨ov9,_,ha⟩:=HG.out pw
  have HA9:=hid ha
  clear ha c2
  go_wp2
  go_ret
  exact ⟨_,rfl,HA9.out⟩
set_option maxHeartbeats 1000000 in
theorem specValid_0 (ad:Option Addr) (c:Nat) (w:World) :
  Calls Tryz.prog 27 #[.agg #[.slice ad 0 c]] w fun e w'=>e=.returned (.bool false)∧Below w.heap.size w w':=by
 go_enter Tryz.func27,Tryz.ntmps27
 go_wp2_with (first
  | (go_at_call 22;refine (l1In_dec _ _ _ _).mono ?_;rintro e w' ⟨rfl,hw⟩;have hw2:=hw.symm;clear hw;subst hw2;rw [show (decide ((1:Int)≤0) && decide ((0:Int)≤5000))=false from rfl]))
 go_ret
 exact ⟨rfl,(Below.refl _ _).alloc (Nat.le_refl _) _⟩
set_option maxHeartbeats 1000000 in
theorem implValid_0 (ad:Option Addr) (c:Nat) (w:World) :
  Calls Tryz.prog 34 #[.agg #[.slice ad 0 c]] w fun e w'=>e=.returned (.bool false)∧Below w.heap.size w w':=by
 have HB:=hid (below_two w (.cells #[.slice ad 0 c] 25) (.map (wordE 17) 17))
 go_enter Tryz.func34,Tryz.ntmps34
 go_wp2_with (go_at_call 39;refine (clayWords_any _).mono ?_;rintro e w' ⟨rfl,rfl⟩)
 go_loopw [4,17] (fun vo i wr=>vo=.slice none 0 0∧i=.int .i64 0∧Below w.heap.size w wr) (fun _ _ _=>0)
 case atStart=>exact ⟨rfl,rfl,HB.out⟩
 case round =>
  obtain ⟨rfl,rfl,hb⟩:=hrel
  have HB2:=hid hb
  clear hb
  go_wp2
  go_ret
  exact ⟨rfl,HB2.out⟩
set_option maxHeartbeats 1000000 in
theorem specCheck_0 (ad:Option Addr) (c:Nat) (w:World) :
  Calls Tryz.prog 10 #[.agg #[.slice ad 0 c]] w fun e w'=>e=.returned (.agg #[.int .i64 11,.int .i64 0])∧Below w.heap.size w w':=by
 have HA:Hid (Below w.heap.size w ((w.alloc (.cells #[.slice ad 0 c] 25)).alloc (.cells #[.int .i64 0,.int .i64 0] 37))):=((Below.refl _ _).alloc (Nat.le_refl _) _).alloc (by simp) _
 have HY:Hid (((w.alloc (.cells #[.slice ad 0 c] 25)).alloc (.cells #[.int .i64 0,.int .i64 0] 37)).heap[w.heap.size+1]?=some (.cells #[.int .i64 0,.int .i64 0] 37 (0,0))):=by
  have:=heap_alloc_new (w.alloc (.cells #[.slice ad 0 c] 25)) (.cells #[.int .i64 0,.int .i64 0] 37)
  rwa [World.size_alloc] at this
 go_enter Tryz.func10,Tryz.ntmps10
 go_wp2_with fail
 refine (specValid_0 ad c _).mono ?_
 rintro e w1 ⟨rfl,hb1⟩
 have hy:=(hb1.block (w.heap.size+1) (by simp)).trans HY.out
 have y0:w1.cell? ⟨w.heap.size+1,0,none⟩=some (.int .i64 0):=by unfold World.cell?;rw [hy];rfl
 have y1:w1.cell? ⟨w.heap.size+1,1,none⟩=some (.int .i64 0):=by unfold World.cell?;rw [hy];rfl
 have z0:w1.frozen? ⟨w.heap.size+1,0,none⟩=false:=by unfold World.frozen?;rw [hy];simp
 have z1:w1.frozen? ⟨w.heap.size+1,1,none⟩=false:=by unfold World.frozen?;rw [hy];simp
 have HB1:=hid (HA.out.trans (hb1.mono (by simp;omega)))
 have HE:Hid (∀ a b,Below w.heap.size w ((w1.setCell ⟨w.heap.size+1,0,none⟩ a).setCell ⟨w.heap.size+1,1,none⟩ b)):=fun a b=>(HB1.out.setCell (p:=⟨w.heap.size+1,0,none⟩) (Nat.le_succ _) _).setCell (p:=⟨w.heap.size+1,1,none⟩) (Nat.le_succ _) _
 clear hb1 hy
 go_wp2
 exact bodyPost_ret (v:=.agg #[.int .i64 11,.int .i64 0]) (by simp [results,Tryz.results10,go_sem,y0,y1]) rfl ⟨rfl,HE.out _ _⟩
set_option maxHeartbeats 1000000 in
theorem bound_0 (ad:Option Addr) (c:Nat) (w:World) :
  Calls Tryz.prog 16 #[.agg #[.slice ad 0 c]] w fun e w'=>e=.returned (.tuple #[.slice none 0 0,.agg #[.int .i64 11,.int .i64 0]])∧Below w.heap.size w w':=by
 have HA:Hid (Below w.heap.size w ((w.alloc (.cells #[.slice ad 0 c] 25)).alloc (.cells #[.int .i64 0,.int .i64 0] 37))):=((Below.refl _ _).alloc (Nat.le_refl _) _).alloc (by simp) _
 have HY:Hid (((w.alloc (.cells #[.slice ad 0 c] 25)).alloc (.cells #[.int .i64 0,.int .i64 0] 37)).heap[w.heap.size+1]?=some (.cells #[.int .i64 0,.int .i64 0] 37 (0,0))):=by
  have:=heap_alloc_new (w.alloc (.cells #[.slice ad 0 c] 25)) (.cells #[.int .i64 0,.int .i64 0] 37)
  rwa [World.size_alloc] at this
 go_enter Tryz.func16,Tryz.ntmps16
 go_wp2_with fail
 refine (implValid_0 ad c _).mono ?_
 rintro e w1 ⟨rfl,hb1⟩
 have hy:=(hb1.block (w.heap.size+1) (by simp)).trans HY.out
 have y0:w1.cell? ⟨w.heap.size+1,0,none⟩=some (.int .i64 0):=by unfold World.cell?;rw [hy];rfl
 have y1:w1.cell? ⟨w.heap.size+1,1,none⟩=some (.int .i64 0):=by unfold World.cell?;rw [hy];rfl
 have z0:w1.frozen? ⟨w.heap.size+1,0,none⟩=false:=by unfold World.frozen?;rw [hy];simp
 have z1:w1.frozen? ⟨w.heap.size+1,1,none⟩=false:=by unfold World.frozen?;rw [hy];simp
 have HB1:=hid (HA.out.trans (hb1.mono (by simp;omega)))
 have HE:Hid (∀ k a b,Below w.heap.size w (((w1.drewN k).setCell ⟨w.heap.size+1,0,none⟩ a).setCell ⟨w.heap.size+1,1,none⟩ b)):=fun k a b=>((below_drewN HB1.out k).setCell (p:=⟨w.heap.size+1,0,none⟩) (Nat.le_succ _) _).setCell (p:=⟨w.heap.size+1,1,none⟩) (Nat.le_succ _) _
 clear hb1 hy
 go_wp2
 first
 | exact bodyPost_ret (v:=.tuple #[.slice none 0 0,.agg #[.int .i64 11,.int .i64 0]]) (by simp [results,Tryz.results16,go_sem,y0,y1]) rfl ⟨rfl,HE.out 0 _ _⟩
 | exact bodyPost_ret (v:=.tuple #[.slice none 0 0,.agg #[.int .i64 11,.int .i64 0]]) (by simp [results,Tryz.results16,go_sem,y0,y1]) rfl ⟨rfl,HE.out _ _ _⟩
end Go.Proofs.YthnohneaanphbaaGreatDoor
namespace Go.Proofs.YthnohneaanphbaaGreatDoor
open Go.RowKit Go.Maps Go.WideMaps
set_option maxRecDepth 20000
theorem str_ne {a b:ByteArray} (h:¬ a=b):(a.toList == b.toList)=false:=by
 cases hq:(a.toList == b.toList) with
 | false=>rfl
 | true=>exact absurd (bytes_eq hq) h
set_option maxHeartbeats 1000000 in
theorem isBuilt_any (s:ByteArray) (w:World) (hE:BEnv w) :
  Calls Tryz.prog 40 #[.string s] w fun e w'=>e=.returned (.bool (isBuilt s))∧w'=w:=by
 obtain ⟨t,fr,hg⟩:=hE
 have HG:=hid hg
 clear hg
 go_enter Tryz.func40,Tryz.ntmps40
 go_wp2_with (refine wpList_load_row rfl 120 (.global 0) rfl 0 rfl t builtArr fr (.array 15 9) HG.out Tryz.underlying120 rfl (by kernel_rfl) ?_)
 go_loop [6] (fun i=>∃ (k:Nat),k≤15∧i=.int .i64 k∧∀ q,q < k→¬ builtS q=s) (fun i=>15 - (intOf i).toNat)
 case atStart=>exact ⟨0,Nat.zero_le _,rfl,fun q h=>absurd h (Nat.not_lt_zero _)⟩
 case round =>
  obtain ⟨k,hk,rfl,hno⟩:=hrel
  have HNO:=hid hno
  clear hno
  by_cases hlt:k < 15
  ·have hidx:=index_builts k hlt
   by_cases he:builtS k=s
   ·have HB:Hid (isBuilt s=true):=(mem_builts s).2 ⟨k,hlt,he⟩
    go_wp2
    go_ret
    exact ⟨ret_bool HB.out.symm,rfl⟩
   ·have hq:=str_ne he
    have HNX:Hid (∀ q,q < k+1→¬ builtS q=s):=fun q h=>by
     rcases Nat.lt_or_eq_of_le (Nat.lt_succ_iff.1 h) with h | h
     ·exact HNO.out q h
     ·rw [h];exact he
    go_wp2
    go_round
    case rel=>exact ⟨k+1,by omega,by go_num,HNX.out⟩
    case measure=>simp [intOf];omega
  ·obtain rfl:k=15:=by omega
   have HB:Hid (isBuilt s=false):=by
    show _=_
    cases hq:isBuilt s with
    | false=>rfl
    | true =>
     obtain ⟨i,hi,he⟩:=(mem_builts s).1 hq
     exact absurd he (HNO.out i hi)
   go_wp2
   go_ret
   exact ⟨ret_bool HB.out.symm,rfl⟩
set_option maxHeartbeats 1000000 in
theorem indexText_any (tb b N cap:Nat) (nd:Nat→Nd) (s:ByteArray) (w:World) (hN:N≤1048576) (hb:b < w.heap.size) (hn:NodesAt w b N nd) (ht:w.cell? ⟨tb,0,none⟩=some (.string s)) :
  Calls Tryz.prog 72 #[.slice (some ⟨b,0,none⟩) N cap,.func (.func 42) #[] #[.pointer (some ⟨tb,0,none⟩)]] w fun e w'=>FirstP N (fun i=>(nd i).text=s) e∧Below w.heap.size w w':=by
 have lt:=World.block_lt_of_cell? w _ ht
 have HS:=hid hn
 have HT:=hid ht
 clear hn ht
 go_enter Tryz.func72,Tryz.ntmps72
 go_wp2
 go_loopw [8] (fun i wr=>∃ j:Nat,j≤N∧i=.int .i64 j∧(∀ i,i < j→¬ (nd i).text=s)∧Below w.heap.size w wr) (fun i _=>N - (intOf i).toNat)
 case atStart=>exact ⟨0,Nat.zero_le _,rfl,fun i h=>absurd h (Nat.not_lt_zero _),Below.refl _ _⟩
 case round =>
  obtain ⟨j,hj,rfl,hin,hbw⟩:=hrel
  have HBW:=hid hbw
  have HIN:=hid hin
  clear hbw hin
  by_cases hlt:j < N
  ·obtain ⟨a0,a1,a2,a3,a4⟩:=(HS.out.below HBW.out hb) j hlt
   have HN:=hid (HBW.out.alloc HBW.out.size (.cells #[.int .i64 (nd j).kind,.int .i64 (nd j).op,.int .i64 (nd j).n,.string (nd j).text,.int .i64 (nd j).kids] 35))
   have ht':=(HN.out.cell (p:=⟨tb,0,none⟩) lt).trans HT.out
   by_cases c1:(nd j).text=s
   ·have HC:=hid c1
    have hq:((nd j).text.toList == s.toList)=true:=by rw [c1];simp
    clear c1
    go_wp2
    go_ret
    exact ⟨.inl ⟨j,hlt,rfl,HC.out,HIN.out⟩,HN.out⟩
   ·have HX:=hid (none_succ HIN.out c1)
    have hq:=str_ne c1
    clear c1
    go_wp2
    go_roundw
    case rel=>exact ⟨j+1,by omega,by go_num,HX.out,HN.out⟩
    case measure=>simp [intOf];omega
  ·obtain rfl:j=N:=by omega
   go_wp2
   go_ret
   exact ⟨.inr ⟨rfl,HIN.out⟩,HBW.out⟩
set_option maxHeartbeats 1000000 in
theorem containsText_any (tb b N cap:Nat) (nd:Nat→Nd) (s:ByteArray) (w:World) (hN:N≤1048576) (hb:b < w.heap.size) (hn:NodesAt w b N nd) (ht:w.cell? ⟨tb,0,none⟩=some (.string s)) :
  Calls Tryz.prog 41 #[.slice (some ⟨b,0,none⟩) N cap,.func (.func 42) #[] #[.pointer (some ⟨tb,0,none⟩)]] w fun e w'=>Says e (∃ i,i < N∧(nd i).text=s)∧Below w.heap.size w w':=by
 have HS:=hid hn
 have HT:=hid ht
 clear hn ht
 go_enter Tryz.func41,Tryz.ntmps41
 go_wp2_with (go_at_call 72;refine (indexText_any tb b N cap nd s _ hN hb HS.out HT.out).mono ?_;rintro e w' ⟨⟨i,hi1,rfl,hP,hno⟩ | ⟨rfl,hno⟩,hb2⟩)
 ·have HP:=hid hP
  clear hP
  go_ret
  exact ⟨says_t ⟨i,hi1,HP.out⟩,hb2⟩
 ·go_ret
  exact ⟨says_f (fun ⟨i,h1,h2⟩=>hno i h1 h2),hb2⟩
end Go.Proofs.YthnohneaanphbaaGreatDoor
namespace Go.Proofs.YthnohneaanphbaaGreatDoor
open Go.RowKit
set_option maxRecDepth 20000
set_option maxHeartbeats 1000000 in
theorem specFits_0 (ad:Option Addr) (c:Nat) (W:World):Calls Tryz.prog 21 #[.agg #[.slice ad 0 c]] W fun e w'=>e=.returned (.bool false)∧Below W.heap.size W w':=by
 have HA:Hid (Below W.heap.size W (W.alloc (.cells #[.slice ad 0 c] 25))):=(Below.refl _ _).alloc (Nat.le_refl _) _
 go_enter Tryz.func21,Tryz.ntmps21
 go_wp2_with fail
 refine (specCheck_0 ad c _).mono ?_
 rintro e w1 ⟨rfl,hb1⟩
 have HB:=hid (HA.out.trans (hb1.mono (by simp)))
 clear hb1
 have hfc:=field_code 11 0 w1
 go_wp2
 go_ret
 exact ⟨rfl,HB.out⟩
set_option maxHeartbeats 1000000 in
theorem specLocals_0 (ad:Option Addr) (c:Nat) (w:World) :
  Calls Tryz.prog 13 #[.agg #[.slice ad 0 c]] w fun e w'=>(∃ ad2 c2,e=.returned (.slice ad2 0 c2))∧Below w.heap.size w w':=by
 have HA:Hid (∀ o,Below w.heap.size w ((w.alloc (.cells #[.slice ad 0 c] 25)).alloc o)):=fun o=>((Below.refl _ _).alloc (Nat.le_refl _) _).alloc (by simp) o
 go_enter Tryz.func13,Tryz.ntmps13
 go_wp2_with fail
 refine (specFits_0 ad c _).mono ?_
 rintro e w1 ⟨rfl,hb1⟩
 have HB:=hid ((HA.out _).trans (hb1.mono (by simp;omega)))
 clear hb1
 go_wp2
 go_ret
 exact ⟨⟨_,_,rfl⟩,HB.out⟩
set_option maxHeartbeats 1000000 in
theorem specRename_0 (ad:Option Addr) (c:Nat) (at_:Int) (nm:ByteArray) (w:World) :
  Calls Tryz.prog 6 #[.agg #[.slice ad 0 c],.int .i64 at_,.string nm] w fun e w'=>e=.returned (.tuple #[.agg #[.slice none 0 0],.int .i64 1])∧Below w.heap.size w w':=by
 have HA:Hid (Below w.heap.size w ((w.alloc (.cells #[.slice ad 0 c] 25)).alloc (.cells #[.slice none 0 0] 25))):=((Below.refl _ _).alloc (Nat.le_refl _) _).alloc (by simp) _
 have HY:Hid (((w.alloc (.cells #[.slice ad 0 c] 25)).alloc (.cells #[.slice none 0 0] 25)).heap[w.heap.size+1]?=some (.cells #[.slice none 0 0] 25 (0,0))):=by
  have:=heap_alloc_new (w.alloc (.cells #[.slice ad 0 c] 25)) (.cells #[.slice none 0 0] 25)
  rwa [World.size_alloc] at this
 go_enter Tryz.func6,Tryz.ntmps6
 go_wp2_with fail
 refine (specFits_0 ad c _).mono ?_
 rintro e w1 ⟨rfl,hb1⟩
 have hy:=(hb1.block (w.heap.size+1) (by simp)).trans HY.out
 have y0:w1.cell? ⟨w.heap.size+1,0,none⟩=some (.slice none 0 0):=by unfold World.cell?;rw [hy];rfl
 have z0:w1.frozen? ⟨w.heap.size+1,0,none⟩=false:=by unfold World.frozen?;rw [hy];simp
 have HB1:=hid (HA.out.trans (hb1.mono (by simp;omega)))
 have HE:Hid (∀ k v,Below w.heap.size w ((w1.drewN k).setCell ⟨w.heap.size+1,0,none⟩ v)):=fun k v=>(below_drewN HB1.out k).setCell (p:=⟨w.heap.size+1,0,none⟩) (Nat.le_succ _) _
 clear hb1 hy
 go_wp2
 first
 | exact bodyPost_ret (v:=.tuple #[.agg #[.slice none 0 0],.int .i64 1]) (by simp [results,Tryz.results6,go_sem,y0]) rfl ⟨rfl,HE.out 0 _⟩
 | exact bodyPost_ret (v:=.tuple #[.agg #[.slice none 0 0],.int .i64 1]) (by simp [results,Tryz.results6,go_sem,y0]) rfl ⟨rfl,HE.out _ _⟩
set_option maxHeartbeats 1000000 in
theorem implRename_0 (ad:Option Addr) (c:Nat) (at_:Int) (nm:ByteArray) (w:World) :
  Calls Tryz.prog 5 #[.agg #[.slice ad 0 c],.int .i64 at_,.string nm] w fun e w'=>e=.returned (.tuple #[.agg #[.slice none 0 0],.int .i64 1])∧Below w.heap.size w w':=by
 have HA:Hid (Below w.heap.size w ((w.alloc (.cells #[.slice ad 0 c] 25)).alloc (.cells #[.slice none 0 0] 25))):=((Below.refl _ _).alloc (Nat.le_refl _) _).alloc (by simp) _
 have HY:Hid (((w.alloc (.cells #[.slice ad 0 c] 25)).alloc (.cells #[.slice none 0 0] 25)).heap[w.heap.size+1]?=some (.cells #[.slice none 0 0] 25 (0,0))):=by
  have:=heap_alloc_new (w.alloc (.cells #[.slice ad 0 c] 25)) (.cells #[.slice none 0 0] 25)
  rwa [World.size_alloc] at this
 go_enter Tryz.func5,Tryz.ntmps5
 go_wp2_with fail
 refine (bound_0 ad c _).mono ?_
 rintro e w1 ⟨rfl,hb1⟩
 have hsz:w.heap.size+2≤w1.heap.size:=by have:=hb1.size;simp at this;omega
 have hy:∀ o,(w1.alloc o).heap[w.heap.size+1]?=some (.cells #[.slice none 0 0] 25 (0,0)):=fun o=>(Below.heap_alloc _ _ _ (by omega)).trans ((hb1.block (w.heap.size+1) (by simp)).trans HY.out)
 have y0:∀ o,(w1.alloc o).cell? ⟨w.heap.size+1,0,none⟩=some (.slice none 0 0):=fun o=>by unfold World.cell?;rw [hy];rfl
 have z0:∀ o,(w1.alloc o).frozen? ⟨w.heap.size+1,0,none⟩=false:=fun o=>by unfold World.frozen?;rw [hy];simp
 have HB1:=hid (HA.out.trans (hb1.mono (by simp;omega)))
 have HE:Hid (∀ o k v,Below w.heap.size w (((w1.alloc o).drewN k).setCell ⟨w.heap.size+1,0,none⟩ v)):=fun o k v=>(below_drewN (HB1.out.alloc HB1.out.size o) k).setCell (p:=⟨w.heap.size+1,0,none⟩) (Nat.le_succ _) _
 clear hb1 hy
 go_wp2
 first
 | exact bodyPost_ret (v:=.tuple #[.agg #[.slice none 0 0],.int .i64 1]) (by simp [results,Tryz.results5,go_sem,y0]) rfl ⟨rfl,HE.out _ 0 _⟩
 | exact bodyPost_ret (v:=.tuple #[.agg #[.slice none 0 0],.int .i64 1]) (by simp [results,Tryz.results5,go_sem,y0]) rfl ⟨rfl,HE.out _ _ _⟩
def FreshT (nd:Nat→Nd) (N:Nat) (s:ByteArray):Prop:=NameOk s∧isBuilt s=false∧¬ ∃ i,i < N∧(nd i).text=s
def LocAt (nd:Nat→Nd) (N:Nat) (at_:Int):Prop:=∃ a:Nat,at_=(a:Int)∧a < N∧isLoc nd a=true
def renN (nd:Nat→Nd) (bn:Nat→Int) (a:Nat) (s:ByteArray) (i:Nat):Nd:=if i=a∨bn i=(a:Int) then { nd i with text:=s } else nd i
def RenI (nd:Nat→Nd) (N:Nat) (at_:Int) (s:ByteArray) (c:Int) (M:Nat) (nd':Nat→Nd):Prop :=
 (c=1∧M=0∧¬ FaultI nd N 0 0)∨(FaultI nd N 0 0∧((c=2∧M=0∧¬ LocAt nd N at_)∨∃ a:Nat,at_=(a:Int)∧a < N∧isLoc nd a=true ∧
  ((c=3∧M=0∧¬ FreshT nd N s)∨(FreshT nd N s∧c=0∧M=N∧∃ bn,BindI nd N N bn∧nd'=renN nd bn a s))))
theorem RenI.unique {nd:Nat→Nd} {N M M':Nat} {at_ c c':Int} {s:ByteArray} {nd' nd'':Nat→Nd} (h:RenI nd N at_ s c M nd') (h':RenI nd N at_ s c' M' nd''):c=c'∧M=M'∧(M≠0→nd'=nd''):=by
 rcases h with ⟨rfl,rfl,h⟩ | ⟨hf,h⟩
 ·rcases h' with ⟨rfl,rfl,_⟩ | ⟨hf',_⟩
  ·exact ⟨rfl,rfl,fun h=>absurd rfl h⟩
  ·exact absurd hf' h
 ·rcases h' with ⟨_,_,h'⟩ | ⟨_,h'⟩
  ·exact absurd hf h'
  ·rcases h with ⟨rfl,rfl,h⟩ | ⟨a,ha,hN,hl,h⟩
   ·rcases h' with ⟨rfl,rfl,_⟩ | ⟨a,ha,hN,hl,_⟩
    ·exact ⟨rfl,rfl,fun h=>absurd rfl h⟩
    ·exact absurd ⟨a,ha,hN,hl⟩ h
   ·rcases h' with ⟨_,_,h'⟩ | ⟨a',ha',_,_,h'⟩
    ·exact absurd ⟨a,ha,hN,hl⟩ h'
    ·have e:a=a':=by omega
     subst e
     rcases h with ⟨rfl,rfl,h⟩ | ⟨hfr,rfl,rfl,bn,hb,rfl⟩
     ·rcases h' with ⟨rfl,rfl,_⟩ | ⟨hfr,_⟩
      ·exact ⟨rfl,rfl,fun h=>absurd rfl h⟩
      ·exact absurd hfr h
     ·rcases h' with ⟨_,_,h'⟩ | ⟨_,rfl,hM,bn',hb',rfl⟩
      ·exact absurd hfr h'
      ·subst hM
       exact ⟨rfl,rfl,fun h0=>by rw [(hb.unique hb').2 h0]⟩
def ndL (y:Nd):List Value:=[.int .i64 y.kind,.int .i64 y.op,.int .i64 y.n,.string y.text,.int .i64 y.kids]
def rowL (f:Nat→Nd) (j:Nat):List Value:=(List.range j).flatMap fun i=>ndL (f i)
theorem rowL_succ (f:Nat→Nd) (j:Nat):rowL f (j+1)=rowL f j ++ ndL (f j):=by
 unfold rowL
 rw [List.range_succ,List.flatMap_append]
 simp
theorem rowL_get (f:Nat→Nd) (j i t:Nat) (hi:i < j) (ht:t < 5):(rowL f j)[i * 5+t]?=(ndL (f i))[t]?:=by
 have hlen:∀ k,(rowL f k).length=k * 5:=fun k=>by
  induction k with
  | zero=>rfl
  | succ k ih=>rw [rowL_succ,List.length_append,ih];simp [ndL];omega
 induction j with
 | zero=>omega
 | succ j ih =>
  rw [rowL_succ]
  by_cases h:i < j
  ·rw [List.getElem?_append_left (by rw [hlen];omega),ih h]
  ·obtain rfl:i=j:=by omega
   rw [List.getElem?_append_right (by rw [hlen];omega),hlen,Nat.add_sub_cancel_left]
theorem nodes_of_own {W:World} {B n:Nat} {v:Value} {f:Nat→Nd} (h:W.ownsRow B 35 5 v n (rowL f n)) (h0:n≠0):∃ g c,v=.slice (some ⟨g,0,none⟩) n c∧B≤g∧g < W.heap.size∧NodesAt W g n f:=by
 obtain ⟨_,⟨_,rfl⟩ | ⟨g,cap,cur,rfl,hg,hh,hn,_,hs,ht⟩⟩:=h
 ·exact absurd rfl h0
 ·refine ⟨g,cap,rfl,hg,(Array.getElem?_eq_some_iff.1 hh).1,fun i hi=>?_⟩
  have e:∀ t,t < 5→W.cell? ⟨g,i * 5+t,none⟩=(ndL (f i))[t]?:=fun t ht5=>by
   rw [cell_hpC hh]
   have:(cur.toList.take (n * 5))[i * 5+t]?=(rowL f n)[i * 5+t]?:=by rw [ht]
   rw [List.getElem?_take_of_lt (by omega),Array.getElem?_toList] at this
   rw [this,rowL_get f n i t hi ht5]
  exact ⟨e 0 (by omega),e 1 (by omega),e 2 (by omega),e 3 (by omega),e 4 (by omega)⟩
theorem cell_five_newC (w:World) (a b c d f:Value) (t:TypeId):∀ j u,[a,b,c,d,f][j]?=some u→(w.alloc (.cells #[a,b,c,d,f] t)).cell? ((⟨w.heap.size,0,none⟩:Addr).add j)=some u:=by
 intro j u hj
 have h:(w.alloc (.cells #[a,b,c,d,f] t)).cell? ⟨w.heap.size,j,none⟩=#[a,b,c,d,f][j]?:=cell_new_row w _ t j
 have e:((⟨w.heap.size,0,none⟩:Addr).add j)=⟨w.heap.size,j,none⟩:=by unfold Addr.add;simp;intro h;exact h.symm
 rw [e,h,← hj];simp
theorem cell_five_new1 (w:World) (X:Obj) (a b c d f:Value) (t:TypeId):∀ j u,[a,b,c,d,f][j]?=some u→((w.alloc X).alloc (.cells #[a,b,c,d,f] t)).cell? ((⟨w.heap.size+1,0,none⟩:Addr).add j)=some u:=by
 intro j u hj
 have h:=cell_five_newC (w.alloc X) a b c d f t j u hj
 rw [World.size_alloc] at h
 exact h
theorem ren_cells {w W:World} {b N cap:Nat} (h:Below (w.heap.size+2) ((w.alloc (.cells #[.slice (some ⟨b,0,none⟩) N cap] 25)).alloc (.cells #[.slice none 0 0] 25)) W) :
  W.cell? ⟨w.heap.size,0,none⟩=some (.slice (some ⟨b,0,none⟩) N cap)∧W.heap[w.heap.size+1]?=some (.cells #[.slice none 0 0] 25 (0,0))∧Below w.heap.size w W∧w.heap.size+2≤W.heap.size:=by
 refine ⟨?_,?_,?_,?_⟩
 ·rw [h.cell (p:=⟨w.heap.size,0,none⟩) (by show w.heap.size < w.heap.size+2;omega),cell_alloc_lt _ _ _ _ (by simp)]
  exact cell_new_row w _ _ 0
 ·rw [h.block _ (by omega)]
  have:=heap_alloc_new (w.alloc (.cells #[.slice (some ⟨b,0,none⟩) N cap] 25)) (.cells #[.slice none 0 0] 25)
  rw [World.size_alloc] at this
  exact this
 ·exact (((Below.refl w.heap.size w).alloc (Nat.le_refl _) _).alloc (by simp) _).trans (h.mono (by omega))
 ·have:=h.size
  simpa using this
theorem one_cell {W:World} {r:Nat} {x:Value} {t:TypeId} (h:W.heap[r]?=some (.cells #[x] t (0,0))):W.cell? ⟨r,0,none⟩=some x∧W.frozen? ⟨r,0,none⟩=false:=⟨cell_hpC h 0,frozen_hpC h 0⟩
theorem one_set {W:World} {r:Nat} {x:Value} {t:TypeId} (h:W.heap[r]?=some (.cells #[x] t (0,0))) (y:Value):(W.setCell ⟨r,0,none⟩ y).heap[r]?=some (.cells #[y] t (0,0)):=by
 rw [set_atC y h];rfl
set_option maxHeartbeats 8000000 in
theorem single_at {s:Ds} {ov0:Value} {w0:World} {p n:Nat} {bad:Bool} {w:World} (hE:∀ q,p < q→EOk9 s q) (h:Ad s ov0 w0 p bad n w) (hl:n+2 * s.T≤400000+2 * p) :
  Calls Tryz.prog 126 #[.pointer (some ⟨s.D,0,none⟩)] w (DE 0 s ov0 w0 p n):=by
 have HA0:=hid h
 have hT:=h.pT.2
 have hpT:=h.pT.1
 clear h
 go_enter Tryz.func126,Tryz.ntmps126
 go_wp2_with fail
 refine (tok_at HA0.out).mono ?_
 rintro e w1 ⟨k,m,q,t,rfl,hx,hk,a1⟩
 have HAO:Hid (∀ o,Ad s ov0 w0 p bad n (w1.alloc o)):=fun o=>a1.next ((Below.refl _ _).alloc (Nat.le_refl _) o)
 have HK:=hid hk
 have HX:=hid hx
 have hDw:s.D < w1.heap.size:=by obtain ⟨ov,h1,_⟩:=a1;exact h1.lt
 have C3:∀ o,(w1.alloc o).cell? ⟨s.D,3,none⟩=some (.bool bad):=fun o=>(HAO.out o).cells.2.2.1
 have C2:∀ o,(w1.alloc o).cell? ⟨s.D,2,none⟩=some (.int .i64 p):=fun o=>(HAO.out o).cells.2.1
 have F2:∀ o,(w1.alloc o).frozen? ⟨s.D,2,none⟩=false:=fun o=>(HAO.out o).cells.2.2.2
 have hne:s.D≠w1.heap.size:=by omega
 have hne2:w1.heap.size≠s.D:=by omega
 clear hk hx a1 HA0 hDw
 cases bad
 ·by_cases h3:k=3
  ·subst h3
   have hp:=HK.out (by decide)
   have HAi:=hid ((HAO.out (.cells #[.int .i64 3,.string t,.int .i64 m,.int .i64 q] 130)).inc hp)
   go_wp2_with fail
   refine (put_at9 HAi.out ⟨3,0,m,⟨#[]⟩,0⟩ (by show (⟨#[]⟩:ByteArray).size≤1000;decide) (by have:=HAi.out.pT;omega)).mono ?_
   rintro e w1 ⟨rfl,a1⟩
   have HA1:=hid a1
   clear a1 HAi
   go_wp2
   go_end0
   exact ⟨rfl,(p+1),false,(n+1),by omega,by omega,by omega,HA1.out⟩
  ·have e3:(k == 3)=false:=by simpa using h3
   by_cases h4:k=4
   ·subst h4
    have hp:=HK.out (by decide)
    have HAi:=hid ((HAO.out (.cells #[.int .i64 4,.string t,.int .i64 m,.int .i64 q] 130)).inc hp)
    go_wp2_with fail
    refine (put_at9 HAi.out ⟨4,0,0,t,0⟩ (HX.out) (by have:=HAi.out.pT;omega)).mono ?_
    rintro e w2 ⟨rfl,a2⟩
    have HA2:=hid a2
    clear a2 HAi
    go_wp2
    go_end0
    exact ⟨rfl,(p+1),false,(n+1),by omega,by omega,by omega,HA2.out⟩
   ·have e4:(k == 4)=false:=by simpa using h4
    by_cases h1:k=1
    ·subst h1
     have hp:=HK.out (by decide)
     have HAi:=hid ((HAO.out (.cells #[.int .i64 1,.string t,.int .i64 m,.int .i64 q] 130)).inc hp)
     go_wp2_with fail
     refine (put_at9 HAi.out ⟨5,0,0,t,0⟩ (HX.out) (by have:=HAi.out.pT;omega)).mono ?_
     rintro e w3 ⟨rfl,a3⟩
     have HA3:=hid a3
     clear a3 HAi
     go_wp2
     go_end0
     exact ⟨rfl,(p+1),false,(n+1),by omega,by omega,by omega,HA3.out⟩
    ·have e1:(k == 1)=false:=by simpa using h1
     go_wp2_with fail
     refine (take_at (HAO.out _) _).mono ?_
     rintro e w4 (⟨rfl,l4,a4⟩ | ⟨rfl,a4⟩)
     ·have HA4:=hid a4
      clear a4 HAO
      go_wp2_with fail
      refine (put_at9 HA4.out ⟨1,0,0,⟨#[]⟩,0⟩ (by show (⟨#[]⟩:ByteArray).size≤1000;decide) (by have:=HA4.out.pT;omega)).mono ?_
      rintro e w5 ⟨rfl,a5⟩
      have HA5:=hid a5
      clear a5 HA4
      go_wp2
      go_end0
      exact ⟨rfl,(p+1),false,(n+1),by omega,by omega,by omega,HA5.out⟩
     ·have HA4:=hid a4
      clear a4 HAO
      go_wp2_with fail
      refine (take_at HA4.out _).mono ?_
      rintro e w6 (⟨rfl,l6,a6⟩ | ⟨rfl,a6⟩)
      ·have HA6:=hid a6
       clear a6 HA4
       go_wp2_with fail
       refine (put_at9 HA6.out ⟨2,0,0,⟨#[]⟩,0⟩ (by show (⟨#[]⟩:ByteArray).size≤1000;decide) (by have:=HA6.out.pT;omega)).mono ?_
       rintro e w7 ⟨rfl,a7⟩
       have HA7:=hid a7
       clear a7 HA6
       go_wp2
       go_end0
       exact ⟨rfl,(p+1),false,(n+1),by omega,by omega,by omega,HA7.out⟩
      ·have HA6:=hid a6
       clear a6 HA4
       go_wp2_with fail
       refine (take_at HA6.out _).mono ?_
       rintro e w8 (⟨rfl,l8,a8⟩ | ⟨rfl,a8⟩)
       ·have HA8:=hid a8
        clear a8 HA6
        go_wp2_with fail
        refine (put_at9 HA8.out ⟨2,0,1,⟨#[]⟩,0⟩ (by show (⟨#[]⟩:ByteArray).size≤1000;decide) (by have:=HA8.out.pT;omega)).mono ?_
        rintro e w9 ⟨rfl,a9⟩
        have HA9:=hid a9
        clear a9 HA8
        go_wp2
        go_end0
        exact ⟨rfl,(p+1),false,(n+1),by omega,by omega,by omega,HA9.out⟩
       ·have HA8:=hid a8
        clear a8 HA6
        go_wp2_with fail
        refine (take_at HA8.out _).mono ?_
        rintro e w10 (⟨rfl,l10,a10⟩ | ⟨rfl,a10⟩)
        ·have HA10:=hid a10
         clear a10 HA8
         go_wp2_with fail
         refine (list_at (p:=(p+1)) (fun q hq=>hE q (by omega)) HA10.out (by have:=HA10.out.pT;omega)).mono ?_
         rintro e w11 ⟨rfl,p11,b11,n11,l11a,l11b,l11c,a11⟩
         have HA11:=hid a11
         clear a11 HA10
         go_wp2
         go_end0
         exact ⟨rfl,p11,b11,n11,by omega,by omega,by omega,HA11.out⟩
        ·have HA10:=hid a10
         clear a10 HA8
         go_wp2_with fail
         refine (take_at HA10.out _).mono ?_
         rintro e w12 (⟨rfl,l12,a12⟩ | ⟨rfl,a12⟩)
         ·have HA12:=hid a12
          clear a12 HA10
          go_wp2_with fail
          refine (record_at9 (p:=(p+1)) (fun q hq=>hE q (by omega)) HA12.out (by have:=HA12.out.pT;omega)).mono ?_
          rintro e w13 ⟨rfl,p13,b13,n13,l13a,l13b,l13c,a13⟩
          have HA13:=hid a13
          clear a13 HA12
          go_wp2
          go_end0
          exact ⟨rfl,p13,b13,n13,by omega,by omega,by omega,HA13.out⟩
         ·have HA12:=hid a12
          clear a12 HA10
          go_wp2_with fail
          refine (take_at HA12.out _).mono ?_
          rintro e w14 (⟨rfl,l14,a14⟩ | ⟨rfl,a14⟩)
          ·have HA14:=hid a14
           clear a14 HA12
           go_wp2_with fail
           refine (hE (p+1) (by omega) _ _ _ _ _ HA14.out (by have:=HA14.out.pT;omega)).mono ?_
           rintro e w15 ⟨rfl,p15,b15,n15,l15a,l15b,l15c,a15⟩
           have HA15:=hid a15
           clear a15 HA14
           go_wp2_with fail
           refine (need_at HA15.out _).mono ?_
           rintro e w16 ⟨rfl,p16,b16,l16a,l16b,a16⟩
           have HA16:=hid a16
           clear a16 HA15
           go_wp2
           go_end0
           exact ⟨rfl,p16,b16,n15,by omega,by omega,by omega,HA16.out⟩
          ·have HA14:=hid a14
           clear a14 HA12
           go_wp2_with fail
           refine (stop_at HA14.out).mono ?_
           rintro e w17 ⟨rfl,a17⟩
           have HA17:=hid a17
           clear a17 HA14
           go_wp2
           go_end0
           exact ⟨rfl,p,true,n,by omega,by omega,by omega,HA17.out⟩
 ·skip
  go_wp2
  exact bodyPost_ret (results_none rfl _ _ _) rfl ⟨rfl,p,true,n,by omega,by omega,by omega,HAO.out _⟩
end Go.Proofs.YthnohneaanphbaaGreatDoor
