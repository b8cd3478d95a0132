import Derived.Test.YtbkmglknbflkhaaGreatDoorJ06
import Derived.Test.YtbkmglknbflkhaaGreatDoorJ05
import Derived.Test.YtbkmglknbflkhaaGreatDoorJ26
namespace Go.Proofs.YtbkmglknbflkhaaGreatDoor.M
open Go.RowKit
open Go.Proofs.YtbkmglknbflkhaaGreatDoor.J (Says says_t says_f size_zero isEmpty_iff FileOk BegOk)
open Go.Proofs.YtbkmglknbflkhaaGreatDoor.R (hid)
set_option maxRecDepth 20000
def WtP (kind looks:Int) (name hold:ByteArray):Prop:=(kind=0∧name.size=0∧hold.size=0)∨((1≤kind∧kind≤4)∧(FileOk name∨kind=3∧BegOk name)∧hold.size≤3000∧(hold.size=0∨kind=4)∧1≤looks)
def WtOk (x:R.Mc):Prop:=WtP x.kind x.looks x.name x.hold
theorem not_empty2 {s:ByteArray} (h:¬ s.size=0):s.toList.isEmpty=false:=by rw [isEmpty_iff];simpa using h
theorem says_tr {p:Nat} {args:Array Value} {w:World} {P:Prop} (h:Calls Tryz.prog p args w fun e w'=>Says e P∧Below w.heap.size w w') (hp:P):Calls Tryz.prog p args w fun e w'=>e=.returned (.bool true)∧Below w.heap.size w w' :=
 h.mono fun _ _ h=>⟨h.1.pos hp,h.2⟩
theorem says_fa {p:Nat} {args:Array Value} {w:World} {P:Prop} (h:Calls Tryz.prog p args w fun e w'=>Says e P∧Below w.heap.size w w') (hp:¬ P):Calls Tryz.prog p args w fun e w'=>e=.returned (.bool false)∧Below w.heap.size w w' :=
 h.mono fun _ _ h=>⟨h.1.neg hp,h.2⟩
set_option maxHeartbeats 2000000 in
theorem mayLook_any (kind:Int) (s:ByteArray) (w:World) (hs:s.size≤1048576) :
  Calls Tryz.prog 65 #[.int .i64 kind,.string s] w fun e w'=>Says e (FileOk s∨kind=3∧BegOk s)∧Below w.heap.size w w':=by
 have HF:=hid (J.implFile_any s w hs)
 have HB:=hid fun W=>J.implBeg_any s W hs
 by_cases h1:FileOk s
 ·have HT:=hid (says_tr HF.out h1)
  have H1:=hid h1
  clear h1 HF
  go_enter Tryz.func65,Tryz.ntmps65
  go_wp2_with fail
  refine HT.out.mono ?_
  rintro e w1 ⟨rfl,hb⟩
  go_wp2_with fail
  go_ret
  exact ⟨says_t (.inl H1.out),hb⟩
 ·have HT:=hid (says_fa HF.out h1)
  have H1:=hid h1
  clear h1 HF
  by_cases hk:kind=3
  ·subst hk
   by_cases h2:BegOk s
   ·have HT2:=hid fun W=>says_tr (HB.out W) h2
    have H2:=hid h2
    clear h2 HB
    go_enter Tryz.func65,Tryz.ntmps65
    go_wp2_with fail
    refine HT.out.mono ?_
    rintro e w1 ⟨rfl,hb⟩
    have HB1:=hid hb
    clear hb
    go_wp2_with fail
    refine (HT2.out _).mono ?_
    rintro e w2 ⟨rfl,hb2⟩
    go_wp2_with fail
    go_ret
    exact ⟨says_t (.inr ⟨by trivial,H2.out⟩),HB1.out.trans (hb2.mono HB1.out.size)⟩
   ·have HT2:=hid fun W=>says_fa (HB.out W) h2
    have H2:=hid h2
    clear h2 HB
    go_enter Tryz.func65,Tryz.ntmps65
    go_wp2_with fail
    refine HT.out.mono ?_
    rintro e w1 ⟨rfl,hb⟩
    have HB1:=hid hb
    clear hb
    go_wp2_with fail
    refine (HT2.out _).mono ?_
    rintro e w2 ⟨rfl,hb2⟩
    go_wp2_with fail
    go_ret
    exact ⟨says_f (fun h=>h.elim H1.out fun h=>H2.out h.2),HB1.out.trans (hb2.mono HB1.out.size)⟩
  ·have hkb:(kind == 3)=false:=by simpa using hk
   have HK:=hid hk
   clear hk
   go_enter Tryz.func65,Tryz.ntmps65
   go_wp2_with fail
   refine HT.out.mono ?_
   rintro e w1 ⟨rfl,hb⟩
   go_wp2_with fail
   go_ret
   exact ⟨says_f (fun h=>h.elim H1.out fun h=>HK.out h.1),hb⟩
set_option maxHeartbeats 20000000 in
theorem implWait_any (x:R.Mc) {v0 v1 v2 v3 v4 v5:Value} (w:World) (hn:x.name.size≤1048576) (ho:x.hold.size≤1048576) :
  Calls Tryz.prog 36 #[mval x v0 v1 v2 v3 v4 v5] w fun e w'=>Says e (WtOk x)∧Below w.heap.size w w':=by
 go_enter Tryz.func36,Tryz.ntmps36
 go_upto_region 1 with fail
 have HX:=hid (MX.start w x v0 v1 v2 v3 v4 v5)
 obtain ⟨W1,hW1⟩:∃ W,w.alloc (.cells #[v0,v1,v2,v3,.int .i64 x.steps,.int .i64 x.looks,.int .i64 x.kind,.string x.name,.string x.hold,.bool x.over,.int .i64 x.fin,.string x.text,v4,v5] 34)=W:=⟨_,rfl⟩
 rw [hW1] at HX ⊢
 clear hW1
 have c5:=HX.out.c5
 have c6:=HX.out.c6
 have c7:=HX.out.c7
 have c8:=HX.out.c8
 have HWT:Hid (WtOk x ↔ WtP x.kind x.looks x.name x.hold):=hid Iff.rfl
 obtain ⟨looks,e⟩:∃ f,x.looks=f:=⟨_,rfl⟩
 rw [e] at c5 HWT
 have HE5:=hid e
 clear e
 obtain ⟨kind,e⟩:∃ f,x.kind=f:=⟨_,rfl⟩
 rw [e] at c6 HWT
 have HE6:=hid e
 clear e
 obtain ⟨name,e⟩:∃ f,x.name=f:=⟨_,rfl⟩
 rw [e] at c7 HWT hn
 have HE7:=hid e
 clear e
 obtain ⟨hold,e⟩:∃ f,x.hold=f:=⟨_,rfl⟩
 rw [e] at c8 HWT ho
 have HE8:=hid e
 clear e
 have HN:=hid hn
 have HO:=hid ho
 by_cases k0:kind=0
 ·subst k0
  by_cases e1:name.size=0
  ·obtain rfl:=size_zero e1
   by_cases e2:hold.size=0
   ·obtain rfl:=size_zero e2
    go_wp2_with fail
    all_goals go_ret
    all_goals exact ⟨says_t (HWT.out.2 (.inl ⟨rfl,rfl,rfl⟩)),HX.out.lo⟩
   ·have b2:=not_empty2 e2
    go_wp2_with fail
    all_goals go_ret
    all_goals exact ⟨says_f (fun h=>by have h2:=HWT.out.1 h;unfold WtP at h2;omega),HX.out.lo⟩
  ·have b1:=not_empty2 e1
   go_wp2_with fail
   all_goals go_ret
   all_goals exact ⟨says_f (fun h=>by have h2:=HWT.out.1 h;unfold WtP at h2;omega),HX.out.lo⟩
 by_cases k1:kind=1
 ·subst k1
  by_cases q:FileOk name∨(1:Int)=3∧BegOk name
  ·have HNM:=hid q
   have HML:=hid (says_tr (mayLook_any 1 name W1 HN.out) q)
   clear q
   go_upto_region 8 with fail
   by_cases e3:hold.size≤3000
   ·have i3:(hold.size:Int)≤3000:=by omega
    by_cases e5:hold.size=0
    ·obtain rfl:=size_zero e5
     by_cases e4:1≤looks
     ·have i4:looks ≥ (1:Int):=e4
      go_wp2_with (go_at_call 65;refine HML.out.mono ?_;rintro e w2 ⟨rfl,hb2⟩;have HX2:=hid (HX.out.next hb2);clear c5 c6 c7 c8 hb2;have c5:=HX2.out.c5;have c6:=HX2.out.c6;have c7:=HX2.out.c7;have c8:=HX2.out.c8;rw [HE5.out] at c5;rw [HE6.out] at c6;rw [HE7.out] at c7;rw [HE8.out] at c8)
      all_goals go_ret
      all_goals exact ⟨says_t (HWT.out.2 (.inr ⟨⟨by decide,by decide⟩,(by simpa using HNM.out),e3,.inl rfl,e4⟩)),HX2.out.lo⟩
     ·have i4:decide ((1:Int)≤looks)=false:=by simpa using e4
      go_wp2_with (go_at_call 65;refine HML.out.mono ?_;rintro e w2 ⟨rfl,hb2⟩;have HX2:=hid (HX.out.next hb2);clear c5 c6 c7 c8 hb2;have c5:=HX2.out.c5;have c6:=HX2.out.c6;have c7:=HX2.out.c7;have c8:=HX2.out.c8;rw [HE5.out] at c5;rw [HE6.out] at c6;rw [HE7.out] at c7;rw [HE8.out] at c8)
      all_goals go_ret
      all_goals exact ⟨says_f (fun h=>by have h2:=HWT.out.1 h;unfold WtP at h2;omega),HX2.out.lo⟩
    ·have b5:=not_empty2 e5
     go_wp2_with (go_at_call 65;refine HML.out.mono ?_;rintro e w2 ⟨rfl,hb2⟩;have HX2:=hid (HX.out.next hb2);clear c5 c6 c7 c8 hb2;have c5:=HX2.out.c5;have c6:=HX2.out.c6;have c7:=HX2.out.c7;have c8:=HX2.out.c8;rw [HE5.out] at c5;rw [HE6.out] at c6;rw [HE7.out] at c7;rw [HE8.out] at c8)
     all_goals go_ret
     all_goals exact ⟨says_f (fun h=>by have h2:=HWT.out.1 h;unfold WtP at h2;omega),HX2.out.lo⟩
   ·have i3:¬ ((hold.size:Int)≤3000):=by omega
    go_wp2_with (go_at_call 65;refine HML.out.mono ?_;rintro e w2 ⟨rfl,hb2⟩;have HX2:=hid (HX.out.next hb2);clear c5 c6 c7 c8 hb2;have c5:=HX2.out.c5;have c6:=HX2.out.c6;have c7:=HX2.out.c7;have c8:=HX2.out.c8;rw [HE5.out] at c5;rw [HE6.out] at c6;rw [HE7.out] at c7;rw [HE8.out] at c8)
    all_goals go_ret
    all_goals exact ⟨says_f (fun h=>by have h2:=HWT.out.1 h;unfold WtP at h2;omega),HX2.out.lo⟩
  ·have HNM:=hid q
   have HML:=hid (says_fa (mayLook_any 1 name W1 HN.out) q)
   clear q
   go_wp2_with (go_at_call 65;refine HML.out.mono ?_;rintro e w2 ⟨rfl,hb2⟩;have HX2:=hid (HX.out.next hb2);clear hb2)
   go_ret
   exact ⟨says_f (fun h=>by have h2:=HWT.out.1 h;unfold WtP at h2;rcases h2 with h2 | h2;exact absurd h2.1 (by decide);exact HNM.out (by simpa using h2.2.1)),HX2.out.lo⟩
 by_cases k2:kind=2
 ·subst k2
  by_cases q:FileOk name∨(2:Int)=3∧BegOk name
  ·have HNM:=hid q
   have HML:=hid (says_tr (mayLook_any 2 name W1 HN.out) q)
   clear q
   go_upto_region 8 with fail
   by_cases e3:hold.size≤3000
   ·have i3:(hold.size:Int)≤3000:=by omega
    by_cases e5:hold.size=0
    ·obtain rfl:=size_zero e5
     by_cases e4:1≤looks
     ·have i4:looks ≥ (1:Int):=e4
      go_wp2_with (go_at_call 65;refine HML.out.mono ?_;rintro e w2 ⟨rfl,hb2⟩;have HX2:=hid (HX.out.next hb2);clear c5 c6 c7 c8 hb2;have c5:=HX2.out.c5;have c6:=HX2.out.c6;have c7:=HX2.out.c7;have c8:=HX2.out.c8;rw [HE5.out] at c5;rw [HE6.out] at c6;rw [HE7.out] at c7;rw [HE8.out] at c8)
      all_goals go_ret
      all_goals exact ⟨says_t (HWT.out.2 (.inr ⟨⟨by decide,by decide⟩,(by simpa using HNM.out),e3,.inl rfl,e4⟩)),HX2.out.lo⟩
     ·have i4:decide ((1:Int)≤looks)=false:=by simpa using e4
      go_wp2_with (go_at_call 65;refine HML.out.mono ?_;rintro e w2 ⟨rfl,hb2⟩;have HX2:=hid (HX.out.next hb2);clear c5 c6 c7 c8 hb2;have c5:=HX2.out.c5;have c6:=HX2.out.c6;have c7:=HX2.out.c7;have c8:=HX2.out.c8;rw [HE5.out] at c5;rw [HE6.out] at c6;rw [HE7.out] at c7;rw [HE8.out] at c8)
      all_goals go_ret
      all_goals exact ⟨says_f (fun h=>by have h2:=HWT.out.1 h;unfold WtP at h2;omega),HX2.out.lo⟩
    ·have b5:=not_empty2 e5
     go_wp2_with (go_at_call 65;refine HML.out.mono ?_;rintro e w2 ⟨rfl,hb2⟩;have HX2:=hid (HX.out.next hb2);clear c5 c6 c7 c8 hb2;have c5:=HX2.out.c5;have c6:=HX2.out.c6;have c7:=HX2.out.c7;have c8:=HX2.out.c8;rw [HE5.out] at c5;rw [HE6.out] at c6;rw [HE7.out] at c7;rw [HE8.out] at c8)
     all_goals go_ret
     all_goals exact ⟨says_f (fun h=>by have h2:=HWT.out.1 h;unfold WtP at h2;omega),HX2.out.lo⟩
   ·have i3:¬ ((hold.size:Int)≤3000):=by omega
    go_wp2_with (go_at_call 65;refine HML.out.mono ?_;rintro e w2 ⟨rfl,hb2⟩;have HX2:=hid (HX.out.next hb2);clear c5 c6 c7 c8 hb2;have c5:=HX2.out.c5;have c6:=HX2.out.c6;have c7:=HX2.out.c7;have c8:=HX2.out.c8;rw [HE5.out] at c5;rw [HE6.out] at c6;rw [HE7.out] at c7;rw [HE8.out] at c8)
    all_goals go_ret
    all_goals exact ⟨says_f (fun h=>by have h2:=HWT.out.1 h;unfold WtP at h2;omega),HX2.out.lo⟩
  ·have HNM:=hid q
   have HML:=hid (says_fa (mayLook_any 2 name W1 HN.out) q)
   clear q
   go_wp2_with (go_at_call 65;refine HML.out.mono ?_;rintro e w2 ⟨rfl,hb2⟩;have HX2:=hid (HX.out.next hb2);clear hb2)
   go_ret
   exact ⟨says_f (fun h=>by have h2:=HWT.out.1 h;unfold WtP at h2;rcases h2 with h2 | h2;exact absurd h2.1 (by decide);exact HNM.out (by simpa using h2.2.1)),HX2.out.lo⟩
 by_cases k3:kind=3
 ·subst k3
  by_cases q:FileOk name∨(3:Int)=3∧BegOk name
  ·have HNM:=hid q
   have HML:=hid (says_tr (mayLook_any 3 name W1 HN.out) q)
   clear q
   go_upto_region 8 with fail
   by_cases e3:hold.size≤3000
   ·have i3:(hold.size:Int)≤3000:=by omega
    by_cases e5:hold.size=0
    ·obtain rfl:=size_zero e5
     by_cases e4:1≤looks
     ·have i4:looks ≥ (1:Int):=e4
      go_wp2_with (go_at_call 65;refine HML.out.mono ?_;rintro e w2 ⟨rfl,hb2⟩;have HX2:=hid (HX.out.next hb2);clear c5 c6 c7 c8 hb2;have c5:=HX2.out.c5;have c6:=HX2.out.c6;have c7:=HX2.out.c7;have c8:=HX2.out.c8;rw [HE5.out] at c5;rw [HE6.out] at c6;rw [HE7.out] at c7;rw [HE8.out] at c8)
      all_goals go_ret
      all_goals exact ⟨says_t (HWT.out.2 (.inr ⟨⟨by decide,by decide⟩,(by simpa using HNM.out),e3,.inl rfl,e4⟩)),HX2.out.lo⟩
     ·have i4:decide ((1:Int)≤looks)=false:=by simpa using e4
      go_wp2_with (go_at_call 65;refine HML.out.mono ?_;rintro e w2 ⟨rfl,hb2⟩;have HX2:=hid (HX.out.next hb2);clear c5 c6 c7 c8 hb2;have c5:=HX2.out.c5;have c6:=HX2.out.c6;have c7:=HX2.out.c7;have c8:=HX2.out.c8;rw [HE5.out] at c5;rw [HE6.out] at c6;rw [HE7.out] at c7;rw [HE8.out] at c8)
      all_goals go_ret
      all_goals exact ⟨says_f (fun h=>by have h2:=HWT.out.1 h;unfold WtP at h2;omega),HX2.out.lo⟩
    ·have b5:=not_empty2 e5
     go_wp2_with (go_at_call 65;refine HML.out.mono ?_;rintro e w2 ⟨rfl,hb2⟩;have HX2:=hid (HX.out.next hb2);clear c5 c6 c7 c8 hb2;have c5:=HX2.out.c5;have c6:=HX2.out.c6;have c7:=HX2.out.c7;have c8:=HX2.out.c8;rw [HE5.out] at c5;rw [HE6.out] at c6;rw [HE7.out] at c7;rw [HE8.out] at c8)
     all_goals go_ret
     all_goals exact ⟨says_f (fun h=>by have h2:=HWT.out.1 h;unfold WtP at h2;omega),HX2.out.lo⟩
   ·have i3:¬ ((hold.size:Int)≤3000):=by omega
    go_wp2_with (go_at_call 65;refine HML.out.mono ?_;rintro e w2 ⟨rfl,hb2⟩;have HX2:=hid (HX.out.next hb2);clear c5 c6 c7 c8 hb2;have c5:=HX2.out.c5;have c6:=HX2.out.c6;have c7:=HX2.out.c7;have c8:=HX2.out.c8;rw [HE5.out] at c5;rw [HE6.out] at c6;rw [HE7.out] at c7;rw [HE8.out] at c8)
    all_goals go_ret
    all_goals exact ⟨says_f (fun h=>by have h2:=HWT.out.1 h;unfold WtP at h2;omega),HX2.out.lo⟩
  ·have HNM:=hid q
   have HML:=hid (says_fa (mayLook_any 3 name W1 HN.out) q)
   clear q
   go_wp2_with (go_at_call 65;refine HML.out.mono ?_;rintro e w2 ⟨rfl,hb2⟩;have HX2:=hid (HX.out.next hb2);clear hb2)
   go_ret
   exact ⟨says_f (fun h=>by have h2:=HWT.out.1 h;unfold WtP at h2;rcases h2 with h2 | h2;exact absurd h2.1 (by decide);exact HNM.out (by simpa using h2.2.1)),HX2.out.lo⟩
 by_cases k4:kind=4
 ·subst k4
  by_cases q:FileOk name∨(4:Int)=3∧BegOk name
  ·have HNM:=hid q
   have HML:=hid (says_tr (mayLook_any 4 name W1 HN.out) q)
   clear q
   go_upto_region 8 with fail
   by_cases e3:hold.size≤3000
   ·have i3:(hold.size:Int)≤3000:=by omega
    by_cases e4:1≤looks
    ·have i4:looks ≥ (1:Int):=e4
     go_wp2_with (go_at_call 65;refine HML.out.mono ?_;rintro e w2 ⟨rfl,hb2⟩;have HX2:=hid (HX.out.next hb2);clear c5 c6 c7 c8 hb2;have c5:=HX2.out.c5;have c6:=HX2.out.c6;have c7:=HX2.out.c7;have c8:=HX2.out.c8;rw [HE5.out] at c5;rw [HE6.out] at c6;rw [HE7.out] at c7;rw [HE8.out] at c8)
     all_goals go_ret
     all_goals exact ⟨says_t (HWT.out.2 (.inr ⟨⟨by decide,by decide⟩,(by simpa using HNM.out),e3,.inr rfl,e4⟩)),HX2.out.lo⟩
    ·have i4:decide ((1:Int)≤looks)=false:=by simpa using e4
     go_wp2_with (go_at_call 65;refine HML.out.mono ?_;rintro e w2 ⟨rfl,hb2⟩;have HX2:=hid (HX.out.next hb2);clear c5 c6 c7 c8 hb2;have c5:=HX2.out.c5;have c6:=HX2.out.c6;have c7:=HX2.out.c7;have c8:=HX2.out.c8;rw [HE5.out] at c5;rw [HE6.out] at c6;rw [HE7.out] at c7;rw [HE8.out] at c8)
     all_goals go_ret
     all_goals exact ⟨says_f (fun h=>by have h2:=HWT.out.1 h;unfold WtP at h2;omega),HX2.out.lo⟩
   ·have i3:¬ ((hold.size:Int)≤3000):=by omega
    go_wp2_with (go_at_call 65;refine HML.out.mono ?_;rintro e w2 ⟨rfl,hb2⟩;have HX2:=hid (HX.out.next hb2);clear c5 c6 c7 c8 hb2;have c5:=HX2.out.c5;have c6:=HX2.out.c6;have c7:=HX2.out.c7;have c8:=HX2.out.c8;rw [HE5.out] at c5;rw [HE6.out] at c6;rw [HE7.out] at c7;rw [HE8.out] at c8)
    all_goals go_ret
    all_goals exact ⟨says_f (fun h=>by have h2:=HWT.out.1 h;unfold WtP at h2;omega),HX2.out.lo⟩
  ·have HNM:=hid q
   have HML:=hid (says_fa (mayLook_any 4 name W1 HN.out) q)
   clear q
   go_wp2_with (go_at_call 65;refine HML.out.mono ?_;rintro e w2 ⟨rfl,hb2⟩;have HX2:=hid (HX.out.next hb2);clear hb2)
   go_ret
   exact ⟨says_f (fun h=>by have h2:=HWT.out.1 h;unfold WtP at h2;rcases h2 with h2 | h2;exact absurd h2.1 (by decide);exact HNM.out (by simpa using h2.2.1)),HX2.out.lo⟩
 have d0:(kind == 0)=false:=by simpa using k0
 have d1:(kind == 1)=false:=by simpa using k1
 have d2:(kind == 2)=false:=by simpa using k2
 have d3:(kind == 3)=false:=by simpa using k3
 have d4:(kind == 4)=false:=by simpa using k4
 go_wp2_with fail
 all_goals go_ret
 all_goals exact ⟨says_f (fun h=>by have h2:=HWT.out.1 h;unfold WtP at h2;omega),HX.out.lo⟩
end Go.Proofs.YtbkmglknbflkhaaGreatDoor.M
namespace Go.Proofs.YtbkmglknbflkhaaGreatDoor.M
open Go.RowKit
open Go.Proofs.YtbkmglknbflkhaaGreatDoor.J (Says says_t says_f size_zero isEmpty_iff FileOk BegOk)
open Go.Proofs.YtbkmglknbflkhaaGreatDoor.R (hid)
set_option maxRecDepth 20000
theorem says_tr0 {p:Nat} {args:Array Value} {w:World} {P:Prop} (h:Calls Tryz.prog p args w fun e w'=>Says e P∧w'=w) (hp:P):Calls Tryz.prog p args w fun e w'=>e=.returned (.bool true)∧w'=w :=
 h.mono fun _ _ h=>⟨h.1.pos hp,h.2⟩
theorem says_fa0 {p:Nat} {args:Array Value} {w:World} {P:Prop} (h:Calls Tryz.prog p args w fun e w'=>Says e P∧w'=w) (hp:¬ P):Calls Tryz.prog p args w fun e w'=>e=.returned (.bool false)∧w'=w :=
 h.mono fun _ _ h=>⟨h.1.neg hp,h.2⟩
set_option maxHeartbeats 20000000 in
theorem specWait_any (x:R.Mc) {v0 v1 v2 v3 v4 v5:Value} (w:World) (hn:x.name.size≤1048576) (ho:x.hold.size≤1048576) :
  Calls Tryz.prog 25 #[mval x v0 v1 v2 v3 v4 v5] w fun e w'=>Says e (WtOk x)∧Below w.heap.size w w':=by
 go_enter Tryz.func25,Tryz.ntmps25
 go_upto_region 1 with fail
 have HX:=hid (MX.start w x v0 v1 v2 v3 v4 v5)
 obtain ⟨W1,hW1⟩:∃ W,w.alloc (.cells #[v0,v1,v2,v3,.int .i64 x.steps,.int .i64 x.looks,.int .i64 x.kind,.string x.name,.string x.hold,.bool x.over,.int .i64 x.fin,.string x.text,v4,v5] 34)=W:=⟨_,rfl⟩
 rw [hW1] at HX ⊢
 clear hW1
 have c5:=HX.out.c5
 have c6:=HX.out.c6
 have c7:=HX.out.c7
 have c8:=HX.out.c8
 have HWT:Hid (WtOk x ↔ WtP x.kind x.looks x.name x.hold):=hid Iff.rfl
 obtain ⟨looks,e⟩:∃ f,x.looks=f:=⟨_,rfl⟩
 rw [e] at c5 HWT
 have HE5:=hid e
 clear e
 obtain ⟨kind,e⟩:∃ f,x.kind=f:=⟨_,rfl⟩
 rw [e] at c6 HWT
 have HE6:=hid e
 clear e
 obtain ⟨name,e⟩:∃ f,x.name=f:=⟨_,rfl⟩
 rw [e] at c7 HWT hn
 have HE7:=hid e
 clear e
 obtain ⟨hold,e⟩:∃ f,x.hold=f:=⟨_,rfl⟩
 rw [e] at c8 HWT ho
 have HE8:=hid e
 clear e
 have HN:=hid (show name.size≤maxLen by unfold maxLen;omega)
 by_cases k0:kind=0
 ·subst k0
  by_cases e1:name.size=0
  ·obtain rfl:=size_zero e1
   by_cases e2:hold.size=0
   ·obtain rfl:=size_zero e2
    go_wp2_with fail
    all_goals go_ret
    all_goals exact ⟨says_t (HWT.out.2 (.inl ⟨rfl,rfl,rfl⟩)),HX.out.lo⟩
   ·have b2:=not_empty2 e2
    go_wp2_with fail
    all_goals go_ret
    all_goals exact ⟨says_f (fun h=>by have h2:=HWT.out.1 h;unfold WtP at h2;omega),HX.out.lo⟩
  ·have b1:=not_empty2 e1
   go_wp2_with fail
   all_goals go_ret
   all_goals exact ⟨says_f (fun h=>by have h2:=HWT.out.1 h;unfold WtP at h2;omega),HX.out.lo⟩
 by_cases k1:kind=1
 ·subst k1
  have HIN:Hid (Calls Tryz.prog 22 #[.int .i64 1,.int .i64 1,.int .i64 4] W1 fun e w'=>e=.returned (.bool true)∧w'=W1):=hid ((C.l16In_any 1 1 4 W1).mono fun _ _ h=>⟨h.1.trans (by rw [show C.inB (1:Int) 1 4=true from by decide]),h.2⟩)
  by_cases q:FileOk name
  ·have HNM:=hid q
   have HML:=hid (says_tr0 (J.l15Path_any name W1 HN.out) q)
   clear q
   by_cases e3:hold.size≤3000
   ·have i3:(hold.size:Int)≤3000:=by omega
    by_cases e5:hold.size=0
    ·obtain rfl:=size_zero e5
     by_cases e4:1≤looks
     ·have i4:looks ≥ (1:Int):=e4
      go_wp2_with (first | (go_at_call 52;refine HML.out.mono ?_;rintro e w2 ⟨rfl,hw⟩;have hw2:=hw.symm;clear hw;subst hw2) | (go_at_call 22;refine HIN.out.mono ?_;rintro e w2 ⟨rfl,hw⟩;have hw2:=hw.symm;clear hw;subst hw2))
      all_goals go_ret
      all_goals exact ⟨says_t (HWT.out.2 (.inr ⟨⟨by decide,by decide⟩,.inl HNM.out,e3,.inl rfl,e4⟩)),HX.out.lo⟩
     ·have i4:decide ((1:Int)≤looks)=false:=by simpa using e4
      go_wp2_with (first | (go_at_call 52;refine HML.out.mono ?_;rintro e w2 ⟨rfl,hw⟩;have hw2:=hw.symm;clear hw;subst hw2) | (go_at_call 22;refine HIN.out.mono ?_;rintro e w2 ⟨rfl,hw⟩;have hw2:=hw.symm;clear hw;subst hw2))
      all_goals go_ret
      all_goals exact ⟨says_f (fun h=>by have h2:=HWT.out.1 h;unfold WtP at h2;omega),HX.out.lo⟩
    ·have b5:=not_empty2 e5
     go_wp2_with (first | (go_at_call 52;refine HML.out.mono ?_;rintro e w2 ⟨rfl,hw⟩;have hw2:=hw.symm;clear hw;subst hw2) | (go_at_call 22;refine HIN.out.mono ?_;rintro e w2 ⟨rfl,hw⟩;have hw2:=hw.symm;clear hw;subst hw2))
     all_goals go_ret
     all_goals exact ⟨says_f (fun h=>by have h2:=HWT.out.1 h;unfold WtP at h2;omega),HX.out.lo⟩
   ·have i3:¬ ((hold.size:Int)≤3000):=by omega
    go_wp2_with (first | (go_at_call 52;refine HML.out.mono ?_;rintro e w2 ⟨rfl,hw⟩;have hw2:=hw.symm;clear hw;subst hw2) | (go_at_call 22;refine HIN.out.mono ?_;rintro e w2 ⟨rfl,hw⟩;have hw2:=hw.symm;clear hw;subst hw2))
    all_goals go_ret
    all_goals exact ⟨says_f (fun h=>by have h2:=HWT.out.1 h;unfold WtP at h2;omega),HX.out.lo⟩
  ·have HNM:=hid q
   have HML:=hid (says_fa0 (J.l15Path_any name W1 HN.out) q)
   clear q
   go_wp2_with (first | (go_at_call 52;refine HML.out.mono ?_;rintro e w2 ⟨rfl,hw⟩;have hw2:=hw.symm;clear hw;subst hw2) | (go_at_call 22;refine HIN.out.mono ?_;rintro e w2 ⟨rfl,hw⟩;have hw2:=hw.symm;clear hw;subst hw2))
   go_ret
   exact ⟨says_f (fun h=>by have h2:=HWT.out.1 h;unfold WtP at h2;rcases h2 with h2 | h2;exact absurd h2.1 (by decide);rcases h2.2.1 with h3 | h3;exact HNM.out h3;exact absurd h3.1 (by decide)),HX.out.lo⟩
 by_cases k2:kind=2
 ·subst k2
  have HIN:Hid (Calls Tryz.prog 22 #[.int .i64 2,.int .i64 1,.int .i64 4] W1 fun e w'=>e=.returned (.bool true)∧w'=W1):=hid ((C.l16In_any 2 1 4 W1).mono fun _ _ h=>⟨h.1.trans (by rw [show C.inB (2:Int) 1 4=true from by decide]),h.2⟩)
  by_cases q:FileOk name
  ·have HNM:=hid q
   have HML:=hid (says_tr0 (J.l15Path_any name W1 HN.out) q)
   clear q
   by_cases e3:hold.size≤3000
   ·have i3:(hold.size:Int)≤3000:=by omega
    by_cases e5:hold.size=0
    ·obtain rfl:=size_zero e5
     by_cases e4:1≤looks
     ·have i4:looks ≥ (1:Int):=e4
      go_wp2_with (first | (go_at_call 52;refine HML.out.mono ?_;rintro e w2 ⟨rfl,hw⟩;have hw2:=hw.symm;clear hw;subst hw2) | (go_at_call 22;refine HIN.out.mono ?_;rintro e w2 ⟨rfl,hw⟩;have hw2:=hw.symm;clear hw;subst hw2))
      all_goals go_ret
      all_goals exact ⟨says_t (HWT.out.2 (.inr ⟨⟨by decide,by decide⟩,.inl HNM.out,e3,.inl rfl,e4⟩)),HX.out.lo⟩
     ·have i4:decide ((1:Int)≤looks)=false:=by simpa using e4
      go_wp2_with (first | (go_at_call 52;refine HML.out.mono ?_;rintro e w2 ⟨rfl,hw⟩;have hw2:=hw.symm;clear hw;subst hw2) | (go_at_call 22;refine HIN.out.mono ?_;rintro e w2 ⟨rfl,hw⟩;have hw2:=hw.symm;clear hw;subst hw2))
      all_goals go_ret
      all_goals exact ⟨says_f (fun h=>by have h2:=HWT.out.1 h;unfold WtP at h2;omega),HX.out.lo⟩
    ·have b5:=not_empty2 e5
     go_wp2_with (first | (go_at_call 52;refine HML.out.mono ?_;rintro e w2 ⟨rfl,hw⟩;have hw2:=hw.symm;clear hw;subst hw2) | (go_at_call 22;refine HIN.out.mono ?_;rintro e w2 ⟨rfl,hw⟩;have hw2:=hw.symm;clear hw;subst hw2))
     all_goals go_ret
     all_goals exact ⟨says_f (fun h=>by have h2:=HWT.out.1 h;unfold WtP at h2;omega),HX.out.lo⟩
   ·have i3:¬ ((hold.size:Int)≤3000):=by omega
    go_wp2_with (first | (go_at_call 52;refine HML.out.mono ?_;rintro e w2 ⟨rfl,hw⟩;have hw2:=hw.symm;clear hw;subst hw2) | (go_at_call 22;refine HIN.out.mono ?_;rintro e w2 ⟨rfl,hw⟩;have hw2:=hw.symm;clear hw;subst hw2))
    all_goals go_ret
    all_goals exact ⟨says_f (fun h=>by have h2:=HWT.out.1 h;unfold WtP at h2;omega),HX.out.lo⟩
  ·have HNM:=hid q
   have HML:=hid (says_fa0 (J.l15Path_any name W1 HN.out) q)
   clear q
   go_wp2_with (first | (go_at_call 52;refine HML.out.mono ?_;rintro e w2 ⟨rfl,hw⟩;have hw2:=hw.symm;clear hw;subst hw2) | (go_at_call 22;refine HIN.out.mono ?_;rintro e w2 ⟨rfl,hw⟩;have hw2:=hw.symm;clear hw;subst hw2))
   go_ret
   exact ⟨says_f (fun h=>by have h2:=HWT.out.1 h;unfold WtP at h2;rcases h2 with h2 | h2;exact absurd h2.1 (by decide);rcases h2.2.1 with h3 | h3;exact HNM.out h3;exact absurd h3.1 (by decide)),HX.out.lo⟩
 by_cases k3:kind=3
 ·subst k3
  have HIN:Hid (Calls Tryz.prog 22 #[.int .i64 3,.int .i64 1,.int .i64 4] W1 fun e w'=>e=.returned (.bool true)∧w'=W1):=hid ((C.l16In_any 3 1 4 W1).mono fun _ _ h=>⟨h.1.trans (by rw [show C.inB (3:Int) 1 4=true from by decide]),h.2⟩)
  by_cases q:BegOk name
  ·have HNM:=hid q
   have HML:=hid (says_tr0 (J.l15Prefix_any name W1 HN.out) q)
   clear q
   by_cases e3:hold.size≤3000
   ·have i3:(hold.size:Int)≤3000:=by omega
    by_cases e5:hold.size=0
    ·obtain rfl:=size_zero e5
     by_cases e4:1≤looks
     ·have i4:looks ≥ (1:Int):=e4
      go_wp2_with (first | (go_at_call 53;refine HML.out.mono ?_;rintro e w2 ⟨rfl,hw⟩;have hw2:=hw.symm;clear hw;subst hw2) | (go_at_call 22;refine HIN.out.mono ?_;rintro e w2 ⟨rfl,hw⟩;have hw2:=hw.symm;clear hw;subst hw2))
      all_goals go_ret
      all_goals exact ⟨says_t (HWT.out.2 (.inr ⟨⟨by decide,by decide⟩,.inr ⟨rfl,HNM.out⟩,e3,.inl rfl,e4⟩)),HX.out.lo⟩
     ·have i4:decide ((1:Int)≤looks)=false:=by simpa using e4
      go_wp2_with (first | (go_at_call 53;refine HML.out.mono ?_;rintro e w2 ⟨rfl,hw⟩;have hw2:=hw.symm;clear hw;subst hw2) | (go_at_call 22;refine HIN.out.mono ?_;rintro e w2 ⟨rfl,hw⟩;have hw2:=hw.symm;clear hw;subst hw2))
      all_goals go_ret
      all_goals exact ⟨says_f (fun h=>by have h2:=HWT.out.1 h;unfold WtP at h2;omega),HX.out.lo⟩
    ·have b5:=not_empty2 e5
     go_wp2_with (first | (go_at_call 53;refine HML.out.mono ?_;rintro e w2 ⟨rfl,hw⟩;have hw2:=hw.symm;clear hw;subst hw2) | (go_at_call 22;refine HIN.out.mono ?_;rintro e w2 ⟨rfl,hw⟩;have hw2:=hw.symm;clear hw;subst hw2))
     all_goals go_ret
     all_goals exact ⟨says_f (fun h=>by have h2:=HWT.out.1 h;unfold WtP at h2;omega),HX.out.lo⟩
   ·have i3:¬ ((hold.size:Int)≤3000):=by omega
    go_wp2_with (first | (go_at_call 53;refine HML.out.mono ?_;rintro e w2 ⟨rfl,hw⟩;have hw2:=hw.symm;clear hw;subst hw2) | (go_at_call 22;refine HIN.out.mono ?_;rintro e w2 ⟨rfl,hw⟩;have hw2:=hw.symm;clear hw;subst hw2))
    all_goals go_ret
    all_goals exact ⟨says_f (fun h=>by have h2:=HWT.out.1 h;unfold WtP at h2;omega),HX.out.lo⟩
  ·have HNM:=hid q
   have HML:=hid (says_fa0 (J.l15Prefix_any name W1 HN.out) q)
   clear q
   go_wp2_with (first | (go_at_call 53;refine HML.out.mono ?_;rintro e w2 ⟨rfl,hw⟩;have hw2:=hw.symm;clear hw;subst hw2) | (go_at_call 22;refine HIN.out.mono ?_;rintro e w2 ⟨rfl,hw⟩;have hw2:=hw.symm;clear hw;subst hw2))
   go_ret
   exact ⟨says_f (fun h=>by have h2:=HWT.out.1 h;unfold WtP at h2;rcases h2 with h2 | h2;exact absurd h2.1 (by decide);rcases h2.2.1 with h3 | h3;exact HNM.out h3.2;exact HNM.out h3.2),HX.out.lo⟩
 by_cases k4:kind=4
 ·subst k4
  have HIN:Hid (Calls Tryz.prog 22 #[.int .i64 4,.int .i64 1,.int .i64 4] W1 fun e w'=>e=.returned (.bool true)∧w'=W1):=hid ((C.l16In_any 4 1 4 W1).mono fun _ _ h=>⟨h.1.trans (by rw [show C.inB (4:Int) 1 4=true from by decide]),h.2⟩)
  by_cases q:FileOk name
  ·have HNM:=hid q
   have HML:=hid (says_tr0 (J.l15Path_any name W1 HN.out) q)
   clear q
   by_cases e3:hold.size≤3000
   ·have i3:(hold.size:Int)≤3000:=by omega
    by_cases e4:1≤looks
    ·have i4:looks ≥ (1:Int):=e4
     go_wp2_with (first | (go_at_call 52;refine HML.out.mono ?_;rintro e w2 ⟨rfl,hw⟩;have hw2:=hw.symm;clear hw;subst hw2) | (go_at_call 22;refine HIN.out.mono ?_;rintro e w2 ⟨rfl,hw⟩;have hw2:=hw.symm;clear hw;subst hw2))
     all_goals go_ret
     all_goals exact ⟨says_t (HWT.out.2 (.inr ⟨⟨by decide,by decide⟩,.inl HNM.out,e3,.inr rfl,e4⟩)),HX.out.lo⟩
    ·have i4:decide ((1:Int)≤looks)=false:=by simpa using e4
     go_wp2_with (first | (go_at_call 52;refine HML.out.mono ?_;rintro e w2 ⟨rfl,hw⟩;have hw2:=hw.symm;clear hw;subst hw2) | (go_at_call 22;refine HIN.out.mono ?_;rintro e w2 ⟨rfl,hw⟩;have hw2:=hw.symm;clear hw;subst hw2))
     all_goals go_ret
     all_goals exact ⟨says_f (fun h=>by have h2:=HWT.out.1 h;unfold WtP at h2;omega),HX.out.lo⟩
   ·have i3:¬ ((hold.size:Int)≤3000):=by omega
    go_wp2_with (first | (go_at_call 52;refine HML.out.mono ?_;rintro e w2 ⟨rfl,hw⟩;have hw2:=hw.symm;clear hw;subst hw2) | (go_at_call 22;refine HIN.out.mono ?_;rintro e w2 ⟨rfl,hw⟩;have hw2:=hw.symm;clear hw;subst hw2))
    all_goals go_ret
    all_goals exact ⟨says_f (fun h=>by have h2:=HWT.out.1 h;unfold WtP at h2;omega),HX.out.lo⟩
  ·have HNM:=hid q
   have HML:=hid (says_fa0 (J.l15Path_any name W1 HN.out) q)
   clear q
   go_wp2_with (first | (go_at_call 52;refine HML.out.mono ?_;rintro e w2 ⟨rfl,hw⟩;have hw2:=hw.symm;clear hw;subst hw2) | (go_at_call 22;refine HIN.out.mono ?_;rintro e w2 ⟨rfl,hw⟩;have hw2:=hw.symm;clear hw;subst hw2))
   go_ret
   exact ⟨says_f (fun h=>by have h2:=HWT.out.1 h;unfold WtP at h2;rcases h2 with h2 | h2;exact absurd h2.1 (by decide);rcases h2.2.1 with h3 | h3;exact HNM.out h3;exact absurd h3.1 (by decide)),HX.out.lo⟩
 have d0:(kind == 0)=false:=by simpa using k0
 have d1:(kind == 1)=false:=by simpa using k1
 have d2:(kind == 2)=false:=by simpa using k2
 have d3:(kind == 3)=false:=by simpa using k3
 have d4:(kind == 4)=false:=by simpa using k4
 have d9:(kind != 3)=true:=by simpa using k3
 have K0:=hid k0
 have K3:=hid k3
 have INF:C.inB kind 1 4=false:=by unfold C.inB;simp;omega
 have HIN:Hid (Calls Tryz.prog 22 #[.int .i64 kind,.int .i64 1,.int .i64 4] W1 fun e w'=>e=.returned (.bool false)∧w'=W1):=hid ((C.l16In_any kind 1 4 W1).mono fun _ _ h=>⟨h.1.trans (by rw [INF]),h.2⟩)
 by_cases q:FileOk name
 ·have HNM:=hid q
  have HML:=hid (says_tr0 (J.l15Path_any name W1 HN.out) q)
  clear q
  go_wp2_with (first | (go_at_call 52;refine HML.out.mono ?_;rintro e w2 ⟨rfl,hw⟩;have hw2:=hw.symm;clear hw;subst hw2) | (go_at_call 22;refine HIN.out.mono ?_;rintro e w2 ⟨rfl,hw⟩;have hw2:=hw.symm;clear hw;subst hw2))
  go_ret
  exact ⟨says_f (fun h=>by have h2:=HWT.out.1 h;unfold WtP at h2;omega),HX.out.lo⟩
 ·have HNM:=hid q
  have HML:=hid (says_fa0 (J.l15Path_any name W1 HN.out) q)
  clear q
  go_wp2_with (first | (go_at_call 52;refine HML.out.mono ?_;rintro e w2 ⟨rfl,hw⟩;have hw2:=hw.symm;clear hw;subst hw2) | (go_at_call 22;refine HIN.out.mono ?_;rintro e w2 ⟨rfl,hw⟩;have hw2:=hw.symm;clear hw;subst hw2))
  go_ret
  exact ⟨says_f (fun h=>by have h2:=HWT.out.1 h;unfold WtP at h2;rcases h2 with h2 | h2;exact absurd h2.1 K0.out;rcases h2.2.1 with h3 | h3;exact HNM.out h3;exact absurd h3.1 K3.out),HX.out.lo⟩
end Go.Proofs.YtbkmglknbflkhaaGreatDoor.M
