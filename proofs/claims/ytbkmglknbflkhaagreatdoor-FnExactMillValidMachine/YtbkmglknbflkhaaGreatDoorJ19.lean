import Derived.ProofKit
import Derived.Deep.Slices
import Derived.OwnWalk
import Derived.Test.YtbkmglknbflkhaaGreatDoorJ00
import Derived.Test.YtbkmglknbflkhaaGreatDoorJ16
import Derived.Test.YtbkmglknbflkhaaGreatDoorJ06
import Derived.Test.YtbkmglknbflkhaaGreatDoorJ18
namespace Go.Proofs.YtbkmglknbflkhaaGreatDoor.R
open Go.RowKit
set_option maxRecDepth 20000
open Go.ChangeShapes Go.WideShapes Go.ChangeAt Go.Deep
theorem bounds {x:Int} (h:(Lit.int .i64 x).wf=true):-9223372036854775808≤x∧x≤9223372036854775807:=by
 simpa [Lit.wf,IntKind.min,IntKind.max,IntKind.signed,IntKind.bits] using h
theorem cellsString:Tryz.prog.cellsOf 9=1:=by kernel_rfl
theorem cellsint:Tryz.prog.cellsOf 3=1:=by kernel_rfl
theorem cellsInt:Tryz.prog.cellsOf 3=1:=by kernel_rfl
theorem cellsStr:Tryz.prog.cellsOf 9=1:=by kernel_rfl
theorem cellsBool:Tryz.prog.cellsOf 4=1:=by kernel_rfl
theorem cellsSInt:Tryz.prog.cellsOf 119=1:=by kernel_rfl
theorem SInt_open {H:Type} {enc:TypeId × Value→H} {W:World} {base:Nat} {spare:Nat→Bool} {held:Bool} {n:Nat} {v:Value} {z:DataW H × List MemPlace} (f0:DataW.trod enc Tryz.prog W base spare held n 119 [v]=some z) :
  ∃ l:List Int,SIntA W v l∧l.length≤maxLen:=by
 rcases open_slice Tryz.underlying119 f0 with ⟨e,_⟩ | ⟨a,len,cap,m,n2,D,Pl,e,hb,hlc,hcm,hm,_,hel⟩
 ·exact ⟨[],⟨none,0,by simpa using e,.inl rfl⟩,Nat.zero_le _⟩
 ·have hall:∀ i,∃ x:Int,i < len→(IntA W (a.add i) x)∧True∧a.block < W.heap.size:=fun i=>by
   by_cases hi:i < len
   ·have hm2:len≤m:=by rw [hm];split <;> omega
    obtain ⟨cs',hc,ht⟩:=hel i (by omega)
    rw [cellsint,Nat.mul_one] at hc
    obtain ⟨x,e0,_,_⟩:=DataW.trod_int Tryz.underlying3 ht
    subst e0
    refine ⟨x,fun _=>?_⟩
    have hbl:=World.cells?_block hc (by omega)
    rw [add_block] at hbl
    obtain ⟨_,_,hg⟩:=World.cells?_some hc
    exact ⟨(by have:=hg 0 (by omega);simpa [Addr.add,IntA] using this),trivial,hbl⟩
   ·exact ⟨0,fun h=>absurd h hi⟩
  obtain ⟨f,hnd⟩:=Classical.skolem.1 hall
  have hget:∀ i,i < len→((List.range len).map f).getD i 0=f i:=fun i hi=>by simp [List.getD_eq_getElem?_getD,hi]
  have hlen:((List.range len).map f).length=len:=by simp
  refine ⟨(List.range len).map f,⟨some a,cap,by rw [hlen];simpa using e,?_⟩,?_⟩
  ·by_cases h0:len=0
   ·subst h0;exact .inl rfl
   ·refine .inr ⟨a,rfl,(hnd 0 (by omega)).2.2,fun i hi=>?_⟩
    rw [hlen] at hi
    rw [hget i hi]
    exact (hnd i hi).1
  ·rw [hlen];omega
theorem cellsSStr:Tryz.prog.cellsOf 23=1:=by kernel_rfl
theorem SStr_open {H:Type} {enc:TypeId × Value→H} {W:World} {base:Nat} {spare:Nat→Bool} {held:Bool} {n:Nat} {v:Value} {z:DataW H × List MemPlace} (f0:DataW.trod enc Tryz.prog W base spare held n 23 [v]=some z) :
  ∃ l:List ByteArray,SStrA W v l∧OkStrS l:=by
 rcases open_slice Tryz.underlying23 f0 with ⟨e,_⟩ | ⟨a,len,cap,m,n2,D,Pl,e,hb,hlc,hcm,hm,_,hel⟩
 ·exact ⟨[],⟨none,0,by simpa using e,.inl rfl⟩,⟨Nat.zero_le _,fun i h=>absurd h (Nat.not_lt_zero _)⟩⟩
 ·have hall:∀ i,∃ x:ByteArray,i < len→(StrA W (a.add i) x)∧x.size≤maxLen∧a.block < W.heap.size:=fun i=>by
   by_cases hi:i < len
   ·have hm2:len≤m:=by rw [hm];split <;> omega
    obtain ⟨cs',hc,ht⟩:=hel i (by omega)
    rw [cellsString,Nat.mul_one] at hc
    obtain ⟨x,e0,_,hx⟩:=DataW.trod_string Tryz.underlying9 ht
    subst e0
    refine ⟨x,fun _=>?_⟩
    have hbl:=World.cells?_block hc (by omega)
    rw [add_block] at hbl
    obtain ⟨_,_,hg⟩:=World.cells?_some hc
    exact ⟨(by have:=hg 0 (by omega);simpa [Addr.add,StrA] using this),hx,hbl⟩
   ·exact ⟨⟨#[]⟩,fun h=>absurd h hi⟩
  obtain ⟨f,hnd⟩:=Classical.skolem.1 hall
  have hget:∀ i,i < len→((List.range len).map f).getD i ⟨#[]⟩=f i:=fun i hi=>by simp [List.getD_eq_getElem?_getD,hi]
  have hlen:((List.range len).map f).length=len:=by simp
  refine ⟨(List.range len).map f,⟨some a,cap,by rw [hlen];simpa using e,?_⟩,?_⟩
  ·by_cases h0:len=0
   ·subst h0;exact .inl rfl
   ·refine .inr ⟨a,rfl,(hnd 0 (by omega)).2.2,fun i hi=>?_⟩
    rw [hlen] at hi
    rw [hget i hi]
    exact (hnd i hi).1
  ·refine ⟨by rw [hlen];omega,fun i hi=>?_⟩
   rw [hlen] at hi
   rw [hget i hi]
   exact (hnd i hi).2.1
theorem cellsIn:Tryz.prog.cellsOf 203=4:=by kernel_rfl
theorem In_open {H:Type} {enc:TypeId × Value→H} {W:World} {base:Nat} {spare:Nat→Bool} {held:Bool} {n:Nat} {cs:List Value} {z:DataW H × List MemPlace} (h:DataW.trod enc Tryz.prog W base spare held n 203 cs=some z) :
  ∃ (x:C.In),cs=[.int .i64 x.op,.int .i64 x.a,.int .i64 x.n,.string x.text]∧OkIn x:=by
 obtain ⟨xs,m,_,_,hl,hlen,hf⟩:=DataW.trod_struct Tryz.underlying203 h
 rw [cellsIn] at hl
 match cs,hl with
 | [c0,c1,c2,c3],_ =>
  match xs,hlen with
  | [y0,y1,y2,y3],_ =>
   have f0:=hf 0 _ rfl
   simp [cellsInt] at f0
   obtain ⟨x0,e0,_,h0⟩:=DataW.trod_int Tryz.underlying3 f0
   cases e0
   have f1:=hf 1 _ rfl
   simp [cellsInt] at f1
   obtain ⟨x1,e1,_,h1⟩:=DataW.trod_int Tryz.underlying3 f1
   cases e1
   have f2:=hf 2 _ rfl
   simp at f2
   obtain ⟨x2,e2,_,h2⟩:=DataW.trod_int Tryz.underlying2 f2
   cases e2
   have f3:=hf 3 _ rfl
   simp [cellsStr] at f3
   obtain ⟨x3,e3,_,h3⟩:=DataW.trod_string Tryz.underlying9 f3
   cases e3
   exact ⟨⟨x0,x1,x2,x3⟩,rfl,⟨(bounds h0),(bounds h1),(bounds h2),h3⟩⟩
theorem cellsSIn:Tryz.prog.cellsOf 151=1:=by kernel_rfl
theorem SIn_open {H:Type} {enc:TypeId × Value→H} {W:World} {base:Nat} {spare:Nat→Bool} {held:Bool} {n:Nat} {v:Value} {z:DataW H × List MemPlace} (f0:DataW.trod enc Tryz.prog W base spare held n 151 [v]=some z) :
  ∃ l:List C.In,SInA W v l∧OkInS l:=by
 rcases open_slice Tryz.underlying151 f0 with ⟨e,_⟩ | ⟨a,len,cap,m,n2,D,Pl,e,hb,hlc,hcm,hm,_,hel⟩
 ·exact ⟨[],⟨none,0,by simpa using e,.inl rfl⟩,⟨Nat.zero_le _,fun i h=>absurd h (Nat.not_lt_zero _)⟩⟩
 ·have hall:∀ i,∃ x:C.In,i < len→(InA W (a.add (i * 4)) x)∧OkIn x∧a.block < W.heap.size:=fun i=>by
   by_cases hi:i < len
   ·have hm2:len≤m:=by rw [hm];split <;> omega
    obtain ⟨cs',hc,ht⟩:=hel i (by omega)
    rw [cellsIn] at hc
    obtain ⟨x,rfl,hx⟩:=In_open ht
    refine ⟨x,fun _=>?_⟩
    have hbl:=World.cells?_block hc (by omega)
    rw [add_block] at hbl
    obtain ⟨_,_,hg⟩:=World.cells?_some hc
    exact ⟨⟨(by have:=hg 0 (by omega);simpa [Addr.add] using this),(by have:=hg 1 (by omega);rw [add_one _ 1 (by decide)] at this;simpa using this),(by have:=hg 2 (by omega);rw [add_one _ 2 (by decide)] at this;simpa using this),(by have:=hg 3 (by omega);rw [add_one _ 3 (by decide)] at this;simpa using this)⟩,hx,hbl⟩
   ·exact ⟨C.in0,fun h=>absurd h hi⟩
  obtain ⟨f,hnd⟩:=Classical.skolem.1 hall
  have hget:∀ i,i < len→((List.range len).map f).getD i C.in0=f i:=fun i hi=>by simp [List.getD_eq_getElem?_getD,hi]
  have hlen:((List.range len).map f).length=len:=by simp
  refine ⟨(List.range len).map f,⟨some a,cap,by rw [hlen];simpa using e,?_⟩,?_⟩
  ·by_cases h0:len=0
   ·subst h0;exact .inl rfl
   ·refine .inr ⟨a,rfl,(hnd 0 (by omega)).2.2,fun i hi=>?_⟩
    rw [hlen] at hi
    rw [hget i hi]
    exact (hnd i hi).1
  ·refine ⟨by rw [hlen];omega,fun i hi=>?_⟩
   rw [hlen] at hi
   rw [hget i hi]
   exact (hnd i hi).2.1
theorem cellsFn:Tryz.prog.cellsOf 153=5:=by kernel_rfl
theorem Fn_open {H:Type} {enc:TypeId × Value→H} {W:World} {base:Nat} {spare:Nat→Bool} {held:Bool} {n:Nat} {cs:List Value} {z:DataW H × List MemPlace} (h:DataW.trod enc Tryz.prog W base spare held n 153 cs=some z) :
  ∃ (x:C.Fn) (v0:Value) (v1:Value),cs=[.string x.name,v0,.int .i64 x.result,.int .i64 x.slots,v1]∧SIntA W v0 x.params∧SInA W v1 x.ins∧OkFn x:=by
 obtain ⟨xs,m,_,_,hl,hlen,hf⟩:=DataW.trod_struct Tryz.underlying153 h
 rw [cellsFn] at hl
 match cs,hl with
 | [c0,c1,c2,c3,c4],_ =>
  match xs,hlen with
  | [y0,y1,y2,y3,y4],_ =>
   have f0:=hf 0 _ rfl
   simp [cellsStr] at f0
   obtain ⟨x0,e0,_,h0⟩:=DataW.trod_string Tryz.underlying9 f0
   cases e0
   have f1:=hf 1 _ rfl
   simp [cellsSInt] at f1
   obtain ⟨x1,r1,h1⟩:=SInt_open f1
   have f2:=hf 2 _ rfl
   simp [cellsInt] at f2
   obtain ⟨x2,e2,_,h2⟩:=DataW.trod_int Tryz.underlying3 f2
   cases e2
   have f3:=hf 3 _ rfl
   simp [cellsInt] at f3
   obtain ⟨x3,e3,_,h3⟩:=DataW.trod_int Tryz.underlying3 f3
   cases e3
   have f4:=hf 4 _ rfl
   simp [cellsSIn] at f4
   obtain ⟨x4,r4,h4⟩:=SIn_open f4
   exact ⟨⟨x0,x1,x2,x3,x4⟩,c1,c4,rfl,r1,r4,⟨h0,h1,(bounds h2),(bounds h3),h4⟩⟩
theorem cellsSFn:Tryz.prog.cellsOf 72=1:=by kernel_rfl
theorem SFn_open {H:Type} {enc:TypeId × Value→H} {W:World} {base:Nat} {spare:Nat→Bool} {held:Bool} {n:Nat} {v:Value} {z:DataW H × List MemPlace} (f0:DataW.trod enc Tryz.prog W base spare held n 72 [v]=some z) :
  ∃ l:List C.Fn,SFnA W v l∧OkFnS l:=by
 rcases open_slice Tryz.underlying72 f0 with ⟨e,_⟩ | ⟨a,len,cap,m,n2,D,Pl,e,hb,hlc,hcm,hm,_,hel⟩
 ·exact ⟨[],⟨none,0,by simpa using e,.inl rfl⟩,⟨Nat.zero_le _,fun i h=>absurd h (Nat.not_lt_zero _)⟩⟩
 ·have hall:∀ i,∃ x:C.Fn,i < len→(∃ v0 v1,FnA W (a.add (i * 5)) x v0 v1∧SIntA W v0 x.params∧SInA W v1 x.ins)∧OkFn x∧a.block < W.heap.size:=fun i=>by
   by_cases hi:i < len
   ·have hm2:len≤m:=by rw [hm];split <;> omega
    obtain ⟨cs',hc,ht⟩:=hel i (by omega)
    rw [cellsFn] at hc
    obtain ⟨x,v0,v1,rfl,t0,t1,hx⟩:=Fn_open ht
    refine ⟨x,fun _=>?_⟩
    have hbl:=World.cells?_block hc (by omega)
    rw [add_block] at hbl
    obtain ⟨_,_,hg⟩:=World.cells?_some hc
    exact ⟨⟨v0,v1,⟨(by have:=hg 0 (by omega);simpa [Addr.add] using this),(by have:=hg 1 (by omega);rw [add_one _ 1 (by decide)] at this;simpa using this),(by have:=hg 2 (by omega);rw [add_one _ 2 (by decide)] at this;simpa using this),(by have:=hg 3 (by omega);rw [add_one _ 3 (by decide)] at this;simpa using this),(by have:=hg 4 (by omega);rw [add_one _ 4 (by decide)] at this;simpa using this)⟩,t0,t1⟩,hx,hbl⟩
   ·exact ⟨C.fn0,fun h=>absurd h hi⟩
  obtain ⟨f,hnd⟩:=Classical.skolem.1 hall
  have hget:∀ i,i < len→((List.range len).map f).getD i C.fn0=f i:=fun i hi=>by simp [List.getD_eq_getElem?_getD,hi]
  have hlen:((List.range len).map f).length=len:=by simp
  refine ⟨(List.range len).map f,⟨some a,cap,by rw [hlen];simpa using e,?_⟩,?_⟩
  ·by_cases h0:len=0
   ·subst h0;exact .inl rfl
   ·refine .inr ⟨a,rfl,(hnd 0 (by omega)).2.2,fun i hi=>?_⟩
    rw [hlen] at hi
    rw [hget i hi]
    exact (hnd i hi).1
  ·refine ⟨by rw [hlen];omega,fun i hi=>?_⟩
   rw [hlen] at hi
   rw [hget i hi]
   exact (hnd i hi).2.1
theorem cellsCd:Tryz.prog.cellsOf 74=1:=by kernel_rfl
theorem Cd_open {H:Type} {enc:TypeId × Value→H} {W:World} {base:Nat} {spare:Nat→Bool} {held:Bool} {n:Nat} {cs:List Value} {z:DataW H × List MemPlace} (h:DataW.trod enc Tryz.prog W base spare held n 74 cs=some z) :
  ∃ (x:Cd) (v0:Value),cs=[v0]∧SFnA W v0 x.fns∧OkCd x:=by
 obtain ⟨xs,m,_,_,hl,hlen,hf⟩:=DataW.trod_struct Tryz.underlying74 h
 rw [cellsCd] at hl
 match cs,hl with
 | [c0],_ =>
  match xs,hlen with
  | [y0],_ =>
   have f0:=hf 0 _ rfl
   simp [cellsSFn] at f0
   obtain ⟨x0,r0,h0⟩:=SFn_open f0
   exact ⟨⟨x0⟩,c0,rfl,r0,h0⟩
theorem cellsSCd:Tryz.prog.cellsOf 22=1:=by kernel_rfl
theorem SCd_open {H:Type} {enc:TypeId × Value→H} {W:World} {base:Nat} {spare:Nat→Bool} {held:Bool} {n:Nat} {v:Value} {z:DataW H × List MemPlace} (f0:DataW.trod enc Tryz.prog W base spare held n 22 [v]=some z) :
  ∃ l:List Cd,SCdA W v l∧OkCdS l:=by
 rcases open_slice Tryz.underlying22 f0 with ⟨e,_⟩ | ⟨a,len,cap,m,n2,D,Pl,e,hb,hlc,hcm,hm,_,hel⟩
 ·exact ⟨[],⟨none,0,by simpa using e,.inl rfl⟩,⟨Nat.zero_le _,fun i h=>absurd h (Nat.not_lt_zero _)⟩⟩
 ·have hall:∀ i,∃ x:Cd,i < len→(∃ v0,CdA W (a.add i) x v0∧SFnA W v0 x.fns)∧OkCd x∧a.block < W.heap.size:=fun i=>by
   by_cases hi:i < len
   ·have hm2:len≤m:=by rw [hm];split <;> omega
    obtain ⟨cs',hc,ht⟩:=hel i (by omega)
    rw [cellsCd,Nat.mul_one] at hc
    obtain ⟨x,v0,rfl,t0,hx⟩:=Cd_open ht
    refine ⟨x,fun _=>?_⟩
    have hbl:=World.cells?_block hc (by omega)
    rw [add_block] at hbl
    obtain ⟨_,_,hg⟩:=World.cells?_some hc
    exact ⟨⟨v0,(by have:=hg 0 (by omega);simpa [Addr.add,CdA] using this),t0⟩,hx,hbl⟩
   ·exact ⟨cd0,fun h=>absurd h hi⟩
  obtain ⟨f,hnd⟩:=Classical.skolem.1 hall
  have hget:∀ i,i < len→((List.range len).map f).getD i cd0=f i:=fun i hi=>by simp [List.getD_eq_getElem?_getD,hi]
  have hlen:((List.range len).map f).length=len:=by simp
  refine ⟨(List.range len).map f,⟨some a,cap,by rw [hlen];simpa using e,?_⟩,?_⟩
  ·by_cases h0:len=0
   ·subst h0;exact .inl rfl
   ·refine .inr ⟨a,rfl,(hnd 0 (by omega)).2.2,fun i hi=>?_⟩
    rw [hlen] at hi
    rw [hget i hi]
    exact (hnd i hi).1
  ·refine ⟨by rw [hlen];omega,fun i hi=>?_⟩
   rw [hlen] at hi
   rw [hget i hi]
   exact (hnd i hi).2.1
theorem cellsVa:Tryz.prog.cellsOf 155=3:=by kernel_rfl
theorem Va_open {H:Type} {enc:TypeId × Value→H} {W:World} {base:Nat} {spare:Nat→Bool} {held:Bool} {n:Nat} {cs:List Value} {z:DataW H × List MemPlace} (h:DataW.trod enc Tryz.prog W base spare held n 155 cs=some z) :
  ∃ (x:Va),cs=[.int .i64 x.ty,.int .i64 x.n,.string x.text]∧OkVa x:=by
 obtain ⟨xs,m,_,_,hl,hlen,hf⟩:=DataW.trod_struct Tryz.underlying155 h
 rw [cellsVa] at hl
 match cs,hl with
 | [c0,c1,c2],_ =>
  match xs,hlen with
  | [y0,y1,y2],_ =>
   have f0:=hf 0 _ rfl
   simp [cellsInt] at f0
   obtain ⟨x0,e0,_,h0⟩:=DataW.trod_int Tryz.underlying3 f0
   cases e0
   have f1:=hf 1 _ rfl
   simp at f1
   obtain ⟨x1,e1,_,h1⟩:=DataW.trod_int Tryz.underlying2 f1
   cases e1
   have f2:=hf 2 _ rfl
   simp [cellsStr] at f2
   obtain ⟨x2,e2,_,h2⟩:=DataW.trod_string Tryz.underlying9 f2
   cases e2
   exact ⟨⟨x0,x1,x2⟩,rfl,⟨(bounds h0),(bounds h1),h2⟩⟩
theorem cellsSVa:Tryz.prog.cellsOf 76=1:=by kernel_rfl
theorem SVa_open {H:Type} {enc:TypeId × Value→H} {W:World} {base:Nat} {spare:Nat→Bool} {held:Bool} {n:Nat} {v:Value} {z:DataW H × List MemPlace} (f0:DataW.trod enc Tryz.prog W base spare held n 76 [v]=some z) :
  ∃ l:List Va,SVaA W v l∧OkVaS l:=by
 rcases open_slice Tryz.underlying76 f0 with ⟨e,_⟩ | ⟨a,len,cap,m,n2,D,Pl,e,hb,hlc,hcm,hm,_,hel⟩
 ·exact ⟨[],⟨none,0,by simpa using e,.inl rfl⟩,⟨Nat.zero_le _,fun i h=>absurd h (Nat.not_lt_zero _)⟩⟩
 ·have hall:∀ i,∃ x:Va,i < len→(VaA W (a.add (i * 3)) x)∧OkVa x∧a.block < W.heap.size:=fun i=>by
   by_cases hi:i < len
   ·have hm2:len≤m:=by rw [hm];split <;> omega
    obtain ⟨cs',hc,ht⟩:=hel i (by omega)
    rw [cellsVa] at hc
    obtain ⟨x,rfl,hx⟩:=Va_open ht
    refine ⟨x,fun _=>?_⟩
    have hbl:=World.cells?_block hc (by omega)
    rw [add_block] at hbl
    obtain ⟨_,_,hg⟩:=World.cells?_some hc
    exact ⟨⟨(by have:=hg 0 (by omega);simpa [Addr.add] using this),(by have:=hg 1 (by omega);rw [add_one _ 1 (by decide)] at this;simpa using this),(by have:=hg 2 (by omega);rw [add_one _ 2 (by decide)] at this;simpa using this)⟩,hx,hbl⟩
   ·exact ⟨va0,fun h=>absurd h hi⟩
  obtain ⟨f,hnd⟩:=Classical.skolem.1 hall
  have hget:∀ i,i < len→((List.range len).map f).getD i va0=f i:=fun i hi=>by simp [List.getD_eq_getElem?_getD,hi]
  have hlen:((List.range len).map f).length=len:=by simp
  refine ⟨(List.range len).map f,⟨some a,cap,by rw [hlen];simpa using e,?_⟩,?_⟩
  ·by_cases h0:len=0
   ·subst h0;exact .inl rfl
   ·refine .inr ⟨a,rfl,(hnd 0 (by omega)).2.2,fun i hi=>?_⟩
    rw [hlen] at hi
    rw [hget i hi]
    exact (hnd i hi).1
  ·refine ⟨by rw [hlen];omega,fun i hi=>?_⟩
   rw [hlen] at hi
   rw [hget i hi]
   exact (hnd i hi).2.1
theorem cellsFm:Tryz.prog.cellsOf 78=5:=by kernel_rfl
theorem Fm_open {H:Type} {enc:TypeId × Value→H} {W:World} {base:Nat} {spare:Nat→Bool} {held:Bool} {n:Nat} {cs:List Value} {z:DataW H × List MemPlace} (h:DataW.trod enc Tryz.prog W base spare held n 78 cs=some z) :
  ∃ (x:Fm) (v0:Value) (v1:Value),cs=[.int .i64 x.code,.int .i64 x.fn,.int .i64 x.pl,v0,v1]∧SVaA W v0 x.slots∧SVaA W v1 x.stack∧OkFm x:=by
 obtain ⟨xs,m,_,_,hl,hlen,hf⟩:=DataW.trod_struct Tryz.underlying78 h
 rw [cellsFm] at hl
 match cs,hl with
 | [c0,c1,c2,c3,c4],_ =>
  match xs,hlen with
  | [y0,y1,y2,y3,y4],_ =>
   have f0:=hf 0 _ rfl
   simp [cellsInt] at f0
   obtain ⟨x0,e0,_,h0⟩:=DataW.trod_int Tryz.underlying3 f0
   cases e0
   have f1:=hf 1 _ rfl
   simp [cellsInt] at f1
   obtain ⟨x1,e1,_,h1⟩:=DataW.trod_int Tryz.underlying3 f1
   cases e1
   have f2:=hf 2 _ rfl
   simp [cellsInt] at f2
   obtain ⟨x2,e2,_,h2⟩:=DataW.trod_int Tryz.underlying3 f2
   cases e2
   have f3:=hf 3 _ rfl
   simp [cellsSVa] at f3
   obtain ⟨x3,r3,h3⟩:=SVa_open f3
   have f4:=hf 4 _ rfl
   simp [cellsSVa] at f4
   obtain ⟨x4,r4,h4⟩:=SVa_open f4
   exact ⟨⟨x0,x1,x2,x3,x4⟩,c3,c4,rfl,r3,r4,⟨(bounds h0),(bounds h1),(bounds h2),h3,h4⟩⟩
theorem cellsSFm:Tryz.prog.cellsOf 24=1:=by kernel_rfl
theorem SFm_open {H:Type} {enc:TypeId × Value→H} {W:World} {base:Nat} {spare:Nat→Bool} {held:Bool} {n:Nat} {v:Value} {z:DataW H × List MemPlace} (f0:DataW.trod enc Tryz.prog W base spare held n 24 [v]=some z) :
  ∃ l:List Fm,SFmA W v l∧OkFmS l:=by
 rcases open_slice Tryz.underlying24 f0 with ⟨e,_⟩ | ⟨a,len,cap,m,n2,D,Pl,e,hb,hlc,hcm,hm,_,hel⟩
 ·exact ⟨[],⟨none,0,by simpa using e,.inl rfl⟩,⟨Nat.zero_le _,fun i h=>absurd h (Nat.not_lt_zero _)⟩⟩
 ·have hall:∀ i,∃ x:Fm,i < len→(∃ v0 v1,FmA W (a.add (i * 5)) x v0 v1∧SVaA W v0 x.slots∧SVaA W v1 x.stack)∧OkFm x∧a.block < W.heap.size:=fun i=>by
   by_cases hi:i < len
   ·have hm2:len≤m:=by rw [hm];split <;> omega
    obtain ⟨cs',hc,ht⟩:=hel i (by omega)
    rw [cellsFm] at hc
    obtain ⟨x,v0,v1,rfl,t0,t1,hx⟩:=Fm_open ht
    refine ⟨x,fun _=>?_⟩
    have hbl:=World.cells?_block hc (by omega)
    rw [add_block] at hbl
    obtain ⟨_,_,hg⟩:=World.cells?_some hc
    exact ⟨⟨v0,v1,⟨(by have:=hg 0 (by omega);simpa [Addr.add] using this),(by have:=hg 1 (by omega);rw [add_one _ 1 (by decide)] at this;simpa using this),(by have:=hg 2 (by omega);rw [add_one _ 2 (by decide)] at this;simpa using this),(by have:=hg 3 (by omega);rw [add_one _ 3 (by decide)] at this;simpa using this),(by have:=hg 4 (by omega);rw [add_one _ 4 (by decide)] at this;simpa using this)⟩,t0,t1⟩,hx,hbl⟩
   ·exact ⟨fm0,fun h=>absurd h hi⟩
  obtain ⟨f,hnd⟩:=Classical.skolem.1 hall
  have hget:∀ i,i < len→((List.range len).map f).getD i fm0=f i:=fun i hi=>by simp [List.getD_eq_getElem?_getD,hi]
  have hlen:((List.range len).map f).length=len:=by simp
  refine ⟨(List.range len).map f,⟨some a,cap,by rw [hlen];simpa using e,?_⟩,?_⟩
  ·by_cases h0:len=0
   ·subst h0;exact .inl rfl
   ·refine .inr ⟨a,rfl,(hnd 0 (by omega)).2.2,fun i hi=>?_⟩
    rw [hlen] at hi
    rw [hget i hi]
    exact (hnd i hi).1
  ·refine ⟨by rw [hlen];omega,fun i hi=>?_⟩
   rw [hlen] at hi
   rw [hget i hi]
   exact (hnd i hi).2.1
theorem cellsFl:Tryz.prog.cellsOf 80=2:=by kernel_rfl
theorem Fl_open {H:Type} {enc:TypeId × Value→H} {W:World} {base:Nat} {spare:Nat→Bool} {held:Bool} {n:Nat} {cs:List Value} {z:DataW H × List MemPlace} (h:DataW.trod enc Tryz.prog W base spare held n 80 cs=some z) :
  ∃ (x:Fl),cs=[.string x.name,.string x.text]∧OkFl x:=by
 obtain ⟨xs,m,_,_,hl,hlen,hf⟩:=DataW.trod_struct Tryz.underlying80 h
 rw [cellsFl] at hl
 match cs,hl with
 | [c0,c1],_ =>
  match xs,hlen with
  | [y0,y1],_ =>
   have f0:=hf 0 _ rfl
   simp [cellsStr] at f0
   obtain ⟨x0,e0,_,h0⟩:=DataW.trod_string Tryz.underlying9 f0
   cases e0
   have f1:=hf 1 _ rfl
   simp [cellsStr] at f1
   obtain ⟨x1,e1,_,h1⟩:=DataW.trod_string Tryz.underlying9 f1
   cases e1
   exact ⟨⟨x0,x1⟩,rfl,⟨h0,h1⟩⟩
theorem cellsSFl:Tryz.prog.cellsOf 25=1:=by kernel_rfl
theorem SFl_open {H:Type} {enc:TypeId × Value→H} {W:World} {base:Nat} {spare:Nat→Bool} {held:Bool} {n:Nat} {v:Value} {z:DataW H × List MemPlace} (f0:DataW.trod enc Tryz.prog W base spare held n 25 [v]=some z) :
  ∃ l:List Fl,SFlA W v l∧OkFlS l:=by
 rcases open_slice Tryz.underlying25 f0 with ⟨e,_⟩ | ⟨a,len,cap,m,n2,D,Pl,e,hb,hlc,hcm,hm,_,hel⟩
 ·exact ⟨[],⟨none,0,by simpa using e,.inl rfl⟩,⟨Nat.zero_le _,fun i h=>absurd h (Nat.not_lt_zero _)⟩⟩
 ·have hall:∀ i,∃ x:Fl,i < len→(FlA W (a.add (i * 2)) x)∧OkFl x∧a.block < W.heap.size:=fun i=>by
   by_cases hi:i < len
   ·have hm2:len≤m:=by rw [hm];split <;> omega
    obtain ⟨cs',hc,ht⟩:=hel i (by omega)
    rw [cellsFl] at hc
    obtain ⟨x,rfl,hx⟩:=Fl_open ht
    refine ⟨x,fun _=>?_⟩
    have hbl:=World.cells?_block hc (by omega)
    rw [add_block] at hbl
    obtain ⟨_,_,hg⟩:=World.cells?_some hc
    exact ⟨⟨(by have:=hg 0 (by omega);simpa [Addr.add] using this),(by have:=hg 1 (by omega);rw [add_one _ 1 (by decide)] at this;simpa using this)⟩,hx,hbl⟩
   ·exact ⟨fl0,fun h=>absurd h hi⟩
  obtain ⟨f,hnd⟩:=Classical.skolem.1 hall
  have hget:∀ i,i < len→((List.range len).map f).getD i fl0=f i:=fun i hi=>by simp [List.getD_eq_getElem?_getD,hi]
  have hlen:((List.range len).map f).length=len:=by simp
  refine ⟨(List.range len).map f,⟨some a,cap,by rw [hlen];simpa using e,?_⟩,?_⟩
  ·by_cases h0:len=0
   ·subst h0;exact .inl rfl
   ·refine .inr ⟨a,rfl,(hnd 0 (by omega)).2.2,fun i hi=>?_⟩
    rw [hlen] at hi
    rw [hget i hi]
    exact (hnd i hi).1
  ·refine ⟨by rw [hlen];omega,fun i hi=>?_⟩
   rw [hlen] at hi
   rw [hget i hi]
   exact (hnd i hi).2.1
theorem cellsMc:Tryz.prog.cellsOf 27=14:=by kernel_rfl
theorem Mc_open {H:Type} {enc:TypeId × Value→H} {W:World} {base:Nat} {spare:Nat→Bool} {held:Bool} {n:Nat} {cs:List Value} {z:DataW H × List MemPlace} (h:DataW.trod enc Tryz.prog W base spare held n 27 cs=some z) :
  ∃ (x:Mc) (v0:Value) (v1:Value) (v2:Value) (v3:Value) (v4:Value) (v5:Value),cs=[v0,v1,v2,v3,.int .i64 x.steps,.int .i64 x.looks,.int .i64 x.kind,.string x.name,.string x.hold,.bool x.over,.int .i64 x.fin,.string x.text,v4,v5]∧SCdA W v0 x.codes∧SStrA W v1 x.args∧SStrA W v2 x.outs∧SFmA W v3 x.frames∧SFlA W v4 x.files∧SStrA W v5 x.said∧OkMc x:=by
 obtain ⟨xs,m,_,_,hl,hlen,hf⟩:=DataW.trod_struct Tryz.underlying27 h
 rw [cellsMc] at hl
 match cs,hl with
 | [c0,c1,c2,c3,c4,c5,c6,c7,c8,c9,c10,c11,c12,c13],_ =>
  match xs,hlen with
  | [y0,y1,y2,y3,y4,y5,y6,y7,y8,y9,y10,y11,y12,y13],_ =>
   have f0:=hf 0 _ rfl
   simp [cellsSCd] at f0
   obtain ⟨x0,r0,h0⟩:=SCd_open f0
   have f1:=hf 1 _ rfl
   simp [cellsSStr] at f1
   obtain ⟨x1,r1,h1⟩:=SStr_open f1
   have f2:=hf 2 _ rfl
   simp [cellsSStr] at f2
   obtain ⟨x2,r2,h2⟩:=SStr_open f2
   have f3:=hf 3 _ rfl
   simp [cellsSFm] at f3
   obtain ⟨x3,r3,h3⟩:=SFm_open f3
   have f4:=hf 4 _ rfl
   simp [cellsInt] at f4
   obtain ⟨x4,e4,_,h4⟩:=DataW.trod_int Tryz.underlying3 f4
   cases e4
   have f5:=hf 5 _ rfl
   simp [cellsInt] at f5
   obtain ⟨x5,e5,_,h5⟩:=DataW.trod_int Tryz.underlying3 f5
   cases e5
   have f6:=hf 6 _ rfl
   simp [cellsInt] at f6
   obtain ⟨x6,e6,_,h6⟩:=DataW.trod_int Tryz.underlying3 f6
   cases e6
   have f7:=hf 7 _ rfl
   simp [cellsStr] at f7
   obtain ⟨x7,e7,_,h7⟩:=DataW.trod_string Tryz.underlying9 f7
   cases e7
   have f8:=hf 8 _ rfl
   simp [cellsStr] at f8
   obtain ⟨x8,e8,_,h8⟩:=DataW.trod_string Tryz.underlying9 f8
   cases e8
   have f9:=hf 9 _ rfl
   simp [cellsBool] at f9
   obtain ⟨x9,e9,_⟩:=DataW.trod_bool Tryz.underlying4 f9
   cases e9
   have f10:=hf 10 _ rfl
   simp [cellsInt] at f10
   obtain ⟨x10,e10,_,h10⟩:=DataW.trod_int Tryz.underlying3 f10
   cases e10
   have f11:=hf 11 _ rfl
   simp [cellsStr] at f11
   obtain ⟨x11,e11,_,h11⟩:=DataW.trod_string Tryz.underlying9 f11
   cases e11
   have f12:=hf 12 _ rfl
   simp [cellsSFl] at f12
   obtain ⟨x12,r12,h12⟩:=SFl_open f12
   have f13:=hf 13 _ rfl
   simp [cellsSStr] at f13
   obtain ⟨x13,r13,h13⟩:=SStr_open f13
   exact ⟨⟨x0,x1,x2,x3,x4,x5,x6,x7,x8,x9,x10,x11,x12,x13⟩,c0,c1,c2,c3,c12,c13,rfl,r0,r1,r2,r3,r12,r13,⟨h0,h1,h2,h3,(bounds h4),(bounds h5),(bounds h6),h7,h8,rfl,(bounds h10),h11,h12,h13⟩⟩
set_option maxHeartbeats 4000000 in
theorem eqCd_same (x:Cd) {u0 v0:Value} {B:Nat} (w:World) (hx:LoCd x) (k0:SFnR B w u0 x.fns) (l0:SFnR B w v0 x.fns) :
  Calls Tryz.prog 69 #[.agg #[u0],.agg #[v0]] w fun e w'=>e=.returned (.bool true)∧Below w.heap.size w w':=by
 have K0:=hid (And.intro k0 l0)
 obtain ⟨gu0,rfl⟩:=k0.sl
 obtain ⟨gv0,rfl⟩:=l0.sl
 clear k0 l0
 have HLO:=hid hx
 clear hx
 have HB0:=hid (B2.start w (.cells #[.slice (some ⟨gu0,0,none⟩) x.fns.length x.fns.length] 59) (.cells #[.slice (some ⟨gv0,0,none⟩) x.fns.length x.fns.length] 59))
 go_enter Tryz.func69,Tryz.ntmps69
 go_wp2_with fail
 refine (eqSFn_same x.fns _ HLO.out (K0.out.1.next HB0.out.lo) (K0.out.2.next HB0.out.lo)).mono ?_
 rintro e w1 ⟨rfl,hb0⟩
 have HB1:=hid (HB0.out.next hb0)
 clear hb0
 go_wp2
 go_ret
 exact ⟨rfl,HB1.out.lo⟩
set_option maxHeartbeats 4000000 in
theorem eqSCd_same (l:List Cd) {u v:Value} {B:Nat} (w:World) (hx:LoCdS l) (k0:SCdR B w u l) (l0:SCdR B w v l) :
  Calls Tryz.prog 38 #[u,v] w fun e w'=>e=.returned (.bool true)∧Below w.heap.size w w':=by
 have H1:=hid k0
 have H2:=hid l0
 have HX:=hid hx
 have hN:l.length≤1048576:=hx.1
 obtain ⟨gu,rfl⟩:=k0.sl
 obtain ⟨gv,rfl⟩:=l0.sl
 clear k0 l0 hx
 have hne:((l.length:Int) != (l.length:Int))=false:=by simp
 go_enter Tryz.func38,Tryz.ntmps38
 go_wp2
 go_loopw [5] (fun i wr=>∃ j:Nat,j≤l.length∧i=.int .i64 j∧Below w.heap.size w wr) (fun i _=>l.length - (intOf i).toNat)
 case atStart=>exact ⟨0,Nat.zero_le _,rfl,Below.refl _ _⟩
 case round =>
  obtain ⟨j,hj,rfl,hbw⟩:=hrel
  have HBW:=hid hbw
  clear hbw
  by_cases hlt:j < l.length
  ·obtain ⟨g,e9,_,hgu,u0,a0,r0⟩:=(H1.out.next HBW.out).at hlt
   injection e9 with ea en ec
   injection ea with eb
   injection eb with ec2
   subst ec2
   obtain ⟨g2,e8,_,hgv,v0,b0,q0⟩:=(H2.out.next HBW.out).at hlt
   injection e8 with ea2 en2 ec3
   injection ea2 with eb2
   injection eb2 with ec4
   subst ec4
   clear en ec en2 ec3
   have HLO:=hid (HX.out.2 j hlt)
   obtain ⟨x,hx⟩:∃ x,l.getD j cd0=x:=⟨_,rfl⟩
   rw [hx] at HLO r0 q0
   clear hx
   have HT0:=hid (And.intro (r0.mono (B':=0) (Nat.zero_le _)) (q0.mono (B':=0) (Nat.zero_le _)))
   obtain ⟨gr0,rfl⟩:=r0.sl
   obtain ⟨gq0,rfl⟩:=q0.sl
   clear r0 q0
   have A0:=fun p:Gr wr=>(p.h.cell (p:=⟨_,_,none⟩) hgu).trans a0
   have C0:=fun p:Gr wr=>(p.h.cell (p:=⟨_,_,none⟩) hgv).trans b0
   clear a0 b0
   go_wp2_with fail
   have hne2:Nonempty (Gr wr):=⟨⟨wr,Below.refl _ _⟩⟩
   refine wp_region_gr (by kernel_rfl) (by kernel_rfl) ?_
   repeat (go_big_quiet_step (first | (go_at_call 69;refine Calls.gr_of (v:=.bool true) fun hpw=>?_;exact eqCd_same x _ HLO.out (HT0.out.1.next hpw) (HT0.out.2.next hpw))))
   refine wpQuiet_nil ?_
   intro _ hw'
   obtain ⟨pw,rfl⟩:=hw'
   have HB4:=hid (HBW.out.trans (pw.h.mono HBW.out.size))
   clear A0 C0
   go_wp2
   go_roundw
   case rel=>exact ⟨j+1,by omega,by go_num,HB4.out⟩
   case measure=>simp [intOf];omega
  ·obtain rfl:j=l.length:=by omega
   go_wp2
   go_ret
   exact ⟨rfl,HBW.out⟩
set_option maxHeartbeats 2000000 in
theorem szCd_any (x:Cd) {v0:Value} (l:Int) (w:World) (hl:0≤l) (hl2:l≤1048576) (hx:OkCd x) (k0:SFnA w v0 x.fns) :
  Calls Tryz.prog 49 #[.agg #[v0],.int .i64 l] w (SzEnd l (wCd x) w):=by
 have HX:=hid hx
 have hx0:=hx
 have HB0:=hid (B1.start w (.cells #[v0] 74))
 have K0:=hid (k0.next HB0.out.lo)
 obtain ⟨ad0,cp0,rfl⟩:=k0.sl
 clear k0
 clear hx
 go_enter Tryz.func49,Tryz.ntmps49
 go_wp2_with fail
 refine (szSFn_any x.fns _ _ (by omega) (by omega) hx0 (K0.out)).mono ?_
 rintro e w1 ⟨⟨r0,rfl,p0,q0,h0⟩,hb0⟩
 have HP0:=hid h0
 have HN0:=hid hb0
 have HB1:=hid (HB0.out.next hb0)
 clear h0 hb0
 by_cases c0:r0 < 0
 ·go_wp2
  go_ret
  exact ⟨⟨_,rfl,by omega,by omega,fun h=>by omega⟩,HB1.out.lo⟩
 ·go_wp2
  go_ret
  refine ⟨⟨_,rfl,by omega,by omega,fun h=>?_⟩,HB1.out.lo⟩
  have eHP0:=HP0.out (by omega)
  simp only [wCd]
  omega
set_option maxHeartbeats 2000000 in
theorem szSCd_any (l:List Cd) {v:Value} (m:Int) (w:World) (hl:0≤m) (hl2:m≤1048576) (hx:OkCdS l) (k0:SCdA w v l) :
  Calls Tryz.prog 16 #[v,.int .i64 m] w (SzEnd m (wSCd l l.length) w):=by
 have HX:=hid hx.2
 have hN:=small hx.1
 have HK:=hid k0
 obtain ⟨ad,cap,rfl⟩:=k0.sl
 clear hx k0
 by_cases h1:m - (l.length:Int) < 0
 ·go_enter Tryz.func16,Tryz.ntmps16
  go_wp2
  go_ret
  exact ⟨⟨_,rfl,by omega,by omega,fun h=>by omega⟩,Below.refl _ _⟩
 ·go_enter Tryz.func16,Tryz.ntmps16
  go_wp2
  go_loopw [1,5] (fun q i wr=>∃ (j:Nat) (r:Int),j≤l.length∧i=.int .i64 j∧q=.int .i64 r∧0≤r∧r≤m∧(Hid (r+(l.length:Int)+(wSCd l j:Int)=m+(j:Int)))∧Below w.heap.size w wr) (fun _ i _=>l.length - (intOf i).toNat)
  case atStart=>exact ⟨0,_,Nat.zero_le _,rfl,rfl,by omega,by omega,(by show _=_;simp [wSCd]),Below.refl _ _⟩
  case round =>
   obtain ⟨j,r,hj,rfl,rfl,hr0,hr1,HS,hbw⟩:=hrel
   have HBW:=hid hbw
   clear hbw
   by_cases hlt:j < l.length
   ·obtain ⟨a,c,e9,hal,v0,c0,t0⟩:=(HK.out.next HBW.out).at hlt
    injection e9 with ea en ec
    clear en
    subst ea ec
    obtain ⟨x,hx⟩:∃ x,l.getD j cd0=x:=⟨_,rfl⟩
    have HXE:=hid hx
    have HOK:=hid (HX.out j hlt)
    rw [hx] at HOK  t0
    clear hx
    have HT0:=hid t0
    obtain ⟨ae0,ce0,rfl⟩:=t0.sl
    clear t0
    unfold CdA at c0
    go_wp2_with fail
    refine (szCd_any x _ _ (by omega) (by omega) HOK.out HT0.out).mono ?_
    rintro e w1 ⟨⟨r2,rfl,hr3,hr4,hr5⟩,hb1⟩
    have HB1:=hid (HBW.out.trans (hb1.mono HBW.out.size))
    have HR5:=hid hr5
    clear hb1 hr5 c0
    by_cases hs:r2 < 0
    ·go_wp2
     go_ret
     exact ⟨⟨-1,rfl,by omega,by omega,fun h=>by omega⟩,HB1.out⟩
    ·have HS2:Hid (r2+(l.length:Int)+(wSCd l (j+1):Int)=m+((j+1:Nat):Int)):=by
      show _=_
      have:=HS.out
      have:=HR5.out (by omega)
      simp only [wSCd,HXE.out]
      omega
     go_wp2
     go_roundw
     case rel=>exact ⟨j+1,r2,by omega,by go_num,rfl,by omega,by omega,HS2,HB1.out⟩
     case measure=>simp [intOf];omega
   ·obtain rfl:j=l.length:=by omega
    go_wp2
    go_ret
    exact ⟨⟨r,rfl,by omega,hr1,fun _=>by have:=HS.out;omega⟩,HBW.out⟩
set_option maxHeartbeats 4000000 in
theorem toCd_any (x:Cd) {v0:Value} (w:World) (hx:LoCd x) (k0:SFnA w v0 x.fns) :
  Calls Tryz.prog 57 #[.agg #[v0]] w fun e w'=>∃ u0,e=.returned (.agg #[u0])∧SFnR w.heap.size w' u0 x.fns∧Below w.heap.size w w':=by
 have K0:=hid k0
 obtain ⟨ad0,cp0,rfl⟩:=k0.sl
 clear k0
 have HLO:=hid hx
 clear hx
 have HX0:=hid (B3.start w (.cells #[.slice ad0 x.fns.length cp0] 74) #[.slice none 0 0] #[.slice none 0 0] 59)
 obtain ⟨W0,hW0⟩:∃ W,((w.alloc (.cells #[.slice ad0 x.fns.length cp0] 74)).alloc (.cells #[.slice none 0 0] 59)).alloc (.cells #[.slice none 0 0] 59)=W:=⟨_,rfl⟩
 rw [hW0] at HX0
 have a0_0:W0.cell? ⟨w.heap.size,0,none⟩=some (.slice ad0 x.fns.length cp0):=row_cell HX0.out.e 0
 go_enter Tryz.func57,Tryz.ntmps57
 go_wp2_with fail
 clear hW0
 have HY0:=hid HX0.out
 clear a0_0 HX0
 refine (toSFn_any x.fns W0 HLO.out (K0.out.next HY0.out.lo)).mono ?_
 rintro e w1 ⟨u0,rfl,r0,hb0⟩
 have HRu0:=hid (r0.mono (B':=w.heap.size+3) HY0.out.sz)
 obtain ⟨gu0,rfl⟩:=r0.sl
 clear r0
 have HX1:=hid (HY0.out.next hb0)
 clear hb0 HY0
 have o1_0:w1.cell? ⟨w.heap.size+1+1,0,none⟩=some (.slice none 0 0):=row_cell HX1.out.o 0
 have y1_0:w1.cell? ⟨w.heap.size+1,0,none⟩=some (.slice none 0 0):=row_cell HX1.out.r 0
 have f1_0:w1.frozen? ⟨w.heap.size+1,0,none⟩=false:=(row_room HX1.out.r (i:=0) (by simp)).2
 have z1_0:w1.frozen? ⟨w.heap.size+1+1,0,none⟩=false:=(row_room HX1.out.o (i:=0) (by simp)).2
 go_wp2
 refine bodyPost_ret (v:=.agg #[.slice (some ⟨gu0,0,none⟩) x.fns.length x.fns.length]) (by simp [results,Tryz.results57,go_sem,y1_0]) rfl ⟨_,rfl,?_,?_⟩
 ·exact ((HRu0.out.set (by omega) _ _).set (by omega) _ _).mono (by omega)
 ·exact (below_set (below_set HX1.out.lo _ _ (by omega) _) _ _ (by omega) _)
theorem info_Cd:(Tryz.prog.info? 59).map (fun i=>(i.zero,i.size,i.bytes))=some (some (.agg #[.slice none 0 0]),1,24):=by kernel_rfl
set_option maxHeartbeats 4000000 in
theorem toSCd_any (l:List Cd) {v:Value} (w:World) (hx:LoCdS l) (k0:SCdA w v l) :
  Calls Tryz.prog 28 #[v] w fun e w'=>∃ u,e=.returned u∧SCdR w.heap.size w' u l∧Below w.heap.size w w':=by
 have HK:=hid k0
 have HX:=hid hx
 have hN:l.length≤1048576:=hx.1
 obtain ⟨ad,cap,rfl⟩:=k0.sl
 clear hx k0
 obtain ⟨i0,hi,hz0,hz1,hz2⟩:=info_parts info_Cd
 have HHI:=hid (And.intro hi (And.intro hz0 (And.intro hz1 hz2)))
 clear hi hz0 hz1
 go_enter Tryz.func28,Tryz.ntmps28
 go_wp2_with (at_make;refine wpList_make_full _ rfl _ _ 30 rfl w.heap.size 59 i0 (.agg #[.slice none 0 0]) 1 Tryz.underlying30 HHI.out.1 HHI.out.2.1 HHI.out.2.2.1 _ _ _ _ l.length rfl rfl rfl rfl (by rw [hz2];omega) (by unfold maxLen;omega) (Nat.le_refl _) ?_;intro w1 o1 g1)
 have HF0:Hid (SCdF w.heap.size w1 l 0):=by
  obtain ⟨h1,⟨h2,_⟩ | ⟨g,c,cur,e,_,h4,_,_,h7,_⟩⟩:=o1
  ·cases h2
  ·cases e
   exact ⟨cur,h4,h7,fun i h=>absurd h (Nat.not_lt_zero _)⟩
 have HB0:=hid ((Below.refl w.heap.size w).grown g1 (Nat.le_refl _) (fun q e=>by cases e))
 clear o1 g1
 go_loopw [4] (fun i wr=>∃ j:Nat,j≤l.length∧i=.int .i64 j∧SCdF w.heap.size wr l j∧Below w.heap.size w wr) (fun i _=>l.length - (intOf i).toNat)
 case atStart=>exact ⟨0,Nat.zero_le _,rfl,HF0.out,HB0.out⟩
 case round =>
  obtain ⟨j,hj,rfl,hfi,hbw⟩:=hrel
  have HFI:=hid hfi
  have HBW:=hid hbw
  have hgl:=hfi.lt
  clear hfi hbw
  by_cases hlt:j < l.length
  ·obtain ⟨a,c,e9,hal,v0,c0,t0⟩:=(HK.out.next HBW.out).at hlt
   injection e9 with ea en ec
   clear en
   subst ea ec
   have HLE:=hid (HX.out.2 j hlt)
   obtain ⟨x,hx⟩:∃ x,l.getD j cd0=x:=⟨_,rfl⟩
   have HXE:=hid hx
   rw [hx] at HLE t0
   clear hx
   have HT0:=hid t0
   obtain ⟨ae0,ce0,rfl⟩:=t0.sl
   clear t0
   unfold CdA at c0
   go_wp2_with fail
   refine (toCd_any x _ HLE.out HT0.out).mono ?_
   rintro e w2 ⟨u0,rfl,s0,hb2⟩
   have HF2:=hid (HFI.out.keep fun i hi hl=>hb2.block i hl)
   have HFX:=hid (HF2.out.step hlt (by rw [HXE.out];exact s0.mono (by omega)))
   obtain ⟨gq0,rfl⟩:=s0.sl
   clear s0
   obtain ⟨⟨w_0,x0⟩,y0⟩:=HF2.out.room (i:=j) (by omega)
   have HBX:=hid (HBW.out.trans (hb2.mono HBW.out.size))
   clear hb2 c0
   go_wp2
   go_roundw
   case rel=>exact ⟨j+1,by omega,by go_num,HFX.out,(below_set HBX.out _ _ (Nat.le_refl _) _)⟩
   case measure=>simp [intOf];omega
  ·obtain rfl:j=l.length:=by omega
   go_wp2
   go_ret
   exact ⟨_,rfl,⟨w.heap.size,rfl,Nat.le_refl _,HFI.out⟩,HBW.out⟩
end Go.Proofs.YtbkmglknbflkhaaGreatDoor.R
namespace Go.Proofs.YtbkmglknbflkhaaGreatDoor.C
open Go.RowKit
set_option maxRecDepth 20000
set_option maxHeartbeats 1000000 in
theorem gives_16 (fns:List Fn) (f:Fn) (a:Int) (n:Int) (tx:ByteArray) (sl sk:List Int) (w:World) (cv pv iv av bv:Value) (h1:FnsRow w cv fns) (h2:IntRow w pv f.params) (h3:InsRow w iv f.ins) (h4:IntRow w av sl) (h5:IntRow w bv sk) (hn:sk.length≤1000) :
  Calls Tryz.prog 110 #[.agg #[cv],.agg #[.string f.name,pv,.int .i64 f.result,.int .i64 f.slots,iv],.agg #[.int .i64 16,.int .i64 a,.int .i64 n,.string tx],.agg #[.int .i64 1,av,bv]] w (GvEnd fns f ⟨16,a,n,tx⟩ sl sk w):=by
 obtain ⟨adA,cA,rfl⟩:=h4.sl
 obtain ⟨adB,cB,rfl⟩:=h5.sl
 have HX:=hid (boxes (i:=⟨16,a,n,tx⟩) h1 h2 h3 h4 h5)
 have HTK:Hid (takesN fns ⟨16,a,n,tx⟩=0):=hid (by simp [takesN])
 have HEF:Hid (∀ tk,eff fns f ⟨16,a,n,tx⟩ sl tk=some []):=hid (by intro tk;simp [eff])
 clear h1 h2 h3 h4 h5
 go_enter Tryz.func110,Tryz.ntmps110
 go_upto_region 1 with fail
 obtain ⟨W,hW⟩:∃ W,((((w.alloc (.cells #[cv] 59)).alloc (.cells #[.string f.name,pv,.int .i64 f.result,.int .i64 f.slots,iv] 125)).alloc (.cells #[.int .i64 16,.int .i64 a,.int .i64 n,.string tx] 103)).alloc (.cells #[.int .i64 1,.slice adA sl.length cA,.slice adB sk.length cB] 121))=W:=⟨_,rfl⟩
 have HX2:Hid _:=hid (hW ▸ HX.out)
 rw [hW]
 clear hW HX
 have x0:=HX2.out.i0
 have x1:=HX2.out.i1
 have y1:=HX2.out.s1
 have y2:=HX2.out.s2
 go_upto_if 26 with fail
 go_cut [12] (fun v wx=>v=.int .i64 (tp sk)∧wx=W)
 case first =>
  by_cases hp:0 < sk.length
  ·obtain ⟨g,c,e9,_,_,_,hc⟩:=HX2.out.sk_.at hp
   injection e9 with ea _ ec
   subst ea ec
   have hpi:(0:Int) < (sk.length:Int):=by omega
   have hwr:IntKind.i64.wrap ((sk.length:Int) - 1)=((sk.length - 1:Nat):Int):=by rw [IntKind.wrap_i64];omega
   have hlt:((sk.length - 1:Nat):Int) < (sk.length:Int):=by omega
   have hct:=hc (sk.length - 1) (by omega)
   rw [tp_at hp] at hct
   clear hc
   go_wp2_with fail
   go_meet
   case rel=>exact ⟨rfl,rfl⟩
  ·have hpi:¬ (0:Int) < (sk.length:Int):=by omega
   have HT:=hid (tp_none hp)
   clear hp
   go_wp2_with fail
   go_meet
   case rel=>exact ⟨by rw [HT.out],rfl⟩
 case rest =>
  obtain ⟨rfl,rfl⟩:=hcut
  go_upto_if 34 with fail
  go_cut [13] (fun v wx=>v=.int .i64 (bw sk)∧wx=wc)
  case first =>
   by_cases hp:1 < sk.length
   ·obtain ⟨g,c,e9,_,_,_,hc⟩:=HX2.out.sk_.at (i:=0) (by omega)
    injection e9 with ea _ ec
    subst ea ec
    have hpi:(1:Int) < (sk.length:Int):=by omega
    have hwr:IntKind.i64.wrap ((sk.length:Int) - 2)=((sk.length - 2:Nat):Int):=by rw [IntKind.wrap_i64];omega
    have hlt:((sk.length - 2:Nat):Int) < (sk.length:Int):=by omega
    have hct:=hc (sk.length - 2) (by omega)
    rw [bw_at hp] at hct
    clear hc
    go_wp2_with fail
    go_meet
    case rel=>exact ⟨rfl,rfl⟩
   ·have hpi:¬ (1:Int) < (sk.length:Int):=by omega
    have HT:=hid (bw_none hp)
    clear hp
    go_wp2_with fail
    go_meet
    case rel=>exact ⟨by rw [HT.out],rfl⟩
  case rest =>
   obtain ⟨rfl,hwc⟩:=hcut
   subst hwc
   go_wp2
   go_ret3
   exact gv_ok (k:=0) (by first | exact HX2.out.lo.alloc HX2.out.lo.size _ | exact (HX2.out.lo.alloc HX2.out.lo.size _).drew) (by decide) HTK.out.symm (by omega) (HEF.out _) (by first | exact row0 _ | exact (row0 _).next (Below.refl _ _).drew)
end Go.Proofs.YtbkmglknbflkhaaGreatDoor.C
namespace Go.Proofs.YtbkmglknbflkhaaGreatDoor.C
open Go.RowKit
theorem ok_known {S:Nat} {a:Sh} (h:OkSh S a) (h1:a.st=1):a.sl.length=S∧(∀ x ∈ a.sl,0≤x∧x≤10)∧(∀ x ∈ a.sk,1≤x∧x≤10)∧a.sk.length≤600:=by
 rcases h with rfl | rfl | ⟨_,h⟩
 ·simp [bot] at h1
 ·simp [top] at h1
 ·exact h
theorem ok_st {S:Nat} {a:Sh} (h:OkSh S a):a.st=0∨a.st=1∨a.st=2:=by
 rcases h with rfl | rfl | ⟨h,_⟩
 ·exact .inl rfl
 ·exact .inr (.inr rfl)
 ·exact .inr (.inl h)
theorem join_any {S:Nat} {a b:Sh} (ha:OkSh S a) (hb:OkSh S b) (h0:¬ b.st=0) (hS:S≤200) {w:World} {av bv:Value} (h4:ShV w av a) (h5:ShV w bv b):Calls Tryz.prog 109 #[av,bv] w (JoinEnd a b w):=by
 obtain ⟨x,y,rfl,r1,r2⟩:=h4
 obtain ⟨x',y',rfl,r3,r4⟩:=h5
 rcases ok_st ha with h | h | h
 ·exact join_second0 h0 h w x y x' y' r1 r2 r3 r4
 ·rcases ok_st hb with k | k | k
  ·exact absurd k h0
  ·have p:=ok_known ha h
   have q:=ok_known hb k
   exact join_known h k (p.1.trans q.1.symm) (by omega) (by omega) w x y x' y' r1 r2 r3 r4
  ·exact join_second1 hb k h w x y x' y' r1 r2 r3 r4
 ·exact join_first ha h0 h w x y x' y' r1 r2 r3 r4
end Go.Proofs.YtbkmglknbflkhaaGreatDoor.C
