import Derived.Test.YtbkmglknbflkhaaGreatDoorJ25
import Derived.Test.YtbkmglknbflkhaaGreatDoorJ06
namespace Go.Proofs.YtbkmglknbflkhaaGreatDoor.C
open Go.RowKit
set_option maxRecDepth 20000
def aB (fns:List Fn) (f:Fn) (op a:Int):Bool :=
 if op=1 then inB a 1 10 else if op=2∨op=3 then inB a 0 (f.slots - 1) else if op=5 then inB a 1 3 else if op=6 then inB a 3 18 else if op=7 then inB a 3 10 else if op=8 then inB a 1 12 else if op=9 then inB a 0 ((fns.length:Int) - 1) else if op=10∨op=11 then inB a 0 f.ins.length else if op=12 then (if f.result=0 then inB a 0 0 else inB a 1 1) else inB a 0 0
def insB (fns:List Fn) (f:Fn) (i:In):Bool:=inB i.op 1 16 && aB fns f i.op i.a && (if i.op=1 then V.validB i.a i.n i.text else decide (i.n=0) && decide (i.text.size=0))
theorem inB_iff {n lo hi:Int}:inB n lo hi=true ↔ lo≤n∧n≤hi:=by simp [inB]
theorem valid_type {t n:Int} {s:ByteArray} (h:V.validB t n s=true):1≤t∧t≤10:=by
 unfold V.validB at h
 split at h
 ·omega
 ·split at h
  ·omega
  ·simp at h
   omega
theorem insB_R {fns:List Fn} {f:Fn} {i:In} (h:insB fns f i=true):InsR fns f i:=by
 obtain ⟨op,a,n,tx⟩:=i
 simp only [insB,Bool.and_eq_true,inB_iff] at h
 obtain ⟨⟨h1,h2⟩,_⟩:=h
 refine ⟨h1,?_,?_,?_,?_,?_,?_,?_,?_,?_⟩
 ·rintro rfl
  simpa [aB,inB_iff] using h2
 ·rintro (rfl | rfl)
  all_goals
   have:0≤a∧a≤f.slots - 1:=by simpa [aB,inB_iff] using h2
   exact ⟨this.1,by show a < f.slots;omega⟩
 ·rintro rfl
  simpa [aB,inB_iff] using h2
 ·rintro rfl
  simpa [aB,inB_iff] using h2
 ·rintro rfl
  simpa [aB,inB_iff] using h2
 ·rintro rfl
  simpa [aB,inB_iff] using h2
 ·rintro rfl
  have:0≤a∧a≤(fns.length:Int) - 1:=by simpa [aB,inB_iff] using h2
  exact ⟨this.1,by show a < (fns.length:Int);omega⟩
 ·rintro (rfl | rfl)
  all_goals
   have:0≤a∧a≤(f.ins.length:Int):=by simpa [aB,inB_iff] using h2
   exact this
 ·rintro rfl
  by_cases hr:f.result=0
  ·have:a=0:=by
    have:0≤a∧a≤0:=by simpa [aB,inB_iff,hr] using h2
    omega
   exact .inr ⟨this,hr⟩
  ·have:a=1:=by
    have:1≤a∧a≤1:=by simpa [aB,inB_iff,hr] using h2
    omega
   exact .inl ⟨this,hr⟩
structure FnOk (fns:List Fn) (k:Nat):Prop where
 name:Q.NameOk (fns.getD k fn0).name
 few:(fns.getD k fn0).params.length≤8
 result:0≤(fns.getD k fn0).result∧(fns.getD k fn0).result≤10
 slots:((fns.getD k fn0).params.length:Int)≤(fns.getD k fn0).slots∧(fns.getD k fn0).slots≤200
 some_:1≤(fns.getD k fn0).ins.length∧(fns.getD k fn0).ins.length≤50000
 params:∀ i,i < (fns.getD k fn0).params.length→1≤(fns.getD k fn0).params.getD i 0∧(fns.getD k fn0).params.getD i 0≤10
 once:∀ i,i < k→¬ (fns.getD i fn0).name=(fns.getD k fn0).name
def isMain (f:Fn):Prop:=f.name=⟨#[109,97,105,110]⟩∧f.params.length=0∧f.result=2
inductive Plain (fns:List Fn):Nat→Nat→Nat→Prop
 | many (h:¬ (1≤fns.length∧fns.length≤60)):Plain fns 1 0 0
 | fn (h:1≤fns.length∧fns.length≤60) (k:Nat) (hk:k < fns.length) (h1:∀ j,j < k→FnOk fns j) (h2:¬ FnOk fns k):Plain fns 2 k 0
 | ins (h:1≤fns.length∧fns.length≤60) (h0:∀ j,j < fns.length→FnOk fns j) (k i:Nat) (hk:k < fns.length) (hi:i < (fns.getD k fn0).ins.length) (h1:∀ j,j < k→∀ p,p < (fns.getD j fn0).ins.length→insB fns (fns.getD j fn0) ((fns.getD j fn0).ins.getD p in0)=true) (h2:∀ p,p < i→insB fns (fns.getD k fn0) ((fns.getD k fn0).ins.getD p in0)=true) (h3:insB fns (fns.getD k fn0) ((fns.getD k fn0).ins.getD i in0)=false):Plain fns 3 k i
 | main (h:1≤fns.length∧fns.length≤60) (h0:∀ j,j < fns.length→FnOk fns j) (h1:∀ j,j < fns.length→∀ p,p < (fns.getD j fn0).ins.length→insB fns (fns.getD j fn0) ((fns.getD j fn0).ins.getD p in0)=true) (h2:∀ j,j < fns.length→¬ isMain (fns.getD j fn0)):Plain fns 4 0 0
 | ok (h:1≤fns.length∧fns.length≤60) (h0:∀ j,j < fns.length→FnOk fns j) (h1:∀ j,j < fns.length→∀ p,p < (fns.getD j fn0).ins.length→insB fns (fns.getD j fn0) ((fns.getD j fn0).ins.getD p in0)=true) (j:Nat) (hj:j < fns.length) (h2:isMain (fns.getD j fn0)):Plain fns 0 0 0
theorem Plain.uniq {fns:List Fn} {c k i c' k' i':Nat} (h:Plain fns c k i) (h':Plain fns c' k' i'):c=c'∧k=k'∧i=i':=by
 cases h with
 | many h =>
  cases h' with
  | many _=>exact ⟨rfl,rfl,rfl⟩
  | fn g=>exact absurd g h
  | ins g=>exact absurd g h
  | main g=>exact absurd g h
  | ok g=>exact absurd g h
 | fn h k hk h1 h2 =>
  cases h' with
  | many g=>exact absurd h g
  | fn _ k' hk' g1 g2 =>
   rcases Nat.lt_trichotomy k k' with x | x | x
   ·exact absurd (g1 k x) h2
   ·exact ⟨rfl,x,rfl⟩
   ·exact absurd (h1 k' x) g2
  | ins _ g0=>exact absurd (g0 k hk) h2
  | main _ g0=>exact absurd (g0 k hk) h2
  | ok _ g0=>exact absurd (g0 k hk) h2
 | ins h h0 k i hk hi h1 h2 h3 =>
  cases h' with
  | many g=>exact absurd h g
  | fn _ k' hk' g1 g2=>exact absurd (h0 k' hk') g2
  | ins _ g0 k' i' hk' hi' g1 g2 g3 =>
   rcases Nat.lt_trichotomy k k' with x | x | x
   ·have:=g1 k x i hi;rw [h3] at this;cases this
   ·subst x
    rcases Nat.lt_trichotomy i i' with x | x | x
    ·have:=g2 i x;rw [h3] at this;cases this
    ·exact ⟨rfl,rfl,x⟩
    ·have:=h2 i' x;rw [g3] at this;cases this
   ·have:=h1 k' x i' hi';rw [g3] at this;cases this
  | main _ _ g1=>have:=g1 k hk i hi;rw [h3] at this;cases this
  | ok _ _ g1=>have:=g1 k hk i hi;rw [h3] at this;cases this
 | main h h0 h1 h2 =>
  cases h' with
  | many g=>exact absurd h g
  | fn _ k' hk' g1 g2=>exact absurd (h0 k' hk') g2
  | ins _ g0 k' i' hk' hi' g1 g2 g3=>have:=h1 k' hk' i' hi';rw [g3] at this;cases this
  | main _ _ _ _=>exact ⟨rfl,rfl,rfl⟩
  | ok _ _ _ j hj g2=>exact absurd g2 (h2 j hj)
 | ok h h0 h1 j hj h2 =>
  cases h' with
  | many g=>exact absurd h g
  | fn _ k' hk' g1 g2=>exact absurd (h0 k' hk') g2
  | ins _ g0 k' i' hk' hi' g1 g2 g3=>have:=h1 k' hk' i' hi';rw [g3] at this;cases this
  | main _ _ _ g2=>exact absurd h2 (g2 j hj)
  | ok _ _ _ _ _ _=>exact ⟨rfl,rfl,rfl⟩
theorem mem_getD {α:Type} {l:List α} {d x:α} (h:x ∈ l):∃ i,i < l.length∧l.getD i d=x:=by
 obtain ⟨i,hi,e⟩:=List.getElem_of_mem h
 exact ⟨i,hi,by rw [List.getD_eq_getElem?_getD,List.getElem?_eq_getElem hi];exact e⟩
theorem plain_R {fns:List Fn} (h0:∀ j,j < fns.length→FnOk fns j) (h1:∀ j,j < fns.length→∀ p,p < (fns.getD j fn0).ins.length→insB fns (fns.getD j fn0) ((fns.getD j fn0).ins.getD p in0)=true):∀ g ∈ fns,FnR fns g:=by
 intro g hg
 obtain ⟨k,hk,rfl⟩:=mem_getD (d:=fn0) hg
 have h:=h0 k hk
 refine ⟨fun x hx=>?_,h.few,h.result,h.slots,h.some_,fun i hi=>?_⟩
 ·obtain ⟨j,hj,rfl⟩:=mem_getD (d:=0) hx
  exact h.params j hj
 ·obtain ⟨j,hj,rfl⟩:=mem_getD (d:=in0) hi
  exact insB_R (h1 k hk j hj)
def LyRow (W:World) (g n:Nat) (A:Nat→Sh):Prop:=∃ cur:Array Value,W.heap[g]?=some (.cells cur 101 (0,0))∧cur.size=n * 3∧∀ i,i < n→cur[i * 3]?=some (.int .i64 ((A i).st:Nat))∧cur[i * 3+1]?=some (.string (kt (A i).sl))∧cur[i * 3+2]?=some (.string (kt (A i).sk))
theorem LyRow.lt {W:World} {g n:Nat} {A:Nat→Sh} (h:LyRow W g n A):g < W.heap.size:=by
 obtain ⟨cur,e,_⟩:=h
 exact lt_hp e
theorem LyRow.keep {W V:World} {g n:Nat} {A:Nat→Sh} (h:LyRow W g n A) (hg:V.heap[g]?=W.heap[g]?):LyRow V g n A:=by
 obtain ⟨cur,e,hz⟩:=h
 exact ⟨cur,hg.trans e,hz⟩
theorem LyRow.next {W V:World} {g n:Nat} {A:Nat→Sh} (h:LyRow W g n A) (hb:Below W.heap.size W V):LyRow V g n A:=h.keep (hb.block g h.lt)
theorem LyRow.at {W:World} {g n:Nat} {A:Nat→Sh} (h:LyRow W g n A) {i:Nat} (hi:i < n):W.cell? ⟨g,i * 3,none⟩=some (.int .i64 ((A i).st:Nat))∧W.cell? ⟨g,i * 3+1,none⟩=some (.string (kt (A i).sl))∧W.cell? ⟨g,i * 3+2,none⟩=some (.string (kt (A i).sk))∧W.frozen? ⟨g,i * 3,none⟩=false∧W.frozen? ⟨g,i * 3+1,none⟩=false∧W.frozen? ⟨g,i * 3+2,none⟩=false:=by
 obtain ⟨cur,e,hz,h1⟩:=h
 obtain ⟨e0,e1,e2⟩:=h1 i hi
 exact ⟨(cell_hp e _).trans e0,(cell_hp e _).trans e1,(cell_hp e _).trans e2,frozen_hp e _,frozen_hp e _,frozen_hp e _⟩
theorem LyRow.set {W:World} {g n:Nat} {A:Nat→Sh} (h:LyRow W g n A) {i:Nat} (hi:i < n) (s:Sh):LyRow (((W.setCell ⟨g,i * 3,none⟩ (.int .i64 (s.st:Nat))).setCell ⟨g,i * 3+1,none⟩ (.string (kt s.sl))).setCell ⟨g,i * 3+2,none⟩ (.string (kt s.sk))) g n (upd A i s):=by
 obtain ⟨cur,e,hz,h1⟩:=h
 refine ⟨_,set_cells (set_cells (set_cells e _ _) _ _) _ _,by simp [hz],fun q hq=>?_⟩
 by_cases hqi:q=i
 ·subst hqi
  rw [upd_at]
  refine ⟨?_,?_,?_⟩
  ·rw [Array.getElem?_setIfInBounds_ne (by omega),Array.getElem?_setIfInBounds_ne (by omega),Array.getElem?_setIfInBounds_self_of_lt (by omega)]
  ·rw [Array.getElem?_setIfInBounds_ne (by omega),Array.getElem?_setIfInBounds_self_of_lt (by simp;omega)]
  ·rw [Array.getElem?_setIfInBounds_self_of_lt (by simp;omega)]
 ·rw [upd_ne _ _ hqi]
  obtain ⟨e0,e1,e2⟩:=h1 q hq
  refine ⟨?_,?_,?_⟩
  ·rw [Array.getElem?_setIfInBounds_ne (by omega),Array.getElem?_setIfInBounds_ne (by omega),Array.getElem?_setIfInBounds_ne (by omega)];exact e0
  ·rw [Array.getElem?_setIfInBounds_ne (by omega),Array.getElem?_setIfInBounds_ne (by omega),Array.getElem?_setIfInBounds_ne (by omega)];exact e1
  ·rw [Array.getElem?_setIfInBounds_ne (by omega),Array.getElem?_setIfInBounds_ne (by omega),Array.getElem?_setIfInBounds_ne (by omega)];exact e2
def LvEnd (fns:List Fn) (f:Fn) (p:Nat) (s:Sh) (w:World) (e:Ending) (w':World):Prop:=∃ (st:Int) (u v:ByteArray) (fit:Bool),e=.returned (.tuple #[.agg #[.int .i64 st,.string u,.string v],.bool fit])∧(fit=true→.agg #[.int .i64 st,.string u,.string v]=lv (behind fns f p s))∧(fit=false ↔ behind fns f p s=top)∧Below w.heap.size w w'
structure LX (fns:List Fn) (f:Fn) (w:World) (b:Nat) (cv pv iv wv:Value) (gL:Nat) (A:Nat→Sh) (b6 b7:Nat) (s:Sh) (i:In) (W:World):Prop where
 lo:Below w.heap.size w W
 ms:MS fns f b cv pv iv (.slice (some ⟨gL,0,none⟩) f.ins.length f.ins.length) wv W
 ly:LyRow W gL f.ins.length A
 en:EnvI W
 e4:W.heap[w.heap.size]?=some (lbox 0 ⟨#[]⟩ ⟨#[]⟩)
 e6:W.heap[b6]?=some (lbox (s.st:Nat) (kt s.sl) (kt s.sk))
 e7:W.heap[b7]?=some (ibox i)
theorem LX.next {fns:List Fn} {f:Fn} {w:World} {b:Nat} {cv pv iv wv:Value} {gL:Nat} {A:Nat→Sh} {b6 b7:Nat} {s:Sh} {i:In} {W V:World} (h:LX fns f w b cv pv iv wv gL A b6 b7 s i W) (hb:Below W.heap.size W V):LX fns f w b cv pv iv wv gL A b6 b7 s i V :=
 ⟨h.lo.trans (hb.mono h.lo.size),h.ms.next hb,h.ly.next hb,h.en.next hb,hp_next h.e4 hb,hp_next h.e6 hb,hp_next h.e7 hb⟩
theorem LX.start1 {fns:List Fn} {f:Fn} {w:World} {b:Nat} {cv pv iv wv:Value} {gL:Nat} {A:Nat→Sh} {s:Sh} {i:In} {W0:World} (lo:Below w.heap.size w W0) (ms:MS fns f b cv pv iv (.slice (some ⟨gL,0,none⟩) f.ins.length f.ins.length) wv W0) (ly:LyRow W0 gL f.ins.length A) (en:EnvI W0) (e4:W0.heap[w.heap.size]?=some (lbox 0 ⟨#[]⟩ ⟨#[]⟩)) :
  LX fns f w b cv pv iv wv gL A (W0.heap.size+1) W0.heap.size s i ((W0.alloc (ibox i)).alloc (lbox (s.st:Nat) (kt s.sl) (kt s.sk))).drew∧LX fns f w b cv pv iv wv gL A W0.heap.size (W0.heap.size+1) s i ((W0.alloc (lbox (s.st:Nat) (kt s.sl) (kt s.sk))).alloc (ibox i)).drew:=by
 obtain ⟨t0,t1,hb,_⟩:=two W0 (ibox i) (lbox (s.st:Nat) (kt s.sl) (kt s.sk))
 obtain ⟨r0,r1,hb2,_⟩:=two W0 (lbox (s.st:Nat) (kt s.sl) (kt s.sk)) (ibox i)
 have k1:=hb.drew
 have k2:=hb2.drew
 exact ⟨⟨lo.trans (k1.mono lo.size),ms.next k1,ly.next k1,en.next k1,hp_next e4 k1,t1,t0⟩,⟨lo.trans (k2.mono lo.size),ms.next k2,ly.next k2,en.next k2,hp_next e4 k2,r0,r1⟩⟩
theorem lv_none {fns:List Fn} {f:Fn} {p:Nat} {s:Sh} {w W:World} (lo:Below w.heap.size w W) (h:behind fns f p s=top):LvEnd fns f p s w (.returned (.tuple #[.agg #[.int .i64 0,.string ⟨#[]⟩,.string ⟨#[]⟩],.bool false])) W :=
 ⟨0,_,_,false,rfl,(fun h=>by cases h),by simp [h],lo⟩
theorem kt_set {sl:List Int} {q:Nat} (hq:q < sl.length) (x:Int):kt (sl.take q) ++ kt [x] ++ kt (sl.drop (q+1))=kt (sl.set q x):=by
 rw [← kt_append,← kt_append,List.set_eq_take_append_cons_drop,if_pos hq]
 simp
structure LM (fns:List Fn) (f:Fn) (p:Nat) (s:Sh) (i:In) (B:Nat) (tk:List Int):Prop where
 st:s.st=1
 ins:f.ins.getD p in0=i
 ir:InsR fns f i
 fr:∀ g ∈ fns,FnR fns g
 len:s.sk.length=B+tk.length
 dr:s.sk.drop B=tk
 nt:takesN fns i=tk.length
 go:∀ g ∈ goes i p,g < f.ins.length
 rg:∀ x ∈ tk,1≤x∧x≤10
theorem LM.drop {fns:List Fn} {f:Fn} {p:Nat} {s:Sh} {i:In} {B:Nat} {tk:List Int} (h:LM fns f p s i B tk):s.sk.length - takesN fns (f.ins.getD p in0)=B:=by rw [h.ins,h.nt];have:=h.len;omega
theorem LM.shape {fns:List Fn} {f:Fn} {p:Nat} {s:Sh} {i:In} {B:Nat} {tk:List Int} (h:LM fns f p s i B tk):s=⟨1,s.sl,s.sk⟩:=by
 have:=h.st
 cases s
 simp at this
 rw [this]
theorem LM.bad {fns:List Fn} {f:Fn} {p:Nat} {s:Sh} {i:In} {B:Nat} {tk:List Int} (h:LM fns f p s i B tk) (hn:¬ (AllT fns f i tk∧(putR fns i s.sl tk).2=true)):behind fns f p s=top:=by
 rw [h.shape]
 refine behind_bad fun _=>?_
 rw [h.drop,h.dr,h.ins]
 exact (eff_put h.ir h.fr h.rg h.nt.symm).2 hn
theorem LM.good {fns:List Fn} {f:Fn} {p:Nat} {s:Sh} {i:In} {B:Nat} {tk:List Int} (h:LM fns f p s i B tk) (ha:AllT fns f i tk) (hp:(putR fns i s.sl tk).2=true):behind fns f p s=if B+(putR fns i s.sl tk).1.length≤600 then ⟨1,if i.op=3 then s.sl.set i.a.toNat (s.sk.getLastD 0) else s.sl,s.sk.take B ++ (putR fns i s.sl tk).1⟩ else top:=by
 have:=behind_in (fns:=fns) (f:=f) (p:=p) (sl:=s.sl) (sk:=s.sk) (l:=(putR fns i s.sl tk).1) (by rw [h.ins,h.nt];have:=h.len;omega) (by rw [h.ins];exact h.go) (by rw [h.drop,h.dr,h.ins];exact (eff_put h.ir h.fr h.rg h.nt.symm).1 ha hp)
 rw [h.drop,h.ins] at this
 rw [← this,← h.shape]
theorem LM.last {fns:List Fn} {f:Fn} {p:Nat} {s:Sh} {i:In} {B:Nat} {tk:List Int} (h:LM fns f p s i B tk) (h3:i.op=3):tk.length=1∧s.sk.getLastD 0=tk.getD 0 0:=by
 have hl:tk.length=1:=by rw [← h.nt];simp [takesN,h3]
 refine ⟨hl,?_⟩
 have hle:=h.len
 have hB:B < s.sk.length:=by omega
 have hne:s.sk≠[]:=fun e=>by rw [e] at hB;exact absurd hB (Nat.not_lt_zero _)
 have hq:s.sk.length - 1=B:=by omega
 rw [← h.dr,List.getLastD_eq_getLast?,List.getLast?_eq_getElem?,hq,List.getD_eq_getElem?_getD,List.getElem?_drop,Nat.add_zero]
theorem put_len (fns:List Fn) (i:In) (sl tk:List Int):(putR fns i sl tk).1.length≤1:=by
 unfold putR
 (repeat' split) <;> simp
theorem lv_last {fns:List Fn} {f:Fn} {p:Nat} {s:Sh} {i:In} {B:Nat} {tk:List Int} (h:LM fns f p s i B tk) (ha:AllT fns f i tk) {w W:World} (lo:Below w.heap.size w W) {sl':List Int} (hsl:sl'=if i.op=3 then s.sl.set i.a.toNat (s.sk.getLastD 0) else s.sl) {fit:Bool} (hfit:fit=((putR fns i s.sl tk).2 && decide (B+(putR fns i s.sl tk).1.length≤600))) :
  LvEnd fns f p s w (.returned (.tuple #[.agg #[.int .i64 1,.string (kt sl'),.string (kt (s.sk.take B ++ (putR fns i s.sl tk).1))],.bool fit])) W:=by
 refine ⟨1,_,_,fit,rfl,fun ht=>?_,?_,lo⟩
 ·rw [hfit,Bool.and_eq_true,decide_eq_true_iff] at ht
  rw [h.good ha ht.1,if_pos ht.2,← hsl]
  rfl
 ·by_cases hp:(putR fns i s.sl tk).2=true
  ·rw [h.good ha hp]
   by_cases h6:B+(putR fns i s.sl tk).1.length≤600
   ·rw [if_pos h6]
    have hf:fit=true:=by rw [hfit,hp];simpa using h6
    rw [hf]
    constructor
    ·intro e;cases e
    ·intro e;injection e with e1 _ _;cases e1
   ·rw [if_neg h6]
    have hf:fit=false:=by rw [hfit,hp];simpa using h6
    exact ⟨fun _=>rfl,fun _=>hf⟩
  ·have hf:fit=false:=by rw [hfit];simp [hp]
   exact ⟨fun _=>h.bad fun h9=>hp h9.2,fun _=>hf⟩
theorem lv_last2 {fns:List Fn} {f:Fn} {p:Nat} {s:Sh} {i:In} {B:Nat} {tk l:List Int} {ok:Bool} (h:LM fns f p s i B tk) (ha:AllT fns f i tk) (hl:(putR fns i s.sl tk).1=l) (hk:(putR fns i s.sl tk).2=ok) {sl':List Int} (hsl:sl'=if i.op=3 then s.sl.set i.a.toNat (s.sk.getLastD 0) else s.sl) {fit:Bool} (hfit:fit=(ok && decide (B+l.length≤600))) {w W:World} (lo:Below w.heap.size w W) :
  LvEnd fns f p s w (.returned (.tuple #[.agg #[.int .i64 1,.string (kt sl'),.string (kt (s.sk.take B ++ l))],.bool fit])) W:=by
 subst hl hk
 exact lv_last h ha lo hsl hfit
theorem set3_l {W:World} {g:Nat} {st:Int} {x y:ByteArray} (e:W.heap[g]?=some (lbox st x y)) (st':Int) (q r:ByteArray):(((W.setCell ⟨g,0,none⟩ (.int .i64 st')).setCell ⟨g,1,none⟩ (.string q)).setCell ⟨g,2,none⟩ (.string r)).heap[g]?=some (lbox st' q r):=by
 unfold World.setCell
 simp only [Array.getElem?_modify,e]
 simp [lbox]
structure LZ (w:World) (b6 b7:Nat) (s:Sh) (i:In) (at5:Option Addr) (ct5:Nat) (tk:List Int) (x y:ByteArray) (W:World):Prop where
 lo:Below w.heap.size w W
 e4:W.heap[w.heap.size]?=some (lbox 1 x y)
 e6:W.heap[b6]?=some (lbox (s.st:Nat) (kt s.sl) (kt s.sk))
 e7:W.heap[b7]?=some (ibox i)
 row:IntRow W (.slice at5 tk.length ct5) tk
 n6:¬ b6=w.heap.size
 n7:¬ b7=w.heap.size
theorem LZ.next {w:World} {b6 b7:Nat} {s:Sh} {i:In} {at5:Option Addr} {ct5:Nat} {tk:List Int} {x y:ByteArray} {W V:World} (h:LZ w b6 b7 s i at5 ct5 tk x y W) (hb:Below W.heap.size W V):LZ w b6 b7 s i at5 ct5 tk x y V:=⟨h.lo.trans (hb.mono h.lo.size),hp_next h.e4 hb,hp_next h.e6 hb,hp_next h.e7 hb,h.row.next hb,h.n6,h.n7⟩
theorem LX.store {fns:List Fn} {f:Fn} {w:World} {b:Nat} {cv pv iv wv:Value} {gL:Nat} {A:Nat→Sh} {b6 b7:Nat} {s:Sh} {i:In} {W:World} (h:LX fns f w b cv pv iv wv gL A b6 b7 s i W) (hst:s.st=1) {at5:Option Addr} {ct5:Nat} {tk:List Int} (hr:IntRow W (.slice at5 tk.length ct5) tk) (x y:ByteArray):LZ w b6 b7 s i at5 ct5 tk x y (((W.setCell ⟨w.heap.size,0,none⟩ (.int .i64 1)).setCell ⟨w.heap.size,1,none⟩ (.string x)).setCell ⟨w.heap.size,2,none⟩ (.string y)).drew:=by
 have n6:¬ b6=w.heap.size:=fun e=>by
  have h6:=h.e6
  rw [e,h.e4,hst] at h6
  simp [lbox] at h6
 have n7:¬ b7=w.heap.size:=fun e=>by
  have h7:=h.e7
  rw [e,h.e4] at h7
  simp [lbox,ibox] at h7
 refine ⟨(set_lo (set_lo (set_lo h.lo _ _ (Nat.le_refl _) _) _ _ (Nat.le_refl _) _) _ _ (Nat.le_refl _) _).drew,set3_l h.e4 1 x y,?_,?_,?_,n6,n7⟩
 ·show (((W.setCell ⟨w.heap.size,0,none⟩ (.int .i64 1)).setCell ⟨w.heap.size,1,none⟩ (.string x)).setCell ⟨w.heap.size,2,none⟩ (.string y)).heap[b6]?=_
  rw [set3_other n6];exact h.e6
 ·show (((W.setCell ⟨w.heap.size,0,none⟩ (.int .i64 1)).setCell ⟨w.heap.size,1,none⟩ (.string x)).setCell ⟨w.heap.size,2,none⟩ (.string y)).heap[b7]?=_
  rw [set3_other n7];exact h.e7
 ·refine hr.keep fun k cur hk=>?_
  show (((W.setCell ⟨w.heap.size,0,none⟩ (.int .i64 1)).setCell ⟨w.heap.size,1,none⟩ (.string x)).setCell ⟨w.heap.size,2,none⟩ (.string y)).heap[k]?=_
  exact set3_other (fun e=>by rw [e,h.e4] at hk;simp [lbox] at hk) _ _ _ _ _ _
theorem row_ne {W:World} {g n c k:Nat} {l:List Int} (h:IntRow W (.slice (some ⟨g,0,none⟩) n c) l) (hl:0 < l.length) {st:Int} {x y:ByteArray} (e:W.heap[k]?=some (lbox st x y)):¬ g=k:=by
 obtain ⟨ad,c',e1,_,_,h3⟩:=h
 injection e1 with ea _ _
 rcases h3 with h3 | ⟨g',cur,e2,e3,_⟩
 ·rw [h3] at hl;exact absurd hl (Nat.lt_irrefl _)
 ·rw [← ea] at e2
  injection e2 with e2
  injection e2 with e2
  intro hg
  rw [← e2,hg,e] at e3
  simp [lbox] at e3
theorem cell_set_ne (W:World) {g k:Nat} (h:¬ k=g) (j i:Nat) (v:Value):(W.setCell ⟨g,j,none⟩ v).cell? ⟨k,i,none⟩=W.cell? ⟨k,i,none⟩:=by
 unfold World.cell?
 rw [set_other _ _ _ _ _ h]
end Go.Proofs.YtbkmglknbflkhaaGreatDoor.C
