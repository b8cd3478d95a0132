import Derived.Laws.AppendOwnNone
import Derived.Test.YtbkmglknbflkhaaGreatDoorJ18
import Derived.Test.YtbkmglknbflkhaaGreatDoorJ10
import Derived.Test.YtbkmglknbflkhaaGreatDoorJ11
import Derived.Test.YtbkmglknbflkhaaGreatDoorJ12
import Derived.Test.YtbkmglknbflkhaaGreatDoorJ13
import Derived.Test.YtbkmglknbflkhaaGreatDoorJ14
import Derived.Test.YtbkmglknbflkhaaGreatDoorJ15
import Derived.Test.YtbkmglknbflkhaaGreatDoorJ16
import Derived.Test.YtbkmglknbflkhaaGreatDoorJ08
import Derived.Test.YtbkmglknbflkhaaGreatDoorJ07
import Derived.Test.YtbkmglknbflkhaaGreatDoorJ09
import Derived.Test.YtbkmglknbflkhaaGreatDoorJ19
namespace Go.Proofs.YtbkmglknbflkhaaGreatDoor.C
open Go.RowKit
set_option maxRecDepth 20000
theorem gives_any {fns:List Fn} {f:Fn} {i:In} {sl sk:List Int} {w:World} {cv pv iv av bv:Value} (h1:FnsRow w cv fns) (h2:IntRow w pv f.params) (h3:InsRow w iv f.ins) (h4:IntRow w av sl) (h5:IntRow w bv sk) (hn:sk.length≤1000) (hF:∀ g ∈ fns,FnR fns g) (hi:InsR fns f i) (hsl:(sl.length:Int)=f.slots) (hr:∀ x ∈ sk,1≤x∧x≤10) :
  Calls Tryz.prog 110 #[.agg #[cv],.agg #[.string f.name,pv,.int .i64 f.result,.int .i64 f.slots,iv],inV i,.agg #[.int .i64 1,av,bv]] w (GvEnd fns f i sl sk w):=by
 obtain ⟨op,a,n,tx⟩:=i
 have hop:=hi.op
 dsimp only at hop
 unfold inV
 dsimp only
 obtain rfl | rfl | rfl | rfl | rfl | rfl | rfl | rfl | rfl | rfl | rfl | rfl | rfl | rfl | rfl | rfl:op=1∨op=2∨op=3∨op=4∨op=5∨op=6∨op=7∨op=8∨op=9∨op=10∨op=11∨op=12∨op=13∨op=14∨op=15∨op=16:=by omega
 ·exact gives_1 fns f a n tx sl sk w cv pv iv av bv h1 h2 h3 h4 h5 hn
 ·have h9:=hi.slot (.inl rfl)
  dsimp only at h9
  obtain ⟨m,rfl⟩:∃ m:Nat,a=m:=⟨a.toNat,by omega⟩
  exact gives_2 fns f m n tx sl sk w cv pv iv av bv h1 h2 h3 h4 h5 hn (by omega) (by omega)
 ·exact gives_3 fns f a n tx sl sk w cv pv iv av bv h1 h2 h3 h4 h5 hn
 ·exact gives_4 fns f a n tx sl sk w cv pv iv av bv h1 h2 h3 h4 h5 hn
 ·exact gives_5 fns f a n tx sl sk w cv pv iv av bv h1 h2 h3 h4 h5 hn
 ·have h9:=hi.bin rfl
  exact gives_6 fns f a h9.1 h9.2 n tx sl sk w cv pv iv av bv h1 h2 h3 h4 h5 hn
 ·exact gives_7 fns f a n tx sl sk w cv pv iv av bv h1 h2 h3 h4 h5 hn
 ·have h9:=hi.built rfl
  exact gives_8 fns f a h9.1 h9.2 n tx sl sk w cv pv iv av bv h1 h2 h3 h4 h5 hn hr
 ·have h9:=hi.call rfl
  dsimp only at h9
  obtain ⟨m,rfl⟩:∃ m:Nat,a=m:=⟨a.toNat,by omega⟩
  have hm:m < fns.length:=by omega
  have hg:fns.getD m fn0 ∈ fns:=by rw [List.getD_eq_getElem?_getD,List.getElem?_eq_getElem hm];exact List.getElem_mem hm
  exact gives_9 fns f m n tx sl sk w cv pv iv av bv h1 h2 h3 h4 h5 hn hm (by omega) (hF _ hg).few
 ·exact gives_10 fns f a n tx sl sk w cv pv iv av bv h1 h2 h3 h4 h5 hn
 ·exact gives_11 fns f a n tx sl sk w cv pv iv av bv h1 h2 h3 h4 h5 hn
 ·have h9:=hi.ret rfl
  dsimp only at h9
  rcases h9 with ⟨rfl,_⟩ | ⟨rfl,_⟩
  ·exact gives_12o fns f n tx sl sk w cv pv iv av bv h1 h2 h3 h4 h5 hn
  ·exact gives_12z fns f n tx sl sk w cv pv iv av bv h1 h2 h3 h4 h5 hn
 ·exact gives_13 fns f a n tx sl sk w cv pv iv av bv h1 h2 h3 h4 h5 hn
 ·exact gives_14 fns f a n tx sl sk w cv pv iv av bv h1 h2 h3 h4 h5 hn
 ·exact gives_15 fns f a n tx sl sk w cv pv iv av bv h1 h2 h3 h4 h5 hn
 ·exact gives_16 fns f a n tx sl sk w cv pv iv av bv h1 h2 h3 h4 h5 hn
def BehEnd (fns:List Fn) (f:Fn) (p:Nat) (s:Sh) (w:World) (e:Ending) (w':World):Prop:=∃ v,e=.returned v∧ShV w' v (behind fns f p s)∧Below w.heap.size w w'
def ibox (i:In):Obj:=.cells #[.int .i64 i.op,.int .i64 i.a,.int .i64 i.n,.string i.text] 103
def fbox (f:Fn) (pv iv:Value):Obj:=.cells #[.string f.name,pv,.int .i64 f.result,.int .i64 f.slots,iv] 125
structure BX (f:Fn) (i:In) (w:World) (cv pv iv x y:Value) (W:World):Prop where
 lo:Below w.heap.size w W
 e0:W.heap[w.heap.size]?=some (.cells #[cv] 59)
 e1:W.heap[w.heap.size+1]?=some (fbox f pv iv)
 e2:W.heap[w.heap.size+1+1]?=some (sbox 1 x y)
 e3:W.heap[w.heap.size+1+1+1]?=some (sbox 0 (.slice none 0 0) (.slice none 0 0))
 e4:W.heap[w.heap.size+1+1+1+1]?=some (ibox i)
 e5:W.heap[w.heap.size+1+1+1+1+1]?=some (sbox 2 (.slice none 0 0) (.slice none 0 0))
theorem BX.next {f:Fn} {i:In} {w:World} {cv pv iv x y:Value} {W V:World} (h:BX f i w cv pv iv x y W) (hb:Below W.heap.size W V):BX f i w cv pv iv x y V :=
 ⟨h.lo.trans (hb.mono h.lo.size),hp_next h.e0 hb,hp_next h.e1 hb,hp_next h.e2 hb,hp_next h.e3 hb,hp_next h.e4 hb,hp_next h.e5 hb⟩
theorem fx {W:World} {g:Nat} {f:Fn} {pv iv:Value} (e:W.heap[g]?=some (fbox f pv iv)) :
  W.cell? ⟨g,0,none⟩=some (.string f.name)∧W.cell? ⟨g,1,none⟩=some pv∧W.cell? ⟨g,2,none⟩=some (.int .i64 f.result)∧W.cell? ⟨g,3,none⟩=some (.int .i64 f.slots)∧W.cell? ⟨g,4,none⟩=some iv:=by
 refine ⟨?_,?_,?_,?_,?_⟩ <;> simp [World.cell?,e,fbox]
theorem ix {W:World} {g:Nat} {i:In} (e:W.heap[g]?=some (ibox i)) :
  W.cell? ⟨g,0,none⟩=some (.int .i64 i.op)∧W.cell? ⟨g,1,none⟩=some (.int .i64 i.a)∧W.cell? ⟨g,2,none⟩=some (.int .i64 i.n)∧W.cell? ⟨g,3,none⟩=some (.string i.text):=by
 refine ⟨?_,?_,?_,?_⟩ <;> simp [World.cell?,e,ibox]
theorem cx {W:World} {g:Nat} {cv:Value} (e:W.heap[g]?=some (.cells #[cv] 59)):W.cell? ⟨g,0,none⟩=some cv:=by simp [World.cell?,e]
theorem four (w:World) (a b c d:Obj):((((w.alloc a).alloc b).alloc c).alloc d).heap[w.heap.size]?=some a∧((((w.alloc a).alloc b).alloc c).alloc d).heap[w.heap.size+1]?=some b∧((((w.alloc a).alloc b).alloc c).alloc d).heap[w.heap.size+1+1]?=some c∧((((w.alloc a).alloc b).alloc c).alloc d).heap[w.heap.size+1+1+1]?=some d∧Below w.heap.size w ((((w.alloc a).alloc b).alloc c).alloc d)∧((((w.alloc a).alloc b).alloc c).alloc d).heap.size=w.heap.size+1+1+1+1:=by
 obtain ⟨t0,t1,t2⟩:=three w a b c
 have hb:Below (((w.alloc a).alloc b).alloc c).heap.size (((w.alloc a).alloc b).alloc c) ((((w.alloc a).alloc b).alloc c).alloc d):=(Below.refl _ _).alloc (Nat.le_refl _) _
 have hs:(((w.alloc a).alloc b).alloc c).heap.size=w.heap.size+1+1+1:=by simp
 have t3:=heap_alloc_new (((w.alloc a).alloc b).alloc c) d
 rw [hs] at t3
 exact ⟨hp_next t0 hb,hp_next t1 hb,hp_next t2 hb,t3,(al3 w a b c).trans (hb.mono (al3 w a b c).size),by simp⟩
theorem boxes6 (f:Fn) (i:In) (w:World) (cv pv iv x y:Value) {W4:World} (h0:W4.heap[w.heap.size]?=some (.cells #[cv] 59)) (h1:W4.heap[w.heap.size+1]?=some (fbox f pv iv)) (h2:W4.heap[w.heap.size+1+1]?=some (sbox 1 x y)) (h3:W4.heap[w.heap.size+1+1+1]?=some (sbox 0 (.slice none 0 0) (.slice none 0 0))) (lo:Below w.heap.size w W4) (hz:W4.heap.size=w.heap.size+1+1+1+1) :
  BX f i w cv pv iv x y ((W4.alloc (ibox i)).alloc (sbox 2 (.slice none 0 0) (.slice none 0 0))):=by
 have k1:Below W4.heap.size W4 (W4.alloc (ibox i)):=(Below.refl _ _).alloc (Nat.le_refl _) _
 have k2:Below (W4.alloc (ibox i)).heap.size (W4.alloc (ibox i)) ((W4.alloc (ibox i)).alloc (sbox 2 (.slice none 0 0) (.slice none 0 0))):=(Below.refl _ _).alloc (Nat.le_refl _) _
 have g4:=heap_alloc_new W4 (ibox i)
 have g5:=heap_alloc_new (W4.alloc (ibox i)) (sbox 2 (.slice none 0 0) (.slice none 0 0))
 have s5:(W4.alloc (ibox i)).heap.size=w.heap.size+1+1+1+1+1:=by simp [hz]
 rw [s5] at g5
 rw [hz] at g4
 exact ⟨(lo.trans (k1.mono lo.size)).trans (k2.mono (by rw [s5];omega)),hp_next (hp_next h0 k1) k2,hp_next (hp_next h1 k1) k2,hp_next (hp_next h2 k1) k2,hp_next (hp_next h3 k1) k2,hp_next g4 k2,g5⟩
theorem beh_top {fns:List Fn} {f:Fn} {p:Nat} {s:Sh} {w W:World} {g:Nat} (lo:Below w.heap.size w W) (hg:w.heap.size≤g) (h:behind fns f p s=top) (a b c:Value):BehEnd fns f p s w (.returned (.agg #[.int .i64 2,.slice none 0 0,.slice none 0 0])) (((W.setCell ⟨g,0,none⟩ a).setCell ⟨g,1,none⟩ b).setCell ⟨g,2,none⟩ c):=by
 refine ⟨_,rfl,?_,set_lo (set_lo (set_lo lo _ _ hg _) _ _ hg _) _ _ hg _⟩
 rw [h]
 exact ⟨_,_,rfl,IntRow.nil _,IntRow.nil _⟩
theorem run_append_none (w:World) (base:Nat) (ty:TypeId) (i:TypeInfo) (hi:Tryz.prog.info? 3=some i) (v:Value) (n c:Nat) (xs:List Value) (hown:w.ownsRow base 3 1 v n xs) :
  (Builtin.append_ #[119,119] ty #[v,.slice none 0 c]).run Tryz.prog w=.ok v w:=by
 rcases hown.2 with ⟨rfl,rfl⟩ | ⟨g,cap,cur,rfl,_,_,hnc,_⟩
 ·simp [Builtin.append_,run_underlying Tryz.underlying119,sizeOf,typeInfo,hi,Builtin.lenOf,Builtin.firstCells]
 ·simp [Builtin.append_,run_underlying Tryz.underlying119,sizeOf,typeInfo,hi,Builtin.lenOf,Builtin.firstCells,hnc,storeCells]
theorem wpList_append_row {w:World} {ops:Array Oper} {rest:List Oper} {o:Oper} {a:Act} {Q:Exit→Act→World→Prop} (hgd:o.guard=none) (s x:Operand)
  (ho:o.op=.call { callee:=.builtin .append,args:=#[s,x],argTypes:=#[119,119] })
  (base:Nat) (v:Value) (n:Nat) (xs:List Value) (hs:a.eval s=v) (hown:w.ownsRow base 3 1 v n xs) (xv:Value) (l:List Int) (hx:a.eval x=xv) (hrow:IntPart w xv l)
  (h63:n+l.length≤100000) (hbase:base≤w.heap.size)
  (h:∀ v' w',w'.ownsRow base 3 1 v' (n+l.length) (xs ++ l.map fun x=>Value.int .i64 x)→w.grownBy w' v.ownBlock→wpList Tryz.prog ops Q rest (a.put o.dst v') w') :
  wpList Tryz.prog ops Q (o :: rest) a w:=by
 obtain ⟨i0,hi,hz0,hz1,hz2⟩:=int_parts
 obtain ⟨ad,c,rfl,hl⟩:=hrow
 cases ad with
 | none =>
  have e:l=[]:=by
   rcases hl with e | ⟨g,o9,e,_⟩
   ·exact e
   ·cases e
  subst e
  refine wpList_plain hgd fun K hK=>?_
  have hrun:=run_append_none w base o.type i0 hi v n c xs hown
  unfold Oper.wp
  simp [execOp,ho,resolve,invoke,builtin,hs,hx,hrun,Result.andThen]
  exact hK _ _ (h v w (by simpa using hown) ⟨rfl,rfl,rfl,Nat.le_refl _,fun _ _ _=>rfl⟩)
 | some ad =>
  refine wpList_append_own_at _ hgd s x 119 ho base 3 i0 (.int .i64 0) 1 8 Tryz.underlying119 hi hz0 hz1 hz2 rfl (by decide) v n xs hs hown ad l.length c (l.map fun x=>Value.int .i64 x) hx (by simp) ?_ ?_ (by unfold maxLen;omega) (by omega) hbase (fun v' w' h1 h2 _ _=>h v' w' h1 h2)
  ·intro j u hj
   rcases hl with e | ⟨g,o9,e,_,hc⟩
   ·subst e;simp at hj
   ·injection e with e
    subst e
    have hlt:j < l.length:=by
     have:=(List.getElem?_eq_some_iff.1 hj).1
     simpa using this
    have hv:=hc j hlt
    have:u=.int .i64 (l.getD j 0):=by
     rw [List.getElem?_map,List.getElem?_eq_getElem hlt] at hj
     simp at hj
     rw [← hj,List.getD_eq_getElem?_getD,List.getElem?_eq_getElem hlt]
     rfl
    have ea:(⟨g,o9,none⟩:Addr).add j=⟨g,o9+j,none⟩:=by
     by_cases hj0:j=0
     ·subst hj0;simp [Addr.add]
     ·simp [Addr.add,hj0]
    rw [this,ea]
    exact hv
  ·intro u hu
   simp at hu
   obtain ⟨z,_,rfl⟩:=hu
   rfl
theorem part_head {W:World} {ad:Option Addr} {c q:Nat} {l:List Int} (h:IntRow W (.slice ad l.length c) l) (hq:q≤l.length):IntPart W (.slice ad q c) (l.take q):=by
 have hl:(l.take q).length=q:=by simp;omega
 obtain ⟨ad',c',e,_,_,h3⟩:=h
 injection e with ea _ ec
 subst ea ec
 refine ⟨_,_,by rw [hl],?_⟩
 rcases h3 with h3 | ⟨g,cur,e1,e2,e3⟩
 ·exact .inl (by rw [h3];simp)
 ·refine .inr ⟨g,0,e1,lt_hp e2,fun i hi=>?_⟩
  rw [hl] at hi
  rw [Nat.zero_add,cell_hp e2 i,e3 i (by omega)]
  simp [List.getD_eq_getElem?_getD,List.getElem?_take_of_lt hi]
theorem grown_lo {w A V:World} {B n:Nat} {v:Value} {xs:List Value} (lo:Below w.heap.size w A) (ho:A.ownsRow B 3 1 v n xs) (hB:w.heap.size≤B) (hg:A.grownBy V v.ownBlock):Below w.heap.size w V :=
 ⟨hg.os.trans lo.os,hg.tape.trans lo.tape,hg.output.trans lo.output,Nat.le_trans lo.size hg.size,fun i hi=>(hg.block i (Nat.lt_of_lt_of_le hi lo.size) (own_ne ho (by omega))).trans (lo.block i hi)⟩
theorem set2_box {W:World} {g:Nat} {st:Int} {x y:Value} (e:W.heap[g]?=some (sbox st x y)) (v:Value):(W.setCell ⟨g,2,none⟩ v).heap[g]?=some (sbox st x v):=by
 unfold World.setCell
 simp only [Array.getElem?_modify,e]
 simp [sbox]
theorem own_setS {W:World} {B g j n:Nat} {v u:Value} {xs:List Value} (h:W.ownsRow B 3 1 v n xs) {st:Int} {x y:Value} (e:W.heap[g]?=some (sbox st x y)):(W.setCell ⟨g,j,none⟩ u).ownsRow B 3 1 v n xs:=by
 obtain ⟨h1,h2 | ⟨k,cap,cur,ev,hb,hc,r⟩⟩:=h
 ·exact ⟨h1,.inl h2⟩
 ·exact ⟨h1,.inr ⟨k,cap,cur,ev,hb,by rw [set_other _ _ _ _ _ (fun ek=>by subst ek;rw [e] at hc;simp [sbox] at hc)];exact hc,r⟩⟩
theorem lit_own (W:World):(W.alloc (.cells #[] 3)).ownsRow W.heap.size 3 1 (.slice (some ⟨W.heap.size,0,none⟩) 0 0) 0 []:=World.ownsRow_lit W #[] 0 (Nat.le_refl _) (by unfold maxLen;omega) rfl
end Go.Proofs.YtbkmglknbflkhaaGreatDoor.C
