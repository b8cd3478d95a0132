import Derived.Orders
import Derived.Test.YthnohneaanphbaaGreatDoorJ17
import Derived.Test.YthnohneaanphbaaGreatDoorJ16
namespace Go.Proofs.YthnohneaanphbaaGreatDoor
open Go.RowKit
set_option maxRecDepth 20000
theorem count_set {l:Array Bool} {i:Nat} (h:l.getD i true=false):(l.setIfInBounds i true).toList.count false+1=l.toList.count false:=by
 have hi:i < l.size:=by
  rcases Nat.lt_or_ge i l.size with h' | h'
  ·exact h'
  ·simp [Array.getElem?_eq_none h'] at h
 have hv:l[i]=false:=by simpa [hi] using h
 have hp:0 < l.toList.count false:=List.count_pos_iff.2 (by rw [← hv];exact Array.getElem_mem_toList hi)
 have hv':l.toList[i]'(by simpa using hi)=false:=by simpa using hv
 rw [Array.toList_setIfInBounds,List.count_set (by simpa using hi),hv']
 show l.toList.count false - 1+0+1=_
 omega
def Closed (ops:Array Oper) (l:Array Bool):Prop:=∀ (k:Nat) o,ops[k]?=some o→l.getD k false=true→∀ e ∈ o.after,Region.binds .any e=true→l.getD e.on false=true
theorem Closed.put {ops:Array Oper} {l:Array Bool} {i:Nat} {o:Oper} (h:Closed ops l) (ho:ops[i]?=some o) (hall:∀ e ∈ o.after,Region.binds .any e=true→l.getD e.on false=true):Closed ops (l.setIfInBounds i true):=by
 intro k o' ho' hk e he hb
 by_cases hik:i=k
 ·subst hik
  rw [ho] at ho'
  cases ho'
  exact getD_set_true (hall e he hb)
 ·rw [getD_set_ne false hik] at hk
  exact getD_set_true (h k o' ho' hk e he hb)
theorem wpAny_inv {P:Program} {ops:Array Oper} {Q:Exit→Act→World→Prop} (I:Array Bool→Act→World→Prop)
  (hs:∀ l a w i o,l.size=ops.size→Closed ops l→I l a w→ops[i]?=some o→l.getD i true=false→(∀ e ∈ o.after,Region.binds .any e=true→l.getD e.on false=true)→wpOp P ops Q i (I (l.setIfInBounds i true)) a w)
  (hlt:∀ (i:Nat) o,ops[i]?=some o→∀ e ∈ o.after,e.on < i)
  (hf:∀ l a w,I l a w→(∀ k,k < ops.size→l.getD k false=true)→Q .normal a w) :
  ∀ (fuel:Nat) (l:Array Bool) (a:Act) (w:World),l.size=ops.size→Closed ops l→l.toList.count false≤fuel→I l a w→wpAny P .any ops Q fuel l a w:=by
 have hend:∀ l a w,l.size=ops.size→I l a w→Region.ready .any ops l=[]→Q .normal a w:=fun l a w hl hI hr=>by
  refine hf l a w hI fun k=>?_
  induction k using Nat.strongRecOn with
  | _ k ih =>
   intro hk
   cases hlk:l.getD k false with
   | true=>rfl
   | false =>
    exfalso
    have hmem:k ∈ Region.ready .any ops l:=by
     rw [mem_ready]
     refine ⟨?_,ops[k],Array.getElem?_eq_getElem hk,fun e he _=>?_⟩
     ·have hkl:k < l.size:=by omega
      simp [hkl] at hlk ⊢
      exact hlk
     ·have h1:=hlt k _ (Array.getElem?_eq_getElem hk) e he
      exact ih e.on h1 (by omega)
    rw [hr] at hmem
    cases hmem
 intro fuel
 induction fuel with
 | zero =>
  intro l a w hl _ hc hI
  have hnone:Region.ready .any ops l=[]:=by
   rw [List.eq_nil_iff_forall_not_mem]
   intro j hj
   rw [mem_ready] at hj
   have h1:=count_set hj.1
   omega
  exact ⟨hnone,hend l a w hl hI hnone⟩
 | succ fuel ih =>
  intro l a w hl hcl hc hI
  refine ⟨hend l a w hl hI,fun i hi=>?_⟩
  rw [mem_ready] at hi
  obtain ⟨h0,o,ho,hall⟩:=hi
  refine wpOp_mono (fun a' w' hI'=>?_) (hs l a w i o hl hcl hI ho h0 hall)
  have h1:=count_set h0
  exact ih _ a' w' (by simpa using hl) (hcl.put ho hall) (by omega) hI'
theorem wp_region_inv {P:Program} {id:Nat} {ops:Array Oper} {Q:Exit→Act→World→Prop} {a:Act} {w:World} (hm:P.follows .mixedOrders=true) (I:Array Bool→Act→World→Prop)
  (h0:I (Array.replicate ops.size false) a w.drew)
  (hs:∀ l a w i o,l.size=ops.size→Closed ops l→I l a w→ops[i]?=some o→l.getD i true=false→(∀ e ∈ o.after,Region.binds .any e=true→l.getD e.on false=true)→wpOp P ops Q i (I (l.setIfInBounds i true)) a w)
  (hlt:∀ (i:Nat) o,ops[i]?=some o→∀ e ∈ o.after,e.on < i)
  (hf:∀ l a w,I l a w→(∀ k,k < ops.size→l.getD k false=true)→Q .normal a w):(Code.region id ops true).wp P Q a w :=
 wp_region_any hm (wpAny_inv I hs hlt hf ops.size _ a _ (by simp) (fun k o _ hk=>by
  exfalso
  rcases Nat.lt_or_ge k ops.size with h | h
  ·simp [h] at hk
  ·simp [h] at hk) (by simp) h0)
theorem Parts.none {w W:World} (hw:w.heap.size≤W.heap.size):Parts w (W.alloc (.cells #[] 23)) (.slice (some ⟨W.heap.size,0,none⟩) 0 0) 0 0 :=
 ⟨[],[],rfl,⟨rfl,.inr ⟨W.heap.size,0,#[],rfl,hw,heap_alloc_new W _,Nat.le_refl _,by unfold maxLen;omega,rfl,rfl⟩⟩,rfl,fun j u l hu _=>by simp at hu,by simp [NdOk]⟩
structure Rc where
 s:Gs
 d:Int
 t:Nat
 x:Nat
 b:Nat
 pv:Value
 w0:World
 K:Nat
 Ce:Nat
 m:Nat
 C:Nat
 a15:Value
 a16:Value
def TA (c:Rc) (u:Nat→Value):Act:={ tmps:=#[.pointer (some ⟨c.s.G,0,none⟩),.int .i64 c.d,undef,undef,.slice none 0 0,u 5,.int .i64 ((c.t:Int)+1),.slice (some ⟨c.b,0,none⟩) 0 0,.pointer (some ⟨c.s.G,0,none⟩),.pointer (some ⟨c.s.G,0,none⟩),.pointer (some ⟨c.s.G,0,none⟩),.pointer (some ⟨c.s.R,0,none⟩),.int .i64 c.x,.int .i64 ((c.t:Int)+1),.bool true,c.a15,c.a16,u 17,u 18,u 19,u 20,u 21,u 22,u 23,u 24,u 25,u 26,u 27,u 28,u 29,u 30,u 31,u 32,u 33,u 34,u 35,u 36,u 37,u 38,u 39,u 40,u 41,u 42,u 43,u 44,undef,undef,undef],defers:=[] }
def upd (u:Nat→Value) (k:Nat) (v:Value):Nat→Value:=fun n=>if n=k then v else u n
def HasS (K:Nat) (w:World) (x:Value):Prop:=∃ g n c,x=.slice (some ⟨g,0,none⟩) n c∧Has K w x
def Phi (c:Rc):Nat→Value→World→Prop
 | 0,x,_=>x=c.pv
 | 1,x,w=>∃ b,x=.slice (some ⟨b,0,none⟩) 2 2∧w.heap[b]?=some (.cells #[.string ⟨#[98]⟩,.string ⟨#[95]⟩] 9 (0,0))
 | 5,x,_=>x=.pointer (some ⟨c.s.R,0,none⟩)
 | 6,x,_=>∃ n:Nat,x=.int .i64 n∧n < 2
 | 7,x,w=>∃ b n,n < 2∧x=.pointer (some ⟨b,n,none⟩)∧w.heap[b]?=some (.cells #[.string ⟨#[98]⟩,.string ⟨#[95]⟩] 9 (0,0))
 | 8,x,_=>∃ y:ByteArray,x=.string y∧y.size≤1000
 | 9,x,w=>∃ b y,x=.slice (some ⟨b,0,none⟩) 3 3∧w.heap[b]?=some (.cells #[.string ⟨#[97]⟩,.string y,.string ⟨#[99,32,100]⟩] 9 (0,0))∧y.size≤1000
 | 10,x,_=>x=.int .i64 ((c.t:Int)+1)
 | 11,x,_=>x=.int .i64 c.t
 | 12,x,w=>∃ b y,x=.pointer (some ⟨b,c.t,none⟩)∧w.heap[b]?=some (.cells #[.string ⟨#[97]⟩,.string y,.string ⟨#[99,32,100]⟩] 9 (0,0))∧y.size≤1000
 | 13,x,_=>∃ y:ByteArray,x=.string y∧y.size≤1000
 | 14,x,_=>∃ y:ByteArray,x=.agg #[.int .i64 17,.int .i64 0,.int .i64 0,.string y,.int .i64 0]∧y.size≤1000
 | 19,x,_=>x=.pointer (some ⟨c.s.R,0,none⟩)
 | 20,x,_=>∃ n:Nat,x=.int .i64 n
 | 21,x,_=>x=.int .i64 c.d
 | 22,x,_=>x=.int .i64 (c.d - 1)
 | 23,x,w=>HasS c.K w x
 | 24,x,w=>∃ b v,x=.slice (some ⟨b,0,none⟩) 1 1∧w.heap[b]?=some (.cells #[v] 23 (0,0))∧HasS c.K w v
 | 25,x,w=>HasS (c.K+1) w x
 | 26,x,w=>∃ b v,x=.slice (some ⟨b,0,none⟩) 1 1∧w.heap[b]?=some (.cells #[v] 23 (0,0))∧HasS (c.K+1) w v
 | 27,x,w=>Parts c.w0 w x (c.m+1) (c.m * (c.K+1)+(c.K+1))
 | 28,x,w=>Parts c.w0 w x (c.m+1) (c.m * (c.K+1)+(c.K+1))
 | _,x,_=>x=.pointer (some ⟨c.s.G,0,none⟩)
theorem HasS.gk {K B:Nat} {w w':World} {x:Value} (h:HasS K w x) (hg:Gk B w w'):HasS K w' x:=by obtain ⟨g,n,c,e,h⟩:=h;exact ⟨g,n,c,e,h.gk hg⟩
theorem str_keep {B b:Nat} {w w':World} {cs:Array Value} (hg:Gk B w w') (h:w.heap[b]?=some (.cells cs 9 (0,0))):w'.heap[b]?=some (.cells cs 9 (0,0)):=(hg.block _ _ _ _ h (by unfold GenT;decide)).trans h
theorem row_keep {B b:Nat} {w w':World} {cs:Array Value} (hg:Gk B w w') (h:w.heap[b]?=some (.cells cs 23 (0,0))):w'.heap[b]?=some (.cells cs 23 (0,0)):=(hg.block _ _ _ _ h (by unfold GenT;decide)).trans h
theorem Phi.gk {c:Rc} {k B:Nat} {x:Value} {w w':World} (hk:k < 29) (h:Phi c k x w) (hg:Gk B w w'):Phi c k x w':=by
 have h7:k=0∨k=1∨k=2∨k=3∨k=4∨k=5∨k=6∨k=7∨k=8∨k=9∨k=10∨k=11∨k=12∨k=13∨k=14∨k=15∨k=16∨k=17∨k=18∨k=19∨k=20∨k=21∨k=22∨k=23∨k=24∨k=25∨k=26∨k=27∨k=28:=by omega
 rcases h7 with rfl | rfl | rfl | rfl | rfl | rfl | rfl | rfl | rfl | rfl | rfl | rfl | rfl | rfl | rfl | rfl | rfl | rfl | rfl | rfl | rfl | rfl | rfl | rfl | rfl | rfl | rfl | rfl | rfl
 case _=>exact h
 ·obtain ⟨b,e,h⟩:=h;exact ⟨b,e,str_keep hg h⟩
 all_goals first
  | exact h
  | (obtain ⟨b,n,hn,e,h⟩:=h;exact ⟨b,n,hn,e,str_keep hg h⟩)
  | (obtain ⟨b,y,e,h,hy⟩:=h;exact ⟨b,y,e,str_keep hg h,hy⟩)
  | exact HasS.gk h hg
  | (obtain ⟨b,v,e,h,hv⟩:=h;exact ⟨b,v,e,row_keep hg h,hv.gk hg⟩)
  | exact Parts.gk h hg
def dstR (k:Nat):Nat:=if k=28 then 5 else 17+k
structure AtL (c:Rc) (l:Array Bool) (w:World):Prop where
 f6:l.getD 6 false=false→At c.s c.C c.w0 w
 f20:l.getD 20 false=false→At c.s (c.C+1) c.w0 w
 f23:l.getD 23 false=false→At c.s (c.C+1+1) c.w0 w
 fz:At c.s (c.C+1+1+c.Ce) c.w0 w
theorem getD_unset {l:Array Bool} {i k:Nat} (h:(l.setIfInBounds i true).getD k false=false):l.getD k false=false:=by
 cases hk:l.getD k false with
 | false=>rfl
 | true=>rw [getD_set_true hk] at h;cases h
theorem AtL.keep {c:Rc} {l:Array Bool} {w w':World} (h:AtL c l w) (i:Nat) (hb:Below w.heap.size w w'):AtL c (l.setIfInBounds i true) w' :=
 ⟨fun k=>(h.f6 (getD_unset k)).next hb,fun k=>(h.f20 (getD_unset k)).next hb,fun k=>(h.f23 (getD_unset k)).next hb,h.fz.next hb⟩
structure RI (c:Rc) (l:Array Bool) (a:Act) (w:World):Prop where
 ex:∃ u,a=TA c u∧(l.getD 28 false=false→u 5=c.pv)∧∀ k,k < 29→l.getD k false=true→(l.getD 27 false=false∨27≤k)→Phi c k (u (dstR k)) w
 at_:AtL c l w
 all:l.getD 27 false=true→∀ k,k < 27→l.getD k false=true
 pv:l.getD 27 false=false→Parts c.w0 w c.pv c.m (c.m * (c.K+1))
 old:c.w0.heap.size≤w.heap.size
theorem unl {l:Array Bool} {i:Nat} (h:l.getD i true=false):l.getD i false=false:=by
 cases hk:l[i]? with
 | none=>simp [hk] at h
 | some v=>simp [hk] at h ⊢;exact h
theorem lst {l:Array Bool} {i:Nat} (h:i < l.size):(l.setIfInBounds i true).getD i false=true:=by simp [h]
theorem dstR_ne {i k:Nat} (hi:i < 29) (hk:k < 29) (h:k≠i):dstR k≠dstR i:=by
 unfold dstR
 split <;> split <;> omega
theorem RI.put {c:Rc} {l:Array Bool} {u:Nat→Value} {w w':World} {i:Nat} {a':Act} (v:Value) (hi:i < 29) (h27:i≠27) (hs:i < l.size)
  (h5:l.getD 28 false=false→u 5=c.pv) (hphi:∀ k,k < 29→l.getD k false=true→(l.getD 27 false=false∨27≤k)→Phi c k (u (dstR k)) w)
  (hall:l.getD 27 false=true→∀ k,k < 27→l.getD k false=true) (hpv:l.getD 27 false=false→Parts c.w0 w c.pv c.m (c.m * (c.K+1))) (hold:c.w0.heap.size≤w.heap.size)
  (ha:a'=TA c (upd u (dstR i) v)) (hg:Gk c.s.R w w') (hat:AtL c (l.setIfInBounds i true) w') (hnew:Phi c i v w'):RI c (l.setIfInBounds i true) a' w':=by
 have e27:(l.setIfInBounds i true).getD 27 false=l.getD 27 false:=getD_set_ne false h27
 refine ⟨⟨upd u (dstR i) v,ha,fun h=>?_,fun k hk hl hc=>?_⟩,hat,fun h k hk=>?_,fun h=>(hpv (by rw [← e27];exact h)).gk hg,Nat.le_trans hold hg.size⟩
 ·have hi28:i≠28:=fun e=>by subst e;rw [lst hs] at h;cases h
  have:upd u (dstR i) v 5=u 5:=by unfold upd dstR;rw [if_neg hi28,if_neg (by omega)]
  rw [this]
  exact h5 (getD_unset h)
 ·by_cases hki:k=i
  ·subst hki
   have:upd u (dstR k) v (dstR k)=v:=by simp [upd]
   rw [this]
   exact hnew
  ·have:upd u (dstR i) v (dstR k)=u (dstR k):=by unfold upd;rw [if_neg (dstR_ne hi hk hki)]
   rw [this]
   rw [getD_set_ne false (Ne.symm hki)] at hl
   rw [e27] at hc
   exact (hphi k hk hl hc).gk hk hg
 ·rw [e27] at h
  exact getD_set_true (hall h k hk)
theorem wpOp_via {P:Program} {ops:Array Oper} {Q:Exit→Act→World→Prop} {i:Nat} {I:Act→World→Prop} {a:Act} {w:World} (h:∀ K:Act→World→Prop,(∀ a' w',I a' w'→K a' w')→wpOp P ops Q i K a w):wpOp P ops Q i I a w:=h _ fun _ _ h=>h
theorem wpOp_enter {P:Program} {ops:Array Oper} {Q:Exit→Act→World→Prop} {i:Nat} {K:Act→World→Prop} {a:Act} {w:World} {o:Oper} (ho:ops[i]?=some o) (hg:o.guard=none) {f:FuncId} {vals:Array Value}
  (hx:(execOp a.eval o).run P w=.ok (.enter f vals) w) {Q':Ending→World→Prop} (hc:Calls P f vals w Q') (h:∀ e w',Q' e w'→∃ v,e=.returned v∧K (a.put o.dst v) w'):wpOp P ops Q i K a w:=by
 unfold wpOp
 rw [ho]
 have hw:Region.wanted o (yielded ops a.tmps)=true:=by simp [Region.wanted,hg]
 simp only [hw,if_true]
 refine .inl ?_
 unfold Oper.wp
 rw [hx,Oper.upon_enter]
 refine hc.mono fun e w' hq=>?_
 obtain ⟨v,rfl,hk⟩:=h e w' hq
 exact hk
theorem wpOp_append {P:Program} {ops:Array Oper} {Q:Exit→Act→World→Prop} {j:Nat} {K:Act→World→Prop} {a:Act} {w:World} {o:Oper} (ho:ops[j]?=some o) (hg:o.guard=none) (s x:Operand) (t:TypeId)
  (hop:o.op=Op.call { callee:=Callee.builtin Builtin.append,args:=#[s,x],argTypes:=#[t,t] })
  (base:Nat) (e:TypeId) (i:TypeInfo) (z:Value) (bytes:Nat) (ht:P.underlying t=some (.slice e)) (hi:P.info? e=some i) (hz:i.zero=some z)
  (hsize:i.size=1) (hby:i.bytes=bytes) (hzs:z.cells.size=1)
  (v:Value) (n:Nat) (xs:List Value) (hs:a.eval s=v) (hown:w.ownsRow base e 1 v n xs)
  (ad:Addr) (y:Value) (hx:a.eval x=.slice (some ad) 1 1) (hnews:w.cell? ad=some y) (h1:y.oneCell'=true)
  (h63:n+1≤maxLen) (hbytes:(n+1) * bytes≤140737488355328) (hbase:base≤w.heap.size)
  (h:∀ v' w',w'.ownsRow base e 1 v' (n+1) (xs ++ [y])→w.grownBy w' v.ownBlock→K (a.put o.dst v') w'):wpOp P ops Q j K a w:=by
 unfold wpOp
 rw [ho]
 have hw:Region.wanted o (yielded ops a.tmps)=true:=by simp [Region.wanted,hg]
 simp only [hw,if_true]
 refine .inl ?_
 obtain ⟨v',w',hr,h2,h3,_,_⟩:=run_append_own_at (P:=P) w base t o.type e i z 1 bytes ht hi hz hsize hby hzs (by decide) v n xs hown ad 1 1 [y] rfl (fun q u hq=>by
  match q,hq with
  | 0,hq=>cases hq;simpa [Addr.add] using hnews) (fun u hu=>by simp at hu;subst hu;exact h1) h63 hbytes hbase
 unfold Oper.wp
 simp [execOp,hop,resolve,invoke,builtin,hs,hx,hr,Result.andThen]
 exact h v' w' h2 h3
theorem wpOp_run {P:Program} {ops:Array Oper} {Q:Exit→Act→World→Prop} {i:Nat} {K:Act→World→Prop} {a:Act} {w:World} {o:Oper} (ho:ops[i]?=some o) (hg:o.guard=none) (h:Oper.wp P o a w K Q):wpOp P ops Q i K a w:=by
 unfold wpOp
 rw [ho]
 have hw:Region.wanted o (yielded ops a.tmps)=true:=by simp [Region.wanted,hg]
 simp only [hw,if_true]
 exact .inl h
theorem Parts.any {w W:World} {v:Value} {n N:Nat} (h:Parts w W v n N):∃ ad c,v=.slice ad n c:=by
 obtain ⟨xs,ls,h1,h2,_⟩:=h
 exact own_sl h2
theorem overQ_at {s:Gs} {C n N c:Nat} {ad:Option Addr} {w w':World} (h:At s C w w') (x:Nd) (hp:Parts w w' (.slice ad n c) n N) (hn:n≤1000) (hx:x.text.size≤1000) (hK:N≤100000) :
  Calls Tryz.prog 59 #[.agg #[.int .i64 x.kind,.int .i64 x.op,.int .i64 x.n,.string x.text,.int .i64 x.kids],.slice ad n c] w' (NdEnd s (N+1) C w w'):=by
 obtain ⟨xs,ls,h1,h2,h3,h4,h5⟩:=hp
 have hparts:PartsIn w' ad xs ls:=by
  refine ⟨h3,?_,h4⟩
  rcases h2.2 with ⟨_,h0⟩ | ⟨g',cap,cur,e,_,b3,_,_,_,b4⟩
  ·exact .inl (List.eq_nil_of_length_eq_zero (by omega))
  ·cases e
   refine .inr ⟨g',rfl,cur,b3,fun j u hu=>?_⟩
   rw [Nat.mul_one] at b4
   rw [← b4] at hu
   have hj:=(List.getElem?_eq_some_iff.1 hu).1
   rw [List.length_take] at hj
   rw [List.getElem?_take_of_lt (by omega)] at hu
   simpa using hu
 refine (l2Over_any x ad n c xs ls w' h1 (by omega) hparts (by have:=h5.1;omega)).mono ?_
 rintro e w2 ⟨v,rfl,h6,h7⟩
 exact ⟨v,_,rfl,h6,h5.over hx,h.next h7,h.gk_next h7⟩
theorem repl_getD (n k:Nat):(Array.replicate n false).getD k false=false:=by
 by_cases h:k < n <;> simp [h]
theorem lt_of_check {ops:Array Oper} (h:((List.range ops.size).all fun i=>match ops[i]? with | some o=>o.after.all fun e=>decide (e.on < i) | none=>true)=true):∀ (i:Nat) o,ops[i]?=some o→∀ e ∈ o.after,e.on < i:=by
 intro i o ho e he
 have hi:=(Array.getElem?_eq_some_iff.1 ho).1
 rw [List.all_eq_true] at h
 have:=h i (List.mem_range.2 hi)
 rw [ho] at this
 simp only [Array.all_eq_true_iff_forall_mem] at this
 exact of_decide_eq_true (this e he)
set_option maxHeartbeats 16000000 in
theorem record_root {d:Int} {K Ce:Nat} (he:EOk (d - 1) K Ce) (hK0:K≤10000) (hd:1≤d) (hd2:d≤10) (s:Gs) (w:World) (h:GenAt s.R s.G s.R w s.ns s.fs s.c s.sz s.p) (hr:Room (3 * Ce+50) s) :
  Calls Tryz.prog 125 #[.pointer (some ⟨s.G,0,none⟩),.int .i64 d] w (NdEnd s (3 * K+8) (3 * Ce+20) w w):=by
 obtain ⟨R,G,ns,fs,c0,sz0,p0⟩:=s
 simp only at h ⊢
 have HE:=hid he
 have HR:=hid hr
 obtain ⟨i0,hi0,hz0,hz1,hz2⟩:=info_parts info_ns
 have HHI:=hid (And.intro hi0 (And.intro hz0 (And.intro hz1 hz2)))
 have HV1:=hid ((Below.refl w.heap.size w).alloc (Nat.le_refl _) (.cells #[] 23))
 have HA1:=hid ((At.refl (s:=⟨R,G,ns,fs,c0,sz0,p0⟩) h).next HV1.out)
 have HP1:=hid (Parts.none (w:=w) (W:=w) (Nat.le_refl _))
 have hg1:=HA1.out.g0
 clear he hr h hi0 hz0 hz1 hz2
 go_enter Tryz.func125,Tryz.ntmps125
 go_wp2_with fail
 refine (pick_at HA1.out (HR.out.sub (by omega)) 4 (by omega)).mono ?_
 rintro e w1 ⟨x,rfl,hx,at1,gk1⟩
 have HA2:=hid at1
 have HP2:=hid (HP1.out.gk gk1)
 have hx3:x≤3:=by omega
 clear hx at1 gk1 hg1
 go_wp2
 go_loopw [5,6] (fun pv c wr=>∃ t m:Nat,t+m≤3∧c=.int .i64 t∧Parts w wr pv m (m * (K+1))∧At ⟨R,G,ns,fs,c0,sz0,p0⟩ (0+1+m * (Ce+2)) w wr∧(m=0∨0 < m)) (fun _ c _=>(intOf c).toNat)
 case atStart=>exact ⟨x,0,by omega,rfl,by simpa using HP2.out,by simpa using HA2.out,by omega⟩
 case round =>
  obtain ⟨t,m,htm,rfl,hp,ha,_⟩:=hrel
  have HP:=hid hp
  have HA:=hid ha
  have hmc:m * (Ce+2)≤3 * (Ce+2):=Nat.mul_le_mul_right _ (by omega)
  have hmk:m * (K+1)≤3 * (K+1):=Nat.mul_le_mul_right _ (by omega)
  clear hp ha
  by_cases ht:0 < t
  ·obtain ⟨tn,rfl⟩:∃ tn,t=tn+1:=⟨t - 1,by omega⟩
   have hmc2:m * (Ce+2)≤2 * (Ce+2):=Nat.mul_le_mul_right _ (by omega)
   have htn:tn≤2:=by omega
   have htz:(tn:Int) < 3:=by omega
   have hti:(0:Int) < (tn:Int)+1:=by omega
   have ecast:((tn+1:Nat):Int)=(tn:Int)+1:=by omega
   have hwd:IntKind.i64.wrap (d - 1)=d - 1:=by rw [IntKind.wrap_i64];omega
   have hwt:IntKind.i64.wrap ((tn:Int)+1 - 1)=tn:=by rw [IntKind.wrap_i64];omega
   have hwt2:IntKind.i64.wrap (tn:Int)=tn:=by rw [IntKind.wrap_i64];omega
   rw [ecast]
   go_wp2_with fail
   obtain ⟨c,hc⟩:∃ c:Rc,c=⟨⟨R,G,ns,fs,c0,sz0,p0⟩,d,tn,x,w.heap.size,u5,w,K,Ce,m,0+1+m * (Ce+2),u15,u16⟩:=⟨_,rfl⟩
   have HDR:=hid ((Below.refl wr.heap.size wr).drew)
   subst hc
   refine wp_region_inv (by kernel_rfl) (RI ⟨⟨R,G,ns,fs,c0,sz0,p0⟩,d,tn,x,w.heap.size,u5,w,K,Ce,m,0+1+m * (Ce+2),u15,u16⟩) ?_ ?_ (lt_of_check (by kernel_rfl)) ?_
   ·refine ⟨⟨fun n=>if n=5 then u5 else (#[u17,u18,u19,u20,u21,u22,u23,u24,u25,u26,u27,u28,u29,u30,u31,u32,u33,u34,u35,u36,u37,u38,u39,u40,u41,u42,u43,u44]:Array Value).getD (n - 17) undef,rfl,fun _=>rfl,fun k _ hk _=>?_⟩,⟨fun _=>HA.out.next HDR.out,fun _=>(HA.out.next HDR.out).mono (by simp only;omega),fun _=>(HA.out.next HDR.out).mono (by simp only;omega),(HA.out.next HDR.out).mono (by simp only;omega)⟩,fun hk=>?_,fun _=>HP.out.gk (HA.out.gk_next HDR.out),HA.out.gk.size⟩
    ·rw [repl_getD] at hk;cases hk
    ·rw [repl_getD] at hk;cases hk
   ·intro l a wv i o hl hcl hI ho h0 hall
    obtain ⟨⟨u,rfl,h5,hphi⟩,hat,hall27,hpv,hold⟩:=hI
    have hs29:l.size=29:=hl
    have hi:i < 29:=(Array.getElem?_eq_some_iff.1 ho).1
    simp only at h5 hpv hold
    refine wpOp_via fun K' hK=>?_
    have h7:i=0∨i=1∨i=2∨i=3∨i=4∨i=5∨i=6∨i=7∨i=8∨i=9∨i=10∨i=11∨i=12∨i=13∨i=14∨i=15∨i=16∨i=17∨i=18∨i=19∨i=20∨i=21∨i=22∨i=23∨i=24∨i=25∨i=26∨i=27∨i=28:=by omega
    rcases h7 with rfl | rfl | rfl | rfl | rfl | rfl | rfl | rfl | rfl | rfl | rfl | rfl | rfl | rfl | rfl | rfl | rfl | rfl | rfl | rfl | rfl | rfl | rfl | rfl | rfl | rfl | rfl | rfl | rfl
    ·have ee:some _=some o:=ho
     injection ee with ee
     subst ee
     have h27:l.getD 27 false=false:=by
      cases hx:l.getD 27 false with
      | false=>rfl
      | true=>have h:=hall27 hx 0 (by omega);rw [unl h0] at h;cases h
     have h28:l.getD 28 false=false:=by
      cases hx:l.getD 28 false with
      | false=>rfl
      | true=>have h:=hcl 28 _ rfl hx { on:=27,ground:=.data } (by simp) rfl;rw [h27] at h;cases h
     have e5:u 5=u5:=h5 h28
     simp only [TA,e5]
     refine wpOp_run rfl rfl ?_
     go_simp
     refine hK _ _ ?_
     exact RI.put (u5) (by omega) (by omega) (by omega) h5 hphi hall27 hpv hold (by simp [TA,upd,dstR,e5]) (Gk.refl _ _) (hat.keep 0 (Below.refl _ _)) rfl
    ·have ee:some _=some o:=ho
     injection ee with ee
     subst ee
     have h27:l.getD 27 false=false:=by
      cases hx:l.getD 27 false with
      | false=>rfl
      | true=>have h:=hall27 hx 1 (by omega);rw [unl h0] at h;cases h
     simp only [TA]
     refine wpOp_run rfl rfl ?_
     go_simp
     refine hK _ _ ?_
     exact RI.put (.slice (some ⟨wv.heap.size,0,none⟩) 2 2) (by omega) (by omega) (by omega) h5 hphi hall27 hpv hold (by simp [TA,upd,dstR]) (hat.fz.gk_next ((Below.refl wv.heap.size wv).alloc (Nat.le_refl _) _)) (hat.keep 1 ((Below.refl wv.heap.size wv).alloc (Nat.le_refl _) _)) ⟨_,rfl,heap_alloc_new wv _⟩
    ·have ee:some _=some o:=ho
     injection ee with ee
     subst ee
     have h27:l.getD 27 false=false:=by
      cases hx:l.getD 27 false with
      | false=>rfl
      | true=>have h:=hall27 hx 2 (by omega);rw [unl h0] at h;cases h
     simp only [TA]
     refine wpOp_run rfl rfl ?_
     go_simp
     refine hK _ _ ?_
     exact RI.put (.pointer (some ⟨G,0,none⟩)) (by omega) (by omega) (by omega) h5 hphi hall27 hpv hold (by simp [TA,upd,dstR]) (Gk.refl _ _) (hat.keep 2 (Below.refl _ _)) rfl
    ·have ee:some _=some o:=ho
     injection ee with ee
     subst ee
     have h27:l.getD 27 false=false:=by
      cases hx:l.getD 27 false with
      | false=>rfl
      | true=>have h:=hall27 hx 3 (by omega);rw [unl h0] at h;cases h
     have p2:l.getD 2 false=true:=hall { on:=2,ground:=.data } (by simp) rfl
     have e19:u 19=.pointer (some ⟨G,0,none⟩):=hphi 2 (by omega) p2 (.inl h27)
     simp only [TA,e19]
     refine wpOp_run rfl rfl ?_
     go_simp
     refine hK _ _ ?_
     exact RI.put (.pointer (some ⟨G,0,none⟩)) (by omega) (by omega) (by omega) h5 hphi hall27 hpv hold (by simp [TA,upd,dstR,e19]) (Gk.refl _ _) (hat.keep 3 (Below.refl _ _)) rfl
    ·have ee:some _=some o:=ho
     injection ee with ee
     subst ee
     have h27:l.getD 27 false=false:=by
      cases hx:l.getD 27 false with
      | false=>rfl
      | true=>have h:=hall27 hx 4 (by omega);rw [unl h0] at h;cases h
     have p3:l.getD 3 false=true:=hall { on:=3,ground:=.data } (by simp) rfl
     have e20:u 20=.pointer (some ⟨G,0,none⟩):=hphi 3 (by omega) p3 (.inl h27)
     simp only [TA,e20]
     refine wpOp_run rfl rfl ?_
     go_simp
     refine hK _ _ ?_
     exact RI.put (.pointer (some ⟨G,0,none⟩)) (by omega) (by omega) (by omega) h5 hphi hall27 hpv hold (by simp [TA,upd,dstR,e20]) (Gk.refl _ _) (hat.keep 4 (Below.refl _ _)) rfl
    ·have ee:some _=some o:=ho
     injection ee with ee
     subst ee
     have h27:l.getD 27 false=false:=by
      cases hx:l.getD 27 false with
      | false=>rfl
      | true=>have h:=hall27 hx 5 (by omega);rw [unl h0] at h;cases h
     have p4:l.getD 4 false=true:=hall { on:=4,ground:=.data } (by simp) rfl
     have e21:u 21=.pointer (some ⟨G,0,none⟩):=hphi 4 (by omega) p4 (.inl h27)
     have cg:=hat.fz.g0
     simp only at cg
     simp only [TA,e21]
     refine wpOp_run rfl rfl ?_
     go_simp
     refine hK _ _ ?_
     exact RI.put (.pointer (some ⟨R,0,none⟩)) (by omega) (by omega) (by omega) h5 hphi hall27 hpv hold (by simp [TA,upd,dstR,e21]) (Gk.refl _ _) (hat.keep 5 (Below.refl _ _)) rfl
    ·have ee:some _=some o:=ho
     injection ee with ee
     subst ee
     have h27:l.getD 27 false=false:=by
      cases hx:l.getD 27 false with
      | false=>rfl
      | true=>have h:=hall27 hx 6 (by omega);rw [unl h0] at h;cases h
     have p5:l.getD 5 false=true:=hall { on:=5,ground:=.data } (by simp) rfl
     have e22:u 22=.pointer (some ⟨R,0,none⟩):=hphi 5 (by omega) p5 (.inl h27)
     simp only [TA,e22]
     refine wpOp_enter rfl rfl (f:=14) (vals:=#[.pointer (some ⟨R,0,none⟩),.int .i64 2]) (by kernel_rfl) (pick_at (hat.f6 (unl h0)) (HR.out.sub (by simp only;omega)) 2 (by omega)) ?_
     rintro e w1 ⟨n1,rfl,hn1,at1,gk1⟩
     refine ⟨_,rfl,hK _ _ ?_⟩
     exact RI.put (.int .i64 n1) (by omega) (by omega) (by omega) h5 hphi hall27 hpv hold (by simp [TA,upd,dstR,Act.put,e22]) gk1 ⟨fun h=>(by rw [lst (by omega)] at h;cases h),fun _=>at1,fun _=>at1.mono (by simp only;omega),at1.mono (by simp only;omega)⟩ ⟨n1,rfl,by omega⟩
    ·have ee:some _=some o:=ho
     injection ee with ee
     subst ee
     have h27:l.getD 27 false=false:=by
      cases hx:l.getD 27 false with
      | false=>rfl
      | true=>have h:=hall27 hx 7 (by omega);rw [unl h0] at h;cases h
     have p1:l.getD 1 false=true:=hall { on:=1,ground:=.data } (by simp) rfl
     obtain ⟨b1,e18,hb1⟩:∃ b,u 18=.slice (some ⟨b,0,none⟩) 2 2∧wv.heap[b]?=some (.cells #[.string ⟨#[98]⟩,.string ⟨#[95]⟩] 9 (0,0)):=hphi 1 (by omega) p1 (.inl h27)
     have p6:l.getD 6 false=true:=hall { on:=6,ground:=.data } (by simp) rfl
     obtain ⟨n6,e23,hn6⟩:∃ n:Nat,u 23=.int .i64 n∧n < 2:=hphi 6 (by omega) p6 (.inl h27)
     have hz6:(n6:Int) < 2:=by omega
     simp only [TA,e18,e23]
     refine wpOp_run rfl rfl ?_
     go_simp
     refine hK _ _ ?_
     exact RI.put (.pointer (some ⟨b1,n6,none⟩)) (by omega) (by omega) (by omega) h5 hphi hall27 hpv hold (by simp [TA,upd,dstR,e18,e23]) (Gk.refl _ _) (hat.keep 7 (Below.refl _ _)) ⟨b1,n6,hn6,rfl,hb1⟩
    ·have ee:some _=some o:=ho
     injection ee with ee
     subst ee
     have h27:l.getD 27 false=false:=by
      cases hx:l.getD 27 false with
      | false=>rfl
      | true=>have h:=hall27 hx 8 (by omega);rw [unl h0] at h;cases h
     have p7:l.getD 7 false=true:=hall { on:=7,ground:=.data } (by simp) rfl
     obtain ⟨b7,n7,hn7,e24,hb7⟩:∃ b n,n < 2∧u 24=.pointer (some ⟨b,n,none⟩)∧wv.heap[b]?=some (.cells #[.string ⟨#[98]⟩,.string ⟨#[95]⟩] 9 (0,0)):=hphi 7 (by omega) p7 (.inl h27)
     obtain ⟨y,cy,hy⟩:∃ y:ByteArray,wv.cell? ⟨b7,n7,none⟩=some (.string y)∧y.size≤1000:=by
      rw [cell_hp hb7]
      have h7:n7=0∨n7=1:=by omega
      rcases h7 with rfl | rfl <;> exact ⟨_,rfl,by decide⟩
     simp only [TA,e24]
     refine wpOp_run rfl rfl ?_
     go_simp
     refine hK _ _ ?_
     exact RI.put (.string y) (by omega) (by omega) (by omega) h5 hphi hall27 hpv hold (by simp [TA,upd,dstR,e24]) (Gk.refl _ _) (hat.keep 8 (Below.refl _ _)) ⟨y,rfl,hy⟩
    ·have ee:some _=some o:=ho
     injection ee with ee
     subst ee
     have h27:l.getD 27 false=false:=by
      cases hx:l.getD 27 false with
      | false=>rfl
      | true=>have h:=hall27 hx 9 (by omega);rw [unl h0] at h;cases h
     have p8:l.getD 8 false=true:=hall { on:=8,ground:=.data } (by simp) rfl
     obtain ⟨y8,e25,hy8⟩:∃ y:ByteArray,u 25=.string y∧y.size≤1000:=hphi 8 (by omega) p8 (.inl h27)
     simp only [TA,e25]
     refine wpOp_run rfl rfl ?_
     go_simp
     refine hK _ _ ?_
     exact RI.put (.slice (some ⟨wv.heap.size,0,none⟩) 3 3) (by omega) (by omega) (by omega) h5 hphi hall27 hpv hold (by simp [TA,upd,dstR,e25]) (hat.fz.gk_next ((Below.refl wv.heap.size wv).alloc (Nat.le_refl _) _)) (hat.keep 9 ((Below.refl wv.heap.size wv).alloc (Nat.le_refl _) _)) ⟨_,y8,rfl,heap_alloc_new wv _,hy8⟩
    ·have ee:some _=some o:=ho
     injection ee with ee
     subst ee
     have h27:l.getD 27 false=false:=by
      cases hx:l.getD 27 false with
      | false=>rfl
      | true=>have h:=hall27 hx 10 (by omega);rw [unl h0] at h;cases h
     simp only [TA]
     refine wpOp_run rfl rfl ?_
     go_simp
     refine hK _ _ ?_
     exact RI.put (.int .i64 ((tn:Int)+1)) (by omega) (by omega) (by omega) h5 hphi hall27 hpv hold (by simp [TA,upd,dstR]) (Gk.refl _ _) (hat.keep 10 (Below.refl _ _)) rfl
    ·have ee:some _=some o:=ho
     injection ee with ee
     subst ee
     have h27:l.getD 27 false=false:=by
      cases hx:l.getD 27 false with
      | false=>rfl
      | true=>have h:=hall27 hx 11 (by omega);rw [unl h0] at h;cases h
     have p10:l.getD 10 false=true:=hall { on:=10,ground:=.data } (by simp) rfl
     have e27:u 27=.int .i64 ((tn:Int)+1):=hphi 10 (by omega) p10 (.inl h27)
     simp only [TA,e27]
     refine wpOp_run rfl rfl ?_
     go_simp
     refine hK _ _ ?_
     exact RI.put (.int .i64 tn) (by omega) (by omega) (by omega) h5 hphi hall27 hpv hold (by simp [TA,upd,dstR,e27]) (Gk.refl _ _) (hat.keep 11 (Below.refl _ _)) rfl
    ·have ee:some _=some o:=ho
     injection ee with ee
     subst ee
     have h27:l.getD 27 false=false:=by
      cases hx:l.getD 27 false with
      | false=>rfl
      | true=>have h:=hall27 hx 12 (by omega);rw [unl h0] at h;cases h
     have p9:l.getD 9 false=true:=hall { on:=9,ground:=.data } (by simp) rfl
     obtain ⟨b9,y9,e26,hb9,hy9⟩:∃ b y,u 26=.slice (some ⟨b,0,none⟩) 3 3∧wv.heap[b]?=some (.cells #[.string ⟨#[97]⟩,.string y,.string ⟨#[99,32,100]⟩] 9 (0,0))∧y.size≤1000:=hphi 9 (by omega) p9 (.inl h27)
     have p11:l.getD 11 false=true:=hall { on:=11,ground:=.data } (by simp) rfl
     have e28:u 28=.int .i64 tn:=hphi 11 (by omega) p11 (.inl h27)
     simp only [TA,e26,e28]
     refine wpOp_run rfl rfl ?_
     go_simp
     refine hK _ _ ?_
     exact RI.put (.pointer (some ⟨b9,tn,none⟩)) (by omega) (by omega) (by omega) h5 hphi hall27 hpv hold (by simp [TA,upd,dstR,e26,e28]) (Gk.refl _ _) (hat.keep 12 (Below.refl _ _)) ⟨b9,y9,rfl,hb9,hy9⟩
    ·have ee:some _=some o:=ho
     injection ee with ee
     subst ee
     have h27:l.getD 27 false=false:=by
      cases hx:l.getD 27 false with
      | false=>rfl
      | true=>have h:=hall27 hx 13 (by omega);rw [unl h0] at h;cases h
     have p12:l.getD 12 false=true:=hall { on:=12,ground:=.data } (by simp) rfl
     obtain ⟨b12,y12,e29,hb12,hy12⟩:∃ b y,u 29=.pointer (some ⟨b,tn,none⟩)∧wv.heap[b]?=some (.cells #[.string ⟨#[97]⟩,.string y,.string ⟨#[99,32,100]⟩] 9 (0,0))∧y.size≤1000:=hphi 12 (by omega) p12 (.inl h27)
     obtain ⟨y,cy,hy⟩:∃ y:ByteArray,wv.cell? ⟨b12,tn,none⟩=some (.string y)∧y.size≤1000:=by
      rw [cell_hp hb12]
      have h7:tn=0∨tn=1∨tn=2:=by omega
      rcases h7 with rfl | rfl | rfl
      ·exact ⟨_,rfl,by decide⟩
      ·exact ⟨_,rfl,hy12⟩
      ·exact ⟨_,rfl,by decide⟩
     simp only [TA,e29]
     refine wpOp_run rfl rfl ?_
     go_simp
     refine hK _ _ ?_
     exact RI.put (.string y) (by omega) (by omega) (by omega) h5 hphi hall27 hpv hold (by simp [TA,upd,dstR,e29]) (Gk.refl _ _) (hat.keep 13 (Below.refl _ _)) ⟨y,rfl,hy⟩
    ·have ee:some _=some o:=ho
     injection ee with ee
     subst ee
     have h27:l.getD 27 false=false:=by
      cases hx:l.getD 27 false with
      | false=>rfl
      | true=>have h:=hall27 hx 14 (by omega);rw [unl h0] at h;cases h
     have p13:l.getD 13 false=true:=hall { on:=13,ground:=.data } (by simp) rfl
     obtain ⟨y13,e30,hy13⟩:∃ y:ByteArray,u 30=.string y∧y.size≤1000:=hphi 13 (by omega) p13 (.inl h27)
     simp only [TA,e30]
     refine wpOp_run rfl rfl ?_
     go_simp
     refine hK _ _ ?_
     exact RI.put (.agg #[.int .i64 17,.int .i64 0,.int .i64 0,.string y13,.int .i64 0]) (by omega) (by omega) (by omega) h5 hphi hall27 hpv hold (by simp [TA,upd,dstR,e30]) (Gk.refl _ _) (hat.keep 14 (Below.refl _ _)) ⟨y13,rfl,hy13⟩
    ·have ee:some _=some o:=ho
     injection ee with ee
     subst ee
     have h27:l.getD 27 false=false:=by
      cases hx:l.getD 27 false with
      | false=>rfl
      | true=>have h:=hall27 hx 15 (by omega);rw [unl h0] at h;cases h
     simp only [TA]
     refine wpOp_run rfl rfl ?_
     go_simp
     refine hK _ _ ?_
     exact RI.put (.pointer (some ⟨G,0,none⟩)) (by omega) (by omega) (by omega) h5 hphi hall27 hpv hold (by simp [TA,upd,dstR]) (Gk.refl _ _) (hat.keep 15 (Below.refl _ _)) rfl
    ·have ee:some _=some o:=ho
     injection ee with ee
     subst ee
     have h27:l.getD 27 false=false:=by
      cases hx:l.getD 27 false with
      | false=>rfl
      | true=>have h:=hall27 hx 16 (by omega);rw [unl h0] at h;cases h
     simp only [TA]
     refine wpOp_run rfl rfl ?_
     go_simp
     refine hK _ _ ?_
     exact RI.put (.pointer (some ⟨G,0,none⟩)) (by omega) (by omega) (by omega) h5 hphi hall27 hpv hold (by simp [TA,upd,dstR]) (Gk.refl _ _) (hat.keep 16 (Below.refl _ _)) rfl
    ·have ee:some _=some o:=ho
     injection ee with ee
     subst ee
     have h27:l.getD 27 false=false:=by
      cases hx:l.getD 27 false with
      | false=>rfl
      | true=>have h:=hall27 hx 17 (by omega);rw [unl h0] at h;cases h
     have p16:l.getD 16 false=true:=hall { on:=16,ground:=.data } (by simp) rfl
     have e33:u 33=.pointer (some ⟨G,0,none⟩):=hphi 16 (by omega) p16 (.inl h27)
     simp only [TA,e33]
     refine wpOp_run rfl rfl ?_
     go_simp
     refine hK _ _ ?_
     exact RI.put (.pointer (some ⟨G,0,none⟩)) (by omega) (by omega) (by omega) h5 hphi hall27 hpv hold (by simp [TA,upd,dstR,e33]) (Gk.refl _ _) (hat.keep 17 (Below.refl _ _)) rfl
    ·have ee:some _=some o:=ho
     injection ee with ee
     subst ee
     have h27:l.getD 27 false=false:=by
      cases hx:l.getD 27 false with
      | false=>rfl
      | true=>have h:=hall27 hx 18 (by omega);rw [unl h0] at h;cases h
     have p17:l.getD 17 false=true:=hall { on:=17,ground:=.data } (by simp) rfl
     have e34:u 34=.pointer (some ⟨G,0,none⟩):=hphi 17 (by omega) p17 (.inl h27)
     simp only [TA,e34]
     refine wpOp_run rfl rfl ?_
     go_simp
     refine hK _ _ ?_
     exact RI.put (.pointer (some ⟨G,0,none⟩)) (by omega) (by omega) (by omega) h5 hphi hall27 hpv hold (by simp [TA,upd,dstR,e34]) (Gk.refl _ _) (hat.keep 18 (Below.refl _ _)) rfl
    ·have ee:some _=some o:=ho
     injection ee with ee
     subst ee
     have h27:l.getD 27 false=false:=by
      cases hx:l.getD 27 false with
      | false=>rfl
      | true=>have h:=hall27 hx 19 (by omega);rw [unl h0] at h;cases h
     have p18:l.getD 18 false=true:=hall { on:=18,ground:=.data } (by simp) rfl
     have e35:u 35=.pointer (some ⟨G,0,none⟩):=hphi 18 (by omega) p18 (.inl h27)
     have cg:=hat.fz.g0
     simp only at cg
     simp only [TA,e35]
     refine wpOp_run rfl rfl ?_
     go_simp
     refine hK _ _ ?_
     exact RI.put (.pointer (some ⟨R,0,none⟩)) (by omega) (by omega) (by omega) h5 hphi hall27 hpv hold (by simp [TA,upd,dstR,e35]) (Gk.refl _ _) (hat.keep 19 (Below.refl _ _)) rfl
    ·have ee:some _=some o:=ho
     injection ee with ee
     subst ee
     have h27:l.getD 27 false=false:=by
      cases hx:l.getD 27 false with
      | false=>rfl
      | true=>have h:=hall27 hx 20 (by omega);rw [unl h0] at h;cases h
     have p19:l.getD 19 false=true:=hall { on:=19,ground:=.data } (by simp) rfl
     have e36:u 36=.pointer (some ⟨R,0,none⟩):=hphi 19 (by omega) p19 (.inl h27)
     have q6:l.getD 6 false=true:=hall { on:=6,ground:=.chain } (by simp) rfl
     simp only [TA,e36]
     refine wpOp_enter rfl rfl (f:=14) (vals:=#[.pointer (some ⟨R,0,none⟩),.int .i64 5]) (by kernel_rfl) (pick_at (hat.f20 (unl h0)) (HR.out.sub (by simp only;omega)) 5 (by omega)) ?_
     rintro e w1 ⟨n1,rfl,hn1,at1,gk1⟩
     refine ⟨_,rfl,hK _ _ ?_⟩
     exact RI.put (.int .i64 n1) (by omega) (by omega) (by omega) h5 hphi hall27 hpv hold (by simp [TA,upd,dstR,Act.put,e36]) gk1 ⟨fun h=>(by rw [getD_set_true q6] at h;cases h),fun h=>(by rw [lst (by omega)] at h;cases h),fun _=>at1,at1.mono (by simp only;omega)⟩ ⟨n1,rfl⟩
    ·have ee:some _=some o:=ho
     injection ee with ee
     subst ee
     have h27:l.getD 27 false=false:=by
      cases hx:l.getD 27 false with
      | false=>rfl
      | true=>have h:=hall27 hx 21 (by omega);rw [unl h0] at h;cases h
     simp only [TA]
     refine wpOp_run rfl rfl ?_
     go_simp
     refine hK _ _ ?_
     exact RI.put (.int .i64 d) (by omega) (by omega) (by omega) h5 hphi hall27 hpv hold (by simp [TA,upd,dstR]) (Gk.refl _ _) (hat.keep 21 (Below.refl _ _)) rfl
    ·have ee:some _=some o:=ho
     injection ee with ee
     subst ee
     have h27:l.getD 27 false=false:=by
      cases hx:l.getD 27 false with
      | false=>rfl
      | true=>have h:=hall27 hx 22 (by omega);rw [unl h0] at h;cases h
     have p21:l.getD 21 false=true:=hall { on:=21,ground:=.data } (by simp) rfl
     have e38:u 38=.int .i64 d:=hphi 21 (by omega) p21 (.inl h27)
     simp only [TA,e38]
     refine wpOp_run rfl rfl ?_
     go_simp
     refine hK _ _ ?_
     exact RI.put (.int .i64 (d - 1)) (by omega) (by omega) (by omega) h5 hphi hall27 hpv hold (by simp [TA,upd,dstR,e38]) (Gk.refl _ _) (hat.keep 22 (Below.refl _ _)) rfl
    ·have ee:some _=some o:=ho
     injection ee with ee
     subst ee
     have h27:l.getD 27 false=false:=by
      cases hx:l.getD 27 false with
      | false=>rfl
      | true=>have h:=hall27 hx 23 (by omega);rw [unl h0] at h;cases h
     have p15:l.getD 15 false=true:=hall { on:=15,ground:=.data } (by simp) rfl
     have e32:u 32=.pointer (some ⟨G,0,none⟩):=hphi 15 (by omega) p15 (.inl h27)
     have p20:l.getD 20 false=true:=hall { on:=20,ground:=.data } (by simp) rfl
     obtain ⟨n20,e37⟩:∃ n:Nat,u 37=.int .i64 n:=hphi 20 (by omega) p20 (.inl h27)
     have p22:l.getD 22 false=true:=hall { on:=22,ground:=.data } (by simp) rfl
     have e39:u 39=.int .i64 (d - 1):=hphi 22 (by omega) p22 (.inl h27)
     have q20:l.getD 20 false=true:=hall { on:=20,ground:=.chain } (by simp) rfl
     have p6:=hcl 20 _ rfl p20 { on:=6,ground:=.chain } (by simp) rfl
     simp only [TA,e32,e37,e39]
     refine wpOp_enter rfl rfl (f:=89) (vals:=#[.pointer (some ⟨G,0,none⟩),.int .i64 n20,.int .i64 (d - 1)]) (by kernel_rfl) (e_at HE.out (hat.f23 (unl h0)) (HR.out.sub (by simp only;omega)) n20) ?_
     intro e w1 hh
     obtain ⟨g1,m1,k1,rfl,l1,at1,gk1⟩:=hh.get
     refine ⟨_,rfl,hK _ _ ?_⟩
     exact RI.put (.slice (some ⟨g1,0,none⟩) m1 k1) (by omega) (by omega) (by omega) h5 hphi hall27 hpv hold (by simp [TA,upd,dstR,Act.put,e32,e37,e39]) gk1 ⟨fun h=>(by rw [getD_set_true p6] at h;cases h),fun h=>(by rw [getD_set_true p20] at h;cases h),fun h=>(by rw [lst (by omega)] at h;cases h),at1⟩ ⟨g1,m1,k1,rfl,l1⟩
    ·have ee:some _=some o:=ho
     injection ee with ee
     subst ee
     have h27:l.getD 27 false=false:=by
      cases hx:l.getD 27 false with
      | false=>rfl
      | true=>have h:=hall27 hx 24 (by omega);rw [unl h0] at h;cases h
     have p23:l.getD 23 false=true:=hall { on:=23,ground:=.data } (by simp) rfl
     obtain ⟨g23,n23,k23,e40,hl23⟩:HasS K wv (u 40):=hphi 23 (by omega) p23 (.inl h27)
     simp only [TA,e40]
     refine wpOp_run rfl rfl ?_
     go_simp
     refine hK _ _ ?_
     exact RI.put (.slice (some ⟨wv.heap.size,0,none⟩) 1 1) (by omega) (by omega) (by omega) h5 hphi hall27 hpv hold (by simp [TA,upd,dstR,e40]) (hat.fz.gk_next ((Below.refl wv.heap.size wv).alloc (Nat.le_refl _) _)) (hat.keep 24 ((Below.refl wv.heap.size wv).alloc (Nat.le_refl _) _)) ⟨_,_,rfl,heap_alloc_new wv _,⟨g23,n23,k23,rfl,(e40 ▸ hl23:Has K wv (.slice (some ⟨g23,0,none⟩) n23 k23)).gk (hat.fz.gk_next ((Below.refl wv.heap.size wv).alloc (Nat.le_refl _) _))⟩⟩
    ·have ee:some _=some o:=ho
     injection ee with ee
     subst ee
     have h27:l.getD 27 false=false:=by
      cases hx:l.getD 27 false with
      | false=>rfl
      | true=>have h:=hall27 hx 25 (by omega);rw [unl h0] at h;cases h
     have p14:l.getD 14 false=true:=hall { on:=14,ground:=.data } (by simp) rfl
     obtain ⟨y14,e31,hy14⟩:∃ y:ByteArray,u 31=.agg #[.int .i64 17,.int .i64 0,.int .i64 0,.string y,.int .i64 0]∧y.size≤1000:=hphi 14 (by omega) p14 (.inl h27)
     have p24:l.getD 24 false=true:=hall { on:=24,ground:=.data } (by simp) rfl
     obtain ⟨b24,v24,e41,hb24,hv24⟩:∃ b v,u 41=.slice (some ⟨b,0,none⟩) 1 1∧wv.heap[b]?=some (.cells #[v] 23 (0,0))∧HasS K wv v:=hphi 24 (by omega) p24 (.inl h27)
     have q23:l.getD 23 false=true:=hall { on:=23,ground:=.chain } (by simp) rfl
     have p20:=hcl 23 _ rfl q23 { on:=20,ground:=.data } (by simp) rfl
     have p6:=hcl 20 _ rfl p20 { on:=6,ground:=.chain } (by simp) rfl
     obtain ⟨gx,nx,kx,ex,hlx⟩:=hv24
     simp only [TA,e31,e41]
     refine wpOp_enter rfl rfl (f:=59) (vals:=#[.agg #[.int .i64 17,.int .i64 0,.int .i64 0,.string y14,.int .i64 0],.slice (some ⟨b24,0,none⟩) 1 1]) (by kernel_rfl) (over1_in (g:=b24) hat.fz ⟨17,0,0,y14,0⟩ v24 hb24 hlx hy14 (by omega)) ?_
     intro e w1 hh
     obtain ⟨g1,m1,k1,rfl,l1,at1,gk1⟩:=hh.get
     refine ⟨_,rfl,hK _ _ ?_⟩
     exact RI.put (.slice (some ⟨g1,0,none⟩) m1 k1) (by omega) (by omega) (by omega) h5 hphi hall27 hpv hold (by simp [TA,upd,dstR,Act.put,e31,e41]) gk1 ⟨fun h=>(by rw [getD_set_true p6] at h;cases h),fun h=>(by rw [getD_set_true p20] at h;cases h),fun h=>(by rw [getD_set_true q23] at h;cases h),at1⟩ ⟨g1,m1,k1,rfl,l1⟩
    ·have ee:some _=some o:=ho
     injection ee with ee
     subst ee
     have h27:l.getD 27 false=false:=by
      cases hx:l.getD 27 false with
      | false=>rfl
      | true=>have h:=hall27 hx 26 (by omega);rw [unl h0] at h;cases h
     have p25:l.getD 25 false=true:=hall { on:=25,ground:=.data } (by simp) rfl
     obtain ⟨g25,n25,k25,e42,hl25⟩:HasS (K+1) wv (u 42):=hphi 25 (by omega) p25 (.inl h27)
     simp only [TA,e42]
     refine wpOp_run rfl rfl ?_
     go_simp
     refine hK _ _ ?_
     exact RI.put (.slice (some ⟨wv.heap.size,0,none⟩) 1 1) (by omega) (by omega) (by omega) h5 hphi hall27 hpv hold (by simp [TA,upd,dstR,e42]) (hat.fz.gk_next ((Below.refl wv.heap.size wv).alloc (Nat.le_refl _) _)) (hat.keep 26 ((Below.refl wv.heap.size wv).alloc (Nat.le_refl _) _)) ⟨_,_,rfl,heap_alloc_new wv _,⟨g25,n25,k25,rfl,(e42 ▸ hl25:Has (K+1) wv (.slice (some ⟨g25,0,none⟩) n25 k25)).gk (hat.fz.gk_next ((Below.refl wv.heap.size wv).alloc (Nat.le_refl _) _))⟩⟩
    ·have ee:some _=some o:=ho
     injection ee with ee
     subst ee
     have h27:l.getD 27 false=false:=unl h0
     have p0:l.getD 0 false=true:=hall { on:=0,ground:=.data } (by simp) rfl
     have e17:u 17=u5:=hphi 0 (by omega) p0 (.inl h27)
     have p26:l.getD 26 false=true:=hall { on:=26,ground:=.data } (by simp) rfl
     obtain ⟨b26,v26,e43,hb26,hv26⟩:∃ b v,u 43=.slice (some ⟨b,0,none⟩) 1 1∧wv.heap[b]?=some (.cells #[v] 23 (0,0))∧HasS (K+1) wv v:=hphi 26 (by omega) p26 (.inl h27)
     have q25:l.getD 25 false=true:=hall { on:=25,ground:=.chain } (by simp) rfl
     have r14:l.getD 14 false=true:=hcl 25 _ rfl q25 { on:=14,ground:=.data } (by simp) rfl
     have r24:l.getD 24 false=true:=hcl 25 _ rfl q25 { on:=24,ground:=.data } (by simp) rfl
     have r23:l.getD 23 false=true:=hcl 24 _ rfl r24 { on:=23,ground:=.data } (by simp) rfl
     have r15:l.getD 15 false=true:=hcl 23 _ rfl r23 { on:=15,ground:=.data } (by simp) rfl
     have r20:l.getD 20 false=true:=hcl 23 _ rfl r23 { on:=20,ground:=.data } (by simp) rfl
     have r22:l.getD 22 false=true:=hcl 23 _ rfl r23 { on:=22,ground:=.data } (by simp) rfl
     have r21:l.getD 21 false=true:=hcl 22 _ rfl r22 { on:=21,ground:=.data } (by simp) rfl
     have r19:l.getD 19 false=true:=hcl 20 _ rfl r20 { on:=19,ground:=.data } (by simp) rfl
     have r18:l.getD 18 false=true:=hcl 19 _ rfl r19 { on:=18,ground:=.data } (by simp) rfl
     have r17:l.getD 17 false=true:=hcl 18 _ rfl r18 { on:=17,ground:=.data } (by simp) rfl
     have r16:l.getD 16 false=true:=hcl 17 _ rfl r17 { on:=16,ground:=.data } (by simp) rfl
     have r6:l.getD 6 false=true:=hcl 20 _ rfl r20 { on:=6,ground:=.chain } (by simp) rfl
     have r13:l.getD 13 false=true:=hcl 14 _ rfl r14 { on:=13,ground:=.data } (by simp) rfl
     have r12:l.getD 12 false=true:=hcl 13 _ rfl r13 { on:=12,ground:=.data } (by simp) rfl
     have r9:l.getD 9 false=true:=hcl 12 _ rfl r12 { on:=9,ground:=.data } (by simp) rfl
     have r11:l.getD 11 false=true:=hcl 12 _ rfl r12 { on:=11,ground:=.data } (by simp) rfl
     have r10:l.getD 10 false=true:=hcl 11 _ rfl r11 { on:=10,ground:=.data } (by simp) rfl
     have r8:l.getD 8 false=true:=hcl 9 _ rfl r9 { on:=8,ground:=.data } (by simp) rfl
     have r7:l.getD 7 false=true:=hcl 8 _ rfl r8 { on:=7,ground:=.data } (by simp) rfl
     have r1:l.getD 1 false=true:=hcl 7 _ rfl r7 { on:=1,ground:=.data } (by simp) rfl
     have r5:l.getD 5 false=true:=hcl 6 _ rfl r6 { on:=5,ground:=.data } (by simp) rfl
     have r4:l.getD 4 false=true:=hcl 5 _ rfl r5 { on:=4,ground:=.data } (by simp) rfl
     have r3:l.getD 3 false=true:=hcl 4 _ rfl r4 { on:=3,ground:=.data } (by simp) rfl
     have r2:l.getD 2 false=true:=hcl 3 _ rfl r3 { on:=2,ground:=.data } (by simp) rfl
     have hall2:∀ k,k < 27→l.getD k false=true:=by
      intro k hk
      have h7:k=0∨k=1∨k=2∨k=3∨k=4∨k=5∨k=6∨k=7∨k=8∨k=9∨k=10∨k=11∨k=12∨k=13∨k=14∨k=15∨k=16∨k=17∨k=18∨k=19∨k=20∨k=21∨k=22∨k=23∨k=24∨k=25∨k=26:=by omega
      rcases h7 with rfl | rfl | rfl | rfl | rfl | rfl | rfl | rfl | rfl | rfl | rfl | rfl | rfl | rfl | rfl | rfl | rfl | rfl | rfl | rfl | rfl | rfl | rfl | rfl | rfl | rfl | rfl
      ·exact p0
      ·exact r1
      ·exact r2
      ·exact r3
      ·exact r4
      ·exact r5
      ·exact r6
      ·exact r7
      ·exact r8
      ·exact r9
      ·exact r10
      ·exact r11
      ·exact r12
      ·exact r13
      ·exact r14
      ·exact r15
      ·exact r16
      ·exact r17
      ·exact r18
      ·exact r19
      ·exact r20
      ·exact r21
      ·exact r22
      ·exact r23
      ·exact r24
      ·exact q25
      ·exact p26
     obtain ⟨xs,ls,z1,z2,z3,z4,z5⟩:=hpv h27
     obtain ⟨gx,nx,kx,ex,hlx⟩:=hv26
     subst ex
     have cy:=cell_hp hb26 0
     simp at cy
     simp only [TA,e17,e43]
     refine wpOp_append rfl rfl (.tmp 17) (.tmp 43) 96 rfl w.heap.size 23 i0 (.slice none 0 0) 24 Tryz.underlying96 HHI.out.1 HHI.out.2.1 HHI.out.2.2.1 HHI.out.2.2.2 rfl u5 m xs (by simp [Act.eval]) z2 ⟨b26,0,none⟩ (.slice (some ⟨gx,0,none⟩) nx kx) (by simp [Act.eval]) cy rfl (by unfold maxLen;omega) (by omega) hold ?_
     intro v7 w7 o7 g7
     obtain ⟨ha7,hp7⟩:=Parts.more z1 z3 z4 z5 hlx hat.fz z2 g7 o7
     have e27:(l.setIfInBounds 27 true).getD 27 false=true:=lst (by omega)
     refine hK _ _ ⟨⟨upd u 44 v7,by simp [TA,upd,Act.put,e17,e43],fun h=>?_,fun k hk hl2 hc=>?_⟩,⟨fun h=>?_,fun h=>?_,fun h=>?_,ha7⟩,fun _ k hk=>getD_set_true (hall2 k hk),fun h=>?_,Nat.le_trans hold g7.size⟩
     ·have h28:=h5 (getD_unset h)
      have:upd u 44 v7 5=u 5:=rfl
      rw [this]
      exact h28
     ·have hk2:k=27∨k=28:=by
       rcases hc with hc | hc
       ·rw [e27] at hc;cases hc
       ·omega
      rcases hk2 with rfl | rfl
      ·exact hp7
      ·rw [getD_set_ne false (by omega)] at hl2
       have h:=hcl 28 _ rfl hl2 { on:=27,ground:=.data } (by simp) rfl
       rw [h27] at h
       cases h
     ·rw [getD_set_true r6] at h;cases h
     ·rw [getD_set_true r20] at h;cases h
     ·rw [getD_set_true r23] at h;cases h
     ·rw [e27] at h;cases h
    ·have ee:some _=some o:=ho
     injection ee with ee
     subst ee
     have p27:l.getD 27 false=true:=hall { on:=27,ground:=.data } (by simp) rfl
     have f27:Parts w wv (u 44) (m+1) (m * (K+1)+(K+1)):=hphi 27 (by omega) p27 (.inr (by omega))
     simp only [TA]
     refine wpOp_run rfl rfl ?_
     go_simp
     refine hK _ _ ?_
     exact RI.put (u 44) (by omega) (by omega) (by omega) h5 hphi hall27 hpv hold (by simp [TA,upd,dstR]) (Gk.refl _ _) (hat.keep 28 (Below.refl _ _)) f27
   ·intro l a wv hI hallk
    obtain ⟨⟨u,rfl,_,hphi⟩,hat,_,_,_⟩:=hI
    have h28:Parts w wv (u 5) (m+1) (m * (K+1)+(K+1)):=hphi 28 (by omega) (hallk 28 (by decide)) (.inr (by omega))
    have HP9:=hid h28
    have HA9:=hid hat.fz
    simp only at HA9
    obtain ⟨g9,c9,e9⟩:=h28.sl (by omega)
    simp only [TA]
    clear h28 hat hphi hallk
    go_wp2
    go_roundw
    case rel=>exact ⟨tn,m+1,by omega,by go_num,by rw [Nat.add_mul,Nat.one_mul];exact HP9.out,HA9.out.mono (by rw [Nat.add_mul];omega),by omega⟩
    case measure=>simp [intOf]
  ·obtain rfl:t=0:=by omega
   obtain ⟨adp,cp,hpe⟩:=HP.out.any
   subst hpe
   go_wp2_with fail
   refine (overQ_at HA.out ⟨9,0,0,⟨#[]⟩,0⟩ HP.out (by omega) (by show (⟨#[]⟩:ByteArray).size≤1000;decide) (by omega)).mono ?_
   intro e w6 hh
   obtain ⟨g6,n6,k6,rfl,l6,at6,gk6⟩:=hh.get
   have HL6:=hid l6
   have HA6:=hid at6
   clear hh l6 at6 gk6
   go_wp2
   go_ret
   exact HL6.out.fin HA6.out HA6.out.gk (by omega) (by omega)
theorem record_at {d:Int} {K Ce:Nat} (he:EOk (d - 1) K Ce) (hK:K≤10000) (hd:1≤d) (hd2:d≤10):RecOk d K Ce:=by
 intro s C w w' h hr
 obtain ⟨p',c',sz',h1,h2,h3,h4,h5,h6,h7,h8⟩:=h
 refine (record_root he hK hd hd2 ⟨s.R,s.G,s.ns,s.fs,c',sz',p'⟩ w' h7 ⟨by have:=hr.p;simp only;omega,by have:=hr.c;simp only;omega,by have:=hr.lo;simp only;omega,by have:=hr.hi;simp only;omega,by have:=hr.n;simp only;omega,hr.f⟩).mono ?_
 intro e w2 hh
 obtain ⟨g,n,k,rfl,l,at2,gk2⟩:=hh.get
 obtain ⟨k1,k2⟩:=At.comp h1 h2 h3 h4 h5 h6 h8 at2
 exact l.fin k1 k2 (Nat.le_refl _) (by omega)
theorem e_one:EOk 1 17 135:=by
 have h:EOk ((1:Int) - 1) 3 25:=by rw [show ((1:Int) - 1)=0 by decide];exact e_zero (d:=0) (by decide)
 exact e_step (d:=1) (K:=3) (Ce:=25) h (record_at h (by omega) (by decide) (by decide)) (by omega) (by decide) (by decide)
theorem e_two:EOk 2 59 465:=by
 have h:EOk ((2:Int) - 1) 17 135:=by rw [show ((2:Int) - 1)=1 by decide];exact e_one
 exact e_step (d:=2) (K:=17) (Ce:=135) h (record_at h (by omega) (by decide) (by decide)) (by omega) (by decide) (by decide)
theorem e_three:EOk 3 185 1455:=by
 have h:EOk ((3:Int) - 1) 59 465:=by rw [show ((3:Int) - 1)=2 by decide];exact e_two
 exact e_step (d:=3) (K:=59) (Ce:=465) h (record_at h (by omega) (by decide) (by decide)) (by omega) (by decide) (by decide)
theorem e_four:EOk 4 563 4425:=by
 have h:EOk ((4:Int) - 1) 185 1455:=by rw [show ((4:Int) - 1)=3 by decide];exact e_three
 exact e_step (d:=4) (K:=185) (Ce:=1455) h (record_at h (by omega) (by decide) (by decide)) (by omega) (by decide) (by decide)
structure Gd (B:Nat) (w w':World):Prop where
 os:w'.os=w.os
 tape:w'.tape=w.tape
 output:w'.output=w.output
 size:w.heap.size≤w'.heap.size
 low:∀ k,k < B→w'.heap[k]?=w.heap[k]?
 block:∀ (k:Nat) cs t fr,w.heap[k]?=some (.cells cs t fr)→¬ GenT t→t≠148→w'.heap[k]?=w.heap[k]?
theorem Gk.d {B:Nat} {w w':World} (h:Gk B w w'):Gd B w w':=⟨h.os,h.tape,h.output,h.size,h.low,fun k cs t fr hc ht _=>h.block k cs t fr hc ht⟩
theorem Gd.refl (B:Nat) (w:World):Gd B w w:=(Gk.refl B w).d
theorem Gd.trans {B:Nat} {u v w:World} (h:Gd B u v) (k:Gd B v w):Gd B u w :=
 ⟨k.os.trans h.os,k.tape.trans h.tape,k.output.trans h.output,Nat.le_trans h.size k.size,fun i hi=>(k.low i hi).trans (h.low i hi),fun i cs t fr hc ht h2=>(k.block i cs t fr ((h.block i cs t fr hc ht h2).trans hc) ht h2).trans (h.block i cs t fr hc ht h2)⟩
theorem Gd.of_below {B:Nat} {w w':World} (h:Below w.heap.size w w') (hB:B≤w.heap.size):Gd B w w':=(Gk.of_below h hB).d
theorem NdIn.gd {B:Nat} {w w':World} {v:Value} {l:List Nd} (h:NdIn w v l) (hg:Gd B w w'):NdIn w' v l:=h.keep fun g cur hc=>hg.block g _ _ _ hc (by unfold GenT;decide) (by decide)
theorem Has.gd {K B:Nat} {w w':World} {v:Value} (h:Has K w v) (hg:Gd B w w'):Has K w' v:=by obtain ⟨l,h1,h2⟩:=h;exact ⟨l,h1.gd hg,h2⟩
theorem FnOk.gd {B:Nat} {w w':World} {f:Fn} (h:FnOk w f) (hg:Gd B w w'):FnOk w' f:=by
 obtain ⟨h1,h2,h3,h4⟩:=h
 refine ⟨h1,h2,h3,h4.imp_right ?_⟩
 rintro ⟨g,cur,e,a,b⟩
 exact ⟨g,cur,e,(hg.block g _ _ _ a (by unfold GenT;decide) (by decide)).trans a,b⟩
theorem Parts.gd {B:Nat} {w w1 w2:World} {v:Value} {n N:Nat} (h:Parts w w1 v n N) (hg:Gd B w1 w2):Parts w w2 v n N:=by
 obtain ⟨xs,ls,h1,h2,h3,h4,h5⟩:=h
 refine ⟨xs,ls,h1,?_,h3,fun j u l hu hl=>(h4 j u l hu hl).gd hg,h5⟩
 obtain ⟨a1,a2 | ⟨g,cap,cur,b1,b2,b3,b4⟩⟩:=h2
 ·exact ⟨a1,.inl a2⟩
 ·exact ⟨a1,.inr ⟨g,cap,cur,b1,b2,(hg.block g _ _ _ b3 (by unfold GenT;decide) (by decide)).trans b3,b4⟩⟩
theorem GenAt.keep {R G:Nat} {w1 w2:World} {ns:List (ByteArray × Int)} {fs:List Fn} {c:Nat} {sz:Int} {p:Nat} (h:GenAt R G R w1 ns fs c sz p)
  (hk:∀ (k:Nat) cs t fr,w1.heap[k]?=some (.cells cs t fr)→GenT t∨(t=148∧∃ vf:Value,w1.cell? ⟨G,2,none⟩=some vf∧vf.ownBlock=some k)→w2.heap[k]?=w1.heap[k]?) (hl:∀ k,k < R→w2.heap[k]?=w1.heap[k]?) (hf:∀ f ∈ fs,FnOk w2 f):GenAt R G R w2 ns fs c sz p:=by
 obtain ⟨⟨vn,vf,e1,e2,e3⟩,e4,e5,e6,e7⟩:=h
 have c2:w1.cell? ⟨G,2,none⟩=some vf:=by have:=cell_hp e1 2;simpa using this
 refine ⟨⟨vn,vf,(hk G _ _ _ e1 (.inl (by unfold GenT;decide))).trans e1,?_,?_⟩,?_,e5,e6,hf⟩
 ·obtain ⟨a1,a2 | ⟨g,cap,cur,b1,b2,b3,b4⟩⟩:=e2
  ·exact ⟨a1,.inl a2⟩
  ·exact ⟨a1,.inr ⟨g,cap,cur,b1,b2,(hk g _ _ _ b3 (.inl (by unfold GenT;decide))).trans b3,b4⟩⟩
 ·obtain ⟨a1,a2 | ⟨g,cap,cur,b1,b2,b3,b4⟩⟩:=e3
  ·exact ⟨a1,.inl a2⟩
  ·exact ⟨a1,.inr ⟨g,cap,cur,b1,b2,(hk g _ _ _ b3 (.inr ⟨rfl,vf,c2,by rw [b1];rfl⟩)).trans b3,b4⟩⟩
 ·obtain ⟨ad,n,cap,r1,r2,r3⟩:=e4
  refine ⟨ad,n,cap,(hk R _ _ _ r1 (.inl (by unfold GenT;decide))).trans r1,r2,?_⟩
  rcases r3 with r3 | ⟨a,q2,r4,r5⟩
  ·exact .inl r3
  ·refine .inr ⟨a,q2,r4,fun i hi=>?_⟩
   obtain ⟨x,hx⟩:=r5 i hi
   refine ⟨x,?_⟩
   rw [← hx]
   exact World.cell?_of_block (w:=w1) (a:=a.add i) (h:=by rw [add_block];exact hl a.block r4)
theorem Gk.vf {B R G:Nat} {w w':World} {ns:List (ByteArray × Int)} {fs:List Fn} {c:Nat} {sz:Int} {p:Nat} (hg:Gk B w w') (h:GenAt R G R w ns fs c sz p) {vf:Value} (hv:w.cell? ⟨G,2,none⟩=some vf):w'.cell? ⟨G,2,none⟩=some vf:=by
 obtain ⟨vn,v1,e1,_,_⟩:=h.ex
 obtain ⟨cs',e2,e3⟩:=hg.fld G _ _ e1
 have e4:=cell_hp e1 2
 rw [hv] at e4
 rw [cell_hp e2 2,e3,← e4]
def GS (R G:Nat) (ns:List (ByteArray × Int)) (fs:List Fn) (P:Nat) (w:World):Prop:=∃ (c:Nat) (sz:Int) (p:Nat),GenAt R G R w ns fs c sz p∧c≤P∧p≤P∧-(P:Int)≤sz∧sz≤1000
theorem GS.next {R G P:Nat} {ns:List (ByteArray × Int)} {fs:List Fn} {w w':World} (h:GS R G ns fs P w) (hb:Below w.heap.size w w'):GS R G ns fs P w':=by
 obtain ⟨c,sz,p,h1,h2⟩:=h
 exact ⟨c,sz,p,h1.next hb,h2⟩
theorem GS.mono {R G P P':Nat} {ns:List (ByteArray × Int)} {fs:List Fn} {w:World} (h:GS R G ns fs P w) (hp:P≤P'):GS R G ns fs P' w:=by
 obtain ⟨c,sz,p,h1,h2,h3,h4,h5⟩:=h
 exact ⟨c,sz,p,h1,by omega,by omega,by omega,h5⟩
theorem GS.bw {R G P:Nat} {ns:List (ByteArray × Int)} {fs:List Fn} {w:World} (h:GS R G ns fs P w):R≤w.heap.size:=by
 obtain ⟨c,sz,p,h1,_⟩:=h
 exact h1.bw
theorem GS.g0 {R G P:Nat} {ns:List (ByteArray × Int)} {fs:List Fn} {w:World} (h:GS R G ns fs P w):w.cell? ⟨G,0,none⟩=some (.pointer (some ⟨R,0,none⟩)):=by
 obtain ⟨c,sz,p,h1,_⟩:=h
 exact (At.refl (s:=⟨R,G,ns,fs,c,sz,p⟩) h1).g0
theorem pick_gs {R G P:Nat} {ns:List (ByteArray × Int)} {fs:List Fn} {w:World} (h:GS R G ns fs P w) (hP:P+10≤1000000) (n:Int) (hn:n≤1000000000) :
  Calls Tryz.prog 14 #[.pointer (some ⟨R,0,none⟩),.int .i64 n] w fun e w2=>∃ x:Nat,e=.returned (.int .i64 x)∧(x=0∨(x:Int) < n)∧GS R G ns fs (P+1) w2∧Gk R w w2:=by
 obtain ⟨c,sz,p,h1,h2,h3,h4,h5⟩:=h
 refine (pick_any R p n w (by omega) hn h1.rd).mono ?_
 rintro e w2 ⟨⟨x,rfl,hx⟩,h9,h10⟩
 obtain ⟨k1,k2⟩:=h1.picked h9 h10
 exact ⟨x,rfl,hx,⟨c,sz,p+1,k1,by omega,by omega,by omega,h5⟩,k2⟩
theorem e_gs {d:Int} {K Ce:Nat} (he:EOk d K Ce) {R G P:Nat} {ns:List (ByteArray × Int)} {fs:List Fn} {w:World} (h:GS R G ns fs P w) (hP:P+Ce+10≤1000000) (hn:ns.length+Ce+10≤1000000) (hf:fs.length≤1000) (kind:Int) :
  Calls Tryz.prog 89 #[.pointer (some ⟨G,0,none⟩),.int .i64 kind,.int .i64 d] w fun e w2=>∃ g n c,e=.returned (.slice (some ⟨g,0,none⟩) n c)∧Has K w2 (.slice (some ⟨g,0,none⟩) n c)∧GS R G ns fs (P+Ce) w2∧Gk R w w2:=by
 obtain ⟨c,sz,p,h1,h2,h3,h4,h5⟩:=h
 refine (he ⟨R,G,ns,fs,c,sz,p⟩ kind w h1 ⟨by simp only;omega,by simp only;omega,by simp only;omega,by simp only;omega,by simp only;omega,hf⟩).mono ?_
 rintro e w2 hh
 obtain ⟨g,n,k,rfl,hl,⟨p2,c2,sz2,q1,q2,q3,q4,q5,q6,q7,q8⟩,hk⟩:=hh.get
 simp only at q1 q2 q3 q4 q5 q6 q7 q8 hk
 exact ⟨g,n,k,rfl,hl,⟨c2,sz2,p2,q7,by omega,by omega,by omega,by omega⟩,hk⟩
def intsRow (ks:List Int):List Value:=ks.map fun k=>Value.int .i64 k
structure DI (R G F:Nat) (w:World) (ns:List (ByteArray × Int)) (fs:List Fn) (name:ByteArray) (kd:Int) (vf:Value) (N a b c f P:Nat) (pv:Value) (wr:World):Prop where
 gs:∃ ns2:List (ByteArray × Int),ns2.length=b∧GS R G (ns ++ ns2) fs P wr
 parts:Parts w wr pv a N
 box:∃ vp ks,wr.heap[F]?=some (.cells #[.string name,vp,.int .i64 (f:Nat),.int .i64 kd] 148 (0,0))∧ks.length=c∧wr.ownsRow w.heap.size 3 1 vp c (intsRow ks)
 vf:wr.cell? ⟨G,2,none⟩=some vf
 gd:Gd R w wr
 lt:R < w.heap.size
theorem own_keep {w w':World} {B e size n:Nat} {v:Value} {xs:List Value} (h:w.ownsRow B e size v n xs) (hk:∀ k cur,v.ownBlock=some k→w.heap[k]?=some (.cells cur e (0,0))→w'.heap[k]?=w.heap[k]?):w'.ownsRow B e size v n xs:=by
 obtain ⟨a1,a2 | ⟨g,cap,cur,b1,b2,b3,b4⟩⟩:=h
 ·exact ⟨a1,.inl a2⟩
 ·exact ⟨a1,.inr ⟨g,cap,cur,b1,b2,(hk g cur (by rw [b1];rfl) b3).trans b3,b4⟩⟩
theorem own_lo {w:World} {B e size n:Nat} {v:Value} {xs:List Value} (h:w.ownsRow B e size v n xs):∀ k,v.ownBlock=some k→B≤k∧∃ cur,w.heap[k]?=some (.cells cur e (0,0)):=fun k hk=>by
 rcases h.2 with ⟨rfl,_⟩ | ⟨g,cap,cur,rfl,a,b,_⟩
 ·simp [Value.ownBlock] at hk
 ·simp only [Value.ownBlock,Option.some.injEq] at hk
  subst hk
  exact ⟨a,cur,b⟩
section
variable {R G F:Nat} {w:World} {ns:List (ByteArray × Int)} {fs:List Fn} {name:ByteArray} {kd:Int} {vf:Value} {N a b c f P:Nat} {pv:Value} {wr:World}
theorem DI.gk' (h:DI R G F w ns fs name kd vf N a b c f P pv wr) {w2:World} {P' b':Nat} {ns2:List (ByteArray × Int)} (hl:ns2.length=b') (hg:GS R G (ns ++ ns2) fs P' w2) (hk:Gk R wr w2):DI R G F w ns fs name kd vf N a b' c f P' pv w2:=by
 obtain ⟨⟨ns1,h1,h2⟩,h3,⟨vp,ks,h4,h5,h6⟩,h7,h8,h9⟩:=h
 refine ⟨⟨ns2,hl,hg⟩,h3.gk hk,⟨vp,ks,(hk.block F _ _ _ h4 (by unfold GenT;decide)).trans h4,h5,own_keep h6 fun k cur _ hc=>hk.block k _ _ _ hc (by unfold GenT;decide)⟩,?_,h8.trans hk.d,h9⟩
 obtain ⟨c0,sz0,p0,g0,_⟩:=h2
 exact hk.vf g0 h7
theorem DI.gk (h:DI R G F w ns fs name kd vf N a b c f P pv wr) {w2:World} {P':Nat} (hg:∀ ns2:List (ByteArray × Int),ns2.length=b→GS R G (ns ++ ns2) fs P wr→GS R G (ns ++ ns2) fs P' w2) (hk:Gk R wr w2):DI R G F w ns fs name kd vf N a b c f P' pv w2:=by
 obtain ⟨ns1,h1,h2⟩:=h.gs
 exact h.gk' h1 (hg ns1 h1 h2) hk
theorem DI.next (h:DI R G F w ns fs name kd vf N a b c f P pv wr) {w2:World} (hb:Below wr.heap.size wr w2):DI R G F w ns fs name kd vf N a b c f P pv w2:=by
 have hR:R≤wr.heap.size:=by obtain ⟨ns2,_,h2⟩:=h.gs;exact h2.bw
 exact h.gk (fun _ _ hg=>hg.next hb) (Gk.of_below hb hR)
theorem DI.mono (h:DI R G F w ns fs name kd vf N a b c f P pv wr) {P':Nat} (hp:P≤P'):DI R G F w ns fs name kd vf N a b c f P' pv wr :=
 h.gk (fun _ _ hg=>hg.mono hp) (Gk.refl _ _)
theorem kept0 {ns2:List (ByteArray × Int)} (h2:GS R G (ns ++ ns2) fs P wr) (h7:wr.cell? ⟨G,2,none⟩=some vf) (h8:Gd R w wr) (h9:R < w.heap.size) {w2:World} (X:Option Nat) (hg:wr.grownBy w2 X) (hX:∀ k,X=some k→w.heap.size≤k∧vf.ownBlock≠some k∧∃ cs t,wr.heap[k]?=some (.cells cs t (0,0))∧¬ GenT t) (hfn:Gd R w w2→∀ x ∈ fs,FnOk w2 x) :
  GS R G (ns ++ ns2) fs P w2∧w2.cell? ⟨G,2,none⟩=some vf∧Gd R w w2:=by
 obtain ⟨c0,sz0,p0,h2,h2b⟩:=h2
 have old:∀ k,k < w.heap.size→w2.heap[k]?=wr.heap[k]?:=fun k hk=>hg.block k (Nat.lt_of_lt_of_le hk h8.size) fun e=>by have:=(hX k e.symm).1;omega
 have hgd:Gd R w w2:=⟨hg.os.trans h8.os,hg.tape.trans h8.tape,hg.output.trans h8.output,Nat.le_trans h8.size hg.size,fun k hk=>(old k (by omega)).trans (h8.low k hk),fun k cs t fr hc ht h2=>(old k (Array.getElem?_eq_some_iff.1 hc).1).trans (h8.block k cs t fr hc ht h2)⟩
 have gen:∀ (k:Nat) cs t fr,wr.heap[k]?=some (.cells cs t fr)→GenT t∨(t=148∧∃ v:Value,wr.cell? ⟨G,2,none⟩=some v∧v.ownBlock=some k)→w2.heap[k]?=wr.heap[k]?:=fun k cs t fr hc ht=>hg.block k (Array.getElem?_eq_some_iff.1 hc).1 fun e=>by
  obtain ⟨_,hv,cs',t',hc',ht'⟩:=hX k e.symm
  rw [hc] at hc'
  cases hc'
  rcases ht with ht | ⟨_,v,e1,e2⟩
  ·exact ht' ht
  ·rw [h7] at e1
   cases e1
   exact hv e2
 refine ⟨⟨c0,sz0,p0,h2.keep gen (fun k hk=>old k (by omega)) (hfn hgd),h2b⟩,?_,hgd⟩
 obtain ⟨vn,v1,e1,_,_⟩:=h2.ex
 have e2:=(gen G _ _ _ e1 (.inl (by unfold GenT;decide))).trans e1
 have e3:=cell_hp e1 2
 rw [h7] at e3
 rw [cell_hp e2 2,← e3]
theorem DI.kept (h:DI R G F w ns fs name kd vf N a b c f P pv wr) {w2:World} (X:Option Nat) (hg:wr.grownBy w2 X) (hX:∀ k,X=some k→w.heap.size≤k∧vf.ownBlock≠some k∧∃ cs t,wr.heap[k]?=some (.cells cs t (0,0))∧¬ GenT t) (hfn:Gd R w w2→∀ x ∈ fs,FnOk w2 x) :
  (∃ ns2:List (ByteArray × Int),ns2.length=b∧GS R G (ns ++ ns2) fs P w2)∧w2.cell? ⟨G,2,none⟩=some vf∧Gd R w w2:=by
 obtain ⟨⟨ns2,h1,h2⟩,_,_,h7,h8,h9⟩:=h
 obtain ⟨k1,k2⟩:=kept0 h2 h7 h8 h9 X hg hX hfn
 exact ⟨⟨ns2,h1,k1⟩,k2⟩
theorem DI.vfl (h:DI R G F w ns fs name kd vf N a b c f P pv wr):wr.ownsRow R 148 4 vf fs.length (fnRow fs):=by
 obtain ⟨⟨ns2,_,c0,sz0,p0,h2,_⟩,_,_,h7,_,_⟩:=h
 obtain ⟨vn,v1,e1,_,e3⟩:=h2.ex
 have e4:=cell_hp e1 2
 rw [h7] at e4
 simp at e4
 rw [e4];exact e3
theorem FnOk.other {wr w2:World} {x:Fn} (h:FnOk wr x) {X:Option Nat} (hg:wr.grownBy w2 X) (hX:∀ k,X=some k→∃ cs t,wr.heap[k]?=some (.cells cs t (0,0))∧t≠3):FnOk w2 x:=by
 obtain ⟨h1,h2,h3,h4⟩:=h
 refine ⟨h1,h2,h3,h4.imp_right ?_⟩
 rintro ⟨g,cur,e,b1,b2⟩
 refine ⟨g,cur,e,(hg.block g (Array.getElem?_eq_some_iff.1 b1).1 fun e2=>?_).trans b1,b2⟩
 obtain ⟨cs,t,hc,ht⟩:=hX g e2.symm
 rw [b1] at hc
 cases hc
 exact ht rfl
theorem DI.fok (h:DI R G F w ns fs name kd vf N a b c f P pv wr):∀ x ∈ fs,FnOk wr x:=by
 obtain ⟨ns2,_,c0,sz0,p0,h2,_⟩:=h.gs
 exact h2.fok
theorem DI.parted (h:DI R G F w ns fs name kd vf N a b c f P pv wr) {w2:World} {v2 u:Value} {K:Nat} {xs:List Value} {ls:List (List Nd)} (hn:xs.length=a) (hl:xs.length=ls.length) (hh:∀ (j:Nat) u l,xs[j]?=some u→ls[j]?=some l→NdIn wr u l) (hok:NdOk N ls.flatten) (hv:wr.ownsRow w.heap.size 23 1 pv a xs) (hu:Has K wr u) (hg:wr.grownBy w2 pv.ownBlock) (ho:w2.ownsRow w.heap.size 23 1 v2 (a+1) (xs ++ [u])):DI R G F w ns fs name kd vf (N+K) (a+1) b c f P v2 w2:=by
 have hlo:=own_lo hv
 have hX:∀ k,pv.ownBlock=some k→w.heap.size≤k∧vf.ownBlock≠some k∧∃ cs t,wr.heap[k]?=some (.cells cs t (0,0))∧¬ GenT t:=fun k hk=>by
  obtain ⟨e1,cur,e2⟩:=hlo k hk
  refine ⟨e1,fun e3=>?_,cur,_,e2,by unfold GenT;decide⟩
  obtain ⟨_,cs,hc⟩:=own_lo h.vfl k e3
  rw [e2] at hc
  cases hc
 obtain ⟨k1,k2,k3⟩:=h.kept pv.ownBlock hg hX (fun _ x hx=>(h.fok x hx).other hg fun k hk=>by obtain ⟨_,cur,e2⟩:=hlo k hk;exact ⟨cur,_,e2,by decide⟩)
 have keep:∀ (k:Nat) cs t fr,wr.heap[k]?=some (.cells cs t fr)→t≠23→w2.heap[k]?=wr.heap[k]?:=fun k cs t fr hc ht=>hg.block k (Array.getElem?_eq_some_iff.1 hc).1 fun e2=>by
  obtain ⟨_,cur,hc2⟩:=hlo k e2.symm
  rw [hc] at hc2
  cases hc2
  exact ht rfl
 obtain ⟨vp,ks,h4,h5,h6⟩:=h.box
 obtain ⟨lu,u1,u2⟩:=hu
 have hnd:∀ u l,NdIn wr u l→NdIn w2 u l:=fun u l hn=>hn.keep fun g cur hc=>keep g _ _ _ hc (by decide)
 refine ⟨k1,⟨xs ++ [u],ls ++ [lu],by simp [hn],ho,by simp [hl],fun j u' l' hu' hl'=>?_,by rw [List.flatten_append];simpa using hok.app u2⟩,⟨vp,ks,(keep F _ _ _ h4 (by decide)).trans h4,h5,own_keep h6 fun k cur _ hc=>keep k _ _ _ hc (by decide)⟩,k2,k3,h.lt⟩
 by_cases hj:j < xs.length
 ·rw [List.getElem?_append_left hj] at hu'
  rw [List.getElem?_append_left (by omega)] at hl'
  exact hnd _ _ (hh j u' l' hu' hl')
 ·rw [List.getElem?_append_right (by omega)] at hu'
  rw [List.getElem?_append_right (by omega)] at hl'
  have hj0:j - xs.length=0:=by
   have:=(List.getElem?_eq_some_iff.1 hu').1
   simp at this
   omega
  rw [hj0] at hu'
  rw [show j - ls.length=0 by omega] at hl'
  cases hu';cases hl'
  exact hnd _ _ u1
theorem set_grown (W:World) (g i:Nat) (v:Value):W.grownBy (W.setCell ⟨g,i,none⟩ v) (some g):=⟨rfl,rfl,rfl,by simp [World.setCell],fun k _ hk=>Below.heap_setCell _ _ _ _ (fun e=>hk (by simp [e]))⟩
theorem DI.boxed (h:DI R G F w ns fs name kd vf N a b c f P pv wr) (hF:w.heap.size≤F) (hvF:vf.ownBlock≠some F) {i:Nat} {v vp:Value} {ks:List Int} {f':Nat} (hb:((#[.string name,vp,.int .i64 (f:Nat),.int .i64 kd]:Array Value).setIfInBounds i v)=#[.string name,vp,.int .i64 (f':Nat),.int .i64 kd]) (hbx:wr.heap[F]?=some (.cells #[.string name,vp,.int .i64 (f:Nat),.int .i64 kd] 148 (0,0))) (hk:ks.length=c) (hv:wr.ownsRow w.heap.size 3 1 vp c (intsRow ks)):DI R G F w ns fs name kd vf N a b c f' P pv (wr.setCell ⟨F,i,none⟩ v):=by
 have hg:=set_grown wr F i v
 obtain ⟨k1,k2,k3⟩:=h.kept (some F) hg (fun k e=>by cases e;exact ⟨hF,hvF,_,_,hbx,by unfold GenT;decide⟩) (fun _ x hx=>(h.fok x hx).other hg fun k e=>by cases e;exact ⟨_,_,hbx,by decide⟩)
 have keep:∀ (k:Nat) cs t fr,wr.heap[k]?=some (.cells cs t fr)→t≠148→(wr.setCell ⟨F,i,none⟩ v).heap[k]?=wr.heap[k]?:=fun k cs t fr hc ht=>Below.heap_setCell _ _ _ _ (fun e=>by
  have e':k=F:=e
  subst e'
  rw [hbx] at hc
  cases hc
  exact ht rfl)
 obtain ⟨xs,ls,p1,p2,p3,p4,p5⟩:=h.parts
 refine ⟨k1,⟨xs,ls,p1,own_keep p2 fun k cur _ hc=>keep k _ _ _ hc (by decide),p3,fun j u l hu hl=>(p4 j u l hu hl).keep fun g cur hc=>keep g _ _ _ hc (by decide),p5⟩,⟨vp,ks,?_,hk,own_keep hv fun k cur _ hc=>keep k _ _ _ hc (by decide)⟩,k2,k3,h.lt⟩
 rw [set_at v hbx,hb]
theorem DI.param (h:DI R G F w ns fs name kd vf N a b c f P pv wr) (hF:w.heap.size≤F) (hvF:vf.ownBlock≠some F) (hroot:∀ x ∈ fs,FnOk w x) {vp v2:Value} {ks:List Int} {k:Int} {w1:World} (hbx:wr.heap[F]?=some (.cells #[.string name,vp,.int .i64 (f:Nat),.int .i64 kd] 148 (0,0))) (hk:ks.length=c) (hv:wr.ownsRow w.heap.size 3 1 vp c (intsRow ks)) (hg:wr.grownBy w1 vp.ownBlock) (ho:w1.ownsRow w.heap.size 3 1 v2 (c+1) (intsRow ks ++ [.int .i64 k])) :
  w1.heap[F]?=some (.cells #[.string name,vp,.int .i64 (f:Nat),.int .i64 kd] 148 (0,0))∧DI R G F w ns fs name kd vf N a b (c+1) f P pv (w1.setCell ⟨F,1,none⟩ v2):=by
 have hlo:=own_lo hv
 have keep:∀ (k:Nat) cs t fr,wr.heap[k]?=some (.cells cs t fr)→t≠3→w1.heap[k]?=wr.heap[k]?:=fun k cs t fr hc ht=>hg.block k (Array.getElem?_eq_some_iff.1 hc).1 fun e2=>by
  obtain ⟨_,cur,hc2⟩:=hlo k e2.symm
  rw [hc] at hc2
  cases hc2
  exact ht rfl
 have hbx1:=(keep F _ _ _ hbx (by decide)).trans hbx
 have hvl:=own_lo h.vfl
 obtain ⟨⟨ns2,h1,h2⟩,⟨xs,ls,p1,p2,p3,p4,p5⟩,_,h7,h8,h9⟩:=h
 obtain ⟨k1,k2,k3⟩:=kept0 h2 h7 h8 h9 vp.ownBlock hg (fun k hk=>by
  obtain ⟨e1,cur,e2⟩:=hlo k hk
  refine ⟨e1,fun e3=>?_,cur,_,e2,by unfold GenT;decide⟩
  obtain ⟨_,cs,hc⟩:=hvl k e3
  rw [e2] at hc
  cases hc) (fun hgd x hx=>(hroot x hx).gd hgd)
 have hg2:=set_grown w1 F 1 v2
 obtain ⟨m1,m2,m3⟩:=kept0 k1 k2 k3 h9 (some F) hg2 (fun k e=>by cases e;exact ⟨hF,hvF,_,_,hbx1,by unfold GenT;decide⟩) (fun hgd x hx=>(hroot x hx).gd hgd)
 have keep2:∀ (k:Nat) cs t fr,w1.heap[k]?=some (.cells cs t fr)→t≠148→(w1.setCell ⟨F,1,none⟩ v2).heap[k]?=w1.heap[k]?:=fun k cs t fr hc ht=>Below.heap_setCell _ _ _ _ (fun e=>by
  have e':k=F:=e
  subst e'
  rw [hbx1] at hc
  cases hc
  exact ht rfl)
 have keep3:∀ (k:Nat) cs t fr,wr.heap[k]?=some (.cells cs t fr)→t≠3→t≠148→(w1.setCell ⟨F,1,none⟩ v2).heap[k]?=wr.heap[k]?:=fun k cs t fr hc ht h2=>(keep2 k cs t fr ((keep k cs t fr hc ht).trans hc) h2).trans (keep k cs t fr hc ht)
 refine ⟨hbx1,⟨ns2,h1,m1⟩,⟨xs,ls,p1,own_keep p2 fun k cur _ hc=>keep3 k _ _ _ hc (by decide) (by decide),p3,fun j u l hu hl=>(p4 j u l hu hl).keep fun g cur hc=>keep3 g _ _ _ hc (by decide) (by decide),p5⟩,⟨v2,ks ++ [k],?_,by simp [hk],?_⟩,m2,m3,h9⟩
 ·rw [set_at v2 hbx1];rfl
 ·have:intsRow (ks ++ [k])=intsRow ks ++ [.int .i64 k]:=by simp [intsRow]
  rw [this]
  exact own_keep ho fun k cur _ hc=>keep2 k _ _ _ hc (by decide)
theorem DI.named (h:DI R G F w ns fs name kd vf N a b c f P pv wr) {ns2:List (ByteArray × Int)} {x:ByteArray × Int} (hl:ns2.length=b) (hgs:GS R G (ns ++ ns2) fs P wr) (hx:x.1.size≤100) {vn v2:Value} {w1:World} (h1:wr.cell? ⟨G,1,none⟩=some vn) (hg:wr.grownBy w1 vn.ownBlock) (ho:w1.ownsRow R 140 2 v2 ((ns ++ ns2).length+1) (seenRow (ns ++ ns2) ++ [.string x.1,.int .i64 x.2])) :
  DI R G F w ns fs name kd vf N a (b+1) c f P pv (w1.setCell ⟨G,1,none⟩ v2):=by
 obtain ⟨c0,sz0,p0,g0,g1,g2,g3,g4⟩:=hgs
 obtain ⟨un,uf,e1,e2,e3⟩:=g0.ex
 have e4:=cell_hp e1 1
 rw [h1] at e4
 simp at e4
 subst e4
 obtain ⟨⟨vn2,vf2,b1,b2,b3⟩,rd2,fk2,gk2⟩:=g0.grown e2 rfl hg
 have hs:=gen_set (ns':=ns ++ (ns2 ++ [x])) b2 b3 rd2 g0.le.2 fk2 v2 (by rw [← List.append_assoc,seenRow_append,List.length_append];exact ho) (fun y hy=>by
  rw [← List.append_assoc] at hy
  rcases List.mem_append.1 hy with hy | hy
  ·exact g0.nok y hy
  ·simp at hy;subst hy;exact hx)
 exact h.gk' (ns2:=ns2 ++ [x]) (by simp [hl]) ⟨c0,sz0,p0,hs.1,g1,g2,g3,g4⟩ (gk2.trans hs.2)
theorem fnRow_append (x y:List Fn):fnRow (x ++ y)=fnRow x ++ fnRow y:=by
 induction x with
 | nil=>rfl
 | cons z x ih=>simp [fnRow,ih]
theorem DI.fned (h:DI R G F w ns fs name kd vf N a b c f P pv wr) (hvF:vf.ownBlock≠some F) (hnm:name.size≤100) (hc3:c≤3) (hfc:f≤c) {pad:Option Addr} {pc:Nat} (hbx:wr.heap[F]?=some (.cells #[.string name,.slice pad c pc,.int .i64 (f:Nat),.int .i64 kd] 148 (0,0))) {v2:Value} {w1:World} (hg:wr.grownBy w1 vf.ownBlock) (ho:w1.ownsRow R 148 4 v2 (fs.length+1) (fnRow fs ++ [.string name,.slice pad c pc,.int .i64 (f:Nat),.int .i64 kd])) :
  DI R G F w ns (fs ++ [⟨name,pad,c,pc,f,kd⟩]) name kd v2 N a b c f P pv (w1.setCell ⟨G,2,none⟩ v2):=by
 have hvl:=own_lo h.vfl
 have hfok:=h.fok
 obtain ⟨⟨ns2,h1,c0,sz0,p0,h2,h2b⟩,⟨xs,ls,p1,p2,p3,p4,p5⟩,⟨vp,ks,q4,q5,q6⟩,h7,h8,h9⟩:=h
 rw [hbx] at q4
 cases q4
 obtain ⟨vn,uf,e1,e2,e3⟩:=h2.ex
 have keep:∀ (k:Nat) cs t fr,wr.heap[k]?=some (.cells cs t fr)→t≠148→w1.heap[k]?=wr.heap[k]?:=fun k cs t fr hc ht=>hg.block k (Array.getElem?_eq_some_iff.1 hc).1 fun e2=>by
  obtain ⟨_,cur,hc2⟩:=hvl k e2.symm
  rw [hc] at hc2
  cases hc2
  exact ht rfl
 have hF1:w1.heap[F]?=some (.cells #[.string name,.slice pad c pc,.int .i64 (f:Nat),.int .i64 kd] 148 (0,0)):=(hg.block F (Array.getElem?_eq_some_iff.1 hbx).1 fun e=>hvF e.symm).trans hbx
 have hG1:=(keep G _ _ _ e1 (by decide)).trans e1
 have keep2:∀ (k:Nat) cs t fr,w1.heap[k]?=some (.cells cs t fr)→t≠106→(w1.setCell ⟨G,2,none⟩ v2).heap[k]?=w1.heap[k]?:=fun k cs t fr hc ht=>Below.heap_setCell _ _ _ _ (fun e=>by
  have e':k=G:=e
  subst e'
  rw [hG1] at hc
  cases hc
  exact ht rfl)
 have keep3:∀ (k:Nat) cs t fr,wr.heap[k]?=some (.cells cs t fr)→t≠148→t≠106→(w1.setCell ⟨G,2,none⟩ v2).heap[k]?=wr.heap[k]?:=fun k cs t fr hc ht h2=>(keep2 k cs t fr ((keep k cs t fr hc ht).trans hc) h2).trans (keep k cs t fr hc ht)
 have hlow:∀ k,k < R→(w1.setCell ⟨G,2,none⟩ v2).heap[k]?=wr.heap[k]?:=fun k hk=>by
  have hlt:=h2.rd.lt
  have hRG:=h2.le.2
  exact (Below.heap_setCell _ _ _ _ (by show k≠G;omega)).trans (hg.block k (by omega) fun e=>by have:=(hvl k e.symm).1;omega)
 refine ⟨⟨ns2,h1,c0,sz0,p0,⟨⟨vn,v2,?_,?_,?_⟩,?_,h2.le,h2.nok,?_⟩,h2b⟩,⟨xs,ls,p1,own_keep p2 fun k cur _ hc=>keep3 k _ _ _ hc (by decide) (by decide),p3,fun j u l hu hl=>(p4 j u l hu hl).keep fun g cur hc=>keep3 g _ _ _ hc (by decide) (by decide),p5⟩,⟨_,ks,(keep2 F _ _ _ hF1 (by decide)).trans hF1,q5,own_keep q6 fun k cur _ hc=>keep3 k _ _ _ hc (by decide) (by decide)⟩,?_,?_,h9⟩
 ·have:=set_at (i:=2) v2 hG1
  simpa using this
 ·exact own_keep e2 fun k cur _ hc=>keep3 k _ _ _ hc (by decide) (by decide)
 ·rw [List.length_append,fnRow_append]
  exact own_setG ho hG1 (by decide)
 ·obtain ⟨ad,n,cap,r1,r2,r3⟩:=h2.rd
  refine ⟨ad,n,cap,(keep3 R _ _ _ r1 (by decide) (by decide)).trans r1,r2,?_⟩
  rcases r3 with r3 | ⟨a,z2,r4,r5⟩
  ·exact .inl r3
  ·refine .inr ⟨a,z2,r4,fun i hi=>?_⟩
   obtain ⟨x,hx⟩:=r5 i hi
   refine ⟨x,?_⟩
   rw [← hx]
   exact World.cell?_of_block (w:=wr) (a:=a.add i) (h:=by rw [add_block];exact hlow a.block r4)
 ·intro x hx
  rcases List.mem_append.1 hx with hx | hx
  ·obtain ⟨f1,f2,f3,f4⟩:=hfok x hx
   refine ⟨f1,f2,f3,f4.imp_right ?_⟩
   rintro ⟨g,cur,y,qa,qb⟩
   exact ⟨g,cur,y,(keep3 g _ _ _ qa (by decide) (by decide)).trans qa,qb⟩
  ·simp at hx
   subst hx
   refine ⟨hnm,hc3,hfc,?_⟩
   rcases q6.2 with ⟨_,hz⟩ | ⟨g,cap,cur,e5,_,e6,e7,_,e8,e9⟩
   ·exact .inl hz
   ·refine .inr ⟨g,cur,by cases e5;rfl,(keep3 g _ _ _ e6 (by decide) (by decide)).trans e6,fun i hi=>?_⟩
    have hi':i < c:=hi
    have hlen:(intsRow ks).length=c:=by simp [intsRow,q5]
    obtain ⟨k,hk⟩:∃ k:Int,(intsRow ks)[i]?=some (.int .i64 k):=⟨ks[i]'(by omega),by simp [intsRow,List.getElem?_eq_getElem (show i < ks.length by omega)]⟩
    refine ⟨k,?_⟩
    rw [← e9,List.getElem?_take_of_lt (by omega)] at hk
    simpa using hk
 ·have:=cell_hp (set_at (i:=2) v2 hG1) 2
  simpa using this
 ·exact h8.trans ⟨hg.os,hg.tape,hg.output,by have:=hg.size;simpa [World.setCell] using this,hlow,fun k cs t fr hc ht h2=>keep3 k cs t fr hc h2 (fun e=>ht (by subst e;unfold GenT;decide))⟩
theorem DI.cut (h:DI R G F w ns fs name kd vf N a b c f P pv wr):∃ (m:Nat) (an:Option Addr) (cn:Nat),wr.cell? ⟨G,1,none⟩=some (.slice an m cn)∧wr.frozen? ⟨G,1,none⟩=false∧m≤cn∧cn≤maxLen∧ns.length≤m∧(an=none→m=0∧cn=0)∧(an=none∨∃ g,an=some ⟨g,0,none⟩)∧DI R G F w ns fs name kd vf N a 0 c f P pv (wr.setCell ⟨G,1,none⟩ (.slice an ns.length cn)):=by
 obtain ⟨ns2,h1,c0,sz0,p0,g0,g1,g2,g3,g4⟩:=h.gs
 obtain ⟨un,uf,e1,e2,e3⟩:=g0.ex
 have e4:=cell_hp e1 1
 have e5:=frozen_hp e1 1
 simp at e4
 have hlen:(ns ++ ns2).length=ns.length+ns2.length:=List.length_append
 have fin:∀ (an:Option Addr) (cn:Nat),wr.ownsRow R 140 2 (.slice an ns.length cn) ns.length (seenRow ns)→DI R G F w ns fs name kd vf N a 0 c f P pv (wr.setCell ⟨G,1,none⟩ (.slice an ns.length cn)):=fun an cn ho=>by
  have hs:=gen_set (ns':=ns ++ []) e1 e3 g0.rd g0.le.2 g0.fok (.slice an ns.length cn) (by simpa using ho) (fun y hy=>g0.nok y (by simp at hy ⊢;exact .inl hy))
  exact h.gk' (ns2:=[]) rfl ⟨c0,sz0,p0,hs.1,g1,g2,g3,g4⟩ hs.2
 rcases e2.2 with ⟨rfl,hz⟩ | ⟨g,cap,cur,rfl,f1,f2,f3,f4,f5,f6⟩
 ·refine ⟨0,none,0,e4,e5,Nat.le_refl _,Nat.zero_le _,by omega,fun _=>⟨rfl,rfl⟩,.inl rfl,fin none 0 ?_⟩
  have hn:ns=[]:=by
   have:ns.length=0:=by omega
   exact List.length_eq_zero_iff.1 this
  subst hn
  exact ⟨rfl,.inl ⟨rfl,rfl⟩⟩
 ·refine ⟨(ns ++ ns2).length,some ⟨g,0,none⟩,cap,e4,e5,f3,f4,by omega,fun e=>(by cases e),.inr ⟨g,rfl⟩,fin _ cap ?_⟩
  refine ⟨seenRow_length ns,.inr ⟨g,cap,cur,rfl,f1,f2,by omega,f4,f5,?_⟩⟩
  have:=congrArg (List.take (ns.length * 2)) f6
  rw [List.take_take,Nat.min_eq_left (by omega),seenRow_append,List.take_left' (seenRow_length ns)] at this
  exact this
end
theorem DI.start {R G P:Nat} {w w1:World} {ns:List (ByteArray × Int)} {fs:List Fn} (name:ByteArray) (kd:Int) (h:GS R G ns fs P w1) (hk:Gk R w w1) (hR:R < w.heap.size) :
  ∃ vf:Value,vf.ownBlock≠some w1.heap.size∧DI R G w1.heap.size w ns fs name kd vf 0 0 0 0 0 P (.slice (some ⟨w1.heap.size+1,0,none⟩) 0 0) ((w1.alloc (.cells #[.string name,.slice none 0 0,.int .i64 0,.int .i64 kd] 148)).alloc (.cells #[] 23)):=by
 have hb:Below w1.heap.size w1 ((w1.alloc (.cells #[.string name,.slice none 0 0,.int .i64 0,.int .i64 kd] 148)).alloc (.cells #[] 23)):=((Below.refl _ _).alloc (Nat.le_refl _) _).alloc (by simp) _
 have h2:=h.next hb
 obtain ⟨c0,sz0,p0,g0,_⟩:=h
 obtain ⟨vn,vf,e1,e2,e3⟩:=g0.ex
 have hbw:=hk.size
 refine ⟨vf,fun e=>?_,⟨[],rfl,by simpa using h2⟩,?_,⟨.slice none 0 0,[],?_,rfl,⟨rfl,.inl ⟨rfl,rfl⟩⟩⟩,?_,(hk.trans (Gk.of_below hb g0.bw)).d,hR⟩
 ·obtain ⟨_,cur,hc⟩:=own_lo e3 _ e
  have:=(Array.getElem?_eq_some_iff.1 hc).1
  omega
 ·have:=Parts.none (w:=w) (W:=w1.alloc (.cells #[.string name,.slice none 0 0,.int .i64 0,.int .i64 kd] 148)) (by simp;omega)
  simpa using this
 ·rw [Below.heap_alloc _ _ _ (by simp)]
  exact heap_alloc_new w1 _
 ·have:=cell_hp e1 2
  rw [hb.cell (p:=⟨G,2,none⟩) (Array.getElem?_eq_some_iff.1 e1).1]
  simpa using this
section
variable {R G F:Nat} {w:World} {ns:List (ByteArray × Int)} {fs:List Fn} {name:ByteArray} {kd:Int} {vf:Value} {N a b c f P:Nat} {pv:Value} {wr:World}
theorem DI.g0 (h:DI R G F w ns fs name kd vf N a b c f P pv wr):wr.cell? ⟨G,0,none⟩=some (.pointer (some ⟨R,0,none⟩)):=by
 obtain ⟨ns2,_,h2⟩:=h.gs
 exact h2.g0
theorem DI.g1 (h:DI R G F w ns fs name kd vf N a b c f P pv wr):∃ ns2:List (ByteArray × Int),ns2.length=b∧GS R G (ns ++ ns2) fs P wr∧∃ an cn,wr.cell? ⟨G,1,none⟩=some (.slice an (ns.length+b) cn)∧wr.frozen? ⟨G,1,none⟩=false∧wr.ownsRow R 140 2 (.slice an (ns.length+b) cn) (ns.length+b) (seenRow (ns ++ ns2)):=by
 obtain ⟨ns2,h1,h2⟩:=h.gs
 refine ⟨ns2,h1,h2,?_⟩
 obtain ⟨c0,sz0,p0,g0,_⟩:=h2
 obtain ⟨vn,uf,e1,e2,e3⟩:=g0.ex
 have e4:=cell_hp e1 1
 have e5:=frozen_hp e1 1
 simp at e4
 obtain ⟨an,cn,rfl⟩:=own_sl e2
 have hl:(ns ++ ns2).length=ns.length+b:=by rw [List.length_append,h1]
 rw [hl] at e4 e2
 exact ⟨an,cn,e4,e5,e2⟩
theorem DI.bxs (h:DI R G F w ns fs name kd vf N a b c f P pv wr):∃ pad pc ks,wr.heap[F]?=some (.cells #[.string name,.slice pad c pc,.int .i64 (f:Nat),.int .i64 kd] 148 (0,0))∧ks.length=c∧wr.ownsRow w.heap.size 3 1 (.slice pad c pc) c (intsRow ks):=by
 obtain ⟨vp,ks,h1,h2,h3⟩:=h.box
 obtain ⟨pad,pc,rfl⟩:=own_sl h3
 exact ⟨pad,pc,ks,h1,h2,h3⟩
theorem DI.psl (h:DI R G F w ns fs name kd vf N a b c f P pv wr):∃ pa pc,pv=.slice pa a pc:=by
 obtain ⟨xs,ls,h1,h2,_⟩:=h.parts
 exact own_sl h2
theorem DI.gs1 (h:DI R G F w ns fs name kd vf N a b c f P pv wr) (hP:P+10≤1000000) (n:Int) (hn:n≤1000000000) :
  Calls Tryz.prog 14 #[.pointer (some ⟨R,0,none⟩),.int .i64 n] wr fun e w2=>∃ x:Nat,e=.returned (.int .i64 x)∧(x=0∨(x:Int) < n)∧DI R G F w ns fs name kd vf N a b c f (P+1) pv w2∧Gk R wr w2:=by
 obtain ⟨ns2,h1,h2⟩:=h.gs
 refine (pick_gs h2 hP n hn).mono ?_
 rintro e w2 ⟨x,rfl,hx,g,k⟩
 exact ⟨x,rfl,hx,h.gk' h1 g k,k⟩
theorem DI.gse {d:Int} {K Ce:Nat} (he:EOk d K Ce) (h:DI R G F w ns fs name kd vf N a b c f P pv wr) (hP:P+Ce+10≤1000000) (hn:ns.length+b+Ce+10≤1000000) (hf:fs.length≤1000) (kind:Int) :
  Calls Tryz.prog 89 #[.pointer (some ⟨G,0,none⟩),.int .i64 kind,.int .i64 d] wr fun e w2=>∃ g n k,e=.returned (.slice (some ⟨g,0,none⟩) n k)∧Has K w2 (.slice (some ⟨g,0,none⟩) n k)∧DI R G F w ns fs name kd vf N a b c f (P+Ce) pv w2∧Gk R wr w2:=by
 obtain ⟨ns2,h1,h2⟩:=h.gs
 refine (e_gs he h2 hP (by rw [List.length_append];omega) hf kind).mono ?_
 rintro e w2 ⟨g,n,k,rfl,hl,hg,hk⟩
 exact ⟨g,n,k,rfl,hl,h.gk' h1 hg hk,hk⟩
theorem DI.put1 (h:DI R G F w ns fs name kd vf N a b c f P pv wr) (x:Nd) (u:Value) {K:Nat} (hu:Has K wr u) (hx:x.text.size≤1000) (hK:K≤100000) :
  Calls Tryz.prog 59 #[.agg #[.int .i64 x.kind,.int .i64 x.op,.int .i64 x.n,.string x.text,.int .i64 x.kids],.slice (some ⟨wr.heap.size,0,none⟩) 1 1] (wr.alloc (.cells #[u] 23)) fun e w2=>∃ g n k,e=.returned (.slice (some ⟨g,0,none⟩) n k)∧Has (K+1) w2 (.slice (some ⟨g,0,none⟩) n k)∧DI R G F w ns fs name kd vf N a b c f P pv w2∧Below wr.heap.size wr w2:=by
 obtain ⟨l,h1,h2⟩:=hu
 refine (over1 x u l wr h1 (by have:=h2.1;omega)).mono ?_
 rintro e w2 ⟨v,rfl,h3,h4⟩
 obtain ⟨g,n,k,rfl⟩:=h3.sl
 exact ⟨g,n,k,rfl,⟨_,h3,h2.over hx⟩,h.next h4,h4⟩
theorem DI.putAll (h:DI R G F w ns fs name kd vf N a b c f P pv wr) (x:Nd) {g k:Nat} (hv:pv=.slice (some ⟨g,0,none⟩) a k) (ha:a≤1000) (hx:x.text.size≤1000) (hK:N≤100000) :
  Calls Tryz.prog 59 #[.agg #[.int .i64 x.kind,.int .i64 x.op,.int .i64 x.n,.string x.text,.int .i64 x.kids],.slice (some ⟨g,0,none⟩) a k] wr fun e w2=>∃ g n k,e=.returned (.slice (some ⟨g,0,none⟩) n k)∧Has (N+1) w2 (.slice (some ⟨g,0,none⟩) n k)∧DI R G F w ns fs name kd vf N a b c f P pv w2:=by
 obtain ⟨xs,ls,h1,h2,h3,h4,h5⟩:=h.parts
 subst hv
 have hparts:PartsIn wr (some ⟨g,0,none⟩) xs ls:=by
  refine ⟨h3,?_,h4⟩
  rcases h2.2 with ⟨e,_⟩ | ⟨g',cap,cur,e,_,b3,_,_,_,b4⟩
  ·cases e
  ·cases e
   refine .inr ⟨g,rfl,cur,b3,fun j u hu=>?_⟩
   rw [Nat.mul_one] at b4
   rw [← b4] at hu
   have hj:=(List.getElem?_eq_some_iff.1 hu).1
   rw [List.length_take] at hj
   rw [List.getElem?_take_of_lt (by omega)] at hu
   simpa using hu
 refine (l2Over_any x (some ⟨g,0,none⟩) a k xs ls wr h1 (by omega) hparts (by have:=h5.1;omega)).mono ?_
 rintro e w2 ⟨v,rfl,h6,h7⟩
 obtain ⟨g2,n2,k2,rfl⟩:=h6.sl
 exact ⟨g2,n2,k2,rfl,⟨_,h6,h5.over hx⟩,h.next h7⟩
theorem DI.gfr (h:DI R G F w ns fs name kd vf N a b c f P pv wr) (i:Nat):wr.frozen? ⟨G,i,none⟩=false∧∃ cs,wr.heap[G]?=some (.cells cs 106 (0,0)):=by
 obtain ⟨ns2,_,c0,sz0,p0,h2,_⟩:=h.gs
 obtain ⟨vn,uf,e1,_,_⟩:=h2.ex
 exact ⟨frozen_hp e1 i,_,e1⟩
theorem DI.nmono (h:DI R G F w ns fs name kd vf N a b c f P pv wr) {N':Nat} (hN:N≤N'):DI R G F w ns fs name kd vf N' a b c f P pv wr:=by
 obtain ⟨xs,ls,h1,h2,h3,h4,h5⟩:=h.parts
 exact ⟨h.gs,⟨xs,ls,h1,h2,h3,h4,h5.mono hN⟩,h.box,h.vf,h.gd,h.lt⟩
end
theorem five_at {W:World} {g:Nat} {a0 a1 a2 a3 a4:Value} {t:TypeId} (h:W.heap[g]?=some (.cells #[a0,a1,a2,a3,a4] t (0,0))):W.cell? ⟨g,0,none⟩=some a0∧W.cell? ⟨g,1,none⟩=some a1∧W.cell? ⟨g,2,none⟩=some a2∧W.cell? ⟨g,3,none⟩=some a3∧W.cell? ⟨g,4,none⟩=some a4 :=
 ⟨cell_hp h 0,cell_hp h 1,cell_hp h 2,cell_hp h 3,cell_hp h 4⟩
theorem four_at {W:World} {g:Nat} {a0 a1 a2 a3:Value} {t:TypeId} (h:W.heap[g]?=some (.cells #[a0,a1,a2,a3] t (0,0))):W.cell? ⟨g,0,none⟩=some a0∧W.cell? ⟨g,1,none⟩=some a1∧W.cell? ⟨g,2,none⟩=some a2∧W.cell? ⟨g,3,none⟩=some a3 :=
 ⟨cell_hp h 0,cell_hp h 1,cell_hp h 2,cell_hp h 3⟩
theorem nd_grown {W V:World} {g:Nat} {cs:Array Value} {B e size n:Nat} {v:Value} {xs:List Value} (h:W.heap[g]?=some (.cells cs 35 (0,0))) (ho:W.ownsRow B e size v n xs) (he:e≠35) (hg:W.grownBy V v.ownBlock):V.heap[g]?=some (.cells cs 35 (0,0)) :=
 (hg.block g (Array.getElem?_eq_some_iff.1 h).1 fun e2=>by
  obtain ⟨_,cur,hc⟩:=own_lo ho g e2.symm
  rw [h] at hc
  cases hc
  exact he rfl).trans h
theorem hp_next {W V:World} {g:Nat} {o:Obj} (h:W.heap[g]?=some o) (hb:Below W.heap.size W V):V.heap[g]?=some o:=(hb.block g (Array.getElem?_eq_some_iff.1 h).1).trans h
theorem info_fn:(Tryz.prog.info? 148).map (fun i=>(i.zero,i.size,i.bytes))=some (some (.agg #[.string ⟨#[]⟩,.slice none 0 0,.int .i64 0,.int .i64 0]),4,56):=by kernel_rfl
theorem cell_four_new (w:World) (a b c d:Value) (t:TypeId):∀ j u,[a,b,c,d][j]?=some u→(w.alloc (.cells #[a,b,c,d] t)).cell? ((⟨w.heap.size,0,none⟩:Addr).add j)=some u:=by
 intro j u hj
 rw [add_none,cell_new_row]
 simpa using hj
theorem info_in:(Tryz.prog.info? 3).map (fun i=>(i.zero,i.size,i.bytes))=some (some (.int .i64 0),1,8):=by kernel_rfl
end Go.Proofs.YthnohneaanphbaaGreatDoor
