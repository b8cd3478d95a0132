import Derived.Orders
import Derived.Test.YtabbahpalemlhaaGreatDoorJ25
import Derived.Test.YtabbahpalemlhaaGreatDoorJ18
namespace Go.Proofs.YtabbahpalemlhaaGreatDoor
open Go.RowKit
set_option maxRecDepth 20000
theorem count_set {l:Array Bool} {i:Nat} (h:l.getD i true=false):(l.setIfInBounds i true).toList.count false+1=l.toList.count false:=by
 have hi:i < l.size:=by
  rcases Nat.lt_or_ge i l.size with h' | h'
  ·exact h'
  ·simp [Array.getElem?_eq_none h'] at h
 have hv:l[i]=false:=by simpa [hi] using h
 have hp:0 < l.toList.count false:=List.count_pos_iff.2 (by rw [← hv];exact Array.getElem_mem_toList hi)
 have hv':l.toList[i]'(by simpa using hi)=false:=by simpa using hv
 rw [Array.toList_setIfInBounds,List.count_set (by simpa using hi),hv']
 show l.toList.count false - 1+0+1=_
 omega
def Closed (ops:Array Oper) (l:Array Bool):Prop:=∀ (k:Nat) o,ops[k]?=some o→l.getD k false=true→∀ e ∈ o.after,Region.binds .any e=true→l.getD e.on false=true
theorem Closed.put {ops:Array Oper} {l:Array Bool} {i:Nat} {o:Oper} (h:Closed ops l) (ho:ops[i]?=some o) (hall:∀ e ∈ o.after,Region.binds .any e=true→l.getD e.on false=true):Closed ops (l.setIfInBounds i true):=by
 intro k o' ho' hk e he hb
 by_cases hik:i=k
 ·subst hik
  rw [ho] at ho'
  cases ho'
  exact getD_set_true (hall e he hb)
 ·rw [getD_set_ne false hik] at hk
  exact getD_set_true (h k o' ho' hk e he hb)
theorem wpAny_inv {P:Program} {ops:Array Oper} {Q:Exit→Act→World→Prop} (I:Array Bool→Act→World→Prop)
  (hs:∀ l a w i o,l.size=ops.size→Closed ops l→I l a w→ops[i]?=some o→l.getD i true=false→(∀ e ∈ o.after,Region.binds .any e=true→l.getD e.on false=true)→wpOp P ops Q i (I (l.setIfInBounds i true)) a w)
  (hlt:∀ (i:Nat) o,ops[i]?=some o→∀ e ∈ o.after,e.on < i)
  (hf:∀ l a w,I l a w→(∀ k,k < ops.size→l.getD k false=true)→Q .normal a w) :
  ∀ (fuel:Nat) (l:Array Bool) (a:Act) (w:World),l.size=ops.size→Closed ops l→l.toList.count false≤fuel→I l a w→wpAny P .any ops Q fuel l a w:=by
 have hend:∀ l a w,l.size=ops.size→I l a w→Region.ready .any ops l=[]→Q .normal a w:=fun l a w hl hI hr=>by
  refine hf l a w hI fun k=>?_
  induction k using Nat.strongRecOn with
  | _ k ih =>
   intro hk
   cases hlk:l.getD k false with
   | true=>rfl
   | false =>
    exfalso
    have hmem:k ∈ Region.ready .any ops l:=by
     rw [mem_ready]
     refine ⟨?_,ops[k],Array.getElem?_eq_getElem hk,fun e he _=>?_⟩
     ·have hkl:k < l.size:=by omega
      simp [hkl] at hlk ⊢
      exact hlk
     ·have h1:=hlt k _ (Array.getElem?_eq_getElem hk) e he
      exact ih e.on h1 (by omega)
    rw [hr] at hmem
    cases hmem
 intro fuel
 induction fuel with
 | zero =>
  intro l a w hl _ hc hI
  have hnone:Region.ready .any ops l=[]:=by
   rw [List.eq_nil_iff_forall_not_mem]
   intro j hj
   rw [mem_ready] at hj
   have h1:=count_set hj.1
   omega
  exact ⟨hnone,hend l a w hl hI hnone⟩
 | succ fuel ih =>
  intro l a w hl hcl hc hI
  refine ⟨hend l a w hl hI,fun i hi=>?_⟩
  rw [mem_ready] at hi
  obtain ⟨h0,o,ho,hall⟩:=hi
  refine wpOp_mono (fun a' w' hI'=>?_) (hs l a w i o hl hcl hI ho h0 hall)
  have h1:=count_set h0
  exact ih _ a' w' (by simpa using hl) (hcl.put ho hall) (by omega) hI'
theorem wp_region_inv {P:Program} {id:Nat} {ops:Array Oper} {Q:Exit→Act→World→Prop} {a:Act} {w:World} (hm:P.follows .mixedOrders=true) (I:Array Bool→Act→World→Prop)
  (h0:I (Array.replicate ops.size false) a w.drew)
  (hs:∀ l a w i o,l.size=ops.size→Closed ops l→I l a w→ops[i]?=some o→l.getD i true=false→(∀ e ∈ o.after,Region.binds .any e=true→l.getD e.on false=true)→wpOp P ops Q i (I (l.setIfInBounds i true)) a w)
  (hlt:∀ (i:Nat) o,ops[i]?=some o→∀ e ∈ o.after,e.on < i)
  (hf:∀ l a w,I l a w→(∀ k,k < ops.size→l.getD k false=true)→Q .normal a w):(Code.region id ops true).wp P Q a w :=
 wp_region_any hm (wpAny_inv I hs hlt hf ops.size _ a _ (by simp) (fun k o _ hk=>by
  exfalso
  rcases Nat.lt_or_ge k ops.size with h | h
  ·simp [h] at hk
  ·simp [h] at hk) (by simp) h0)
theorem Parts.none {w W:World} (hw:w.heap.size≤W.heap.size):Parts w (W.alloc (.cells #[] 48)) (.slice (some ⟨W.heap.size,0,none⟩) 0 0) 0 0 :=
 ⟨[],[],rfl,⟨rfl,.inr ⟨W.heap.size,0,#[],rfl,hw,heap_alloc_new W _,Nat.le_refl _,by unfold maxLen;omega,rfl,rfl⟩⟩,rfl,fun j u l hu _=>by simp at hu,by simp [NdOk]⟩
structure Rc where
 s:Gs
 d:Int
 t:Nat
 x:Nat
 b:Nat
 pv:Value
 w0:World
 K:Nat
 Ce:Nat
 m:Nat
 C:Nat
 a15:Value
 a16:Value
def TA (c:Rc) (u:Nat→Value):Act:={ tmps:=#[.pointer (some ⟨c.s.G,0,none⟩),.int .i64 c.d,undef,undef,.slice none 0 0,u 5,.int .i64 ((c.t:Int)+1),.slice (some ⟨c.b,0,none⟩) 0 0,.pointer (some ⟨c.s.G,0,none⟩),.pointer (some ⟨c.s.G,0,none⟩),.pointer (some ⟨c.s.G,0,none⟩),.pointer (some ⟨c.s.R,0,none⟩),.int .i64 c.x,.int .i64 ((c.t:Int)+1),.bool true,c.a15,c.a16,u 17,u 18,u 19,u 20,u 21,u 22,u 23,u 24,u 25,u 26,u 27,u 28,u 29,u 30,u 31,u 32,u 33,u 34,u 35,u 36,u 37,u 38,u 39,u 40,u 41,u 42,u 43,u 44,undef,undef,undef],defers:=[] }
def upd (u:Nat→Value) (k:Nat) (v:Value):Nat→Value:=fun n=>if n=k then v else u n
def HasS (K:Nat) (w:World) (x:Value):Prop:=∃ g n c,x=.slice (some ⟨g,0,none⟩) n c∧Has K w x
def Phi (c:Rc):Nat→Value→World→Prop
 | 0,x,_=>x=c.pv
 | 1,x,w=>∃ b,x=.slice (some ⟨b,0,none⟩) 2 2∧w.heap[b]?=some (.cells #[.string ⟨#[98]⟩,.string ⟨#[95]⟩] 9 (0,0))
 | 5,x,_=>x=.pointer (some ⟨c.s.R,0,none⟩)
 | 6,x,_=>∃ n:Nat,x=.int .i64 n∧n < 2
 | 7,x,w=>∃ b n,n < 2∧x=.pointer (some ⟨b,n,none⟩)∧w.heap[b]?=some (.cells #[.string ⟨#[98]⟩,.string ⟨#[95]⟩] 9 (0,0))
 | 8,x,_=>∃ y:ByteArray,x=.string y∧y.size≤1000
 | 9,x,w=>∃ b y,x=.slice (some ⟨b,0,none⟩) 3 3∧w.heap[b]?=some (.cells #[.string ⟨#[97]⟩,.string y,.string ⟨#[99,32,100]⟩] 9 (0,0))∧y.size≤1000
 | 10,x,_=>x=.int .i64 ((c.t:Int)+1)
 | 11,x,_=>x=.int .i64 c.t
 | 12,x,w=>∃ b y,x=.pointer (some ⟨b,c.t,none⟩)∧w.heap[b]?=some (.cells #[.string ⟨#[97]⟩,.string y,.string ⟨#[99,32,100]⟩] 9 (0,0))∧y.size≤1000
 | 13,x,_=>∃ y:ByteArray,x=.string y∧y.size≤1000
 | 14,x,_=>∃ y:ByteArray,x=.agg #[.int .i64 17,.int .i64 0,.int .i64 0,.string y,.int .i64 0]∧y.size≤1000
 | 19,x,_=>x=.pointer (some ⟨c.s.R,0,none⟩)
 | 20,x,_=>∃ n:Nat,x=.int .i64 n
 | 21,x,_=>x=.int .i64 c.d
 | 22,x,_=>x=.int .i64 (c.d - 1)
 | 23,x,w=>HasS c.K w x
 | 24,x,w=>∃ b v,x=.slice (some ⟨b,0,none⟩) 1 1∧w.heap[b]?=some (.cells #[v] 48 (0,0))∧HasS c.K w v
 | 25,x,w=>HasS (c.K+1) w x
 | 26,x,w=>∃ b v,x=.slice (some ⟨b,0,none⟩) 1 1∧w.heap[b]?=some (.cells #[v] 48 (0,0))∧HasS (c.K+1) w v
 | 27,x,w=>Parts c.w0 w x (c.m+1) (c.m * (c.K+1)+(c.K+1))
 | 28,x,w=>Parts c.w0 w x (c.m+1) (c.m * (c.K+1)+(c.K+1))
 | _,x,_=>x=.pointer (some ⟨c.s.G,0,none⟩)
theorem HasS.gk {K B:Nat} {w w':World} {x:Value} (h:HasS K w x) (hg:Gk B w w'):HasS K w' x:=by obtain ⟨g,n,c,e,h⟩:=h;exact ⟨g,n,c,e,h.gk hg⟩
theorem str_keep {B b:Nat} {w w':World} {cs:Array Value} (hg:Gk B w w') (h:w.heap[b]?=some (.cells cs 9 (0,0))):w'.heap[b]?=some (.cells cs 9 (0,0)):=(hg.block _ _ _ _ h (by unfold GenT;decide)).trans h
theorem row_keep {B b:Nat} {w w':World} {cs:Array Value} (hg:Gk B w w') (h:w.heap[b]?=some (.cells cs 48 (0,0))):w'.heap[b]?=some (.cells cs 48 (0,0)):=(hg.block _ _ _ _ h (by unfold GenT;decide)).trans h
theorem Phi.gk {c:Rc} {k B:Nat} {x:Value} {w w':World} (hk:k < 29) (h:Phi c k x w) (hg:Gk B w w'):Phi c k x w':=by
 have h7:k=0∨k=1∨k=2∨k=3∨k=4∨k=5∨k=6∨k=7∨k=8∨k=9∨k=10∨k=11∨k=12∨k=13∨k=14∨k=15∨k=16∨k=17∨k=18∨k=19∨k=20∨k=21∨k=22∨k=23∨k=24∨k=25∨k=26∨k=27∨k=28:=by omega
 rcases h7 with rfl | rfl | rfl | rfl | rfl | rfl | rfl | rfl | rfl | rfl | rfl | rfl | rfl | rfl | rfl | rfl | rfl | rfl | rfl | rfl | rfl | rfl | rfl | rfl | rfl | rfl | rfl | rfl | rfl
 case _=>exact h
 ·obtain ⟨b,e,h⟩:=h;exact ⟨b,e,str_keep hg h⟩
 all_goals first
  | exact h
  | (obtain ⟨b,n,hn,e,h⟩:=h;exact ⟨b,n,hn,e,str_keep hg h⟩)
  | (obtain ⟨b,y,e,h,hy⟩:=h;exact ⟨b,y,e,str_keep hg h,hy⟩)
  | exact HasS.gk h hg
  | (obtain ⟨b,v,e,h,hv⟩:=h;exact ⟨b,v,e,row_keep hg h,hv.gk hg⟩)
  | exact Parts.gk h hg
def dstR (k:Nat):Nat:=if k=28 then 5 else 17+k
structure AtL (c:Rc) (l:Array Bool) (w:World):Prop where
 f6:l.getD 6 false=false→At c.s c.C c.w0 w
 f20:l.getD 20 false=false→At c.s (c.C+1) c.w0 w
 f23:l.getD 23 false=false→At c.s (c.C+1+1) c.w0 w
 fz:At c.s (c.C+1+1+c.Ce) c.w0 w
theorem getD_unset {l:Array Bool} {i k:Nat} (h:(l.setIfInBounds i true).getD k false=false):l.getD k false=false:=by
 cases hk:l.getD k false with
 | false=>rfl
 | true=>rw [getD_set_true hk] at h;cases h
theorem AtL.keep {c:Rc} {l:Array Bool} {w w':World} (h:AtL c l w) (i:Nat) (hb:Below w.heap.size w w'):AtL c (l.setIfInBounds i true) w' :=
 ⟨fun k=>(h.f6 (getD_unset k)).next hb,fun k=>(h.f20 (getD_unset k)).next hb,fun k=>(h.f23 (getD_unset k)).next hb,h.fz.next hb⟩
structure RI (c:Rc) (l:Array Bool) (a:Act) (w:World):Prop where
 ex:∃ u,a=TA c u∧(l.getD 28 false=false→u 5=c.pv)∧∀ k,k < 29→l.getD k false=true→(l.getD 27 false=false∨27≤k)→Phi c k (u (dstR k)) w
 at_:AtL c l w
 all:l.getD 27 false=true→∀ k,k < 27→l.getD k false=true
 pv:l.getD 27 false=false→Parts c.w0 w c.pv c.m (c.m * (c.K+1))
 old:c.w0.heap.size≤w.heap.size
theorem unl {l:Array Bool} {i:Nat} (h:l.getD i true=false):l.getD i false=false:=by
 cases hk:l[i]? with
 | none=>simp [hk] at h
 | some v=>simp [hk] at h ⊢;exact h
theorem lst {l:Array Bool} {i:Nat} (h:i < l.size):(l.setIfInBounds i true).getD i false=true:=by simp [h]
theorem dstR_ne {i k:Nat} (hi:i < 29) (hk:k < 29) (h:k≠i):dstR k≠dstR i:=by
 unfold dstR
 split <;> split <;> omega
theorem RI.put {c:Rc} {l:Array Bool} {u:Nat→Value} {w w':World} {i:Nat} {a':Act} (v:Value) (hi:i < 29) (h27:i≠27) (hs:i < l.size)
  (h5:l.getD 28 false=false→u 5=c.pv) (hphi:∀ k,k < 29→l.getD k false=true→(l.getD 27 false=false∨27≤k)→Phi c k (u (dstR k)) w)
  (hall:l.getD 27 false=true→∀ k,k < 27→l.getD k false=true) (hpv:l.getD 27 false=false→Parts c.w0 w c.pv c.m (c.m * (c.K+1))) (hold:c.w0.heap.size≤w.heap.size)
  (ha:a'=TA c (upd u (dstR i) v)) (hg:Gk c.s.R w w') (hat:AtL c (l.setIfInBounds i true) w') (hnew:Phi c i v w'):RI c (l.setIfInBounds i true) a' w':=by
 have e27:(l.setIfInBounds i true).getD 27 false=l.getD 27 false:=getD_set_ne false h27
 refine ⟨⟨upd u (dstR i) v,ha,fun h=>?_,fun k hk hl hc=>?_⟩,hat,fun h k hk=>?_,fun h=>(hpv (by rw [← e27];exact h)).gk hg,Nat.le_trans hold hg.size⟩
 ·have hi28:i≠28:=fun e=>by subst e;rw [lst hs] at h;cases h
  have:upd u (dstR i) v 5=u 5:=by unfold upd dstR;rw [if_neg hi28,if_neg (by omega)]
  rw [this]
  exact h5 (getD_unset h)
 ·by_cases hki:k=i
  ·subst hki
   have:upd u (dstR k) v (dstR k)=v:=by simp [upd]
   rw [this]
   exact hnew
  ·have:upd u (dstR i) v (dstR k)=u (dstR k):=by unfold upd;rw [if_neg (dstR_ne hi hk hki)]
   rw [this]
   rw [getD_set_ne false (Ne.symm hki)] at hl
   rw [e27] at hc
   exact (hphi k hk hl hc).gk hk hg
 ·rw [e27] at h
  exact getD_set_true (hall h k hk)
theorem wpOp_via {P:Program} {ops:Array Oper} {Q:Exit→Act→World→Prop} {i:Nat} {I:Act→World→Prop} {a:Act} {w:World} (h:∀ K:Act→World→Prop,(∀ a' w',I a' w'→K a' w')→wpOp P ops Q i K a w):wpOp P ops Q i I a w:=h _ fun _ _ h=>h
theorem wpOp_enter {P:Program} {ops:Array Oper} {Q:Exit→Act→World→Prop} {i:Nat} {K:Act→World→Prop} {a:Act} {w:World} {o:Oper} (ho:ops[i]?=some o) (hg:o.guard=none) {f:FuncId} {vals:Array Value}
  (hx:(execOp a.eval o).run P w=.ok (.enter f vals) w) {Q':Ending→World→Prop} (hc:Calls P f vals w Q') (h:∀ e w',Q' e w'→∃ v,e=.returned v∧K (a.put o.dst v) w'):wpOp P ops Q i K a w:=by
 unfold wpOp
 rw [ho]
 have hw:Region.wanted o (yielded ops a.tmps)=true:=by simp [Region.wanted,hg]
 simp only [hw,if_true]
 refine .inl ?_
 unfold Oper.wp
 rw [hx,Oper.upon_enter]
 refine hc.mono fun e w' hq=>?_
 obtain ⟨v,rfl,hk⟩:=h e w' hq
 exact hk
theorem wpOp_append {P:Program} {ops:Array Oper} {Q:Exit→Act→World→Prop} {j:Nat} {K:Act→World→Prop} {a:Act} {w:World} {o:Oper} (ho:ops[j]?=some o) (hg:o.guard=none) (s x:Operand) (t:TypeId)
  (hop:o.op=Op.call { callee:=Callee.builtin Builtin.append,args:=#[s,x],argTypes:=#[t,t] })
  (base:Nat) (e:TypeId) (i:TypeInfo) (z:Value) (bytes:Nat) (ht:P.underlying t=some (.slice e)) (hi:P.info? e=some i) (hz:i.zero=some z)
  (hsize:i.size=1) (hby:i.bytes=bytes) (hzs:z.cells.size=1)
  (v:Value) (n:Nat) (xs:List Value) (hs:a.eval s=v) (hown:w.ownsRow base e 1 v n xs)
  (ad:Addr) (y:Value) (hx:a.eval x=.slice (some ad) 1 1) (hnews:w.cell? ad=some y) (h1:y.oneCell'=true)
  (h63:n+1≤maxLen) (hbytes:(n+1) * bytes≤140737488355328) (hbase:base≤w.heap.size)
  (h:∀ v' w',w'.ownsRow base e 1 v' (n+1) (xs ++ [y])→w.grownBy w' v.ownBlock→K (a.put o.dst v') w'):wpOp P ops Q j K a w:=by
 unfold wpOp
 rw [ho]
 have hw:Region.wanted o (yielded ops a.tmps)=true:=by simp [Region.wanted,hg]
 simp only [hw,if_true]
 refine .inl ?_
 obtain ⟨v',w',hr,h2,h3,_,_⟩:=run_append_own_at (P:=P) w base t o.type e i z 1 bytes ht hi hz hsize hby hzs (by decide) v n xs hown ad 1 1 [y] rfl (fun q u hq=>by
  match q,hq with
  | 0,hq=>cases hq;simpa [Addr.add] using hnews) (fun u hu=>by simp at hu;subst hu;exact h1) h63 hbytes hbase
 unfold Oper.wp
 simp [execOp,hop,resolve,invoke,builtin,hs,hx,hr,Result.andThen]
 exact h v' w' h2 h3
theorem wpOp_run {P:Program} {ops:Array Oper} {Q:Exit→Act→World→Prop} {i:Nat} {K:Act→World→Prop} {a:Act} {w:World} {o:Oper} (ho:ops[i]?=some o) (hg:o.guard=none) (h:Oper.wp P o a w K Q):wpOp P ops Q i K a w:=by
 unfold wpOp
 rw [ho]
 have hw:Region.wanted o (yielded ops a.tmps)=true:=by simp [Region.wanted,hg]
 simp only [hw,if_true]
 exact .inl h
theorem Parts.any {w W:World} {v:Value} {n N:Nat} (h:Parts w W v n N):∃ ad c,v=.slice ad n c:=by
 obtain ⟨xs,ls,h1,h2,_⟩:=h
 exact own_sl h2
theorem overQ_at {s:Gs} {C n N c:Nat} {ad:Option Addr} {w w':World} (h:At s C w w') (x:Nd) (hp:Parts w w' (.slice ad n c) n N) (hn:n≤1000) (hx:x.text.size≤1000) (hK:N≤100000) :
  Calls Tryz.prog 61 #[.agg #[.int .i64 x.kind,.int .i64 x.op,.int .i64 x.n,.string x.text,.int .i64 x.kids],.slice ad n c] w' (NdEnd s (N+1) C w w'):=by
 obtain ⟨xs,ls,h1,h2,h3,h4,h5⟩:=hp
 have hparts:PartsIn w' ad xs ls:=by
  refine ⟨h3,?_,h4⟩
  rcases h2.2 with ⟨_,h0⟩ | ⟨g',cap,cur,e,_,b3,_,_,_,b4⟩
  ·exact .inl (List.eq_nil_of_length_eq_zero (by omega))
  ·cases e
   refine .inr ⟨g',rfl,cur,b3,fun j u hu=>?_⟩
   rw [Nat.mul_one] at b4
   rw [← b4] at hu
   have hj:=(List.getElem?_eq_some_iff.1 hu).1
   rw [List.length_take] at hj
   rw [List.getElem?_take_of_lt (by omega)] at hu
   simpa using hu
 refine (l2Over_any x ad n c xs ls w' h1 (by omega) hparts (by have:=h5.1;omega)).mono ?_
 rintro e w2 ⟨v,rfl,h6,h7⟩
 exact ⟨v,_,rfl,h6,h5.over hx,h.next h7,h.gk_next h7⟩
theorem repl_getD (n k:Nat):(Array.replicate n false).getD k false=false:=by
 by_cases h:k < n <;> simp [h]
theorem lt_of_check {ops:Array Oper} (h:((List.range ops.size).all fun i=>match ops[i]? with | some o=>o.after.all fun e=>decide (e.on < i) | none=>true)=true):∀ (i:Nat) o,ops[i]?=some o→∀ e ∈ o.after,e.on < i:=by
 intro i o ho e he
 have hi:=(Array.getElem?_eq_some_iff.1 ho).1
 rw [List.all_eq_true] at h
 have:=h i (List.mem_range.2 hi)
 rw [ho] at this
 simp only [Array.all_eq_true_iff_forall_mem] at this
 exact of_decide_eq_true (this e he)
end Go.Proofs.YtabbahpalemlhaaGreatDoor
