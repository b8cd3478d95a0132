import Derived.BigQuiet
import Derived.Shelf.Spec.SlicesInsert
import Derived.Shelf.Spec.SlicesInsertGrow
import Derived.Test.YtbkmglknbflkhaaGreatDoorJ23
import Derived.Test.YtbkmglknbflkhaaGreatDoorJ26
import Derived.Test.YtbkmglknbflkhaaGreatDoorJ28
namespace Go.Proofs.YtbkmglknbflkhaaGreatDoor.C
open Go.RowKit
set_option maxRecDepth 20000
theorem aB_use {fns:List Fn} {f:Fn} {o:Nat} (h1:1≤o) (h2:o≤16) (a:Int):aB fns f o a=(if useT o=1 then inB a 1 10 else if useT o=2 then inB a 0 (f.slots - 1) else if useT o=3 then inB a 1 3 else if useT o=4 then inB a 3 18 else if useT o=5 then inB a 3 10 else if useT o=6 then inB a 1 12 else if useT o=7 then inB a 0 ((fns.length:Int) - 1) else if useT o=8 then inB a 0 f.ins.length else if useT o=9 then (if f.result=0 then inB a 0 0 else inB a 1 1) else inB a 0 0):=by
 have h:o=1∨o=2∨o=3∨o=4∨o=5∨o=6∨o=7∨o=8∨o=9∨o=10∨o=11∨o=12∨o=13∨o=14∨o=15∨o=16:=by omega
 rcases h with rfl | rfl | rfl | rfl | rfl | rfl | rfl | rfl | rfl | rfl | rfl | rfl | rfl | rfl | rfl | rfl <;> simp [aB,useT]
theorem useT_range (o:Nat):useT o=0∨useT o=1∨useT o=2∨useT o=3∨useT o=4∨useT o=5∨useT o=6∨useT o=7∨useT o=8∨useT o=9:=by
 unfold useT
 (repeat' split) <;> simp
def EnEnd (fns:List Fn) (f:Fn) (op:Int) (w:World) (e:Ending) (w':World):Prop:=∃ lo hi:Int,e=.returned (.tuple #[.int .i64 lo,.int .i64 hi])∧(∀ a,aB fns f op a=inB a lo hi)∧Below w.heap.size w w'
set_option maxHeartbeats 8000000 in
theorem ends_any {fns:List Fn} {f:Fn} {aP aI:Option Addr} {cP cI o:Nat} {w:World} (hE:EnvI w) (h1:1≤o) (h2:o≤16) (hsl:0≤f.slots∧f.slots≤200) (hl:fns.length≤60) (_hil:f.ins.length≤50000) :
  Calls Tryz.prog 160 #[.int .i64 (o:Nat),.agg #[.string f.name,.slice aP f.params.length cP,.int .i64 f.result,.int .i64 f.slots,.slice aI f.ins.length cI],.int .i64 fns.length] w (EnEnd fns f (o:Nat) w):=by
 have HLO:Hid (Below w.heap.size w (w.alloc (.cells #[.string f.name,.slice aP f.params.length cP,.int .i64 f.result,.int .i64 f.slots,.slice aI f.ins.length cI] 125))):=hid ((Below.refl _ _).alloc (Nat.le_refl _) _)
 obtain ⟨v,r0,_,_,_⟩:=(hE.next HLO.out).rows o h1 h2
 have HA:=hid (fun a=>aB_use (fns:=fns) (f:=f) h1 h2 a)
 have hoi:(o:Int) < 17:=by omega
 have hon:o < 17:=by omega
 have hw1:IntKind.i64.wrap (f.slots - 1)=f.slots - 1:=by rw [IntKind.wrap_i64];omega
 have hw2:IntKind.i64.wrap ((fns.length:Int) - 1)=(fns.length:Int) - 1:=by rw [IntKind.wrap_i64];omega
 rcases useT_range o with hu | hu | hu | hu | hu | hu | hu | hu | hu | hu
 ·rw [hu] at r0 HA
  clear hu hE
  go_enter Tryz.func160,Tryz.ntmps160
  go_wp2_with fail
  exact bodyPost_ret (v:=.tuple #[.int .i64 (0),.int .i64 (0)]) (by simp [results,Tryz.results160,go_sem]) rfl ⟨_,_,rfl,fun a=>by rw [HA.out];simp,HLO.out⟩
 ·rw [hu] at r0 HA
  clear hu hE
  go_enter Tryz.func160,Tryz.ntmps160
  go_wp2_with fail
  exact bodyPost_ret (v:=.tuple #[.int .i64 (1),.int .i64 (10)]) (by simp [results,Tryz.results160,go_sem]) rfl ⟨_,_,rfl,fun a=>by rw [HA.out];simp,HLO.out⟩
 ·rw [hu] at r0 HA
  clear hu hE
  go_enter Tryz.func160,Tryz.ntmps160
  go_wp2_with fail
  go_quiet (fail)
  go_wp2
  exact bodyPost_ret (v:=.tuple #[.int .i64 (0),.int .i64 (f.slots - 1)]) (by simp [results,Tryz.results160,go_sem]) rfl ⟨_,_,rfl,fun a=>by rw [HA.out];simp,below_drewN HLO.out _⟩
 ·rw [hu] at r0 HA
  clear hu hE
  go_enter Tryz.func160,Tryz.ntmps160
  go_wp2_with fail
  exact bodyPost_ret (v:=.tuple #[.int .i64 (1),.int .i64 (3)]) (by simp [results,Tryz.results160,go_sem]) rfl ⟨_,_,rfl,fun a=>by rw [HA.out];simp,HLO.out⟩
 ·rw [hu] at r0 HA
  clear hu hE
  go_enter Tryz.func160,Tryz.ntmps160
  go_wp2_with fail
  exact bodyPost_ret (v:=.tuple #[.int .i64 (3),.int .i64 (18)]) (by simp [results,Tryz.results160,go_sem]) rfl ⟨_,_,rfl,fun a=>by rw [HA.out];simp,HLO.out⟩
 ·rw [hu] at r0 HA
  clear hu hE
  go_enter Tryz.func160,Tryz.ntmps160
  go_wp2_with fail
  exact bodyPost_ret (v:=.tuple #[.int .i64 (3),.int .i64 (10)]) (by simp [results,Tryz.results160,go_sem]) rfl ⟨_,_,rfl,fun a=>by rw [HA.out];simp,HLO.out⟩
 ·rw [hu] at r0 HA
  clear hu hE
  go_enter Tryz.func160,Tryz.ntmps160
  go_wp2_with fail
  exact bodyPost_ret (v:=.tuple #[.int .i64 (1),.int .i64 (12)]) (by simp [results,Tryz.results160,go_sem]) rfl ⟨_,_,rfl,fun a=>by rw [HA.out];simp,HLO.out⟩
 ·rw [hu] at r0 HA
  clear hu hE
  go_enter Tryz.func160,Tryz.ntmps160
  go_wp2_with fail
  exact bodyPost_ret (v:=.tuple #[.int .i64 (0),.int .i64 ((fns.length:Int) - 1)]) (by simp [results,Tryz.results160,go_sem]) rfl ⟨_,_,rfl,fun a=>by rw [HA.out];simp,HLO.out⟩
 ·rw [hu] at r0 HA
  clear hu hE
  go_enter Tryz.func160,Tryz.ntmps160
  go_wp2_with fail
  go_quiet (fail)
  go_wp2
  exact bodyPost_ret (v:=.tuple #[.int .i64 (0),.int .i64 ((f.ins.length:Int))]) (by simp [results,Tryz.results160,go_sem]) rfl ⟨_,_,rfl,fun a=>by rw [HA.out];simp,below_drewN HLO.out _⟩
 ·rw [hu] at r0 HA
  clear hu hE
  by_cases hr:f.result=0
  ·have HR:=hid hr
   have HL2:=hid HLO.out
   rw [hr] at HLO r0 ⊢
   clear hr
   go_enter Tryz.func160,Tryz.ntmps160
   go_wp2_with fail
   exact bodyPost_ret (v:=.tuple #[.int .i64 (0),.int .i64 (0)]) (by simp [results,Tryz.results160,go_sem]) rfl ⟨_,_,rfl,fun a=>by rw [HA.out];simp [HR.out],HLO.out⟩
  ·have HR:=hid hr
   have hrb:(f.result == 0)=false:=by simpa using hr
   clear hr
   go_enter Tryz.func160,Tryz.ntmps160
   go_wp2_with fail
   exact bodyPost_ret (v:=.tuple #[.int .i64 (1),.int .i64 (1)]) (by simp [results,Tryz.results160,go_sem]) rfl ⟨_,_,rfl,fun a=>by rw [HA.out];simp [HR.out],HLO.out⟩
end Go.Proofs.YtbkmglknbflkhaaGreatDoor.C
namespace Go.Proofs.YtbkmglknbflkhaaGreatDoor.C
open Go.RowKit Go.Shelf
set_option maxRecDepth 20000
def insq_ren:Go.Shelf.Ren:=⟨fun | 21=>165 | 27=>186 | 28=>187 | 35=>195 | 39=>196 | n=>n,fun | 0=>0 | 3=>3 | 4=>4 | 22=>119 | n=>n,fun  | n=>n⟩
theorem insq_lays:Go.Proofs.Lays2.n21 Tryz.prog insq_ren where
 mixed:=by kernel_rfl
 f21:=Tryz.func165.trans (congrArg some (by kernel_rfl))
 f27:=Tryz.func186.trans (congrArg some (by kernel_rfl))
 f28:=Tryz.func187.trans (congrArg some (by kernel_rfl))
 f35:=Tryz.func195.trans (congrArg some (by kernel_rfl))
 f39:=Tryz.func196.trans (congrArg some (by kernel_rfl))
 t0:=Tryz.underlying0
 a0:=Tryz.isAgg0
 z0:=Tryz.sizeOf0
 v0:=Tryz.zeroValue0
 t3:=Tryz.underlying3
 a3:=Tryz.isAgg3
 z3:=Tryz.sizeOf3
 v3:=Tryz.zeroValue3
 t4:=Tryz.underlying4
 a4:=Tryz.isAgg4
 z4:=Tryz.sizeOf4
 v4:=Tryz.zeroValue4
 t22:=Tryz.underlying119
 a22:=Tryz.isAgg119
 z22:=Tryz.sizeOf119
 v22:=Tryz.zeroValue119
 i3:=by kernel_rfl
theorem setCells_other (b:Nat) {k:Nat} (h:¬ k=b):∀ (vs:List Value) (o:Nat) (W:World),(W.setCells b o vs).heap[k]?=W.heap[k]?
 | [],_,_=>rfl
 | v :: r,o,W=>by
  show ((W.setCell ⟨b,o,none⟩ v).setCells b (o+1) r).heap[k]?=_
  rw [setCells_other b h r (o+1) _,set_other _ _ _ _ _ h]
theorem setCells_size (b:Nat):∀ (vs:List Value) (o:Nat) (W:World),(W.setCells b o vs).heap.size=W.heap.size
 | [],_,_=>rfl
 | v :: r,o,W=>by
  show ((W.setCell ⟨b,o,none⟩ v).setCells b (o+1) r).heap.size=_
  rw [setCells_size b r (o+1) _,set_size]
theorem setCells_same (b:Nat):∀ (vs:List Value) (o:Nat) (W:World),(W.setCells b o vs).os=W.os∧(W.setCells b o vs).tape=W.tape∧(W.setCells b o vs).output=W.output
 | [],_,_=>⟨rfl,rfl,rfl⟩
 | v :: r,o,W=>setCells_same b r (o+1) (W.setCell ⟨b,o,none⟩ v)
def insAt (l:List Int) (i:Nat) (x:Int):List Int:=l.take i ++ x :: l.drop i
theorem insAt_length {l:List Int} {i:Nat} (h:i≤l.length) (x:Int):(insAt l i x).length=l.length+1:=by
 unfold insAt
 rw [List.length_append,List.length_take,List.length_cons,List.length_drop]
 omega
theorem insAt_get {l:List Int} {i:Nat} (h:i≤l.length) (x:Int) (j:Nat):(insAt l i x).getD j 0=if j < i then l.getD j 0 else if j=i then x else l.getD (j - 1) 0:=by
 unfold insAt
 have ht:(l.take i).length=i:=by rw [List.length_take];omega
 rw [List.getD_eq_getElem?_getD]
 by_cases h1:j < i
 ·rw [if_pos h1,List.getElem?_append_left (by omega),List.getElem?_take_of_lt h1,List.getD_eq_getElem?_getD]
 ·rw [if_neg h1,List.getElem?_append_right (by omega),ht]
  by_cases h2:j=i
  ·subst h2;rw [if_pos rfl,Nat.sub_self];rfl
  ·rw [if_neg h2,show j - i=(j - 1 - i)+1 by omega,List.getElem?_cons_succ,List.getElem?_drop,List.getD_eq_getElem?_getD,show i+(j - 1 - i)=j - 1 by omega]
theorem own_of_rowIs {W:World} {b cap B:Nat} {f:Nat→Value} {l:List Int} (h:W.rowIs b 3 cap f) (hB:B≤b) (hc:cap≤maxLen) (hl:l.length≤cap) (hf:∀ j,j < l.length→f j=.int .i64 (l.getD j 0)):W.ownsRow B 3 1 (.slice (some ⟨b,0,none⟩) l.length cap) l.length (l.map fun x=>Value.int .i64 x):=by
 obtain ⟨cur,e,hz,hcc⟩:=h
 refine ⟨by simp,.inr ⟨b,cap,cur,rfl,hB,e,hl,hc,by omega,?_⟩⟩
 apply List.ext_getElem?
 intro j
 rw [Nat.mul_one]
 by_cases hj:j < l.length
 ·rw [List.getElem?_take_of_lt hj,Array.getElem?_toList,hcc j (by omega),hf j hj,List.getElem?_map,List.getElem?_eq_getElem hj,List.getD_eq_getElem?_getD,List.getElem?_eq_getElem hj]
  rfl
 ·rw [List.getElem?_eq_none (by rw [List.length_take];omega),List.getElem?_eq_none (by rw [List.length_map];omega)]
theorem rowIs_of_own {W:World} {b cap B:Nat} {l:List Int} (h:W.ownsRow B 3 1 (.slice (some ⟨b,0,none⟩) l.length cap) l.length (l.map fun x=>Value.int .i64 x)):∃ f,W.rowIs b 3 cap f∧B≤b∧l.length≤cap∧cap≤maxLen∧∀ j,j < l.length→f j=.int .i64 (l.getD j 0):=by
 obtain ⟨_,⟨h2,_⟩ | ⟨g,c,cur,e,hb,hc,hn,hm,hz,ht⟩⟩:=h
 ·cases h2
 ·injection e with e1 _ e3
  injection e1 with e1
  injection e1 with e1
  subst e1 e3
  rw [Nat.mul_one] at hz ht
  refine ⟨fun j=>cur[j]?.getD default,⟨cur,hc,hz,fun i hi=>?_⟩,hb,hn,hm,fun j hj=>?_⟩
  ·have:i < cur.size:=by omega
   show cur[i]?=some (cur[i]?.getD default)
   rw [Array.getElem?_eq_getElem this]
   rfl
  ·have e2:(cur.toList.take l.length)[j]?=(l.map fun x=>Value.int .i64 x)[j]?:=by rw [ht]
   rw [List.getElem?_take_of_lt hj,Array.getElem?_toList,List.getElem?_map,List.getElem?_eq_getElem hj] at e2
   show cur[j]?.getD default=_
   rw [e2,List.getD_eq_getElem?_getD,List.getElem?_eq_getElem hj]
   rfl
theorem grown_set {W:World} {b:Nat} (vs:List Value) (o:Nat):W.grownBy (W.setCells b o vs) (some b) :=
 ⟨(setCells_same b vs o W).1,(setCells_same b vs o W).2.1,(setCells_same b vs o W).2.2,by rw [setCells_size];exact Nat.le_refl _,fun k _ hk=>setCells_other b (fun e=>hk (by rw [e])) vs o W⟩
theorem shape_cells {W:World} {g:Nat} {cs:Array Value} {t:TypeId} (h:W.heap[g]?=some (.cells cs t (0,0))):W.shape? g=some (t,cs.size):=by
 unfold World.shape?
 rw [h]
theorem row_new (W:World) (A Z:Array Value) (t:TypeId):(W.alloc (.cells (A ++ Z) t)).rowIs W.heap.size t (A.size+Z.size) (fun j=>if j < A.size then A[j]?.getD default else Z[j - A.size]?.getD default):=by
 refine ⟨A ++ Z,heap_alloc_new _ _,by simp,fun i hi=>?_⟩
 by_cases h:i < A.size
 ·show (A ++ Z)[i]?=some (if i < A.size then A[i]?.getD default else _)
  rw [if_pos h,Array.getElem?_append_left h,Array.getElem?_eq_getElem h]
  rfl
 ·show (A ++ Z)[i]?=some (if i < A.size then _ else Z[i - A.size]?.getD default)
  have h2:i - A.size < Z.size:=by omega
  rw [if_neg h,Array.getElem?_append_right (by omega),Array.getElem?_eq_getElem h2]
  rfl
theorem map_get {l:List Int} {j:Nat} (h:j < l.length):(l.map fun x=>Value.int .i64 x)[j]?.getD default=.int .i64 (l.getD j 0):=by
 rw [List.getElem?_map,List.getElem?_eq_getElem h,List.getD_eq_getElem?_getD,List.getElem?_eq_getElem h]
 rfl
theorem insert_any {W:World} {B:Nat} {v:Value} {l:List Int} {i:Nat} {x:Int} {vb:Nat} (hown:W.ownsRow B 3 1 v l.length (l.map fun x=>Value.int .i64 x)) (hi:i≤l.length) (hl:l.length≤100000) (hB:B≤W.heap.size) (hv:W.heap[vb]?=some (.cells #[.int .i64 x] 3 (0,0))) (hne:some vb≠v.ownBlock) :
  Calls Tryz.prog 165 #[v,.int .i64 i,.slice (some ⟨vb,0,none⟩) 1 1] W fun e w'=>∃ v',e=.returned v'∧w'.ownsRow B 3 1 v' (l.length+1) ((insAt l i x).map fun x=>Value.int .i64 x)∧W.grownBy w' v.ownBlock∧(v'.ownBlock=v.ownBlock∨v'.ownBlock=some W.heap.size):=by
 have hvs:∀ j u,([Value.int .i64 x]:List Value)[j]?=some u→W.cell? ⟨vb,0+j,none⟩=some u:=fun j u hj=>by
  have:j=0:=by
   have:=(List.getElem?_eq_some_iff.1 hj).1
   simpa using this
  subst this
  simp at hj
  rw [cell_hp hv,← hj]
  rfl
 have h1v:∀ u ∈ ([Value.int .i64 x]:List Value),u.oneCell'=true:=fun u hu=>by simp at hu;rw [hu];rfl
 have h1c:∀ u ∈ (l.map fun x=>Value.int .i64 x),u.oneCell'=true:=fun u hu=>by
  simp at hu
  obtain ⟨y,_,rfl⟩:=hu
  rfl
 have hnew:∀ (W':World) (cap:Nat) (f:Nat→Value),W'.rowIs W.heap.size 3 cap f→l.length+1≤cap→cap≤maxLen→(∀ j,j < l.length+1→f j=.int .i64 ((insAt l i x).getD j 0))→W'.ownsRow B 3 1 (.slice (some ⟨W.heap.size,0,none⟩) (l.length+1) cap) (l.length+1) ((insAt l i x).map fun x=>Value.int .i64 x):=fun W' cap f h1 h2 h3 h4=>by
  have:=own_of_rowIs (l:=insAt l i x) h1 hB h3 (by rw [insAt_length hi];exact h2) (fun j hj=>h4 j (by rw [insAt_length hi] at hj;exact hj))
  rw [insAt_length hi] at this
  exact this
 have hz1:∀ k,(Builtin.zeroCells (Value.int .i64 0).cells k).size=k:=fun k=>by rw [size_zeroCells];show k * 1=k;omega
 have hend:i=l.length→∀ j,j < l.length+1→(if j < l.length then Value.int .i64 (l.getD j 0) else .int .i64 x)=.int .i64 ((insAt l i x).getD j 0):=fun e j hj=>by
  rw [insAt_get hi]
  by_cases h:j < l.length
  ·rw [if_pos h,if_pos (by omega)]
  ·rw [if_neg h,if_neg (by omega),if_pos (by omega)]
 -- at the end,without room
 have hgrowEnd:∀ (base:Option Addr) (c:Nat),i=l.length→v=.slice base l.length c→l.length≤c→c < l.length+1→(base=none→l.length=0)→(∀ a,base=some a→∀ j u,(l.map fun x=>Value.int .i64 x)[j]?=some u→W.cell? (a.add j)=some u)→Calls Tryz.prog 165 #[v,.int .i64 i,.slice (some ⟨vb,0,none⟩) 1 1] W fun e w'=>∃ v',e=.returned v'∧w'.ownsRow B 3 1 v' (l.length+1) ((insAt l i x).map fun x=>Value.int .i64 x)∧W.grownBy w' v.ownBlock∧(v'.ownBlock=v.ownBlock∨v'.ownBlock=some W.heap.size):=fun base c e1 e2 h1 h2 h3 h4=>by
  have hlaw:=Any2.slices_Insert_int_end_grow insq_lays base l.length c vb 0 1 1 (l.map fun x=>Value.int .i64 x) [.int .i64 x] W (by omega) h1 h2 (by omega) (by simp) rfl h3 h4 hvs h1v
  subst e1 e2
  refine hlaw.mono ?_
  rintro e w' ⟨rfl,rfl⟩
  have hge:=grownCap_ge W (l.length+1) c (insq_ren.t 3)
  have hcm:grownCap W (l.length+1) c (insq_ren.t 3)≤maxLen:=grownCap_le_maxLen W (l.length+1) c (insq_ren.t 3) (by unfold maxLen;omega)
  have hr:=row_new W.drew ((l.map fun x=>Value.int .i64 x) ++ [Value.int .i64 x]).toArray (Builtin.zeroCells (Value.int .i64 0).cells (grownCap W (l.length+1) c (insq_ren.t 3) - (l.length+1))) 3
  have hA:((l.map fun x=>Value.int .i64 x) ++ [Value.int .i64 x]).toArray.size=l.length+1:=by simp
  rw [hA,hz1,show l.length+1+(grownCap W (l.length+1) c (insq_ren.t 3) - (l.length+1))=grownCap W (l.length+1) c (insq_ren.t 3) by omega] at hr
  refine ⟨_,rfl,?_,⟨rfl,rfl,rfl,by simp,fun k hk _=>heap_alloc_old W.drew _ hk⟩,.inr rfl⟩
  refine hnew _ _ _ hr hge hcm fun j hj=>?_
  show (if j < l.length+1 then _ else _)=_
  rw [if_pos hj,← hend rfl j hj]
  by_cases h:j < l.length
  ·rw [if_pos h,List.getElem?_toArray,List.getElem?_append_left (by simpa using h),map_get h]
  ·obtain rfl:j=l.length:=by omega
   rw [if_neg h,List.getElem?_toArray,List.getElem?_append_right (by simp)]
   simp
 obtain ⟨_,⟨hv0,hn0⟩ | ⟨b,cap,cur,hv1,_⟩⟩:=id hown
 ·have hl0:l=[]:=List.eq_nil_of_length_eq_zero hn0
  refine hgrowEnd none 0 (by omega) (by rw [hv0,hn0]) (by omega) (by omega) (fun _=>hn0) (fun a e=>by cases e)
 ·subst hv1
  obtain ⟨f,hrow,hBb,hnc,hcm,hf⟩:=rowIs_of_own hown
  have hcs:∀ j u,(l.map fun x=>Value.int .i64 x)[j]?=some u→W.cell? ⟨b,0+j,none⟩=some u:=fun j u hj=>by
   have hj2:j < l.length:=by
    have:=(List.getElem?_eq_some_iff.1 hj).1
    simpa using this
   have:=map_get (l:=l) hj2
   rw [hj] at this
   rw [Nat.zero_add,hrow.cell (by omega),hf j hj2,← this]
   rfl
  have hne2:vb≠b:=fun e=>hne (by rw [e];rfl)
  by_cases hin:i=l.length
  ·by_cases hroom:l.length+1≤cap
   ·have hlaw:=Any2.slices_Insert_int_end_room insq_lays b 0 l.length cap vb 0 1 1 [.int .i64 x] W (by omega) hroom (by unfold maxLen at hcm;omega) rfl (fun j hj=>by rw [hrow.cell (by omega)];rfl) (fun j _=>hrow.frozen _) hvs h1v
    have hr:=rowIs_setCells [Value.int .i64 x] (0+l.length) W f hrow
    subst hin
    refine hlaw.mono ?_
    rintro e w' ⟨rfl,rfl⟩
    refine ⟨_,rfl,?_,grown_set _ _,.inl rfl⟩
    have:=own_of_rowIs (l:=insAt l l.length x) hr hBb hcm (by rw [insAt_length hi];exact hroom) (fun j hj=>by
     rw [insAt_length hi] at hj
     rw [← hend rfl j hj]
     by_cases h:j < l.length
     ·rw [if_neg (by simp;omega),if_pos h,hf j h]
     ·rw [if_pos (by simp;omega),if_neg h,show j - (0+l.length)=0 by omega]
      rfl)
    rw [insAt_length hi] at this
    exact this
   ·exact hgrowEnd (some ⟨b,0,none⟩) cap hin rfl hnc (by omega) (fun e=>by cases e) (fun a e j u hj=>by
     injection e with e
     rw [← e]
     have ea:(⟨b,0,none⟩:Addr).add j=⟨b,0+j,none⟩:=by
      by_cases hj0:j=0
      ·subst hj0;simp [Addr.add]
      ·simp [Addr.add,hj0]
     rw [ea]
     exact hcs j u hj)
  ·have hlt:i < l.length:=by omega
   have hdl:((l.map fun x=>Value.int .i64 x).drop i).length=(l.drop i).length:=by simp
   have hdg:∀ j,i+1≤j→j < l.length+1→((l.map fun x=>Value.int .i64 x).drop i)[j - (i+1)]?.getD default=.int .i64 (l.getD (j - 1) 0):=fun j h1 h2=>by
    rw [List.getElem?_drop,show i+(j - (i+1))=j - 1 by omega,map_get (by omega)]
   by_cases hroom:l.length+1≤cap
   ·have hlaw:=Any2.slices_Insert_int_shift insq_lays b 0 l.length cap i vb 0 1 1 (l.map fun x=>Value.int .i64 x) [.int .i64 x] W hlt (by omega) hroom (by unfold maxLen at hcm;omega) hne2 (by simp) rfl hcs (fun j hj=>by rw [Nat.zero_add,hrow.cell (by omega)];rfl) (fun j _=>hrow.frozen _) hvs h1c h1v 3 3 1 cap (shape_cells hv) (by obtain ⟨cu,e,hz,_⟩:=hrow;rw [shape_cells e,hz]) (by omega) (frozen_hp hv _) (frozen_hp hv _)
    have hr1:=rowIs_setCells ((l.map fun x=>Value.int .i64 x).drop i) (0+(i+1)) W.drew f hrow.drew
    have hr:=rowIs_setCells [Value.int .i64 x] (0+i) _ _ hr1
    refine hlaw.mono ?_
    rintro e w' ⟨rfl,rfl⟩
    refine ⟨_,rfl,?_,?_,.inl rfl⟩
    ·have:=own_of_rowIs (l:=insAt l i x) hr hBb hcm (by rw [insAt_length hi];exact hroom) (fun j hj=>by
      rw [insAt_length hi] at hj
      rw [insAt_get hi,hdl]
      by_cases hb:j=i
      ·subst hb
       rw [if_pos (by simp),if_neg (Nat.lt_irrefl _),if_pos rfl,show j - (0+j)=0 by omega]
       rfl
      ·rw [if_neg (by simp;omega)]
       by_cases ha:i+1≤j
       ·have hj9:j < i+1+(l.drop i).length:=by rw [List.length_drop];omega
        rw [if_pos ⟨by omega,by omega⟩,if_neg (by omega),if_neg hb,show j - (0+(i+1))=j - (i+1) by omega,hdg j ha hj]
       ·rw [if_neg (by omega),if_pos (by omega),hf j (by omega)])
     rw [insAt_length hi] at this
     exact this
    ·have g1:W.grownBy (W.drew.setCells b (0+(i+1)) ((l.map fun x=>Value.int .i64 x).drop i)) (some b):=by
      have g:=grown_set (W:=W.drew) (b:=b) ((l.map fun x=>Value.int .i64 x).drop i) (0+(i+1))
      exact ⟨g.os,g.tape,g.output,g.size,g.block⟩
     have g2:=grown_set (W:=W.drew.setCells b (0+(i+1)) ((l.map fun x=>Value.int .i64 x).drop i)) (b:=b) [Value.int .i64 x] (0+i)
     exact ⟨g2.os.trans g1.os,g2.tape.trans g1.tape,g2.output.trans g1.output,Nat.le_trans g1.size g2.size,fun k hk hk2=>(g2.block k (Nat.lt_of_lt_of_le hk g1.size) hk2).trans (g1.block k hk hk2)⟩
   ·have hlaw:=Any2.slices_Insert_int_grow insq_lays b 0 l.length cap i vb 0 1 1 (l.map fun x=>Value.int .i64 x) [.int .i64 x] W hlt (by omega) hnc (by omega) (by omega) (by simp) rfl hcs hvs h1c h1v
    have hge:=grownCap_ge W (l.length+1) cap (insq_ren.t 3)
    have hcm2:grownCap W (l.length+1) cap (insq_ren.t 3)≤maxLen:=grownCap_le_maxLen W (l.length+1) cap (insq_ren.t 3) (by unfold maxLen;omega)
    have hr0:=row_new W (((l.map fun x=>Value.int .i64 x).take i).toArray ++ Builtin.zeroCells (Value.int .i64 0).cells (l.length+1 - i)) (Builtin.zeroCells (Value.int .i64 0).cells (grownCap W (l.length+1) cap (insq_ren.t 3) - (l.length+1))) 3
    have hA:(((l.map fun x=>Value.int .i64 x).take i).toArray ++ Builtin.zeroCells (Value.int .i64 0).cells (l.length+1 - i)).size=l.length+1:=by
     rw [Array.size_append,hz1]
     simp
     omega
    rw [hA,hz1,show l.length+1+(grownCap W (l.length+1) cap (insq_ren.t 3) - (l.length+1))=grownCap W (l.length+1) cap (insq_ren.t 3) by omega] at hr0
    have hr1:=rowIs_setCells [Value.int .i64 x] i _ _ hr0.drew
    have hr:=rowIs_setCells ((l.map fun x=>Value.int .i64 x).drop i) (i+1) _ _ hr1.drew
    refine hlaw.mono ?_
    rintro e w' ⟨rfl,rfl⟩
    refine ⟨_,rfl,hnew _ _ _ hr hge hcm2 fun j hj=>?_,?_,.inr rfl⟩
    ·show (if i+1≤j∧j < i+1+_ then _ else _)=_
     rw [insAt_get hi,hdl]
     by_cases ha:i+1≤j
     ·have hj9:j < i+1+(l.drop i).length:=by rw [List.length_drop];omega
      rw [if_pos ⟨ha,hj9⟩,if_neg (by omega),if_neg (by omega),hdg j ha hj]
     ·rw [if_neg fun h=>ha h.1]
      by_cases hb:j=i
      ·subst hb
       rw [if_pos (by simp),if_neg (Nat.lt_irrefl _),if_pos rfl,Nat.sub_self]
       rfl
      ·rw [if_neg (by simp;omega),if_pos hj,if_pos (by omega)]
       have hsz:j < ((l.map fun x=>Value.int .i64 x).take i).toArray.size:=by simp;omega
       rw [Array.getElem?_append_left hsz,List.getElem?_toArray,List.getElem?_take_of_lt (by omega),map_get (by omega)]
    ·have g0:W.grownBy (W.alloc (.cells (((l.map fun x=>Value.int .i64 x).take i).toArray ++ Builtin.zeroCells (Value.int .i64 0).cells (l.length+1 - i) ++ Builtin.zeroCells (Value.int .i64 0).cells (grownCap W (l.length+1) cap (insq_ren.t 3) - (l.length+1))) 3)) (some b):=⟨rfl,rfl,rfl,by simp,fun k hk _=>heap_alloc_old W _ hk⟩
     refine ⟨?_,?_,?_,?_,fun k hk hk2=>?_⟩
     ·rw [(setCells_same _ _ _ _).1];exact (setCells_same _ _ _ _).1
     ·rw [(setCells_same _ _ _ _).2.1];exact (setCells_same _ _ _ _).2.1
     ·rw [(setCells_same _ _ _ _).2.2];exact (setCells_same _ _ _ _).2.2
     ·rw [setCells_size]
      show _≤(World.setCells _ _ _ _).heap.size
      rw [setCells_size]
      exact g0.size
     ·have hkn:¬ k=W.heap.size:=by omega
      rw [setCells_other _ hkn]
      show (World.setCells _ _ _ _).heap[k]?=_
      rw [setCells_other _ hkn]
      exact g0.block k hk hk2
end Go.Proofs.YtbkmglknbflkhaaGreatDoor.C
