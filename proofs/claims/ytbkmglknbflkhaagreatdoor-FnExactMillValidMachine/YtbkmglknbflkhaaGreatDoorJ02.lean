import Derived.Shelf.Strings.FuncGrows
import Derived.Test.YtbkmglknbflkhaaGreatDoorJ01
namespace Go.Proofs.YtbkmglknbflkhaaGreatDoor.Q
open Go.RowKit Go.Shelf
set_option maxRecDepth 20000
def laysIF_ren:Go.Shelf.Ren:=⟨fun | 15=>183 | 20=>193 | n=>n,fun | 0=>0 | 3=>3 | 4=>4 | 9=>9 | 21=>21 | 23=>207 | n=>n,fun  | n=>n⟩
theorem laysIF:Go.Proofs.LaysGw.n15 Tryz.prog laysIF_ren where
 mixed:=by kernel_rfl
 f15:=Tryz.func183.trans (congrArg some (by kernel_rfl))
 f20:=Tryz.func193.trans (congrArg some (by kernel_rfl))
 t0:=Tryz.underlying0
 a0:=Tryz.isAgg0
 z0:=Tryz.sizeOf0
 v0:=Tryz.zeroValue0
 i0:=by kernel_rfl
 t3:=Tryz.underlying3
 a3:=Tryz.isAgg3
 z3:=Tryz.sizeOf3
 v3:=Tryz.zeroValue3
 i3:=by kernel_rfl
 t4:=Tryz.underlying4
 a4:=Tryz.isAgg4
 z4:=Tryz.sizeOf4
 v4:=Tryz.zeroValue4
 i4:=by kernel_rfl
 t9:=Tryz.underlying9
 a9:=Tryz.isAgg9
 z9:=Tryz.sizeOf9
 v9:=Tryz.zeroValue9
 i9:=by kernel_rfl
 t21:=Tryz.underlying21
 a21:=Tryz.isAgg21
 z21:=Tryz.sizeOf21
 v21:=Tryz.zeroValue21
 i21:=by kernel_rfl
 t23:=Tryz.underlying207
 a23:=Tryz.isAgg207
 z23:=Tryz.sizeOf207
 v23:=Tryz.zeroValue207
 i23:=by kernel_rfl
set_option maxHeartbeats 400000 in
theorem millIsLetter_any (c:Int) (w:World) :
  Calls Tryz.prog 156 #[.int .i32 c] w fun e w'=>e=.returned (.bool (mlt c))∧w'=w:=by
 go_enter Tryz.func156,Tryz.ntmps156
 go_wp2
 all_goals go_ret
 all_goals exact ⟨ret_bool (by unfold mlt;rw [Bool.eq_iff_iff];simp;try omega),rfl⟩
set_option maxHeartbeats 400000 in
theorem millIsDigit_any (c:Int) (w:World) :
  Calls Tryz.prog 194 #[.int .i32 c] w fun e w'=>e=.returned (.bool (dig c))∧w'=w:=by
 go_enter Tryz.func194,Tryz.ntmps194
 go_wp2
 all_goals go_ret
 all_goals exact ⟨ret_bool (by unfold dig;rw [Bool.eq_iff_iff];simp;try omega),rfl⟩
set_option maxHeartbeats 400000 in
theorem millEndsName_any (c:Int) (w:World) :
  Calls Tryz.prog 184 #[.int .i32 c] w fun e w'=>e=.returned (.bool (!let_ c))∧w'=w:=by
 rw [let_mlt]
 cases hb:mlt c <;> cases hd:dig c
 all_goals go_enter Tryz.func184,Tryz.ntmps184
 all_goals go_wp2_with (first
  | (go_at_call 156;refine (millIsLetter_any _ _).mono ?_;rintro e w' ⟨rfl,rfl⟩)
  | (go_at_call 194;refine (millIsDigit_any _ _).mono ?_;rintro e w' ⟨rfl,rfl⟩))
 all_goals go_ret
 all_goals exact ⟨ret_bool (by simp [bne]),rfl⟩
theorem decodeN_low (n b0 b1 b2 b3:Nat) (h:b0 < 128):Lib.decodeN n b0 b1 b2 b3=(b0,1):=by simp [Lib.decodeN,h]
theorem decodeN_high (n b0 b1 b2 b3:Nat) (h:128≤b0):128≤(Lib.decodeN n b0 b1 b2 b3).1:=by
 unfold Lib.decodeN
 repeat' split
 all_goals (simp only;omega)
theorem let_high (c:Nat) (h:123≤c):let_ (c:Int)=false:=by
 unfold let_ beg dig;rw [Bool.eq_false_iff];simp;omega
theorem idx_from (s:ByteArray):∀ (f pos:Nat),pos≤run letB s.data.toList→s.size≤pos+f →
  Lib.idxFuncFrom (fun x=>!let_ (x:Int)) true s f pos=if run letB s.data.toList < s.size then (run letB s.data.toList:Int) else -1
 | 0,pos,hp,hf=>by
  have h1:=run_le letB s.data.toList
  rw [len_size] at h1
  rw [if_neg (by omega)];rfl
 | f+1,pos,hp,hf=>by
  have h1:=run_le letB s.data.toList
  rw [len_size] at h1
  unfold Lib.idxFuncFrom
  by_cases hlt:pos < s.size
  ·rw [if_pos hlt]
   have hl:pos < s.data.toList.length:=by rw [len_size];exact hlt
   have hg:s.get! pos=s[pos]:=by
    show s.data[pos]! = s.data[pos]
    exact getElem!_pos s.data pos hlt
   have hd:(Utf8.decode s pos)=Lib.decodeN (s.size - pos) (s[pos]).toNat (s.get! (pos+1)).toNat (s.get! (pos+2)).toNat (s.get! (pos+3)).toNat:=by
    rw [Lib.decode_at,hg]
   cases hb:letB s[pos]
   ·have hr:=run_stop letB _ pos hp hl (by rw [get_eq s pos hlt];exact hb)
    have hx:(!let_ (((Utf8.decode s pos).1:Nat):Int))=true:=by
     by_cases ha:s[pos].toNat < 128
     ·rw [hd,decodeN_low _ _ _ _ _ ha]
      have hb2:let_ (s[pos].toNat:Int)=false:=hb
      simp [hb2]
     ·rw [hd]
      have:=decodeN_high (s.size - pos) (s[pos]).toNat (s.get! (pos+1)).toNat (s.get! (pos+2)).toNat (s.get! (pos+3)).toNat (by omega)
      rw [let_high _ (by omega)];rfl
    rw [if_pos hx,hr,if_pos hlt]
   ·have hr:=run_step letB _ pos hp hl (by rw [get_eq s pos hlt];exact hb)
    have hb2:let_ (s[pos].toNat:Int)=true:=hb
    have ha:s[pos].toNat < 128:=by
     apply Nat.lt_of_not_le;intro h
     rw [let_high _ (by omega)] at hb2;cases hb2
    have hx:¬ (!let_ (((Utf8.decode s pos).1:Nat):Int))=true:=by
     rw [hd,decodeN_low _ _ _ _ _ ha];simp [hb2]
    rw [if_neg hx]
    have e2:(Utf8.decode s pos).2=1:=by rw [hd,decodeN_low _ _ _ _ _ ha]
    rw [e2]
    exact idx_from s f (pos+1) hr (by omega)
  ·rw [if_neg hlt,if_neg (by omega)]
theorem indexFunc_any (s:ByteArray) (w:World) :
  Calls Tryz.prog 183 #[.string s,.func (.func 184) #[] #[]] w fun e w'=>e=.returned (.int .i64 (if run letB s.data.toList < s.size then (run letB s.data.toList:Int) else -1))∧Below w.heap.size w w':=by
 refine (Any.strings_IndexFunc_grows laysIF 184 #[] (enters_of Tryz.func184 (by kernel_rfl) rfl) (fun x=>!let_ (x:Int)) s w ?_).mono ?_
 ·intro W x _ _
  exact (millEndsName_any (x:Int) W).mono fun e w' ⟨h1,h2⟩=>⟨h1,h2 ▸ Below.refl _ _⟩
 ·rintro e w' ⟨rfl,hb⟩
  refine ⟨ret_int ?_,hb⟩
  exact idx_from s s.size 0 (Nat.zero_le _) (by omega)
set_option maxHeartbeats 400000 in
theorem millNameSize_any (s:ByteArray) (w:World) (_hs:s.size≤12000) :
  Calls Tryz.prog 155 #[.string s] w fun e w'=>e=.returned (.int .i64 (run letB s.data.toList))∧Below w.heap.size w w':=by
 have h1:=run_le letB s.data.toList
 rw [len_size] at h1
 by_cases hlt:run letB s.data.toList < s.size
 ·have HI:Hid ((if run letB s.data.toList < s.size then (run letB s.data.toList:Int) else -1)=(run letB s.data.toList:Int)):=if_pos hlt
  have HF:Hid (∀ W:World,Calls Tryz.prog 183 #[.string s,.func (.func 184) #[] #[]] W fun e w'=>e=.returned (.int .i64 (run letB s.data.toList))∧Below W.heap.size W w'):=fun W=>(indexFunc_any s W).mono fun e w' ⟨a,b⟩=>⟨by rw [a,HI.out],b⟩
  generalize run letB s.data.toList=k at *
  clear hlt HI
  go_enter Tryz.func155,Tryz.ntmps155
  go_wp2_with (go_at_call 183;refine (HF.out _).mono ?_;rintro e w1 ⟨rfl,hb⟩;have HB:=hid hb;clear hb)
  go_ret
  exact ⟨rfl,HB.out⟩
 ·have HI:Hid ((if run letB s.data.toList < s.size then (run letB s.data.toList:Int) else -1)=(-1:Int)):=if_neg hlt
  have HF:Hid (∀ W:World,Calls Tryz.prog 183 #[.string s,.func (.func 184) #[] #[]] W fun e w'=>e=.returned (.int .i64 (-1))∧Below W.heap.size W w'):=fun W=>(indexFunc_any s W).mono fun e w' ⟨a,b⟩=>⟨by rw [a,HI.out],b⟩
  have HE:Hid (run letB s.data.toList=s.size):=by show _=_;omega
  clear hlt HI h1
  go_enter Tryz.func155,Tryz.ntmps155
  go_wp2_with (go_at_call 183;refine (HF.out _).mono ?_;rintro e w1 ⟨rfl,hb⟩;have HB:=hid hb;clear hb)
  go_ret
  exact ⟨ret_int (by rw [HE.out]),HB.out⟩
def mwS (i:Nat):ByteArray:=⟨(mws.getD i []).toArray⟩
def mwE (n:Nat):Array MapEntry:=((List.range n).map fun i=>({ key:=.string (mwS i),val:=.int .i64 (mtype (mws.getD i [])),born:=i }:MapEntry)).toArray
theorem mwE_succ (n:Nat):mwE (n+1)=(mwE n).push { key:=.string (mwS n),val:=.int .i64 (mtype (mws.getD n [])),born:=n }:=by
 simp [mwE,List.range_succ]
theorem mwE_mem (n:Nat) (e:MapEntry):e ∈ (mwE n).toList ↔ ∃ i,i < n∧e={ key:=.string (mwS i),val:=.int .i64 (mtype (mws.getD i [])),born:=i }:=by
 simp only [mwE,List.mem_map,List.mem_range]
 constructor
 ·rintro ⟨i,hi,rfl⟩;exact ⟨i,hi,rfl⟩
 ·rintro ⟨i,hi,rfl⟩;exact ⟨i,hi,rfl⟩
theorem mw_apart:∀ i,i < 35→∀ j,j < i→mws.getD i []≠mws.getD j []:=by decide
theorem mwS_apart (i:Nat) (hi:i < 35) (j:Nat) (hj:j < i):(mwS i == mwS j)=false:=by
 rw [beq_toListBytes,beq_eq_false_iff_ne]
 intro e
 exact mw_apart i hi j hj (by rw [Lib.toList_data,Lib.toList_data] at e;simpa [mwS] using e)
theorem mw_ins (w:World) (i:Nat) (hi:i < 35) (s:ByteArray) (hs:s=mwS i) (v:Int) (hv:v=(mtype (mws.getD i []):Int)) :
  (Instr.mapUpdate 190 (.map (some w.heap.size)) (.string s) (.int .i64 v)).run Tryz.prog (w.alloc (.map (mwE i) i))=.ok () (w.alloc (.map (mwE (i+1)) (i+1))):=by
 subst hs;subst hv
 have hf:Instr.findNow .string (.string (mwS i)) (mwE i).toList 0=some none:=by
  refine find_none _ _ _ fun e he=>?_
  obtain ⟨j,hj,rfl⟩:=(mwE_mem i e).1 he
  exact ⟨_,rfl,mwS_apart i hi j hj⟩
 have hb:(w.alloc (.map (mwE i) i)).heap[w.heap.size]?=some (.map (mwE i) i):=heap_alloc_new w _
 have hc:∀ W,(Instr.checkKey false 10000 9 (.string (mwS i))).run Tryz.prog W=.ok () W:=fun W=>MapKept.run_checkKey (k:=.string (mwS i)) Tryz.underlying9 (by simp [MapKept.IsKey]) false 9999
 simp only [Instr.mapUpdate,Sem.run_bind,run_underlying Tryz.underlying190,MapKept.run_getObj_map hb,hc,MapKept.run_findKey Tryz.underlying9 hf,MapKept.run_setObj_map _ hb,Result.andThen]
 rw [mwE_succ]
 have e:((w.alloc (.map (mwE i) i)).heap.setIfInBounds w.heap.size (.map ((mwE i).push { key:=.string (mwS i),val:=.int .i64 (mtype (mws.getD i [])),born:=i }) (i+1)))=(w.alloc (.map ((mwE i).push { key:=.string (mwS i),val:=.int .i64 (mtype (mws.getD i [])),born:=i }) (i+1))).heap:=by
  exact set_last w.heap _ _
 rw [e];rfl
set_option maxRecDepth 20000 in
set_option maxHeartbeats 4000000 in
theorem millWords_any (w:World) :
  Calls Tryz.prog 137 #[] w fun e w'=>e=.returned (.map (some w.heap.size))∧w'=w.alloc (.map (mwE 35) 35):=by
 have f:(Instr.makeMap 190 none).run Tryz.prog w=.ok (.map (some w.heap.size)) (w.alloc (.map (mwE 0) 0)):=rfl
 have f0:=mw_ins w 0 (by decide) ⟨#[98,111,111,108]⟩ rfl 1 (by decide)
 have f1:=mw_ins w 1 (by decide) ⟨#[116,101,120,116]⟩ rfl 2 (by decide)
 have f2:=mw_ins w 2 (by decide) ⟨#[117,56]⟩ rfl 3 (by decide)
 have f3:=mw_ins w 3 (by decide) ⟨#[117,49,54]⟩ rfl 4 (by decide)
 have f4:=mw_ins w 4 (by decide) ⟨#[117,51,50]⟩ rfl 5 (by decide)
 have f5:=mw_ins w 5 (by decide) ⟨#[117,54,52]⟩ rfl 6 (by decide)
 have f6:=mw_ins w 6 (by decide) ⟨#[105,56]⟩ rfl 7 (by decide)
 have f7:=mw_ins w 7 (by decide) ⟨#[105,49,54]⟩ rfl 8 (by decide)
 have f8:=mw_ins w 8 (by decide) ⟨#[105,51,50]⟩ rfl 9 (by decide)
 have f9:=mw_ins w 9 (by decide) ⟨#[105,54,52]⟩ rfl 10 (by decide)
 have f10:=mw_ins w 10 (by decide) ⟨#[102,110]⟩ rfl 0 (by decide)
 have f11:=mw_ins w 11 (by decide) ⟨#[108,101,116]⟩ rfl 0 (by decide)
 have f12:=mw_ins w 12 (by decide) ⟨#[105,102]⟩ rfl 0 (by decide)
 have f13:=mw_ins w 13 (by decide) ⟨#[101,108,115,101]⟩ rfl 0 (by decide)
 have f14:=mw_ins w 14 (by decide) ⟨#[119,104,105,108,101]⟩ rfl 0 (by decide)
 have f15:=mw_ins w 15 (by decide) ⟨#[98,114,101,97,107]⟩ rfl 0 (by decide)
 have f16:=mw_ins w 16 (by decide) ⟨#[99,111,110,116,105,110,117,101]⟩ rfl 0 (by decide)
 have f17:=mw_ins w 17 (by decide) ⟨#[114,101,116,117,114,110]⟩ rfl 0 (by decide)
 have f18:=mw_ins w 18 (by decide) ⟨#[102,97,105,108]⟩ rfl 0 (by decide)
 have f19:=mw_ins w 19 (by decide) ⟨#[119,114,105,116,101]⟩ rfl 0 (by decide)
 have f20:=mw_ins w 20 (by decide) ⟨#[115,97,121]⟩ rfl 0 (by decide)
 have f21:=mw_ins w 21 (by decide) ⟨#[116,114,117,101]⟩ rfl 0 (by decide)
 have f22:=mw_ins w 22 (by decide) ⟨#[102,97,108,115,101]⟩ rfl 0 (by decide)
 have f23:=mw_ins w 23 (by decide) ⟨#[114,101,97,100]⟩ rfl 0 (by decide)
 have f24:=mw_ins w 24 (by decide) ⟨#[104,97,115]⟩ rfl 0 (by decide)
 have f25:=mw_ins w 25 (by decide) ⟨#[108,105,115,116]⟩ rfl 0 (by decide)
 have f26:=mw_ins w 26 (by decide) ⟨#[116,111,111,108]⟩ rfl 0 (by decide)
 have f27:=mw_ins w 27 (by decide) ⟨#[97,114,103]⟩ rfl 0 (by decide)
 have f28:=mw_ins w 28 (by decide) ⟨#[108,101,110]⟩ rfl 0 (by decide)
 have f29:=mw_ins w 29 (by decide) ⟨#[97,116]⟩ rfl 0 (by decide)
 have f30:=mw_ins w 30 (by decide) ⟨#[99,117,116]⟩ rfl 0 (by decide)
 have f31:=mw_ins w 31 (by decide) ⟨#[102,105,110,100]⟩ rfl 0 (by decide)
 have f32:=mw_ins w 32 (by decide) ⟨#[99,104,114]⟩ rfl 0 (by decide)
 have f33:=mw_ins w 33 (by decide) ⟨#[100,101,99]⟩ rfl 0 (by decide)
 have f34:=mw_ins w 34 (by decide) ⟨#[110,117,109]⟩ rfl 0 (by decide)
 go_enter Tryz.func137,Tryz.ntmps137
 go_wp2
 go_ret
 exact ⟨rfl,rfl⟩
theorem mwS_mem (t:List UInt8):(∃ i,i < 35∧mwS i=⟨t.toArray⟩) ↔ t ∈ mws:=by
 rw [mem_get]
 constructor
 ·rintro ⟨i,h,e⟩
  refine ⟨i,h,?_⟩
  have:=congrArg (fun b:ByteArray=>b.data.toList) e
  simpa [mwS] using this
 ·rintro ⟨i,hl,e⟩
  exact ⟨i,hl,by unfold mwS;rw [e]⟩
theorem mfind_some (s:ByteArray) (x:Value) (es:List MapEntry) (i:Nat) (hs:∀ e ∈ es,(∃ t,e.key=.string t)∧(e.key=.string s→e.val=x)) (h:∃ e ∈ es,e.key=.string s):∃ j,Instr.findNow .string (.string s) es i=some (some (j,x)):=by
 induction es generalizing i with
 | nil=>obtain ⟨e,he,_⟩:=h;simp at he
 | cons e es ih =>
  obtain ⟨⟨t,ht⟩,hv⟩:=hs e (List.mem_cons_self ..)
  unfold Instr.findNow
  rw [ht]
  simp only [Instr.sameNow]
  cases hq:(s == t) with
  | true =>
   have e2:s=t:=by rw [beq_toListBytes] at hq;exact bytes_eq hq
   exact ⟨i,by simp [hv (by rw [ht,e2])]⟩
  | false =>
   refine ih (i+1) (fun x hx=>hs x (List.mem_cons_of_mem _ hx)) ?_
   obtain ⟨x,hx,hk⟩:=h
   rcases List.mem_cons.1 hx with e2 | e2
   ·subst e2
    rw [ht] at hk
    cases hk
    rw [beq_toListBytes] at hq
    simp at hq
   ·exact ⟨x,e2,hk⟩
theorem mkey_val (s:ByteArray) (e:MapEntry) (he:e ∈ (mwE 35).toList):(∃ t,e.key=.string t)∧(e.key=.string s→e.val=.int .i64 (mtype s.data.toList)):=by
 obtain ⟨i,_,rfl⟩:=(mwE_mem 35 e).1 he
 refine ⟨⟨_,rfl⟩,fun h=>?_⟩
 simp only [Value.string.injEq] at h
 subst h;simp [mwS]
theorem mlookup2 (W:World) (r:Nat) (hb:W.heap[r]?=some (.map (mwE 35) 35)) (s:ByteArray) :
  (Instr.lookup 190 (.map (some r)) (.string s) true).run Tryz.prog W=.ok (.tuple #[.int .i64 (mtype s.data.toList),.bool (decide (s.data.toList ∈ mws))]) W:=by
 have hc:∀ b W,(Instr.checkKey b 10000 9 (.string s)).run Tryz.prog W=.ok () W:=fun b W=>MapKept.run_checkKey (k:=.string s) Tryz.underlying9 (by simp [MapKept.IsKey]) b 9999
 by_cases hm:s.data.toList ∈ mws
 ·obtain ⟨j,hf⟩:=mfind_some s _ (mwE 35).toList 0 (mkey_val s) (by
    obtain ⟨i,hi,e⟩:=(mwS_mem s.data.toList).2 hm
    exact ⟨_,(mwE_mem 35 _).2 ⟨i,hi,rfl⟩,by simp [e]⟩)
  simp only [Instr.lookup,Sem.run_bind,run_underlying Tryz.underlying190,MapKept.run_getObj_map hb,hc,MapKept.run_findKey Tryz.underlying9 hf,Result.andThen,Sem.run_pure]
  simp [hm]
 ·have hf:Instr.findNow .string (.string s) (mwE 35).toList 0=some none:=by
   refine find_none _ _ _ fun e he=>?_
   obtain ⟨j,hj,rfl⟩:=(mwE_mem 35 e).1 he
   refine ⟨_,rfl,?_⟩
   rw [beq_toListBytes,beq_eq_false_iff_ne]
   intro e2
   exact hm ((mwS_mem s.data.toList).1 ⟨j,hj,by rw [Lib.toList_data,Lib.toList_data] at e2;rw [e2]⟩)
  have h0:mtype s.data.toList=0:=by
   unfold mtype;rw [if_neg];intro h;exact hm ((mem_mws _).2 (.inl h))
  simp only [Instr.lookup,Sem.run_bind,run_underlying Tryz.underlying190,MapKept.run_getObj_map hb,hc,MapKept.run_findKey Tryz.underlying9 hf,Result.andThen,Sem.run_pure,Tryz.zeroValue3]
  simp [hm,h0]
end Go.Proofs.YtbkmglknbflkhaaGreatDoor.Q
namespace Go.Proofs.YtbkmglknbflkhaaGreatDoor.Q
open Go.RowKit Go.Shelf
set_option maxRecDepth 20000
set_option maxHeartbeats 400000 in
theorem l10Letter_any (c:Int) (w:World) :
  Calls Tryz.prog 151 #[.int .u8 c] w fun e w'=>e=.returned (.bool (mlt c))∧w'=w:=by
 go_enter Tryz.func151,Tryz.ntmps151
 go_wp2
 all_goals go_ret
 all_goals exact ⟨ret_bool (by unfold mlt;rw [Bool.eq_iff_iff];simp;try omega),rfl⟩
set_option maxHeartbeats 400000 in
theorem l10Digit_any (c:Int) (w:World) :
  Calls Tryz.prog 182 #[.int .u8 c] w fun e w'=>e=.returned (.bool (dig c))∧w'=w:=by
 go_enter Tryz.func182,Tryz.ntmps182
 go_wp2
 all_goals go_ret
 all_goals exact ⟨ret_bool (by unfold dig;rw [Bool.eq_iff_iff];simp;try omega),rfl⟩
set_option maxHeartbeats 400000 in
theorem l10Tail_any (c:Int) (w:World) :
  Calls Tryz.prog 153 #[.int .u8 c] w fun e w'=>e=.returned (.bool (let_ c))∧w'=w:=by
 rw [let_mlt]
 cases hb:mlt c <;> cases hd:dig c
 all_goals go_enter Tryz.func153,Tryz.ntmps153
 all_goals go_wp2_with (first
  | (go_at_call 151;refine (l10Letter_any _ _).mono ?_;rintro e w' ⟨rfl,rfl⟩)
  | (go_at_call 182;refine (l10Digit_any _ _).mono ?_;rintro e w' ⟨rfl,rfl⟩))
 all_goals go_ret
 all_goals exact ⟨ret_bool (by simp),rfl⟩
def twS (i:Nat):ByteArray:=⟨(tw i).toArray⟩
def bwS (i:Nat):ByteArray:=⟨(bws.getD i []).toArray⟩
def pwS (i:Nat):ByteArray:=⟨(pws.getD i []).toArray⟩
set_option maxHeartbeats 400000 in
theorem l10TypeWord_any (t:Nat) (h1:1≤t) (h2:t≤10) (w:World) :
  Calls Tryz.prog 192 #[.int .i64 t] w fun e w'=>e=.returned (.string (twS (t - 1)))∧w'=w:=by
 obtain rfl | rfl | rfl | rfl | rfl | rfl | rfl | rfl | rfl | rfl:t=1∨t=2∨t=3∨t=4∨t=5∨t=6∨t=7∨t=8∨t=9∨t=10:=by omega
 all_goals go_enter Tryz.func192,Tryz.ntmps192
 all_goals go_wp2
 all_goals go_ret
 all_goals exact ⟨rfl,rfl⟩
set_option maxHeartbeats 400000 in
theorem l10Type_any (s:ByteArray) (w:World) :
  Calls Tryz.prog 180 #[.string s] w fun e w'=>e=.returned (.int .i64 (mtype s.data.toList))∧w'=w:=by
 go_enter Tryz.func180,Tryz.ntmps180
 go_wp2
 go_loop [3] (fun i=>∃ k:Nat,1≤k∧k≤11∧i=.int .i64 k∧∀ j,j+1 < k→tw j≠s.data.toList) (fun i=>11 - (intOf i).toNat)
 case atStart=>exact ⟨1,by omega,by omega,rfl,fun j h=>by omega⟩
 case round =>
  obtain ⟨k,hk1,hk,rfl,hr⟩:=hrel
  have HR:=hid hr
  clear hr
  by_cases hlt:k≤10
  ·have HQ:=hid (str_eq (tw (k - 1)) s)
   by_cases he:tw (k - 1)=s.data.toList
   ·have hq:((twS (k - 1)).toList == s.toList)=true:=by unfold twS;rw [HQ.out];simpa using he
    have HE:Hid (mtype s.data.toList=k):=by
     show _=_;rw [← he,mtype_tw (k - 1) (by omega)];omega
    clear HQ he
    go_wp2_with (go_at_call 192;refine (l10TypeWord_any k hk1 hlt _).mono ?_;rintro e w' ⟨rfl,hw⟩;have hw2:=hw.symm;clear hw;subst hw2)
    go_ret
    exact ⟨ret_int (by rw [HE.out]),rfl⟩
   ·have hq:((twS (k - 1)).toList == s.toList)=false:=by unfold twS;rw [HQ.out];simpa using he
    have HN:=hid he
    clear HQ he
    go_wp2_with (go_at_call 192;refine (l10TypeWord_any k hk1 hlt _).mono ?_;rintro e w' ⟨rfl,hw⟩;have hw2:=hw.symm;clear hw;subst hw2)
    go_round
    case rel=>exact ⟨k+1,by omega,by omega,by go_num,fun j h=>by
     rcases Nat.lt_or_eq_of_le (show j+1≤k by omega) with h | h
     ·exact HR.out j h
     ·have e:j=k - 1:=by omega
      subst e;exact HN.out⟩
    case measure=>simp [intOf];omega
  ·have HE:Hid (mtype s.data.toList=0):=mtype_none _ fun i hi=>HR.out i (by omega)
   go_wp2
   go_ret
   exact ⟨ret_int (by rw [HE.out];rfl),rfl⟩
set_option maxHeartbeats 400000 in
theorem l10Signed_any (t:Nat) (h2:t≤10) (w:World) :
  Calls Tryz.prog 134 #[.int .i64 t] w fun e w'=>e=.returned (.bool (decide (7≤t)))∧w'=w:=by
 go_enter Tryz.func134,Tryz.ntmps134
 go_wp2
 all_goals go_ret
 all_goals exact ⟨ret_bool (by rw [Bool.eq_iff_iff];simp;try omega),rfl⟩
def bitsOf:Nat→Nat
 | 3=>8 | 7=>8 | 4=>16 | 8=>16 | 5=>32 | 9=>32 | _=>64
set_option maxHeartbeats 400000 in
theorem l10Bits_any (t:Nat) (h1:3≤t) (h2:t≤10) (w:World) :
  Calls Tryz.prog 133 #[.int .i64 t] w fun e w'=>e=.returned (.int .i64 (bitsOf t))∧w'=w:=by
 obtain rfl | rfl | rfl | rfl | rfl | rfl | rfl | rfl:t=3∨t=4∨t=5∨t=6∨t=7∨t=8∨t=9∨t=10:=by omega
 all_goals go_enter Tryz.func133,Tryz.ntmps133
 all_goals go_wp2
 all_goals go_ret
 all_goals exact ⟨rfl,rfl⟩
set_option maxHeartbeats 400000 in
theorem l10BuiltWord_any (t:Nat) (h1:1≤t) (h2:t≤12) (w:World) :
  Calls Tryz.prog 131 #[.int .i64 t] w fun e w'=>(∃ n,e=.returned (.tuple #[.string (bwS (t - 1)),.int .i64 n]))∧w'=w:=by
 obtain rfl | rfl | rfl | rfl | rfl | rfl | rfl | rfl | rfl | rfl | rfl | rfl:t=1∨t=2∨t=3∨t=4∨t=5∨t=6∨t=7∨t=8∨t=9∨t=10∨t=11∨t=12:=by omega
 all_goals go_enter Tryz.func131,Tryz.ntmps131
 all_goals go_wp2
 all_goals go_ret2
 all_goals exact ⟨⟨_,rfl⟩,rfl⟩
set_option maxHeartbeats 400000 in
theorem l10Plain_any (w:World) :
  Calls Tryz.prog 181 #[] w fun e w'=>e=.returned (.slice (some ⟨w.heap.size,0,none⟩) 13 13)∧w'=w.alloc (.cells (pws.map fun x=>Value.string ⟨x.toArray⟩).toArray 9):=by
 go_enter Tryz.func181,Tryz.ntmps181
 go_wp2
 go_ret
 exact ⟨rfl,rfl⟩
theorem pwS_cell (w:World) (i:Nat) (h:i < 13):(w.alloc (.cells (pws.map fun x=>Value.string ⟨x.toArray⟩).toArray 9)).cell? ⟨w.heap.size,i,none⟩=some (.string (pwS i)):=by
 rw [cell_new_row]
 have hl:i < pws.length:=h
 simp [pwS,hl]
set_option maxHeartbeats 1000000 in
theorem l10Taken_any (s:ByteArray) (w:World) :
  Calls Tryz.prog 152 #[.string s] w fun e w'=>e=.returned (.bool (decide (s.data.toList ∈ mws)))∧Below w.heap.size w w':=by
 have HM:=hid (mem_mws s.data.toList)
 by_cases h0:mtype s.data.toList=0
 ·have HT0:Hid (¬ s.data.toList ∈ tws):=fun h=>(mtype_pos _).2 h h0
  have HZ:=hid h0
  clear h0
  go_enter Tryz.func152,Tryz.ntmps152
  go_wp2_with (go_at_call 180;refine (l10Type_any s _).mono ?_;rintro e w' ⟨rfl,hw⟩;have hw2:=hw.symm;clear hw;subst hw2;rw [HZ.out])
  go_loop [3] (fun i=>∃ k:Nat,1≤k∧k≤13∧i=.int .i64 k∧∀ j,j+1 < k→bws.getD j []≠s.data.toList) (fun i=>13 - (intOf i).toNat)
  case atStart=>exact ⟨1,by omega,by omega,rfl,fun j h=>by omega⟩
  case round =>
   obtain ⟨k,hk1,hk,rfl,hr⟩:=hrel
   have HR:=hid hr
   clear hr
   by_cases hlt:k≤12
   ·have HQ:=hid (str_eq (bws.getD (k - 1) []) s)
    by_cases he:bws.getD (k - 1) []=s.data.toList
    ·have hq:((bwS (k - 1)).toList == s.toList)=true:=by unfold bwS;rw [HQ.out];simpa using he
     have HE:Hid (decide (s.data.toList ∈ mws)=true):=decide_eq_true (HM.out.2 (.inr (.inr ((mem_get _ _).2 ⟨k - 1,by (show k - 1 < 12);omega,he⟩))))
     clear HQ he HM
     go_wp2_with (go_at_call 131;refine (l10BuiltWord_any k hk1 hlt _).mono ?_;rintro e w' ⟨⟨nb,rfl⟩,hw⟩;have hw2:=hw.symm;clear hw;subst hw2)
     go_ret
     exact ⟨ret_bool (by rw [HE.out]),Below.refl _ _⟩
    ·have hq:((bwS (k - 1)).toList == s.toList)=false:=by unfold bwS;rw [HQ.out];simpa using he
     have HN:=hid he
     clear HQ he
     go_wp2_with (go_at_call 131;refine (l10BuiltWord_any k hk1 hlt _).mono ?_;rintro e w' ⟨⟨nb,rfl⟩,hw⟩;have hw2:=hw.symm;clear hw;subst hw2)
     go_round
     case rel=>exact ⟨k+1,by omega,by omega,by go_num,fun j h=>by
      rcases Nat.lt_or_eq_of_le (show j+1≤k by omega) with h | h
      ·exact HR.out j h
      ·have e:j=k - 1:=by omega
       subst e;exact HN.out⟩
     case measure=>simp [intOf];omega
   ·have HB0:Hid (¬ s.data.toList ∈ bws):=not_mem_get _ _ fun i hi=>HR.out i (by have:bws.length=12:=rfl;omega)
    clear HR
    go_wp2_with (go_at_call 181;refine (l10Plain_any _).mono ?_;rintro e w' ⟨rfl,rfl⟩)
    go_loop [7] (fun i=>∃ k:Nat,k≤13∧i=.int .i64 k∧∀ j,j < k→pws.getD j []≠s.data.toList) (fun i=>13 - (intOf i).toNat)
    case atStart=>exact ⟨0,by omega,rfl,fun j h=>by omega⟩
    case round =>
     obtain ⟨m,hm,rfl,hr⟩:=hrel
     have HR:=hid hr
     clear hr
     by_cases hlt2:m < 13
     ·have hcell:=pwS_cell w m hlt2
      have HQ:=hid (str_eq (pws.getD m []) s)
      by_cases he:pws.getD m []=s.data.toList
      ·have hq:((pwS m).toList == s.toList)=true:=by unfold pwS;rw [HQ.out];simpa using he
       have HE:Hid (decide (s.data.toList ∈ mws)=true):=decide_eq_true (HM.out.2 (.inr (.inl ((mem_get _ _).2 ⟨m,hlt2,he⟩))))
       clear HQ he HM
       go_wp2
       go_ret
       exact ⟨ret_bool (by rw [HE.out]),(Below.refl _ _).alloc (Nat.le_refl _) _⟩
      ·have hq:((pwS m).toList == s.toList)=false:=by unfold pwS;rw [HQ.out];simpa using he
       have HN:=hid he
       clear HQ he
       go_wp2
       go_round
       case rel=>exact ⟨m+1,by omega,by go_num,fun j h=>by
        rcases Nat.lt_or_eq_of_le (show j≤m by omega) with h | h
        ·exact HR.out j h
        ·subst h;exact HN.out⟩
       case measure=>simp [intOf];omega
     ·have HE:Hid (decide (s.data.toList ∈ mws)=false):=decide_eq_false fun h=>by
       rcases HM.out.1 h with h | h | h
       ·exact HT0.out h
       ·exact not_mem_get _ _ (fun i hi=>HR.out i (by have:pws.length=13:=rfl;omega)) h
       ·exact HB0.out h
      clear HM HT0 HB0 HR
      go_wp2
      go_ret
      exact ⟨ret_bool (by rw [HE.out]),(Below.refl _ _).alloc (Nat.le_refl _) _⟩
 ·have HE:Hid (decide (s.data.toList ∈ mws)=true):=decide_eq_true (HM.out.2 (.inl ((mtype_pos _).1 h0)))
  have h0':((mtype s.data.toList:Int) != 0)=true:=by simp;omega
  clear h0 HM
  go_enter Tryz.func152,Tryz.ntmps152
  go_wp2_with (go_at_call 180;refine (l10Type_any s _).mono ?_;rintro e w' ⟨rfl,hw⟩;have hw2:=hw.symm;clear hw;subst hw2)
  go_ret
  exact ⟨ret_bool (by rw [HE.out]),Below.refl _ _⟩
end Go.Proofs.YtbkmglknbflkhaaGreatDoor.Q
