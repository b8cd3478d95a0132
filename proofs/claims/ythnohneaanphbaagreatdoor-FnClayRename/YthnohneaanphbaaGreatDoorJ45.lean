import Derived.Shelf.Strconv.Clone
import Derived.Laws.StructEq
import Derived.Laws.AppendOwnNone
import Derived.Deep.DeepCutAuto
import Derived.Test.YthnohneaanphbaaGreatDoorJ42
import Derived.Test.YthnohneaanphbaaGreatDoorJ43
import Derived.Test.YthnohneaanphbaaGreatDoorJ39
import Derived.Test.YthnohneaanphbaaGreatDoorJ44
import Derived.Test.YthnohneaanphbaaGreatDoorJ41
namespace Go.Proofs.YthnohneaanphbaaGreatDoor
def GoodE (nd:Nat→Nd) (N:Nat) (kn:Env):Prop:=∀ t,kn t=-1∨kn t=-2∨∃ k:Nat,k < N∧kn t=(k:Int)∧(nd k).text=t
def GoodV (nd:Nat→Nd) (N:Nat):Ev→Prop
 | .bind k v=>(nd k).kind=5∧(v=-1∨v=-2∨∃ j:Nat,j < N∧v=(j:Int)∧(nd j).text=(nd k).text)
 | .flt _ _=>True
theorem GoodE.ext {nd:Nat→Nd} {N:Nat} {kn:Env} (h:GoodE nd N kn) {k:Nat} (hk:k < N):GoodE nd N (kn.ext (nd k).text k):=fun t=>by
 unfold Env.ext
 by_cases e:t=(nd k).text
 ·rw [if_pos e]
  exact .inr (.inr ⟨k,hk,rfl,e.symm⟩)
 ·rw [if_neg e]
  exact h t
theorem prm_good {nd:Nat→Nd} {N:Nat} {o:List (List Nat)} {W:Env→Nat→List Ev} (hW:∀ kn,GoodE nd N kn→∀ j,∀ e ∈ W kn j,GoodV nd N e) (ps:List Nat) (hps:∀ p ∈ ps,p < N) (kn:Env) (hk:GoodE nd N kn) (ns:List ByteArray) (d:Bool) :
  (∀ e ∈ (prm nd o W ps kn ns d).1,GoodV nd N e)∧GoodE nd N (prm nd o W ps kn ns d).2:=by
 induction ps generalizing kn ns d with
 | nil=>exact ⟨fun e h=>by simp [prm] at h,hk⟩
 | cons p ps ih =>
  obtain ⟨i1,i2⟩:=ih (fun q hq=>hps q (by simp [hq])) (kn.ext (nd p).text p) (hk.ext (hps p (by simp))) ((nd p).text :: ns) (d || !(o.getD p []).isEmpty)
  refine ⟨fun e he=>?_,i2⟩
  simp only [prm,List.mem_append] at he
  rcases he with he | he | he | he
  ·obtain ⟨j,_,hj⟩:=List.mem_flatMap.1 he
   exact hW kn hk j e hj
  ·split at he
   ·rw [List.mem_singleton] at he;subst he;trivial
   ·cases he
  ·split at he
   ·rw [List.mem_singleton] at he;subst he;trivial
   ·cases he
  ·exact i1 e he
theorem node_good {nd:Nat→Nd} {N:Nat} {o:List (List Nat)} {W:Env→Nat→List Ev} (hd:Down o) (hW:∀ kn,GoodE nd N kn→∀ j,∀ e ∈ W kn j,GoodV nd N e) {k:Nat} (hkN:k < N) (kn:Env) (hk:GoodE nd N kn):∀ e ∈ nodeE nd o W k kn,GoodV nd N e:=by
 intro e he
 unfold nodeE at he
 split at he
 ·rename_i h5
  unfold useE at he
  rw [List.mem_cons] at he
  rcases he with rfl | he
  ·refine ⟨h5,?_⟩
   rcases hk (nd k).text with h | h | ⟨j,h1,h2,h3⟩
   ·exact .inl h
   ·exact .inr (.inl h)
   ·exact .inr (.inr ⟨j,h1,h2,h3⟩)
  ·split at he
   ·rw [List.mem_singleton] at he;subst he;trivial
   ·cases he
 split at he
 ·rcases List.mem_append.1 he with he | he
  ·exact hW kn hk _ e he
  ·obtain ⟨j,_,hj⟩:=List.mem_flatMap.1 he
   exact hW _ (hk.ext hkN) j e hj
 split at he
 ·unfold fnE at he
  have hp:=prm_good (o:=o) hW (o.getD k []).dropLast (fun p hp=>by have:=hd k p (dropLast_sub hp);omega) kn hk [] false
  rcases List.mem_append.1 he with he | he
  ·exact hp.1 e he
  ·exact hW _ hp.2 _ e he
 split at he
 ·cases he
 ·obtain ⟨j,_,hj⟩:=List.mem_flatMap.1 he
  exact hW kn hk j e hj
theorem wk_good {nd:Nat→Nd} {N:Nat} {o:List (List Nat)} (hd:Down o) (k:Nat):k < N→∀ kn,GoodE nd N kn→∀ e ∈ wk nd o k kn,GoodV nd N e:=by
 induction k using Nat.strongRecOn with
 | ind k ih =>
  intro hkN kn hk
  rw [wk]
  refine node_good hd (fun kn hk j e he=>?_) hkN kn hk
  split at he
  ·rename_i hj
   exact ih j hj (by omega) kn hk e he
  ·cases he
theorem built_good (t:ByteArray):builtEnv t=-1∨builtEnv t=-2:=by
 unfold builtEnv
 split
 ·exact .inr rfl
 ·exact .inl rfl
theorem makers_lt {nd:Nat→Nd} {o:List (List Nat)} (hd:Down o) {s m N:Nat} (hs:s < N) (h:m ∈ makersOf nd o s):m < N:=by
 unfold makersOf at h
 split at h
 ·rw [List.mem_singleton] at h;omega
 ·split at h
  ·have:=hd s m h;omega
  ·cases h
theorem file_good {nd:Nat→Nd} {N:Nat} {o:List (List Nat)} (hd:Down o) (hN:1≤N):GoodE nd N (fileEnv nd o (o.getD (N - 1) []) builtEnv):=fun t=>by
 have key:fileEnv nd o (o.getD (N - 1) []) builtEnv t=((((o.getD (N - 1) []).flatMap (makersOf nd o)).find? fun m=>decide ((nd m).text=t)).map fun m=>(m:Int)).getD (builtEnv t):=by
  unfold fileEnv
  rw [fileF_find]
  rfl
 rw [key]
 cases hf:((o.getD (N - 1) []).flatMap (makersOf nd o)).find? fun m=>decide ((nd m).text=t) with
 | none =>
  rcases built_good t with h | h
  ·exact .inl h
  ·exact .inr (.inl h)
 | some m =>
  have hm:=List.mem_of_find?_eq_some hf
  have ht:=List.find?_some hf
  obtain ⟨s,hs,hms⟩:=List.mem_flatMap.1 hm
  have:=hd _ s hs
  exact .inr (.inr ⟨m,makers_lt hd (by omega) hms,rfl,by simpa using ht⟩)
theorem tree_good {nd:Nat→Nd} {N:Nat} {o:List (List Nat)} (hd:Down o) (hN:1≤N):∀ e ∈ treeE nd o N,GoodV nd N e:=by
 intro e he
 unfold treeE at he
 obtain ⟨s,hs,he⟩:=List.mem_flatMap.1 he
 have:=hd _ s hs
 rcases List.mem_append.1 he with he | he
 ·exact wk_good hd s (by omega) _ (file_good hd hN) e he
 ·obtain ⟨k,c,rfl⟩:=mksE_flts nd o s _ e he
  trivial
theorem apB_cases (ev:List Ev) (bn:Nat→Int) (i:Nat):apB bn ev i=bn i∨Ev.bind i (apB bn ev i) ∈ ev:=by
 induction ev generalizing bn with
 | nil=>exact .inl rfl
 | cons e ev ih =>
  cases e with
  | bind k v =>
   show apB (fun j=>if j=k then v else bn j) ev i=bn i∨Ev.bind i (apB (fun j=>if j=k then v else bn j) ev i) ∈ _
   rcases ih (fun j=>if j=k then v else bn j) with h | h
   ·rw [h]
    by_cases e:i=k
    ·subst e
     exact .inr (by simp)
    ·exact .inl (by simp [e])
   ·exact .inr (List.mem_cons_of_mem _ h)
  | flt k c =>
   show apB bn ev i=bn i∨Ev.bind i (apB bn ev i) ∈ _
   rcases ih bn with h | h
   ·exact .inl h
   ·exact .inr (List.mem_cons_of_mem _ h)
def BnOk (nd:Nat→Nd) (N i:Nat) (v:Int):Prop:=v=-1∨((nd i).kind=5∧(v=-2∨∃ j:Nat,j < N∧v=(j:Int)∧(nd j).text=(nd i).text))
theorem BindI.ok {nd:Nat→Nd} {N M:Nat} {bn:Nat→Int} (h:BindI nd N M bn) (i:Nat) (hi:i < M):BnOk nd N i (bn i):=by
 rcases h with ⟨h0,_⟩ | ⟨_,o,x,hv,ho,_,rfl⟩
 ·omega
 ·rcases apB_cases (treeE nd o N) (fun _=>-1) i with e | e
  ·exact .inl e
  ·have hg:=tree_good (down_of ho) hv.1 _ e
   obtain ⟨h5,h | h | h⟩:=hg
   ·exact .inl h
   ·exact .inr ⟨h5,.inl h⟩
   ·exact .inr ⟨h5,.inr h⟩
theorem BindI.fits {nd:Nat→Nd} {N M:Nat} {bn:Nat→Int} (h:BindI nd N M bn):0 < M ↔ FaultI nd N 0 0:=by
 rcases h with ⟨h0,h1⟩ | ⟨rfl,o,x,hv,ho,hf,_⟩
 ·constructor
  ·intro h;omega
  ·intro h;exact absurd h h1
 ·exact ⟨fun _=>.inr ⟨o,x,hv,ho,.inr ⟨hf,rfl,rfl⟩⟩,fun _=>hv.1⟩
end Go.Proofs.YthnohneaanphbaaGreatDoor
namespace Go.Proofs.YthnohneaanphbaaGreatDoor
open Go.RowKit Go.Shelf
def cl_ren:Go.Shelf.Ren:=⟨fun | 316=>43 | n=>n,fun | 5=>5 | 9=>9 | 3=>3 | 4=>4 | 37=>22 | 127=>124 | n=>n,fun n=>n⟩
theorem laysCl:Go.Proofs.LaysM.n316 Tryz.prog cl_ren where
 mixed:=by kernel_rfl
 f316:=Tryz.func43.trans (congrArg some (by kernel_rfl))
 t0:=Tryz.underlying0
 a0:=Tryz.isAgg0
 z0:=Tryz.sizeOf0
 v0:=Tryz.zeroValue0
 t3:=Tryz.underlying3
 a3:=Tryz.isAgg3
 z3:=Tryz.sizeOf3
 v3:=Tryz.zeroValue3
 t4:=Tryz.underlying4
 a4:=Tryz.isAgg4
 z4:=Tryz.sizeOf4
 v4:=Tryz.zeroValue4
 t9:=Tryz.underlying9
 a9:=Tryz.isAgg9
 z9:=Tryz.sizeOf9
 v9:=Tryz.zeroValue9
 t37:=Tryz.underlying22
 a37:=Tryz.isAgg22
 z37:=Tryz.sizeOf22
 v37:=Tryz.zeroValue22
 t127:=Tryz.underlying124
 a127:=Tryz.isAgg124
 z127:=Tryz.sizeOf124
 v127:=Tryz.zeroValue124
 t5:=Tryz.underlying5
 a5:=Tryz.isAgg5
 z5:=Tryz.sizeOf5
 v5:=Tryz.zeroValue5
 i0:=by kernel_rfl
 i3:=by kernel_rfl
 i4:=by kernel_rfl
 i9:=by kernel_rfl
 i37:=by kernel_rfl
 i127:=by kernel_rfl
 i5:=by kernel_rfl
theorem clone_any (s:ByteArray) (w:World) (hs:s.size≤1048576) :
  Calls Tryz.prog 20 #[.string s] w fun e w'=>e=.returned (.string s)∧Below w.heap.size w w':=by
 have HC:Hid (∀ W,Calls Tryz.prog 43 #[.string s] W fun e w'=>e=.returned (.string s)∧Below W.heap.size W w'):=fun W=>Any.stringslite_Clone laysCl s W (by omega)
 go_enter Tryz.func20,Tryz.ntmps20
 go_wp2_with fail
 refine (HC.out _).mono ?_
 rintro e w1 ⟨rfl,hb⟩
 have HB:=hid hb
 clear hb
 go_wp2
 go_ret
 exact ⟨rfl,HB.out⟩
end Go.Proofs.YthnohneaanphbaaGreatDoor
namespace Go.Proofs.YthnohneaanphbaaGreatDoor
open Go.RowKit Go.Maps Go.WideMaps
set_option maxRecDepth 20000
def keyI (k:Nat):Lit:=.int .i64 (k:Int)
theorem keyI_ne {a b:Nat} (h:¬ a=b):keyI a≠keyI b:=fun e=>h (by unfold keyI at e;injection e with _ e;omega)
theorem keyI_wf {k:Nat} (h:k≤1048576):(Lit.int .i64 (k:Int)).wf=true:=by
 have e:IntKind.i64.min=-9223372036854775808:=by decide
 simp [Lit.wf,e]
 omega
theorem keyI_key (k:Nat):WideAt.IsKeyLit (keyI k):=by simp [keyI,WideAt.IsKeyLit]
def PlInv (D:DataW Unit) (a j:Nat) (bn:Nat→Int):Prop:=∀ k:Nat,Maps.has D (keyI k)=true ↔ k=a∨(k < j∧bn k=(a:Int))
theorem PlInv_start {D:DataW Unit} (hD:∀ l,Maps.has D l=false) (hT:Tidy D) (a:Nat) (bn:Nat→Int):PlInv (D.put (keyI a) (.agg [])) a 0 bn:=by
 intro k
 by_cases e:a=k
 ·subst e
  exact ⟨fun _=>.inl rfl,fun _=>Maps.has_put_same hT.isMap (keyI_key a) _⟩
 ·rw [Maps.has_put_other (keyI_ne fun h=>e h.symm),hD]
  constructor
  ·intro h;cases h
  ·rintro (h | ⟨h,_⟩)
   ·exact absurd h.symm e
   ·exact absurd h (Nat.not_lt_zero _)
theorem PlInv_yes {D:DataW Unit} {a j:Nat} {bn:Nat→Int} (hT:Tidy D) (h:PlInv D a j bn) (hj:bn j=(a:Int)):PlInv (D.put (keyI j) (.agg [])) a (j+1) bn:=by
 intro k
 by_cases e:j=k
 ·subst e
  exact ⟨fun _=>.inr ⟨by omega,hj⟩,fun _=>Maps.has_put_same hT.isMap (keyI_key j) _⟩
 ·rw [Maps.has_put_other (keyI_ne fun h=>e h.symm),h k]
  constructor
  ·rintro (h | ⟨h,h2⟩)
   ·exact .inl h
   ·exact .inr ⟨by omega,h2⟩
  ·rintro (h | ⟨h,h2⟩)
   ·exact .inl h
   ·exact .inr ⟨by omega,h2⟩
theorem PlInv_no {D:DataW Unit} {a j:Nat} {bn:Nat→Int} (h:PlInv D a j bn) (hj:¬ bn j=(a:Int)):PlInv D a (j+1) bn:=by
 intro k
 rw [h k]
 constructor
 ·rintro (h | ⟨h,h2⟩)
  ·exact .inl h
  ·exact .inr ⟨by omega,h2⟩
 ·rintro (h | ⟨h,h2⟩)
  ·exact .inl h
  ·rcases Nat.lt_or_eq_of_le (Nat.lt_succ_iff.1 h) with h | h
   ·exact .inr ⟨h,h2⟩
   ·subst h;exact absurd h2 hj
set_option maxHeartbeats 2000000 in
theorem placesOf_any (g N c a:Nat) (bn:Nat→Int) (w:World) (hN:N≤1048576) (ha:a < N) (hg:g < w.heap.size) (hc:∀ i,i < N→w.cell? ⟨g,i,none⟩=some (.int .i64 (bn i))) :
  Calls Tryz.prog 19 #[.slice (some ⟨g,0,none⟩) N c,.int .i64 a] w fun e w'=>∃ n D,e=.returned (.map (some w.heap.size))∧w'.ownsMap Tryz.prog 3 unitElem w.heap.size n D∧PlInv D a N bn∧Below w.heap.size w w':=by
 have HC:=hid hc
 clear hc
 have hmm:=@run_makeMap Tryz.prog
 have hT0:=(World.ownsMap_made (H:=Unit) w Tryz.prog 3 unitElem).tidy (int_keyed Tryz.underlying3)
 obtain ⟨w1,hrun,hown1,hgrow1⟩:=(World.ownsMap_made (H:=Unit) w Tryz.prog 3 unitElem).update (int_keyed Tryz.underlying3) Tryz.underlying50 (by unfold maxLen;omega) (keyOf_int_mk Tryz.underlying3 (keyI_wf (k:=a) (by omega))) unitElem_mk
 have HO1:=hid hown1
 have HI1:=hid (PlInv_start (D:=.map []) (fun l=>by simp [Maps.has_eq]) hT0 a bn)
 have HB1:=hid (((Below.refl w.heap.size w).alloc (Nat.le_refl _) (.map #[] 0)).grown hgrow1 (by simp) (fun k e=>by injection e with e;omega))
 clear hown1 hgrow1 hT0
 go_enter Tryz.func19,Tryz.ntmps19
 go_wp2
 clear hmm hrun
 go_loopw [14] (fun i wr=>∃ (j n:Nat) (D:DataW Unit),j≤N∧n≤j+1∧i=.int .i64 j∧wr.ownsMap Tryz.prog 3 unitElem w.heap.size n D∧PlInv D a j bn∧Below w.heap.size w wr) (fun i _=>N - (intOf i).toNat)
 case atStart=>exact ⟨0,1,_,Nat.zero_le _,Nat.le_refl _,rfl,HO1.out,HI1.out,HB1.out⟩
 case round =>
  obtain ⟨j,n,D,hj,hn,rfl,hown,hinv,hbw⟩:=hrel
  have HBW:=hid hbw
  have HINV:=hid hinv
  have HOWN:=hid hown
  clear hbw hinv hown
  by_cases hlt:j < N
  ·have c0:=(HBW.out.cell (p:=⟨g,j,none⟩) hg).trans (HC.out j hlt)
   by_cases he:bn j=(a:Int)
   ·have hT:=HOWN.out.tidy (int_keyed Tryz.underlying3)
    have HN:=hid (PlInv_yes hT HINV.out he)
    obtain ⟨w2,hrun,hown2,hgrow2⟩:=HOWN.out.update (int_keyed Tryz.underlying3) Tryz.underlying50 (by unfold maxLen;omega) (keyOf_int_mk Tryz.underlying3 (keyI_wf (k:=j) (by omega))) unitElem_mk
    have HO2:=hid hown2
    have HB2:=hid (HBW.out.grown hgrow2 HBW.out.size (fun k e=>by injection e with e;omega))
    rw [he] at c0
    clear hown2 hgrow2 hT he
    go_wp2
    go_roundw
    case rel=>exact ⟨j+1,n+1,_,by omega,by omega,by go_num,HO2.out,HN.out,HB2.out⟩
    case measure=>simp [intOf];omega
   ·have HN:=hid (PlInv_no HINV.out he)
    have hq:(bn j == (a:Int))=false:=by simp [he]
    clear he
    go_wp2
    go_roundw
    case rel=>exact ⟨j+1,n,_,by omega,by omega,by go_num,HOWN.out,HN.out,HBW.out⟩
    case measure=>simp [intOf];omega
  ·obtain rfl:j=N:=by omega
   go_wp2
   go_ret
   exact ⟨n,D,rfl,HOWN.out,HINV.out,HBW.out⟩
end Go.Proofs.YthnohneaanphbaaGreatDoor
namespace Go.Proofs.YthnohneaanphbaaGreatDoor
open Go.RowKit
set_option maxRecDepth 20000
theorem eqFlt9 (c a c' a':Int) (w:World):(Op.equalIn 10000 37 (.agg #[.int .i64 c,.int .i64 a]) (.agg #[.int .i64 c',.int .i64 a'])).run Tryz.prog w=.ok (c == c' && a == a') w:=by
 have u3:=Tryz.underlying3
 have hS:Tryz.prog.underlying 37=some (.struct (Tryz.prog.fieldsOf 37)):=by kernel_rfl
 have hp:Tryz.prog.stoodInHeld 37=false:=by kernel_rfl
 rw [show (10000:Nat)=9999+1 from rfl,run_equalIn_agg w 9999 37 _ _ hS hp]
 simp only [Program.fieldsOf,Tryz.underlying37]
 go_simp
 by_cases h1:c=c' <;> by_cases h2:a=a' <;> simp [h1,h2]
theorem eqlFlt9 (c a:Int) (w:World):(binOp .eql 37 (.agg #[.int .i64 c,.int .i64 a]) (.agg #[.int .i64 0,.int .i64 0])).run Tryz.prog w=.ok (.bool (c == 0 && a == 0)) w:=by
 rw [run_eql_struct,eqFlt9]
 simp
set_option maxHeartbeats 1000000 in
theorem wcFits_of (v:Value) (c a:Int) (w:World) (hs:∀ W,Below w.heap.size w W→Calls Tryz.prog 10 #[.agg #[v]] W fun e w'=>e=.returned (.agg #[.int .i64 c,.int .i64 a])∧Below W.heap.size W w') (hv:∃ ad n k,v=.slice ad n k) :
  Calls Tryz.prog 9 #[.agg #[v]] w fun e w'=>e=.returned (.bool (c == 0 && a == 0))∧Below w.heap.size w w':=by
 obtain ⟨ad,n,k,rfl⟩:=hv
 have HA:=hid ((Below.refl w.heap.size w).alloc (Nat.le_refl _) (.cells #[.slice ad n k] 25))
 have HS:=hid (hs _ HA.out)
 have he:=fun W=>eqlFlt9 c a W
 clear hs
 go_enter Tryz.func9,Tryz.ntmps9
 go_wp2_with fail
 refine HS.out.mono ?_
 rintro e w1 ⟨rfl,hb⟩
 have HB:=hid (HA.out.trans (hb.mono (by simp)))
 clear hb
 go_wp2
 go_ret
 exact ⟨rfl,HB.out⟩
end Go.Proofs.YthnohneaanphbaaGreatDoor
namespace Go.Proofs.YthnohneaanphbaaGreatDoor
def bnl:List Ev→List (Nat × Nat)
 | []=>[]
 | .bind k _ :: r=>(k,8) :: bnl r
 | .flt _ _ :: r=>bnl r
theorem bnl_append (a b:List Ev):bnl (a ++ b)=bnl a ++ bnl b:=by
 induction a with
 | nil=>rfl
 | cons x a ih=>cases x <;> simp [bnl,ih]
theorem bnl_flatMap {α:Type} (l:List α) (f:α→List Ev):bnl (l.flatMap f)=l.flatMap fun x=>bnl (f x):=by
 induction l with
 | nil=>rfl
 | cons a l ih=>rw [List.flatMap_cons,List.flatMap_cons,bnl_append,ih]
theorem mem_bnl {k:Nat} {v:Int} {l:List Ev} (h:Ev.bind k v ∈ l):(k,8) ∈ bnl l:=by
 induction l with
 | nil=>cases h
 | cons x l ih =>
  rcases List.mem_cons.1 h with e | h2
  ·subst e
   simp [bnl]
  ·cases x with
   | bind j u=>exact List.mem_cons_of_mem _ (ih h2)
   | flt j c=>exact ih h2
theorem bnl_flts {l:List Ev} (h:∀ e ∈ l,∃ k c,e=.flt k c):bnl l=[]:=by
 induction l with
 | nil=>rfl
 | cons x l ih =>
  obtain ⟨k,c,rfl⟩:=h x (by simp)
  exact ih fun e he=>h e (by simp [he])
theorem bsrt_prm {nd:Nat→Nd} {o:List (List Nat)} {W:Env→Nat→List Ev} (ps:List Nat) (a b:Nat) (h:Tile o a ps b) (ht:∀ p ∈ ps,Tile o (low o p) (o.getD p []) p) (hW:∀ p ∈ ps,∀ j ∈ o.getD p [],∀ kn,Srt (low o j) (j+1) (bnl (W kn j))) (kn:Env) (ns:List ByteArray) (d:Bool):Srt a b (bnl (prm nd o W ps kn ns d).1):=by
 induction ps generalizing a kn ns d with
 | nil=>exact Srt.nil _ _
 | cons p ps ih =>
  have i:=ih (p+1) h.2.2 (fun q hq=>ht q (by simp [hq])) (fun q hq=>hW q (by simp [hq])) (kn.ext (nd p).text p) ((nd p).text :: ns) (d || !(o.getD p []).isEmpty)
  have t:=ht p (by simp)
  rw [h.1] at t
  have k1:Srt a p (bnl ((o.getD p []).flatMap (W kn))):=by
   rw [bnl_flatMap]
   exact srt_tile _ _ _ t fun j hj=>hW p (by simp) j hj kn
  have k2:bnl (if inL (nd p).text ns=true then [.flt p 8] else [])=[]:=by split <;> rfl
  have k3:bnl (if d=true∧o.getD p []=[] then [.flt p 10] else [])=[]:=by split <;> rfl
  have:=h.2.1
  have:=h.2.2.le
  simp only [prm,bnl_append]
  rw [k2,k3,List.nil_append,List.nil_append]
  exact (k1.mono (Nat.le_refl _) (Nat.le_succ _)).append i (by omega) (by omega)
theorem bsrt_wk {nd:Nat→Nd} {o:List (List Nat)} (hd:Down o) (N:Nat) (hk:∀ k,k < N→Kidded nd o k) (ht:∀ k,k < N→Tile o (low o k) (o.getD k []) k) (k:Nat):k < N→∀ kn,Srt (low o k) (k+1) (bnl (wk nd o k kn)):=by
 induction k using Nat.strongRecOn with
 | ind k ih =>
  intro hN kn
  have t:=ht k hN
  have tl:=t.le
  have go:∀ j ∈ o.getD k [],∀ kn,Srt (low o j) (j+1) (bnl (wk nd o j kn)):=fun j hj kn=>ih j (hd k j hj) (by have:=hd k j hj;omega) kn
  rw [wk_eq hd (hk k hN)]
  by_cases h5:(nd k).kind=5
  ·unfold nodeE
   rw [if_pos h5]
   unfold useE
   have e:bnl (Ev.bind k (kn (nd k).text) :: (if kn (nd k).text=-1 then [.flt k 9] else []))=[(k,8)]:=by split <;> rfl
   rw [e]
   exact (Srt.one k 8 (by decide)).mono tl (Nat.le_refl _)
  ·suffices h:Srt (low o k) k (bnl (nodeE nd o (fun kn j=>wk nd o j kn) k kn)) from h.mono (Nat.le_refl _) (Nat.le_succ _)
   unfold nodeE
   rw [if_neg h5]
   split
   ·rename_i h0
    obtain ⟨x,r,e⟩:=List.exists_cons_of_ne_nil (hk k hN (by omega))
    rw [e] at t go ⊢
    rw [bnl_append,bnl_flatMap]
    have:=go x (by simp) kn
    rw [t.1] at this
    exact this.append (srt_tile _ _ _ t.2.2 fun j hj=>go j (by simp [show j ∈ r from hj]) _) (by have:=t.2.1;omega) t.2.2.le
   split
   ·rename_i h0 _
    have hne:=hk k hN (by omega)
    have hm:=getLastD_mem hne
    unfold fnE
    rw [last_split hne] at t
    obtain ⟨m,t1,t2⟩:=t.split
    have:=go _ hm (prm nd o (fun kn j=>wk nd o j kn) (o.getD k []).dropLast kn [] false).2
    rw [t2.1] at this
    rw [bnl_append]
    have e:(o.getD k []).getLastD 0+1=k:=t2.2.2
    have:=(bsrt_prm (nd:=nd) (W:=fun kn j=>wk nd o j kn) _ _ _ t1 (fun p hp=>ht p (by have:=hd k p (dropLast_sub hp);omega)) (fun p hp j hj kn=>ih j (by have:=hd k p (dropLast_sub hp);have:=hd p j hj;omega) (by have:=hd k p (dropLast_sub hp);have:=hd p j hj;omega) kn) kn [] false).append this t1.le (by have:=t2.2.1;omega)
    exact this.mono (Nat.le_refl _) (by omega)
   split
   ·exact Srt.nil _ _
   ·rw [bnl_flatMap]
    exact srt_tile _ _ _ t fun j hj=>go j hj kn
theorem apB_of_mem {E:List Ev} (hs:(bnl E).Pairwise FLt) {k:Nat} {v:Int} (h:Ev.bind k v ∈ E) (bn:Nat→Int):apB bn E k=v:=by
 induction E generalizing bn with
 | nil=>cases h
 | cons x E ih =>
  cases x with
  | bind j u =>
   have hs':((j,8) :: bnl E).Pairwise FLt:=hs
   rw [List.pairwise_cons] at hs'
   rcases List.mem_cons.1 h with e | h
   ·injection e with e1 e2
    subst e1 e2
    show apB (fun i=>if i=k then v else bn i) E k=v
    rcases apB_cases E (fun i=>if i=k then v else bn i) k with e | e
    ·rw [e];simp
    ·have:=hs'.1 _ (mem_bnl e)
     unfold FLt at this
     simp at this
   ·exact ih hs'.2 h _
  | flt j c =>
   rcases List.mem_cons.1 h with e | h
   ·cases e
   ·exact ih hs h bn
structure Rel (a:Nat) (s:ByteArray) (kn kn':Env):Prop where
 old:∀ x,x≠s→kn x≠(a:Int)→kn' x=kn x
 new:∀ x,kn x=(a:Int)→kn' s=(a:Int)
theorem Rel.other {a k:Nat} {s x:ByteArray} {kn kn':Env} (h:Rel a s kn kn') (hk:k≠a) (hx:x≠s):Rel a s (kn.ext x k) (kn'.ext x k):=by
 refine ⟨fun y hy hne=>?_,fun y hy=>?_⟩
 ·unfold Env.ext at hne ⊢
  by_cases e:y=x
  ·rw [if_pos e,if_pos e]
  ·rw [if_neg e] at hne
   rw [if_neg e,if_neg e]
   exact h.old y hy hne
 ·unfold Env.ext at hy ⊢
  by_cases e:y=x
  ·rw [if_pos e] at hy
   omega
  ·rw [if_neg e] at hy
   rw [if_neg (fun e=>hx e.symm)]
   exact h.new y hy
theorem Rel.self {a:Nat} {s x:ByteArray} {kn kn':Env} (h:Rel a s kn kn'):Rel a s (kn.ext x a) (kn'.ext s a):=by
 refine ⟨fun y hy hne=>?_,fun y hy=>?_⟩
 ·unfold Env.ext at hne ⊢
  by_cases e:y=x
  ·rw [if_pos e] at hne
   exact absurd rfl hne
  ·rw [if_neg e] at hne
   rw [if_neg e,if_neg hy]
   exact h.old y hy hne
 ·unfold Env.ext
  rw [if_pos rfl]
structure RnT (nd nd':Nat→Nd) (N a:Nat) (s:ByteArray) (bn:Nat→Int) (E:List Ev):Prop where
 ka:(nd a).kind=14∨(nd a).kind=16
 fr:∀ i,i < N→(nd i).text≠s
 ev:∀ k v,Ev.bind k v ∈ E→bn k=v
 b5:∀ i,i < N→bn i=(a:Int)→(nd i).kind=5
 is:∀ i,nd' i=if i=a∨bn i=(a:Int) then { nd i with text:=s } else nd i
theorem RnT.kind {nd nd':Nat→Nd} {N a:Nat} {s:ByteArray} {bn:Nat→Int} {E:List Ev} (h:RnT nd nd' N a s bn E) (i:Nat):(nd' i).kind=(nd i).kind:=by
 rw [h.is i]
 split <;> rfl
theorem RnT.text {nd nd':Nat→Nd} {N a:Nat} {s:ByteArray} {bn:Nat→Int} {E:List Ev} (h:RnT nd nd' N a s bn E) {i:Nat} (hi:i < N) (h5:(nd i).kind≠5) (hia:i≠a):(nd' i).text=(nd i).text:=by
 rw [h.is i,if_neg]
 rintro (e | e)
 ·exact hia e
 ·exact h5 (h.b5 i hi e)
theorem prm_ren {nd nd':Nat→Nd} {N a:Nat} {s:ByteArray} {bn:Nat→Int} {E:List Ev} (h:RnT nd nd' N a s bn E) {o:List (List Nat)} {W W':Env→Nat→List Ev} (ps:List Nat) (hps:∀ p ∈ ps,p < N∧(nd p).kind=19)
  (hW:∀ p ∈ ps,∀ j ∈ o.getD p [],∀ kn kn',Rel a s kn kn'→(∀ e ∈ W kn j,e ∈ E)→W' kn' j=W kn j) (kn kn':Env) (hr:Rel a s kn kn') (ns:List ByteArray) (d:Bool) (hE:∀ e ∈ (prm nd o W ps kn ns d).1,e ∈ E) :
  (prm nd' o W' ps kn' ns d).1=(prm nd o W ps kn ns d).1∧Rel a s (prm nd o W ps kn ns d).2 (prm nd' o W' ps kn' ns d).2:=by
 induction ps generalizing kn kn' ns d with
 | nil=>exact ⟨rfl,hr⟩
 | cons p ps ih =>
  obtain ⟨hpN,hp19⟩:=hps p (by simp)
  have hpa:p≠a:=fun e=>by have:=h.ka;rw [← e,hp19] at this;omega
  have ht:=h.text hpN (by rw [hp19];decide) hpa
  simp only [prm] at hE ⊢
  rw [ht]
  obtain ⟨i1,i2⟩:=ih (fun q hq=>hps q (by simp [hq])) (fun q hq=>hW q (by simp [hq])) (kn.ext (nd p).text p) (kn'.ext (nd p).text p) (hr.other hpa (h.fr p hpN)) ((nd p).text :: ns) (d || !(o.getD p []).isEmpty) (fun e he=>hE e (by simp only [List.mem_append];exact .inr (.inr (.inr he))))
  rw [i1]
  refine ⟨?_,i2⟩
  congr 1
  exact flatMap_congr' fun j hj=>hW p (by simp) j hj kn kn' hr fun e he=>hE e (by simp only [List.mem_append];exact .inl (List.mem_flatMap.2 ⟨j,hj,he⟩))
theorem dl_get (L:List Nat) (i:Nat) (hi:i < L.dropLast.length):L.dropLast[i]=L.getD i 0:=by
 have hl:i < L.length:=by have:=hi;rw [List.length_dropLast] at this;omega
 rw [List.getElem_dropLast,List.getD_eq_getElem?_getD,List.getElem?_eq_getElem hl]
 rfl
theorem wk_ren {nd nd':Nat→Nd} {N a:Nat} {s:ByteArray} {bn:Nat→Int} {E:List Ev} (h:RnT nd nd' N a s bn E) {o:List (List Nat)} (hd:Down o) (hf:∀ i,i < N→FitAt nd o i) (k:Nat) :
  k < N→∀ kn kn',Rel a s kn kn'→(∀ e ∈ wk nd o k kn,e ∈ E)→wk nd' o k kn'=wk nd o k kn:=by
 induction k using Nat.strongRecOn with
 | ind k ih =>
  intro hkN kn kn' hr hE
  have hkd:=fits_kidded hf k hkN
  have hkd':Kidded nd' o k:=fun hh=>hkd (by rw [h.kind k] at hh;exact hh)
  have go:∀ j ∈ o.getD k [],∀ kn kn',Rel a s kn kn'→(∀ e ∈ wk nd o j kn,e ∈ E)→wk nd' o j kn'=wk nd o j kn:=fun j hj=>ih j (hd k j hj) (by have:=hd k j hj;omega)
  rw [wk_eq hd hkd] at hE
  rw [wk_eq hd hkd,wk_eq hd hkd']
  unfold nodeE at hE ⊢
  rw [h.kind k]
  by_cases h5:(nd k).kind=5
  ·rw [if_pos h5] at hE
   rw [if_pos h5,if_pos h5]
   have hka:k≠a:=fun e=>by have:=h.ka;rw [← e,h5] at this;omega
   have hb:bn k=kn (nd k).text:=h.ev k _ (hE _ (by unfold useE;simp))
   have hv:kn' (nd' k).text=kn (nd k).text:=by
    rw [h.is k]
    by_cases e:bn k=(a:Int)
    ·rw [if_pos (.inr e)]
     show kn' s=_
     rw [hb] at e
     rw [hr.new _ e,e]
    ·rw [if_neg (fun hh=>hh.elim hka e)]
     exact hr.old _ (h.fr k hkN) (by rw [← hb];exact e)
   unfold useE
   rw [hv]
  ·rw [if_neg h5] at hE
   rw [if_neg h5,if_neg h5]
   by_cases h14:(nd k).kind=14∨(nd k).kind=16
   ·rw [if_pos h14] at hE
    rw [if_pos h14,if_pos h14]
    obtain ⟨x,r,e⟩:=List.exists_cons_of_ne_nil (hkd (by omega))
    rw [e] at hE go ⊢
    have hre:Rel a s (kn.ext (nd k).text k) (kn'.ext (nd' k).text k):=by
     by_cases hka:k=a
     ·have ht:(nd' k).text=s:=by rw [h.is k,if_pos (.inl hka)]
      rw [ht,hka]
      exact hr.self
     ·rw [h.text hkN h5 hka]
      exact hr.other hka (h.fr k hkN)
    congr 1
    ·exact go x (by simp) kn kn' hr fun e he=>hE e (List.mem_append.2 (.inl he))
    ·exact flatMap_congr' fun j hj=>go j (List.mem_cons_of_mem _ (show j ∈ r from hj)) _ _ hre fun e he=>hE e (List.mem_append.2 (.inr (List.mem_flatMap.2 ⟨j,hj,he⟩)))
   ·rw [if_neg h14] at hE
    rw [if_neg h14,if_neg h14]
    by_cases h15:(nd k).kind=15∨(nd k).kind=20
    ·rw [if_pos h15] at hE
     rw [if_pos h15,if_pos h15]
     have hne:=hkd (by omega)
     have hps:∀ p ∈ (o.getD k []).dropLast,p < N∧(nd p).kind=19:=fun p hp=>by
      refine ⟨by have:=hd k p (dropLast_sub hp);omega,?_⟩
      obtain ⟨i,hi,rfl⟩:=List.getElem_of_mem hp
      have hl:i < (o.getD k []).length - 1:=by simpa using hi
      have hk9:=(hf k hkN).2
      have:(nd ((o.getD k []).getD i 0)).kind=19:=by
       rcases hk9 with ⟨hk,_⟩ | ⟨hk,_⟩ | ⟨hk,_⟩ | ⟨hk,_⟩ | ⟨hk,_⟩ | ⟨hk,_⟩ | ⟨hk,_⟩ | ⟨hk,_⟩ | ⟨hk,_⟩ | ⟨_,_,_,hk,_⟩ | ⟨hk,_⟩ | ⟨hk,_⟩
       all_goals first | (exact hk i (by omega)) | omega
      rw [dl_get]
      exact this
     unfold fnE at hE ⊢
     obtain ⟨i1,i2⟩:=prm_ren h (o:=o) (W:=fun kn j=>wk nd o j kn) (W':=fun kn j=>wk nd' o j kn) (o.getD k []).dropLast hps (fun p hp j hj kn kn' hr hE=>ih j (by have:=hd k p (dropLast_sub hp);have:=hd p j hj;omega) (by have:=hd k p (dropLast_sub hp);have:=hd p j hj;omega) kn kn' hr hE) kn kn' hr [] false (fun e he=>hE e (List.mem_append.2 (.inl he)))
     rw [i1]
     congr 1
     exact go _ (getLastD_mem hne) _ _ i2 fun e he=>hE e (List.mem_append.2 (.inr he))
    ·rw [if_neg h15] at hE
     rw [if_neg h15,if_neg h15]
     by_cases h23:(nd k).kind=23
     ·rw [if_pos h23,if_pos h23]
     ·rw [if_neg h23] at hE
      rw [if_neg h23,if_neg h23]
      exact flatMap_congr' fun j hj=>go j hj kn kn' hr fun e he=>hE e (List.mem_flatMap.2 ⟨j,hj,he⟩)
end Go.Proofs.YthnohneaanphbaaGreatDoor
namespace Go.Proofs.YthnohneaanphbaaGreatDoor
open Go.RowKit
set_option maxRecDepth 20000
theorem eqNd9 (k o n kd:Int) (t:ByteArray) (w:World):(Op.equalIn 10000 35 (.agg #[.int .i64 k,.int .i64 o,.int .i64 n,.string t,.int .i64 kd]) (.agg #[.int .i64 k,.int .i64 o,.int .i64 n,.string t,.int .i64 kd])).run Tryz.prog w=.ok true w:=by
 have u3:=Tryz.underlying3
 have u2:=Tryz.underlying2
 have u9:=Tryz.underlying9
 have hS:Tryz.prog.underlying 35=some (.struct (Tryz.prog.fieldsOf 35)):=by kernel_rfl
 have hp:Tryz.prog.stoodInHeld 35=false:=by kernel_rfl
 rw [show (10000:Nat)=9999+1 from rfl,run_equalIn_agg w 9999 35 _ _ hS hp]
 simp only [Program.fieldsOf,Tryz.underlying35]
 go_simp
theorem neqNd9 (k o n kd:Int) (t:ByteArray) (w:World):(binOp .neq 35 (.agg #[.int .i64 k,.int .i64 o,.int .i64 n,.string t,.int .i64 kd]) (.agg #[.int .i64 k,.int .i64 o,.int .i64 n,.string t,.int .i64 kd])).run Tryz.prog w=.ok (.bool false) w:=by
 rw [run_neq_struct,eqNd9];rfl
theorem two_box9 {w W:World} {u v:Value} {t t':TypeId} (h:Below (w.heap.size+1+1) ((w.alloc (.cells #[u] t)).alloc (.cells #[v] t')) W):(W.cell? ⟨w.heap.size,0,none⟩=some u∧W.cell? ⟨w.heap.size+1,0,none⟩=some v)∧Below w.heap.size w W:=by
 refine ⟨⟨?_,?_⟩,(((Below.refl w.heap.size w).alloc (Nat.le_refl _) _).alloc (by simp) _).trans (h.mono (by omega))⟩
 ·rw [h.cell (p:=⟨w.heap.size,0,none⟩) (by show w.heap.size < w.heap.size+1+1;omega),((Below.refl (w.heap.size+1) (w.alloc (.cells #[u] t))).alloc (by simp) _).cell (p:=⟨w.heap.size,0,none⟩) (Nat.lt_succ_self _),cell_new_row];rfl
 ·have h2:=cell_new_row (w.alloc (.cells #[u] t)) #[v] t' 0
  rw [World.size_alloc] at h2
  rw [h.cell (p:=⟨w.heap.size+1,0,none⟩) (Nat.lt_succ_self _)]
  exact h2
set_option maxHeartbeats 2000000 in
theorem wcTree_same (g1 c1 g2 c2 N:Nat) (nd nd2:Nat→Nd) (w:World) (hN:N≤1048576) (l1:g1 < w.heap.size) (l2:g2 < w.heap.size) (h1:NodesAt w g1 N nd) (h2:NodesAt w g2 N nd2) (he:∀ i,i < N→nd2 i=nd i) :
  Calls Tryz.prog 7 #[.agg #[.slice (some ⟨g1,0,none⟩) N c1],.agg #[.slice (some ⟨g2,0,none⟩) N c2]] w fun e w'=>e=.returned (.bool true)∧Below w.heap.size w w':=by
 have H1:=hid h1
 have H2:=hid h2
 have HE:=hid he
 have HB0:=hid (Below.refl (w.heap.size+1+1) ((w.alloc (.cells #[.slice (some ⟨g1,0,none⟩) N c1] 25)).alloc (.cells #[.slice (some ⟨g2,0,none⟩) N c2] 25)))
 clear h1 h2 he
 have hNN:((N:Int) != (N:Int))=false:=by simp
 go_enter Tryz.func7,Tryz.ntmps7
 go_wp2
 go_loopw [5] (fun i wr=>∃ j:Nat,j≤N∧i=.int .i64 j∧Below (w.heap.size+1+1) ((w.alloc (.cells #[.slice (some ⟨g1,0,none⟩) N c1] 25)).alloc (.cells #[.slice (some ⟨g2,0,none⟩) N c2] 25)) wr) (fun i _=>N - (intOf i).toNat)
 case atStart=>exact ⟨0,Nat.zero_le _,rfl,HB0.out⟩
 case round =>
  obtain ⟨j,hj,rfl,hbw⟩:=hrel
  have HBW:=hid hbw
  obtain ⟨⟨t0,t1⟩,hbb⟩:=two_box9 hbw
  clear hbw
  by_cases hlt:j < N
  ·obtain ⟨a0,a1,a2,a3,a4⟩:=(H1.out.below hbb l1) j hlt
   obtain ⟨b0,b1,b2,b3,b4⟩:=(H2.out.below hbb l2) j hlt
   rw [HE.out j hlt] at b0 b1 b2 b3 b4
   have hq:=fun W=>neqNd9 (nd j).kind (nd j).op (nd j).n (nd j).kids (nd j).text W
   have hji:(j:Int) < (N:Int):=by omega
   have hz:w.heap.size+1+1≤wr.heap.size:=by have:=HBW.out.size;simp at this;omega
   clear hbb
   go_wp2_with fail
   go_quiet (fail)
   go_wp2
   go_roundw
   case rel=>exact ⟨j+1,by omega,by go_num,HBW.out.trans ((below_drewN (Below.refl _ _) _).mono hz)⟩
   case measure=>simp [intOf];omega
  ·have HBB:=hid hbb
   clear hbb
   go_wp2
   go_ret
   exact ⟨rfl,HBB.out⟩
set_option maxHeartbeats 1000000 in
theorem wcTree_0 (a1 a2:Option Addr) (c1 c2:Nat) (w:World) :
  Calls Tryz.prog 7 #[.agg #[.slice a1 0 c1],.agg #[.slice a2 0 c2]] w fun e w'=>e=.returned (.bool true)∧Below w.heap.size w w':=by
 have HB0:=hid (((Below.refl w.heap.size w).alloc (Nat.le_refl _) (.cells #[.slice a1 0 c1] 25)).alloc (by simp) (.cells #[.slice a2 0 c2] 25))
 have HB1:=hid (Below.refl (w.heap.size+1+1) ((w.alloc (.cells #[.slice a1 0 c1] 25)).alloc (.cells #[.slice a2 0 c2] 25)))
 go_enter Tryz.func7,Tryz.ntmps7
 go_wp2
 go_loopw [5] (fun i wr=>i=.int .i64 0∧Below (w.heap.size+1+1) ((w.alloc (.cells #[.slice a1 0 c1] 25)).alloc (.cells #[.slice a2 0 c2] 25)) wr) (fun _ _=>0)
 case atStart=>exact ⟨rfl,HB1.out⟩
 case round =>
  obtain ⟨rfl,hb⟩:=hrel
  obtain ⟨⟨t0,t1⟩,hbb⟩:=two_box9 hb
  have HBB:=hid hbb
  clear hb hbb
  go_wp2
  go_ret
  exact ⟨rfl,HBB.out⟩
end Go.Proofs.YthnohneaanphbaaGreatDoor
namespace Go.Proofs.YthnohneaanphbaaGreatDoor
theorem Tile.low_le {o:List (List Nat)} {s:List Nat} {a b:Nat} (h:Tile o a s b):∀ y ∈ s,a≤low o y:=by
 induction s generalizing a with
 | nil=>intro y hy;cases hy
 | cons x r ih =>
  intro y hy
  rcases List.mem_cons.1 hy with e | hy
  ·rw [e,h.1];exact Nat.le_refl _
  ·have:=ih h.2.2 y hy
   have:=h.2.1
   omega
theorem tile_disj {o:List (List Nat)} {ks:List Nat} {a b:Nat} (h:Tile o a ks b) {s t m:Nat} (hs:s ∈ ks) (ht:t ∈ ks) (h1:low o s≤m) (h2:m≤s) (h3:low o t≤m) (h4:m≤t):s=t:=by
 induction ks generalizing a with
 | nil=>cases hs
 | cons x r ih =>
  rcases List.mem_cons.1 hs with e | hs
  ·rcases List.mem_cons.1 ht with e' | ht
   ·rw [e,e']
   ·have:=h.2.2.low_le t ht
    omega
  ·rcases List.mem_cons.1 ht with e' | ht
   ·have:=h.2.2.low_le s hs
    omega
   ·exact ih h.2.2 hs ht
theorem bsrt_tree {nd:Nat→Nd} {o:List (List Nat)} {N x:Nat} (ho:kidsF nd N=some (o,[x])) (hN:1≤N) (hf:∀ i,i < N→FitAt nd o i):Srt (low o (N - 1)) (N - 1) (bnl (treeE nd o N)):=by
 obtain ⟨_,_,_,ht⟩:=tile_all ho N (Nat.le_refl _)
 have hd:=down_of ho
 unfold treeE
 rw [bnl_flatMap]
 refine srt_tile _ _ _ (ht (N - 1) (by omega)) fun s hs=>?_
 have:=hd _ s hs
 rw [bnl_append,bnl_flts (mksE_flts nd o s _),List.append_nil]
 exact bsrt_wk hd N (fits_kidded hf) ht s (by omega) _
theorem maker_kind {nd:Nat→Nd} {o:List (List Nat)} {N s m:Nat} (hf:∀ i,i < N→FitAt nd o i) (hs:s < N) (hm:m ∈ makersOf nd o s):(m=s∧((nd m).kind=20∨(nd m).kind=21))∨((nd s).kind=23∧m ∈ o.getD s []∧(nd m).kind=5):=by
 unfold makersOf at hm
 split at hm
 ·rename_i h
  rw [List.mem_singleton] at hm
  subst hm
  exact .inl ⟨rfl,h⟩
 ·split at hm
  ·rename_i h23
   refine .inr ⟨h23,hm,?_⟩
   obtain ⟨i,hi,rfl⟩:=List.getElem_of_mem hm
   have hk9:=(hf s hs).2
   have:(nd ((o.getD s []).getD i 0)).kind=5:=by
    rcases hk9 with ⟨hk,_⟩ | ⟨hk,_⟩ | ⟨hk,_⟩ | ⟨hk,_⟩ | ⟨hk,_⟩ | ⟨hk,_⟩ | ⟨hk,_⟩ | ⟨hk,_⟩ | ⟨hk,_⟩ | ⟨hk,_⟩ | ⟨_,_,_,hk⟩ | ⟨hk,_⟩
    all_goals first | (exact hk i hi) | omega
   rw [List.getD_eq_getElem?_getD,List.getElem?_eq_getElem hi] at this
   exact this
  ·cases hm
theorem load_free {nd:Nat→Nd} {o:List (List Nat)} {N x s m:Nat} {v:Int} (ho:kidsF nd N=some (o,[x])) (hN:1≤N) (hf:∀ i,i < N→FitAt nd o i) (hs:s ∈ o.getD (N - 1) []) (h23:(nd s).kind=23) (hm:m ∈ o.getD s []):Ev.bind m v ∉ treeE nd o N:=by
 intro he
 obtain ⟨_,_,_,ht⟩:=tile_all ho N (Nat.le_refl _)
 have hd:=down_of ho
 have hsN:=hd _ s hs
 unfold treeE at he
 obtain ⟨t,htm,he⟩:=List.mem_flatMap.1 he
 have htN:=hd _ t htm
 rcases List.mem_append.1 he with he | he
 ·have hr:=(bsrt_wk hd N (fits_kidded hf) ht t (by omega) _).2 _ (mem_bnl he)
  have hr2:=(ht s (by omega)).lt m hm
  have e:s=t:=tile_disj (ht (N - 1) (by omega)) hs htm hr2.1 (Nat.le_of_lt hr2.2) hr.1 (by have:=hr.2.1;omega)
  subst e
  rw [wk_eq hd (fits_kidded hf s (by omega))] at he
  unfold nodeE at he
  rw [if_neg (by rw [h23];decide),if_neg (by rw [h23];decide),if_neg (by rw [h23];decide),if_pos h23] at he
  cases he
 ·obtain ⟨k,c,e⟩:=mksE_flts nd o t _ _ he
  cases e
theorem fileF_congr {nd nd':Nat→Nd} (ms:List Nat) (h:∀ m ∈ ms,(nd' m).text=(nd m).text) (f:ByteArray→Option Int):fileF nd' f ms=fileF nd f ms:=by
 induction ms generalizing f with
 | nil=>rfl
 | cons m ms ih =>
  show fileF nd' (addF f (nd' m).text m) ms=fileF nd (addF f (nd m).text m) ms
  rw [h m (by simp)]
  exact ih (fun q hq=>h q (by simp [hq])) _
theorem kidsF_congr {nd nd':Nat→Nd} (h:∀ i,(nd' i).kids=(nd i).kids) (N:Nat):kidsF nd' N=kidsF nd N:=by
 induction N with
 | zero=>rfl
 | succ N ih=>simp only [kidsF,ih,h]
section
variable {nd nd':Nat→Nd} {N a x:Nat} {s:ByteArray} {o:List (List Nat)}
theorem rnT_of (hv:ValidT nd N) (ho:kidsF nd N=some (o,[x])) (hf:∀ i,i < N→FitAt nd o i) (ka:(nd a).kind=14∨(nd a).kind=16) (fr:∀ i,i < N→(nd i).text≠s)
  (is:∀ i,nd' i=if i=a∨apB (fun _=>-1) (treeE nd o N) i=(a:Int) then { nd i with text:=s } else nd i):RnT nd nd' N a s (apB (fun _=>-1) (treeE nd o N)) (treeE nd o N):=by
 refine ⟨ka,fr,fun k v h=>apB_of_mem (bsrt_tree ho hv.1 hf).1 h _,fun i _ hb=>?_,is⟩
 rcases apB_cases (treeE nd o N) (fun _=>-1) i with e | e
 ·rw [hb] at e
  omega
 ·exact (tree_good (down_of ho) hv.1 _ e).1
theorem tree_ren (hv:ValidT nd N) (ho:kidsF nd N=some (o,[x])) (hf:∀ i,i < N→FitAt nd o i) (h:RnT nd nd' N a s (apB (fun _=>-1) (treeE nd o N)) (treeE nd o N)):treeE nd' o N=treeE nd o N:=by
 have hd:=down_of ho
 have hN:=hv.1
 have mk:∀ t ∈ o.getD (N - 1) [],makersOf nd' o t=makersOf nd o t:=fun t _=>by
  unfold makersOf
  rw [h.kind t]
 have mt:∀ t ∈ o.getD (N - 1) [],∀ m ∈ makersOf nd o t,(nd' m).text=(nd m).text∧m≠a:=fun t htm m hm=>by
  have htN:=hd _ t htm
  have hmN:=makers_lt hd (by omega:t < N) hm
  rcases maker_kind hf (by omega) hm with ⟨rfl,hk⟩ | ⟨h23,hmt,h5⟩
  ·have hma:m≠a:=fun e=>by have:=h.ka;rw [← e] at this;omega
   exact ⟨h.text hmN (by omega) hma,hma⟩
  ·have hma:m≠a:=fun e=>by have:=h.ka;rw [← e] at this;omega
   refine ⟨?_,hma⟩
   rw [h.is m,if_neg]
   rintro (e | e)
   ·exact hma e
   ·rcases apB_cases (treeE nd o N) (fun _=>-1) m with e2 | e2
    ·rw [e] at e2
     omega
    ·exact load_free ho hN hf htm h23 hmt e2
 have hfe:fileEnv nd' o (o.getD (N - 1) []) builtEnv=fileEnv nd o (o.getD (N - 1) []) builtEnv:=by
  funext t
  unfold fileEnv
  have e:(o.getD (N - 1) []).flatMap (makersOf nd' o)=(o.getD (N - 1) []).flatMap (makersOf nd o):=flatMap_congr' mk
  rw [e,fileF_congr _ fun m hm=>by
   obtain ⟨t,ht,hm⟩:=List.mem_flatMap.1 hm
   exact (mt t ht m hm).1]
 have hrel:Rel a s (fileEnv nd o (o.getD (N - 1) []) builtEnv) (fileEnv nd o (o.getD (N - 1) []) builtEnv):=by
  refine ⟨fun _ _ _=>rfl,fun y hy=>?_⟩
  exfalso
  have key:fileEnv nd o (o.getD (N - 1) []) builtEnv y=((((o.getD (N - 1) []).flatMap (makersOf nd o)).find? fun m=>decide ((nd m).text=y)).map fun m=>(m:Int)).getD (builtEnv y):=by
   unfold fileEnv
   rw [fileF_find]
   rfl
  rw [key] at hy
  cases hfi:((o.getD (N - 1) []).flatMap (makersOf nd o)).find? fun m=>decide ((nd m).text=y) with
  | none =>
   rw [hfi] at hy
   have hy2:builtEnv y=(a:Int):=hy
   rcases built_good y with e | e <;> omega
  | some m =>
   rw [hfi] at hy
   have hy2:(m:Int)=(a:Int):=hy
   obtain ⟨t,ht,hm⟩:=List.mem_flatMap.1 (List.mem_of_find?_eq_some hfi)
   exact (mt t ht m hm).2 (by omega)
 have hE:∀ t ∈ o.getD (N - 1) [],∀ e ∈ wk nd o t (fileEnv nd o (o.getD (N - 1) []) builtEnv),e ∈ treeE nd o N:=fun t ht e he=>by
  unfold treeE
  exact List.mem_flatMap.2 ⟨t,ht,List.mem_append.2 (.inl he)⟩
 show (o.getD (N - 1) []).flatMap _=(o.getD (N - 1) []).flatMap _
 refine flatMap_congr' fun t ht=>?_
 have htN:=hd _ t ht
 rw [hfe,wk_ren h hd hf t (by omega) _ _ hrel (hE t ht),mksE_flat,mksE_flat,mk t ht]
 congr 1
 exact flatMap_congr' fun m hm=>by
  unfold mkE
  rw [(mt t ht m hm).1]
end
end Go.Proofs.YthnohneaanphbaaGreatDoor
namespace Go.Proofs.YthnohneaanphbaaGreatDoor
theorem kidsOk_ren {kind:Int} {m:Nat} {f g:Nat→Nd} (hk:∀ j,(g j).kind=(f j).kind) (ht:∀ j,j < m→(f j).kind=17∨(f j).kind=18→(g j).text=(f j).text) (h:KidsOk kind m f):KidsOk kind m g:=by
 have hE:∀ q,AllE q f→AllE q g:=fun q ha i hi=>by rw [hk];exact ha i hi
 rcases h with h | ⟨h,h1,h2⟩ | ⟨h,h1,h2⟩ | ⟨h,h1,h2⟩ | ⟨h,h1,h2,h3⟩ | ⟨h,h1,h2⟩ | ⟨h,h1,h2⟩ | ⟨h,h1,h2,h3⟩ | ⟨h,q,h1,h2,h3,h4,h5,h6⟩ | ⟨h,h1,h2,h3,h4⟩ | ⟨h,h1,h2,h3⟩ | ⟨h,h1,h2⟩
 ·exact .inl h
 ·exact .inr (.inl ⟨h,h1,hE _ h2⟩)
 ·exact .inr (.inr (.inl ⟨h,h1,hE _ h2⟩))
 ·exact .inr (.inr (.inr (.inl ⟨h,h1,hE _ h2⟩)))
 ·exact .inr (.inr (.inr (.inr (.inl ⟨h,h1,h2,hE _ h3⟩))))
 ·exact .inr (.inr (.inr (.inr (.inr (.inl ⟨h,h1,hE _ h2⟩)))))
 ·exact .inr (.inr (.inr (.inr (.inr (.inr (.inl ⟨h,h1,hE _ h2⟩))))))
 ·refine .inr (.inr (.inr (.inr (.inr (.inr (.inr (.inl ⟨h,h1,fun i hi=>by rw [hk];exact h2 i hi,fun i hi k hki=>?_⟩)))))))
  rw [ht i hi (.inl (h2 i hi)),ht k (by omega) (.inl (h2 k (by omega)))]
  exact h3 i hi k hki
 ·refine .inr (.inr (.inr (.inr (.inr (.inr (.inr (.inr (.inl ⟨h,q,h1,h2,h3,hE _ h4,fun i hi hi2=>by rw [hk];exact h5 i hi hi2,fun i hi k hki=>?_⟩))))))))
  show ¬ (g (q+k)).text=(g (q+i)).text
  rw [ht (q+i) (by omega) (.inr (h5 (q+i) (by omega) (by omega))),ht (q+k) (by omega) (.inr (h5 (q+k) (by omega) (by omega)))]
  exact h6 i hi k hki
 ·exact .inr (.inr (.inr (.inr (.inr (.inr (.inr (.inr (.inr (.inl ⟨h,h1,h2,fun i hi=>by rw [hk];exact h3 i hi,by rw [hk];exact h4⟩)))))))))
 ·exact .inr (.inr (.inr (.inr (.inr (.inr (.inr (.inr (.inr (.inr (.inl ⟨h,h1,h2,fun i hi=>by rw [hk];exact h3 i hi⟩))))))))))
 ·exact .inr (.inr (.inr (.inr (.inr (.inr (.inr (.inr (.inr (.inr (.inr ⟨h,h1,fun i hi=>by rw [hk];exact h2 i hi⟩))))))))))
theorem plain_ren {x:Nd} {s:ByteArray} (h:PlainNd x) (hk:x.kind=5∨x.kind=14∨x.kind=16) (hs:NameOk s):PlainNd { x with text:=s }:=by
 obtain ⟨_,h2,h3,h4,h5,_,h7,h8,_,_⟩:=h
 have ht:hasText x.kind=true:=by rcases hk with e | e | e <;> rw [e] <;> rfl
 refine ⟨.inl ht,h2,h3,h4,h5,fun e=>?_,h7,h8,fun e=>?_,fun _ _ _ _=>hs⟩
 ·have e2:x.kind=4∨x.kind=17:=e
  omega
 ·have e2:x.kind=23:=e
  omega
section
variable {nd nd':Nat→Nd} {N a x:Nat} {s:ByteArray} {o:List (List Nat)} {bn:Nat→Int} {E:List Ev}
theorem fit_ren (h:RnT nd nd' N a s bn E) (hs:NameOk s) (hd:Down o) {i:Nat} (hi:i < N) (hf:FitAt nd o i):FitAt nd' o i:=by
 refine ⟨?_,?_⟩
 ·rw [h.is i]
  split
  ·rename_i e
   refine plain_ren hf.1 ?_ hs
   rcases e with e | e
   ·rw [e]
    have:=h.ka
    omega
   ·exact .inl (h.b5 i hi e)
  ·exact hf.1
 ·rw [h.kind i]
  refine kidsOk_ren (f:=fun k=>nd ((o.getD i []).getD k 0)) (fun j=>h.kind _) (fun j hj hk=>?_) hf.2
  have hm:(o.getD i []).getD j 0 ∈ o.getD i []:=by
   rw [List.getD_eq_getElem?_getD (l:=o.getD i []),List.getElem?_eq_getElem hj]
   exact List.getElem_mem hj
  have hlt:=hd i _ hm
  have hk':(nd ((o.getD i []).getD j 0)).kind=17∨(nd ((o.getD i []).getD j 0)).kind=18:=hk
  exact h.text (by omega) (by omega) (fun e=>by have:=h.ka;rw [← e] at this;omega)
theorem rename_ok (hv:ValidT nd N) (ho:kidsF nd N=some (o,[x])) (hfl:fls (treeE nd o N)=[]) (_:a < N) (ka:(nd a).kind=14∨(nd a).kind=16) (hs:NameOk s) (fr:∀ i,i < N→(nd i).text≠s)
  (is:∀ i,nd' i=if i=a∨apB (fun _=>-1) (treeE nd o N) i=(a:Int) then { nd i with text:=s } else nd i) :
  FaultI nd' N 0 0∧BindI nd' N N (apB (fun _=>-1) (treeE nd o N)):=by
 obtain ⟨hN1,hN2,hk24,o',x',ho',hall⟩:=id hv
 rw [ho] at ho'
 cases ho'
 have hf:∀ i,i < N→FitAt nd o i:=fun i hi=>(hall i hi).2
 have h:=rnT_of hv ho hf ka fr is
 have hkf:kidsF nd' N=some (o,[x]):=by
  rw [kidsF_congr (nd:=nd) (nd':=nd') (fun i=>by rw [is i];split <;> rfl) N]
  exact ho
 have hv':ValidT nd' N:=⟨hN1,hN2,by rw [h.kind];exact hk24,o,x,hkf,fun i hi=>⟨(hall i hi).1,fit_ren h hs (down_of ho) hi (hf i hi)⟩⟩
 have he:=tree_ren hv ho hf h
 have hff:FaultI nd' N 0 0:=.inr ⟨o,x,hv',hkf,.inr ⟨by rw [he];exact hfl,rfl,rfl⟩⟩
 exact ⟨hff,.inr ⟨rfl,o,x,hv',hkf,by rw [he];exact hfl,by rw [he]⟩⟩
theorem rename_back {t:ByteArray} {nd'':Nat→Nd} (hb:∀ i,i < N→BnOk nd N i (bn i)) (_:a < N) (ht:t=(nd a).text) (is:∀ i,nd' i=if i=a∨bn i=(a:Int) then { nd i with text:=s } else nd i)
  (is':∀ i,nd'' i=if i=a∨bn i=(a:Int) then { nd' i with text:=t } else nd' i):∀ i,i < N→nd'' i=nd i:=fun i hi=>by
 rw [is' i,is i]
 by_cases e:i=a∨bn i=(a:Int)
 ·rw [if_pos e,if_pos e]
  have htx:(nd i).text=t:=by
   rcases e with e | e
   ·rw [e,ht]
   ·rcases hb i hi with h | ⟨_,h | ⟨j,_,h1,h2⟩⟩
    ·rw [h] at e
     omega
    ·rw [h] at e
     omega
    ·rw [h1] at e
     have:j=a:=by omega
     rw [← h2,this,ht]
  rw [← htx]
 ·rw [if_neg e,if_neg e]
end
end Go.Proofs.YthnohneaanphbaaGreatDoor
namespace Go.Proofs.YthnohneaanphbaaGreatDoor
open Go.RowKit
set_option maxRecDepth 20000
theorem RenI.none9 {nd nd':Nat→Nd} {N M:Nat} {at_ c:Int} {s:ByteArray} (h:RenI nd N at_ s c M nd') (hc:c≠0):M=0:=by
 rcases h with ⟨_,h,_⟩ | ⟨_,⟨_,h,_⟩ | ⟨_,_,_,_,⟨_,h,_⟩ | ⟨_,h,_⟩⟩⟩
 ·exact h
 ·exact h
 ·exact h
 ·exact absurd h hc
theorem RenI.le9 {nd nd':Nat→Nd} {N M:Nat} {at_ c:Int} {s:ByteArray} (h:RenI nd N at_ s c M nd'):M≤N:=by
 rcases h with ⟨_,h,_⟩ | ⟨_,⟨_,h,_⟩ | ⟨_,_,_,_,⟨_,h,_⟩ | ⟨_,_,h,_⟩⟩⟩ <;> omega
structure Ren9 (nd nd':Nat→Nd) (N a:Nat) (s:ByteArray) (bn:Nat→Int):Prop where
 lt:a < N
 loc:isLoc nd a=true
 b:BindI nd N N bn
 f:FaultI nd N 0 0
 f':FaultI nd' N 0 0
 b':BindI nd' N N bn
 is:nd'=renN nd bn a s
theorem RenI.good9 {nd nd':Nat→Nd} {N M:Nat} {at_:Int} {s:ByteArray} (h:RenI nd N at_ s 0 M nd'):M=N∧∃ (a:Nat) (bn:Nat→Int),at_=(a:Int)∧Ren9 nd nd' N a s bn:=by
 rcases h with ⟨h,_⟩ | ⟨hf,⟨h,_⟩ | ⟨a,ha,hN,hl,⟨h,_⟩ | ⟨hfr,_,hM,bn,hb,hnd⟩⟩⟩
 ·omega
 ·omega
 ·omega
 ·rcases id hb with ⟨h0,_⟩ | ⟨_,o,x,hv,ho,hfl,rfl⟩
  ·omega
  ·have hk:(nd a).kind=14∨(nd a).kind=16:=of_decide_eq_true hl
   have h2:=rename_ok (nd':=nd') hv ho hfl hN hk hfr.1 (fun i hi e=>hfr.2.2 ⟨i,hi,e⟩) (fun i=>by rw [hnd];rfl)
   exact ⟨hM,a,_,ha,hN,hl,hb,hf,h2.1,h2.2,hnd⟩
theorem Ren9.text {nd nd':Nat→Nd} {N a:Nat} {s:ByteArray} {bn:Nat→Int} (h:Ren9 nd nd' N a s bn) (i:Nat):(nd' i).text=s∨(nd' i).text=(nd i).text:=by
 rw [h.is]
 unfold renN
 split
 ·exact .inl rfl
 ·exact .inr rfl
theorem Ren9.back {nd nd' nd3:Nat→Nd} {N a M:Nat} {s:ByteArray} {bn:Nat→Int} {e:Int} (h:Ren9 nd nd' N a s bn) (h3:RenI nd' N (a:Int) (nd a).text e M nd3):e=3∨(e=0∧M=N∧∀ i,i < N→nd3 i=nd i):=by
 have hk:(nd' a).kind=(nd a).kind:=by
  rw [h.is]
  unfold renN
  split <;> rfl
 have hl:isLoc nd' a=true:=by
  have:=h.loc
  unfold isLoc at this ⊢
  rw [hk]
  exact this
 rcases h3 with ⟨_,_,h4⟩ | ⟨_,⟨_,_,h4⟩ | ⟨a',ha,hN,_,⟨h4,_,_⟩ | ⟨_,h4,hM,bn',hb',hnd⟩⟩⟩
 ·exact absurd h.f' h4
 ·exact absurd ⟨a,rfl,h.lt,hl⟩ h4
 ·exact .inl h4
 ·have e2:a=a':=by omega
  subst e2
  have hbn:bn=bn':=(h.b'.unique hb').2 (by omega)
  refine .inr ⟨h4,hM,rename_back (nd':=nd') (s:=s) (fun i hi=>h.b.ok i hi) h.lt rfl (fun i=>by rw [h.is];rfl) (fun i=>?_)⟩
  rw [hnd,hbn]
  rfl
theorem info_nd0:(Tryz.prog.info? 35).map (fun i=>(i.zero,i.size,i.bytes))=some (some (.agg #[.int .i64 0,.int .i64 0,.int .i64 0,.string ⟨#[]⟩,.int .i64 0]),5,48):=by kernel_rfl
set_option maxHeartbeats 2000000 in
theorem spoil_none (R p:Nat) (ad:Option Addr) (c:Nat) (w:World) (h:Rd R w p) :
  Calls Tryz.prog 32 #[.pointer (some ⟨R,0,none⟩),.agg #[.slice ad 0 c]] w fun e w2=>∃ v,e=.returned (.agg #[v])∧(∃ ad c,v=.slice ad 0 c)∧(∃ p',p'≤p∧Rd R w2 p')∧BR R w w2:=by
 obtain ⟨i0,hi0,hz0,hz1,hz2⟩:=info_parts info_nd0
 have hR:=h.lt
 have HR:=hid h
 clear h
 have HAL:=hid ((((Below.refl w.heap.size w).alloc (Nat.le_refl _) (.cells #[.slice ad 0 c] 25)).alloc (by simp) (.cells #[.slice none 0 0] 25)).alloc (by simp;omega) (.cells #[] 35))
 have HO:Hid ((((w.alloc (.cells #[.slice ad 0 c] 25)).alloc (.cells #[.slice none 0 0] 25)).alloc (.cells #[] 35)).ownsRow (w.heap.size+2) 35 5 (.slice (some ⟨w.heap.size+2,0,none⟩) 0 0) 0 []):=by
  refine ⟨rfl,.inr ⟨w.heap.size+2,0,#[],rfl,Nat.le_refl _,?_,Nat.le_refl _,by unfold maxLen;omega,rfl,rfl⟩⟩
  have:=heap_alloc_new ((w.alloc (.cells #[.slice ad 0 c] 25)).alloc (.cells #[.slice none 0 0] 25)) (.cells #[] 35)
  rwa [World.size_alloc,World.size_alloc] at this
 have HB1:Hid (∀ v1 v2,Below w.heap.size w ((((w.alloc (.cells #[.slice ad 0 c] 25)).alloc (.cells #[v2] 25)).alloc (.cells #[] 35)).alloc (.cells #[v1] 25))):=fun v1 v2=>((((Below.refl w.heap.size w).alloc (Nat.le_refl _) _).alloc (by simp) _).alloc (by simp;omega) _).alloc (by simp;omega) _
 cases ad with
 | none =>
  clear HO HAL
  go_enter Tryz.func32,Tryz.ntmps32
  go_wp2_with fail
  exact bodyPost_ret (v:=.agg #[.slice (some ⟨w.heap.size+1+1,0,none⟩) 0 0]) (by simp [results,Tryz.results32,go_sem]) rfl ⟨_,rfl,⟨_,_,rfl⟩,⟨p,Nat.le_refl _,HR.out.next (HB1.out _ _)⟩,BR.of_below (HB1.out _ _) (by omega)⟩
 | some a =>
  go_enter Tryz.func32,Tryz.ntmps32
  go_wp2_with (at_builtin;refine wpList_append_own _ rfl _ _ 23 rfl (w.heap.size+2) 35 i0 (.agg #[.int .i64 0,.int .i64 0,.int .i64 0,.string ⟨#[]⟩,.int .i64 0]) 5 48 Tryz.underlying23 hi0 hz0 hz1 hz2 rfl (by decide) _ _ [] rfl HO.out a 0 c [] rfl rfl (fun j u hu=>by simp at hu) (fun u hu=>by simp at hu) ?c3 ?c4 ?c5 ?_)
  case c3=>unfold maxLen;omega
  case c4=>omega
  case c5=>simp
  intro v1 w1 o1 g1 _
  have h4:=own_tr (l:=[]) (m:=0) (by simpa [ndRow] using o1) rfl
  obtain ⟨⟨ad9,c9,rfl,_⟩,_⟩:=h4
  have hb1:Below w.heap.size w w1:=HAL.out.grown g1 HAL.out.size (fun q e=>by cases e;show w.heap.size≤w.heap.size+1+1;omega)
  have hw1:w.heap.size+3≤w1.heap.size:=by have:=g1.size;simp at this;omega
  have HR0:Hid ((w1.alloc (.cells #[.slice ad9 0 c9] 25)).heap[w.heap.size+1]?=some (.cells #[.slice none 0 0] 25 (0,0))):=by
   show _=_
   rw [Below.heap_alloc _ _ _ (by omega),g1.block (w.heap.size+1) (by simp) (by simp [Value.ownBlock]),Below.heap_alloc _ _ _ (by simp)]
   have:=heap_alloc_new (w.alloc (.cells #[.slice (some a) 0 c] 25)) (.cells #[.slice none 0 0] 25)
   rwa [World.size_alloc] at this
  have HB2:=hid ((hb1.alloc hb1.size (.cells #[.slice ad9 0 c9] 25)).setCell (p:=⟨w.heap.size+1,0,none⟩) (by show w.heap.size≤w.heap.size+1;omega) (.slice ad9 0 c9))
  have r0:=cell_hp HR0.out 0
  have rf:=frozen_hp HR0.out 0
  simp at r0
  clear o1 g1 HO HAL HB1 hb1
  go_wp2
  exact bodyPost_ret (v:=.agg #[.slice ad9 0 c9]) (by simp [results,Tryz.results32,go_sem,r0]) rfl ⟨_,rfl,⟨_,_,rfl⟩,⟨p,Nat.le_refl _,HR.out.next HB2.out⟩,BR.of_below HB2.out (by omega)⟩
set_option maxHeartbeats 8000000 in
theorem post_at {s:Ds} {ov0:Value} {w0:World} {p n:Nat} {bad:Bool} {w:World} (hE:∀ q,p < q→EOk9 s q) (h:Ad s ov0 w0 p bad n w) (hl:n+2 * s.T≤400000+2 * p) :
  Calls Tryz.prog 116 #[.pointer (some ⟨s.D,0,none⟩)] w (DE 0 s ov0 w0 p n):=by
 have HA0:=hid h
 have hT:=h.pT.2
 clear h
 go_enter Tryz.func116,Tryz.ntmps116
 go_wp2_with fail
 refine (single_at hE HA0.out (by have:=HA0.out.pT;omega)).mono ?_
 rintro e w1 ⟨rfl,p1,b1,n1,l1a,l1b,l1c,a1⟩
 have HA1:=hid a1
 clear a1 HA0
 go_wp2
 go_loopw [] (fun wr=>∃ q k:Nat,∃ bb:Bool,p≤q∧n≤k∧k+2 * p≤n+2 * q∧Ad s ov0 w0 q bb k wr) (fun wr=>s.T - deskP s wr)
 case atStart=>exact ⟨p1,n1,b1,by omega,by omega,by omega,HA1.out⟩
 case round =>
  obtain ⟨q,k,bb,lq,lk,lkq,ad⟩:=hrel
  have HAr:=hid ad
  have HDP:=hid ad.deskP
  have hqT:=ad.pT.1
  clear ad HA1
  obtain ⟨_,_,c3,_⟩:=HAr.out.cells
  cases bb
  ·go_wp2_with fail
   refine (take_at HAr.out _).mono ?_
   rintro e w2 (⟨rfl,l2,a2⟩ | ⟨rfl,a2⟩)
   ·have HA2:=hid a2
    clear a2 HAr
    go_wp2_with fail
    refine (args_at (p:=(q+1)) (fun q hq=>hE q (by omega)) HA2.out (by have:=HA2.out.pT;omega)).mono ?_
    rintro e w3 ⟨m3,p3,b3,n3,rfl,l3m,l3a,l3b,l3c,a3⟩
    have HA3:=hid a3
    have z3:=a3.pT.1
    have hm3:m3≤100001:=by omega
    clear a3 HA2
    go_wp2_with fail
    refine (put_at9 HA3.out ⟨12,0,0,⟨#[]⟩,1+(m3:Int)⟩ (by show (⟨#[]⟩:ByteArray).size≤1000;decide) (by have:=HA3.out.pT;omega)).mono ?_
    rintro e w4 ⟨rfl,a4⟩
    have HA4:=hid a4
    clear a4 HA3
    go_wp2
    go_roundw
    case rel=>exact ⟨p3,(n3+1),b3,by omega,by omega,by omega,HA4.out⟩
    case measure=>rw [HA4.out.deskP,HDP.out];have:=HA4.out.pT;omega
   ·have HA2:=hid a2
    clear a2 HAr
    go_wp2_with fail
    refine (take_at HA2.out _).mono ?_
    rintro e w5 (⟨rfl,l5,a5⟩ | ⟨rfl,a5⟩)
    ·have HA5:=hid a5
     clear a5 HA2
     go_wp2_with fail
     refine (hE (q+1) (by omega) _ _ _ _ _ HA5.out (by have:=HA5.out.pT;omega)).mono ?_
     rintro e w6 ⟨rfl,p6,b6,n6,l6a,l6b,l6c,a6⟩
     have HA6:=hid a6
     clear a6 HA5
     go_wp2_with fail
     refine (need_at HA6.out _).mono ?_
     rintro e w7 ⟨rfl,p7,b7,l7a,l7b,a7⟩
     have HA7:=hid a7
     clear a7 HA6
     go_wp2_with fail
     refine (put_at9 HA7.out ⟨10,0,0,⟨#[]⟩,2⟩ (by show (⟨#[]⟩:ByteArray).size≤1000;decide) (by have:=HA7.out.pT;omega)).mono ?_
     rintro e w8 ⟨rfl,a8⟩
     have HA8:=hid a8
     clear a8 HA7
     go_wp2
     go_roundw
     case rel=>exact ⟨p7,(n6+1),b7,by omega,by omega,by omega,HA8.out⟩
     case measure=>rw [HA8.out.deskP,HDP.out];have:=HA8.out.pT;omega
    ·have HA5:=hid a5
     clear a5 HA2
     go_wp2_with fail
     refine (take_at HA5.out _).mono ?_
     rintro e w9 (⟨rfl,l9,a9⟩ | ⟨rfl,a9⟩)
     ·have HA9:=hid a9
      clear a9 HA5
      go_wp2_with fail
      refine (name_at9 HA9.out).mono ?_
      rintro e w10 ⟨t10,p10,b10,rfl,x10,l10a,l10b,l10c,a10⟩
      have HA10:=hid a10
      have HX10:=hid x10
      have HC10:=hid l10c
      clear a10 HA9 l10c x10
      go_wp2_with fail
      refine (put_at9 HA10.out ⟨11,0,0,t10,1⟩ (HX10.out) (by have:=HA10.out.pT;omega)).mono ?_
      rintro e w11 ⟨rfl,a11⟩
      have HA11:=hid a11
      clear a11 HA10
      go_wp2
      go_roundw
      case rel=>exact ⟨p10,(k+1),b10,by omega,by omega,by omega,HA11.out⟩
      case measure=>rw [HA11.out.deskP,HDP.out];have:=HA11.out.pT;omega
     ·have HA9:=hid a9
      clear a9 HA5
      go_wp2
      exact bodyPost_ret (results_none rfl _ _ _) rfl ⟨rfl,q,false,k,by omega,by omega,by omega,HA9.out⟩
  ·skip
   go_wp2
   go_end0
   exact ⟨rfl,q,true,k,by omega,by omega,by omega,HAr.out⟩
set_option maxHeartbeats 4000000 in
theorem ops3_at {s:Ds} {p:Nat} (hn:OpsOk9 s 4 p) (hN:∀ q,p < q→OpsOk9 s 3 q) (bad:Bool) (n:Nat) (ov0:Value) (w0 w:World) (h:Ad s ov0 w0 p bad n w) (hl:n+2 * s.T≤400000+2 * p) :
  Calls Tryz.prog 105 #[.pointer (some ⟨s.D,0,none⟩),.int .i64 3] w (DE 0 s ov0 w0 p n):=by
 have HA0:=hid h
 have hT:=h.pT.2
 clear h
 obtain ⟨_,_,c3,_⟩:=HA0.out.cells
 cases bad
 ·go_enter Tryz.func105,Tryz.ntmps105
  go_wp2_with fail
  refine (take_at HA0.out _).mono ?_
  rintro e w1 (⟨rfl,l1,a1⟩ | ⟨rfl,a1⟩)
  ·have HA1:=hid a1
   clear a1 HA0
   go_wp2_with fail
   refine (hN (p+1) (by omega) _ _ _ _ _ HA1.out (by have:=HA1.out.pT;omega)).mono ?_
   rintro e w2 ⟨rfl,p2,b2,n2,l2a,l2b,l2c,a2⟩
   have HA2:=hid a2
   clear a2 HA1
   go_wp2_with fail
   refine (put_at9 HA2.out ⟨6,1,0,⟨#[]⟩,1⟩ (by show (⟨#[]⟩:ByteArray).size≤1000;decide) (by have:=HA2.out.pT;omega)).mono ?_
   rintro e w3 ⟨rfl,a3⟩
   have HA3:=hid a3
   clear a3 HA2
   go_wp2
   exact bodyPost_ret (results_none rfl _ _ _) rfl ⟨rfl,p2,b2,(n2+1),by omega,by omega,by omega,HA3.out⟩
  ·have HA1:=hid a1
   clear a1 HA0
   go_wp2_with fail
   refine (hn _ _ _ _ _ HA1.out (by have:=HA1.out.pT;omega)).mono ?_
   rintro e w4 ⟨rfl,p4,b4,n4,l4a,l4b,l4c,a4⟩
   have HA4:=hid a4
   clear a4 HA1
   go_wp2
   exact bodyPost_ret (results_none rfl _ _ _) rfl ⟨rfl,p4,b4,n4,by omega,by omega,by omega,HA4.out⟩
 ·go_enter Tryz.func105,Tryz.ntmps105
  go_wp2
  exact bodyPost_ret (results_none rfl _ _ _) rfl ⟨rfl,p,true,n,by omega,by omega,by omega,HA0.out⟩
set_option maxHeartbeats 4000000 in
theorem ops7_at {s:Ds} {p:Nat} (hE:∀ q,p < q→EOk9 s q) (hN:∀ q,p < q→OpsOk9 s 7 q) (bad:Bool) (n:Nat) (ov0:Value) (w0 w:World) (h:Ad s ov0 w0 p bad n w) (hl:n+2 * s.T≤400000+2 * p) :
  Calls Tryz.prog 105 #[.pointer (some ⟨s.D,0,none⟩),.int .i64 7] w (DE 0 s ov0 w0 p n):=by
 have HA0:=hid h
 have hT:=h.pT.2
 clear h
 obtain ⟨_,_,c3,_⟩:=HA0.out.cells
 cases bad
 ·go_enter Tryz.func105,Tryz.ntmps105
  go_wp2_with fail
  refine (take_at HA0.out _).mono ?_
  rintro e w1 (⟨rfl,l1,a1⟩ | ⟨rfl,a1⟩)
  ·have HA1:=hid a1
   clear a1 HA0
   go_wp2_with fail
   refine (hN (p+1) (by omega) _ _ _ _ _ HA1.out (by have:=HA1.out.pT;omega)).mono ?_
   rintro e w2 ⟨rfl,p2,b2,n2,l2a,l2b,l2c,a2⟩
   have HA2:=hid a2
   clear a2 HA1
   go_wp2_with fail
   refine (put_at9 HA2.out ⟨6,2,0,⟨#[]⟩,1⟩ (by show (⟨#[]⟩:ByteArray).size≤1000;decide) (by have:=HA2.out.pT;omega)).mono ?_
   rintro e w3 ⟨rfl,a3⟩
   have HA3:=hid a3
   clear a3 HA2
   go_wp2
   exact bodyPost_ret (results_none rfl _ _ _) rfl ⟨rfl,p2,b2,(n2+1),by omega,by omega,by omega,HA3.out⟩
  ·have HA1:=hid a1
   clear a1 HA0
   go_wp2_with fail
   refine (post_at hE HA1.out (by have:=HA1.out.pT;omega)).mono ?_
   rintro e w4 ⟨rfl,p4,b4,n4,l4a,l4b,l4c,a4⟩
   have HA4:=hid a4
   clear a4 HA1
   go_wp2
   exact bodyPost_ret (results_none rfl _ _ _) rfl ⟨rfl,p4,b4,n4,by omega,by omega,by omega,HA4.out⟩
 ·go_enter Tryz.func105,Tryz.ntmps105
  go_wp2
  exact bodyPost_ret (results_none rfl _ _ _) rfl ⟨rfl,p,true,n,by omega,by omega,by omega,HA0.out⟩
set_option maxHeartbeats 8000000 in
theorem opsB_at {s:Ds} {p:Nat} (r:Int) (hr1:1≤r) (hr6:r≤6) (h3:r≠3) (h7:r≠7) (hn:OpsOk9 s (r+1) p) (hN:∀ q,p < q→OpsOk9 s (r+1) q) (bad:Bool) (n:Nat) (ov0:Value) (w0 w:World) (h:Ad s ov0 w0 p bad n w) (hl:n+2 * s.T≤400000+2 * p) :
  Calls Tryz.prog 105 #[.pointer (some ⟨s.D,0,none⟩),.int .i64 r] w (DE 0 s ov0 w0 p n):=by
 have HA0:=hid h
 have hT:=h.pT.2
 clear h
 obtain ⟨_,_,c3,_⟩:=HA0.out.cells
 have r3:(r == 3)=false:=by simpa using h3
 have r7:(r == 7)=false:=by simpa using h7
 cases bad
 ·go_enter Tryz.func105,Tryz.ntmps105
  go_wp2_with fail
  refine (hn _ _ _ _ _ HA0.out (by have:=HA0.out.pT;omega)).mono ?_
  rintro e w1 ⟨rfl,p1,b1,n1,l1a,l1b,l1c,a1⟩
  have HA1:=hid a1
  clear a1 HA0
  go_wp2
  go_loopw [] (fun wr=>∃ q k:Nat,∃ bb:Bool,p≤q∧n≤k∧k+2 * p≤n+2 * q∧Ad s ov0 w0 q bb k wr) (fun wr=>s.T - deskP s wr)
  case atStart=>exact ⟨p1,n1,b1,by omega,by omega,by omega,HA1.out⟩
  case round =>
   obtain ⟨q,k,bb,lq,lk,lkq,ad⟩:=hrel
   have HAr:=hid ad
   have HDP:=hid ad.deskP
   have hqT:=ad.pT.1
   clear ad HA1
   go_wp2_with fail
   refine (op_at _ HAr.out).mono ?_
   rintro e w2 ⟨r2,rfl,l2a,l2b,a2⟩
   have HA2:=hid a2
   have HL2:=hid l2b
   clear a2 HAr l2b
   rcases Nat.eq_zero_or_pos r2 with rfl | hr1
   ·skip
    go_wp2
    exact bodyPost_ret (results_none rfl _ _ _) rfl ⟨rfl,q,bb,k,by omega,by omega,by omega,HA2.out⟩
   ·have hr0:((r2:Int) == 0)=false:=by simp;omega
    have hqt:=HL2.out (by omega)
    obtain ⟨_,d2,_,f2⟩:=HA2.out.cells
    have HAi:=hid (HA2.out.inc hqt)
    go_wp2_with fail
    refine (hN (q+1) (by omega) _ _ _ _ _ HAi.out (by omega)).mono ?_
    rintro e w3 ⟨rfl,p3,b3,n3,l3a,l3b,l3c,a3⟩
    have HA3:=hid a3
    clear a3 HAi
    clear d2 f2 HA2
    go_wp2_with fail
    refine (put_at9 HA3.out ⟨7,(r2:Int),0,⟨#[]⟩,2⟩ (by show (⟨#[]⟩:ByteArray).size≤1000;decide) (by have:=HA3.out.pT;omega)).mono ?_
    rintro e w4 ⟨rfl,a4⟩
    have HA4:=hid a4
    clear a4 HA3
    by_cases h4:r=4
    ·subst h4
     go_wp2
     exact bodyPost_ret (results_none rfl _ _ _) rfl ⟨rfl,p3,b3,(n3+1),by omega,by omega,by omega,HA4.out⟩
    ·have r4:(r == 4)=false:=by simpa using h4
     go_wp2
     go_roundw
     case rel=>exact ⟨p3,(n3+1),b3,by omega,by omega,by omega,HA4.out⟩
     case measure=>rw [HA4.out.deskP,HDP.out];have:=HA4.out.pT;omega
 ·go_enter Tryz.func105,Tryz.ntmps105
  go_wp2
  exact bodyPost_ret (results_none rfl _ _ _) rfl ⟨rfl,p,true,n,by omega,by omega,by omega,HA0.out⟩
theorem all_from {s:Ds}:∀ d p:Nat,s.T≤p+d→EOk9 s p∧∀ r:Int,1≤r→r≤7→OpsOk9 s r p:=by
 intro d
 induction d using Nat.strongRecOn with
 | ind d ih =>
  intro p hd
  have hE:∀ q,p < q→EOk9 s q:=fun q hq=>by
   by_cases h0:d=0
   ·intro bad n ov0 w0 w h
    have:=h.pT.1
    omega
   ·exact (ih (d - 1) (by omega) q (by omega)).1
  have hO:∀ q,p < q→∀ r:Int,1≤r→r≤7→OpsOk9 s r q:=fun q hq=>by
   by_cases h0:d=0
   ·intro r _ _ bad n ov0 w0 w h
    have:=h.pT.1
    omega
   ·exact (ih (d - 1) (by omega) q (by omega)).2
  have o7:OpsOk9 s 7 p:=ops7_at hE (fun q hq=>hO q hq 7 (by omega) (by omega))
  have o6:OpsOk9 s 6 p:=opsB_at 6 (by omega) (by omega) (by omega) (by omega) o7 (fun q hq=>hO q hq 7 (by omega) (by omega))
  have o5:OpsOk9 s 5 p:=opsB_at 5 (by omega) (by omega) (by omega) (by omega) o6 (fun q hq=>hO q hq 6 (by omega) (by omega))
  have o4:OpsOk9 s 4 p:=opsB_at 4 (by omega) (by omega) (by omega) (by omega) o5 (fun q hq=>hO q hq 5 (by omega) (by omega))
  have o3:OpsOk9 s 3 p:=ops3_at o4 (fun q hq=>hO q hq 3 (by omega) (by omega))
  have o2:OpsOk9 s 2 p:=opsB_at 2 (by omega) (by omega) (by omega) (by omega) o3 (fun q hq=>hO q hq 3 (by omega) (by omega))
  have o1:OpsOk9 s 1 p:=opsB_at 1 (by omega) (by omega) (by omega) (by omega) o2 (fun q hq=>hO q hq 2 (by omega) (by omega))
  refine ⟨fun bad n ov0 w0 w h hl=>e_at9 hE o1 h hl,fun r h1 h7=>?_⟩
  obtain rfl | rfl | rfl | rfl | rfl | rfl | rfl:r=1∨r=2∨r=3∨r=4∨r=5∨r=6∨r=7:=by omega
  ·exact o1
  ·exact o2
  ·exact o3
  ·exact o4
  ·exact o5
  ·exact o6
  ·exact o7
theorem e_all (s:Ds) (p:Nat):EOk9 s p:=(all_from s.T p (by omega)).1
end Go.Proofs.YthnohneaanphbaaGreatDoor
