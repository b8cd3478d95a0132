import Derived.Test.YthnohneaanphbaaGreatDoorCards
import Derived.Test.YthnohneaanphbaaGreatDoorTie
import Derived.WalkKit
import Derived.ProofKit
import Derived.OpenShut
import Derived.Deep.DeepHandedRow
import Derived.Deep.Slices
import Derived.Lib.LaidTab
import Derived.OpenVars
import Derived.Test.YthnohneaanphbaaGreatDoorJ50
namespace Go.Proofs.YthnohneaanphbaaGreatDoor
open Go.ChangeShapes Go.WideShapes Go.ChangeAt Go.RowKit Go.Deep
theorem cellsStr:Tryz.prog.cellsOf 9=1:=by kernel_rfl
theorem own:ownKnob Tryz.prog.godebug=none:=by kernel_rfl
theorem laidOut:laidOutB Tryz.prog=true:=by kernel_rfl
theorem gBN : Tryz.prog.globalNamed "loop.example/kilnyard/impl.clayBuiltNames" = some 0 := by kernel_rfl
theorem gBNType:(Tryz.prog.globals[0]?).map (·.type)=some 120:=by kernel_rfl
theorem cellsBN:Tryz.prog.cellsOf 120=15:=by kernel_rfl
theorem varsOk : varsRowed Tryz.prog ["loop.example/kilnyard/impl.clayBuiltNames"] = true := by kernel_rfl
theorem cells_of_strs {H:Type} {enc:TypeId × Value→H} {P:Program} {w:World} {base:Nat} {sp:Nat→Bool} {held:Bool} {fuel:Nat} {t e:TypeId} {n:Nat} {cs:List Value} {zs:List (List UInt8)} {p:List MemPlace}
  (ht:P.underlying t=some (.array n e)) (he:P.underlying e=some .string) (hce:P.cellsOf e=1) (hct:P.cellsOf t=n)
  (h:DataW.trod enc P w base sp held fuel t cs=some (.agg (zs.map fun z=>.lit (.string z)),p)):cs=zs.map fun z=>Value.string ⟨z.toArray⟩:=by
 cases fuel with
 | zero=>simp [DataW.trod] at h
 | succ fuel =>
  simp only [DataW.trod,ht,hce,hct,Nat.mul_one] at h
  split at h
  ·rename_i hl
   obtain ⟨xs,hm,hx⟩:=Option.map_eq_some_iff.1 h
   have hxs:xs.map (·.1)=zs.map fun z=>(DataW.lit (.string z):DataW H):=by
    have:=congrArg Prod.fst hx
    simpa using this
   have hxl:xs.length=n:=by simpa using Lib.mapM_length hm
   have hzl:zs.length=n:=by
    have:=congrArg List.length hxs
    simp at this
    omega
   apply List.ext_getElem?
   intro i
   by_cases hi:i < n
   ·obtain ⟨b,hb,hf⟩:=Lib.mapM_at hm i i (by simp [hi])
    obtain ⟨z,hc,rfl,_⟩:=DataW.trod_string he hf
    have h1:cs[i]?=some (.string z):=by
     have:=congrArg (·[0]?) hc
     simpa [List.getElem?_take,List.getElem?_drop] using this
    have h2:(xs.map (·.1))[i]?=some (DataW.lit (.string z.data.toList):DataW H):=by simp [hb]
    rw [hxs] at h2
    simp only [List.getElem?_map,Option.map_eq_some_iff,DataW.lit.injEq,Lit.string.injEq] at h2
    obtain ⟨z',hz',e⟩:=h2
    simp [h1,hz',e]
   ·rw [List.getElem?_eq_none (by omega),List.getElem?_eq_none (by simp;omega)]
  ·cases h
theorem env_of_laid {W : World} (h : laidMetH Tryz.prog [("loop.example/kilnyard/impl.clayBuiltNames", Rows.laid_loop_example_kilnyard_impl_clayBuiltNames)] W) : BEnv W := by
 have h1 : laidMet Tryz.prog [("loop.example/kilnyard/impl.clayBuiltNames", Rows.laid_loop_example_kilnyard_impl_clayBuiltNames)] W := h
 obtain ⟨ps,⟨g',t',cs,fuel,p,q,hg',ht',hvar,hd,_,_⟩,_⟩:=h1
 obtain rfl:=Option.some.inj (gBN.symm.trans hg')
 obtain rfl:=Option.some.inj (gBNType.symm.trans ht')
 have e:cs.toList=builts.map fun z=>Value.string ⟨z.toArray⟩:=cells_of_strs Tryz.underlying120 Tryz.underlying9 cellsStr cellsBN hd
 have e2:cs=builtArr:=by unfold builtArr;rw [← e]
 unfold World.var? at hvar
 rw [gBN] at hvar
 simp only [Option.bind_some] at hvar
 split at hvar
 ·rename_i cs' t fr hh
  cases hvar
  exact ⟨t,fr,by rw [← e2];exact hh⟩
 ·cases hvar
def putCells (cs:Array Value):Obj→Obj
 | .cells _ t frozen=>.cells cs t frozen
 | o=>o
def tabBN:Array Value:=#[.string ⟨#[108,101,110]⟩,.string ⟨#[116,101,120,116]⟩,.string ⟨#[105,110,116]⟩,.string ⟨#[114,97,110,103,101]⟩,.string ⟨#[115,111,114,116,101,100]⟩,.string ⟨#[117,110,105,113,117,101]⟩,.string ⟨#[106,111,105,110]⟩,.string ⟨#[115,112,108,105,116]⟩,.string ⟨#[107,101,121,115]⟩,.string ⟨#[114,101,99,111,114,100]⟩,.string ⟨#[119,105,116,104,111,117,116]⟩,.string ⟨#[98,101,103,105,110,115]⟩,.string ⟨#[99,117,116]⟩,.string ⟨#[102,105,108,101,115]⟩,.string ⟨#[102,97,105,108]⟩]
def startIn:Input:=⟨#[],#[],[]⟩
theorem cellsU8:Tryz.prog.cellsOf 5=1:=by kernel_rfl
theorem readB:Tryz.prog.readableRec 22=true:=by kernel_rfl
set_option maxRecDepth 20000 in
theorem code_open {H:Type} {enc:TypeId × Value→H} {W:World} {base:Nat} {v:Value} {d:DataW H} {ps:List MemPlace} (hv:Value.okWide Tryz.prog W .any base 22 v) (h:DataW.Trod enc Tryz.prog W 0 (fun _=>true) true 22 v d ps) :
  ∃ ad n cap,v=.slice ad n cap∧n≤cap∧cap≤9223372036854775807∧CodeA W ad n∧(ad=none→n=0∧cap=0):=by
 obtain ⟨a1,n1,c1,rfl⟩:=okWide_slice Tryz.underlying22 hv
 obtain ⟨fuel,hf⟩:=h
 rcases open_slice Tryz.underlying22 hf with ⟨e,_⟩ | ⟨a,len,cap,m,n2,D,Pl,e,_,hlc,hcm,hm,_,hel⟩
 ·simp [Value.cells] at e
  obtain ⟨rfl,rfl,rfl⟩:=e
  exact ⟨none,0,0,rfl,Nat.le_refl _,by omega,.inl rfl,fun _=>⟨rfl,rfl⟩⟩
 ·simp [Value.cells] at e
  obtain ⟨rfl,rfl,rfl⟩:=e
  refine ⟨some a,n1,c1,rfl,hlc,by unfold maxLen at hcm;omega,?_,fun h=>by cases h⟩
  by_cases h0:n1=0
  ·exact .inl h0
  have hm2:n1≤m:=by rw [hm];simp;exact hlc
  have hall:∀ i,i < n1→(∃ x:UInt8,W.cell? (a.add i)=some (.int .u8 x.toNat))∧a.block < W.heap.size:=fun i hi=>by
   obtain ⟨cs',hc,ht⟩:=hel i (by omega)
   rw [cellsU8,Nat.mul_one] at hc
   have hbl:=World.cells?_block hc (by omega)
   rw [add_block] at hbl
   obtain ⟨z,rfl,_,hw⟩:=DataW.trod_int Tryz.underlying5 ht
   simp [Lit.wf,IntKind.min,IntKind.max,IntKind.signed,IntKind.bits] at hw
   refine ⟨⟨UInt8.ofNat z.toNat,?_⟩,hbl⟩
   rw [cell_of_cells?_one hc]
   have:z.toNat < 256:=by omega
   simp [Nat.mod_eq_of_lt this]
   omega
  exact .inr ⟨a,rfl,(hall 0 (by omega)).2,fun i hi=>(hall i hi).1⟩
set_option maxRecDepth 100000 in
theorem contract_fnClayRename (H:Type) (enc:TypeId × Value→H) (W:World) (base:Nat) (args:Array Value) (ds gs:List (DataW H)) (before:List MemPlace)
  (hval:∀ (j:Nat) t v,Tryz.f3.params[j]?=some t→args[j]?=some v→Value.okWide Tryz.prog W .any base t v)
  (hW:DataW.Whole enc Tryz.prog Tryz.f3.params.toList Rows.fnClayRenameSpec.vars false W args.toList ds gs before) (hL:laidMetH Tryz.prog Rows.fnClayRenameRow.laid W) :
  Calls Tryz.prog 3 args W fun e W'=>∃ v,e=.returned v∧Rows.fnClayRenameSpec.post enc Tryz.prog Tryz.f3 false true false false W args v W':=by
 have hW':=hW
 obtain ⟨p,q,hA0,hV,rfl,hfz,hnd⟩:=hW
 have hA:DataW.TrodAll enc Tryz.prog W 0 (fun _=>true) true Tryz.f3.params.toList args.toList ds p:=hA0
 rw [Tryz.params3] at hA hval
 obtain ⟨v0,vs0,d0,ds0,p0,q0,hargs,rfl,rfl,h0,r0⟩:=trodAll_cons hA
 obtain ⟨rfl,rfl,rfl⟩:=trodAll_nil r0
 obtain rfl:args=#[v0]:=by cases args;simp_all
 obtain ⟨ad,n,cap,rfl,hc,hcm,hn,hnil⟩:=code_open (hval 0 22 v0 rfl rfl) h0
 have hlt:∀ x ∈ p0,x.block < W.heap.size:=fun x hx=>DataW.TrodAll.lt hA x (by simpa using hx)
 clear hA0
 obtain ⟨g1,hg1⟩:∃ g1,gs=[g1]:=by
  obtain ⟨_,_,_,_,d,_,e,_⟩:=trodVars_one hV
  exact ⟨d,e⟩
 subst hg1
 simp only [List.append_nil] at hW'
 refine (law_ren ad n cap W hc hcm (fun _=>hn) hnil (env_of_laid hL)).mono fun e W' ⟨he,hnx⟩=>?_
 subst he
 refine ⟨_,rfl,_,_,_,[],p0,q,hW',?_,?_,?_,hnx.frame _,fun h=>by cases h⟩
 ·exact trodAll_mk1 (shut_bool Tryz.underlying4 _)
 ·exact trodAll_mk1 (hnx.trod laidOut readB (of_decide_eq_true (by kernel_rfl)) h0 hlt)
 ·exact hnx.trodVars laidOut varsOk hV
theorem laid_met_fnClayRename (os:Os):laidMet Tryz.prog Rows.fnClayRenameRow.laid (({ World.holding Tryz.prog os startIn with heap:=((World.holding Tryz.prog os startIn).heap.modify 0 (putCells tabBN)) }:World).forCall (fun _ _=>0) ⟨#[],#[.slice none 0 0],[]⟩).memory :=
 laidMet_of_run' 8 (by kernel_rfl) (by kernel_rfl)
theorem reads_fnClayRename (os:Os) {H:Type} (enc:TypeId × Value→H):∃ places,DataW.whole enc Tryz.prog (({ World.holding Tryz.prog os startIn with heap:=((World.holding Tryz.prog os startIn).heap.modify 0 (putCells tabBN)) }:World).forCall (fun _ _=>0) ⟨#[],#[.slice none 0 0],[]⟩).memory Tryz.f3.params.toList Rows.fnClayRenameSpec.vars false #[Value.slice none 0 0].toList 8=some ([.nil],[Rows.laid_loop_example_kilnyard_impl_clayBuiltNames],places) :=
 ⟨MemPlace.row ⟨0,0,none⟩ 15,by kernel_rfl⟩
set_option maxRecDepth 100000 in
theorem lifted_fnClayRename (os:Os) (started:os.Started) (H:Type) (enc:TypeId × Value→H) (F:Stop.Interp) :
  ReturnsInHanded {} Tryz.checked os 3 .any ((OpenSpec.ofChange Rows.fnClayRenameSpec).preRow enc Tryz.prog Tryz.f3 Rows.fnClayRenameRow.domain false Rows.fnClayRenameRow.laid) (((OpenSpec.ofChange Rows.fnClayRenameSpec).at F).post enc Tryz.prog Tryz.f3 false true false false):=by
 obtain ⟨places,hx⟩:=reads_fnClayRename os enc
 refine returnsInHanded_of_row (C:=Tryz.checked) (s:=OpenSpec.ofChange Rows.fnClayRenameSpec) own started (by kernel_rfl) Tryz.func3
  (witness_row_at (enc:=enc) (C:=Tryz.checked) false ({ World.holding Tryz.prog os startIn with heap:=((World.holding Tryz.prog os startIn).heap.modify 0 (putCells tabBN)) }:World) #[.slice none 0 0] rfl (by kernel_rfl) (by kernel_rfl) (by kernel_rfl)
   (OpenSpec.preRow_of_cond 8 hx (by kernel_rfl) (fun k hk=>by cases hk) (by kernel_rfl) (laid_met_fnClayRename os))) ?_
 intro W base args ds gs before hval hW _ _ _ hL _ _
 exact contract_fnClayRename H enc W base args ds gs before hval hW hL
theorem said_fnClayRename:Rows.FnClayRenameSaid :=
 OpenClaim.holds_of_cond 3 Tryz.f3 rfl rfl rfl rfl rfl rfl rfl ⟨rfl,rfl,rfl,rfl,rfl⟩ rfl rfl rfl rfl rfl (by kernel_rfl) Tryz.func3 (by kernel_rfl)
  (of_decide_eq_true (by kernel_rfl)) (by unfold Func.isWrapper;first | (rw [if_pos (by decide +kernel)];kernel_rfl) | (rw [if_neg (by decide +kernel)];exact ⟨rfl,rfl⟩))
  (fun os started H enc _ F=>by rw [OpenClaim.pre_eq_preRow];exact lifted_fnClayRename os started H enc F)
theorem plain_fnClayRename (f : FuncId) (fn : Func) (hf : Tryz.pinned.checked.prog.funcNamed "loop.example/kilnyard/laws.FnClayRename" = some f) (hfn : Tryz.pinned.checked.prog.funcs[f]? = some fn) :
  false=Tryz.pinned.checked.prog.looks []∧∀ (j:Nat) t,fn.params[j]?=some t→Tryz.pinned.checked.prog.wantsStandIn t=false:=by
 obtain rfl : f = 3 := Option.some.inj ((show Tryz.prog.funcNamed "loop.example/kilnyard/laws.FnClayRename" = some 3 by kernel_rfl).symm.trans hf) |>.symm
 obtain rfl:fn=Tryz.f3:=(Option.some.inj (Tryz.func3.symm.trans hfn)).symm
 refine ⟨by kernel_rfl,fun j t ht=>?_⟩
 rw [Tryz.params3] at ht
 obtain rfl:t=22:=by simpa using Array.mem_of_getElem? ht
 exact (show Tryz.prog.wantsStandIn 22=false by kernel_rfl)
theorem card_fnClayRename:Rows.FnClayRenameCardSaid :=
 Claim7.holds_tied_plain_at .later [] _ _ _ _ said_fnClayRename (fun _ h=>by cases h) (by kernel_rfl) (fun _ h=>by cases h) fnClayRename_row_tie rfl ⟨rfl,rfl⟩ (by kernel_rfl) rfl plain_fnClayRename (by kernel_rfl)
#print axioms card_fnClayRename
end Go.Proofs.YthnohneaanphbaaGreatDoor
