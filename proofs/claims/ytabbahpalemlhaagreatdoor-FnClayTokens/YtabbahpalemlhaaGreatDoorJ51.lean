import Derived.Test.YtabbahpalemlhaaGreatDoorCards
import Derived.Deep.Slices
import Derived.Test.YtabbahpalemlhaaGreatDoorTie
import Derived.WalkKit
import Derived.ProofKit
import Derived.OpenShut
import Derived.Deep.DeepHandedRow
import Derived.Lib.LaidTab
import Derived.Stop.LaidErr
import Derived.OpenVars
import Derived.Test.YtabbahpalemlhaaGreatDoorJ50
namespace Go.Proofs.YtabbahpalemlhaaGreatDoor
open Go.ChangeShapes Go.WideShapes Go.ChangeAt Go.RowKit Go.Deep
open Go.ChangeMaps (open_string shut_string)
theorem own:ownKnob Tryz.prog.godebug=none:=by kernel_rfl
theorem laidOut:laidOutB Tryz.prog=true:=by kernel_rfl
theorem gMK : Tryz.prog.globalNamed "loop.example/kilnyard/impl.clayMarks" = some 0 := by kernel_rfl
theorem gMKType:(Tryz.prog.globals[0]?).map (·.type)=some 111:=by kernel_rfl
theorem gES : Tryz.prog.globalNamed "strconv.ErrSyntax" = some 2 := by kernel_rfl
theorem gESType:(Tryz.prog.globals[2]?).map (·.type)=some 107:=by kernel_rfl
theorem gER : Tryz.prog.globalNamed "strconv.ErrRange" = some 3 := by kernel_rfl
theorem gERType:(Tryz.prog.globals[3]?).map (·.type)=some 107:=by kernel_rfl
theorem gDB : Tryz.prog.globalNamed "math/bits.deBruijn32tab" = some 5 := by kernel_rfl
theorem cellsErr:Tryz.prog.cellsOf 152=1:=by kernel_rfl
theorem cellsStr:Tryz.prog.cellsOf 9=1:=by kernel_rfl
theorem cellsMK:Tryz.prog.cellsOf 111=23:=by kernel_rfl
theorem star : "*" ++ "errors.errorString" = "*errors.errorString" := by decide
theorem rowErr (u : TypeId) (h : Tryz.prog.typeName? 3 u = some "*errors.errorString") : u = 150 :=
 typeName_ptr_named (nm := "errors.errorString") (by rw [star]; kernel_rfl) (by kernel_rfl) (by decide) u (by rw [star]; exact h)
theorem varsOk:varsRowed Tryz.prog Rows.fnClayTokensSpec.vars=true:=by kernel_rfl
theorem cells_of_strs {H:Type} {enc:TypeId × Value→H} {P:Program} {w:World} {base:Nat} {sp:Nat→Bool} {held:Bool} {fuel:Nat} {t e:TypeId} {n:Nat} {cs:List Value} {zs:List (List UInt8)} {p:List MemPlace}
  (ht:P.underlying t=some (.array n e)) (he:P.underlying e=some .string) (hce:P.cellsOf e=1) (hct:P.cellsOf t=n)
  (h:DataW.trod enc P w base sp held fuel t cs=some (.agg (zs.map fun z=>.lit (.string z)),p)):cs=zs.map fun z=>Value.string ⟨z.toArray⟩:=by
 cases fuel with
 | zero=>simp [DataW.trod] at h
 | succ fuel =>
  simp only [DataW.trod,ht,hce,hct,Nat.mul_one] at h
  split at h
  ·rename_i hl
   obtain ⟨xs,hm,hx⟩:=Option.map_eq_some_iff.1 h
   have hxs:xs.map (·.1)=zs.map fun z=>(DataW.lit (.string z):DataW H):=by
    have:=congrArg Prod.fst hx
    simpa using this
   have hxl:xs.length=n:=by simpa using Lib.mapM_length hm
   have hzl:zs.length=n:=by
    have:=congrArg List.length hxs
    simp at this
    omega
   apply List.ext_getElem?
   intro i
   by_cases hi:i < n
   ·obtain ⟨b,hb,hf⟩:=Lib.mapM_at hm i i (by simp [hi])
    obtain ⟨z,hc,rfl,_⟩:=DataW.trod_string he hf
    have h1:cs[i]?=some (.string z):=by
     have:=congrArg (·[0]?) hc
     simpa [List.getElem?_take,List.getElem?_drop] using this
    have h2:(xs.map (·.1))[i]?=some (DataW.lit (.string z.data.toList):DataW H):=by simp [hb]
    rw [hxs] at h2
    simp only [List.getElem?_map,Option.map_eq_some_iff,DataW.lit.injEq,Lit.string.injEq] at h2
    obtain ⟨z',hz',e⟩:=h2
    simp [h1,hz',e]
   ·rw [List.getElem?_eq_none (by omega),List.getElem?_eq_none (by simp;omega)]
  ·cases h
theorem env_of_laid {W:World} (h:laidMetH Tryz.prog Rows.fnClayTokensRow.laid W):Env W:=by
 have h1:laidMet Tryz.prog Rows.fnClayTokensRow.laid W:=h
 have h4:=h1.tail.tail.tail
 have h5:=h4.tail
 have h6:=h5.tail
 obtain ⟨a3,s3,hv3,-,-,-⟩:=laid_sentinel h4 gER gERType Tryz.underlying107 rowErr Tryz.underlying150 Tryz.underlying152 rfl rfl Tryz.underlying9 cellsErr cellsStr
 obtain ⟨a2,s2,hv2,-,-,-⟩:=laid_sentinel h5 gES gESType Tryz.underlying107 rowErr Tryz.underlying150 Tryz.underlying152 rfl rfl Tryz.underlying9 cellsErr cellsStr
 refine ⟨⟨_,_,by have h0:=World.var?_cell gES hv2 0;simpa using h0⟩,⟨_,_,by have h0:=World.var?_cell gER hv3 0;simpa using h0⟩,?_,?_⟩
 ·obtain ⟨ps,⟨g',t',cs,fuel,p,q,hg',ht',hvar,hd,_,_⟩,_⟩:=h6
  obtain rfl:=Option.some.inj (gMK.symm.trans hg')
  obtain rfl:=Option.some.inj (gMKType.symm.trans ht')
  have e:cs.toList=marks.map fun z=>Value.string ⟨z.toArray⟩:=cells_of_strs Tryz.underlying111 Tryz.underlying9 cellsStr cellsMK hd
  have e2:cs=markArr:=by unfold markArr;rw [← e]
  unfold World.var? at hvar
  rw [gMK] at hvar
  simp only [Option.bind_some] at hvar
  split at hvar
  ·rename_i cs' t fr hh
   cases hvar
   exact ⟨t,fr,by rw [← e2];exact hh⟩
  ·cases hvar
 ·obtain ⟨ps,⟨g',t',cs,fuel,p,q,hg',ht',hvar,hd,_,_⟩,_⟩:=h1
  unfold World.var? at hvar
  rw [gDB] at hvar
  simp only [Option.bind_some] at hvar
  split at hvar
  ·rename_i hh
   have:=(Array.getElem?_eq_some_iff.1 hh).1
   omega
  ·cases hvar
theorem cellsU8:Tryz.prog.cellsOf 5=1:=by kernel_rfl
theorem readB:Tryz.prog.readableRec 22=true:=by kernel_rfl
set_option maxRecDepth 20000 in
theorem code_open {H:Type} {enc:TypeId × Value→H} {W:World} {base:Nat} {v:Value} {d:DataW H} {ps:List MemPlace} (hv:Value.okWide Tryz.prog W .any base 22 v) (h:DataW.Trod enc Tryz.prog W 0 (fun _=>true) true 22 v d ps) :
  ∃ ad n cap,v=.slice ad n cap∧n≤cap∧cap≤9223372036854775807∧CodeA W ad n∧(ad=none→n=0∧cap=0):=by
 obtain ⟨a1,n1,c1,rfl⟩:=okWide_slice Tryz.underlying22 hv
 obtain ⟨fuel,hf⟩:=h
 rcases open_slice Tryz.underlying22 hf with ⟨e,_⟩ | ⟨a,len,cap,m,n2,D,Pl,e,_,hlc,hcm,hm,_,hel⟩
 ·simp [Value.cells] at e
  obtain ⟨rfl,rfl,rfl⟩:=e
  exact ⟨none,0,0,rfl,Nat.le_refl _,by omega,.inl rfl,fun _=>⟨rfl,rfl⟩⟩
 ·simp [Value.cells] at e
  obtain ⟨rfl,rfl,rfl⟩:=e
  refine ⟨some a,n1,c1,rfl,hlc,by unfold maxLen at hcm;omega,?_,fun h=>by cases h⟩
  by_cases h0:n1=0
  ·exact .inl h0
  have hm2:n1≤m:=by rw [hm];simp;exact hlc
  have hall:∀ i,i < n1→(∃ x:UInt8,W.cell? (a.add i)=some (.int .u8 x.toNat))∧a.block < W.heap.size:=fun i hi=>by
   obtain ⟨cs',hc,ht⟩:=hel i (by omega)
   rw [cellsU8,Nat.mul_one] at hc
   have hbl:=World.cells?_block hc (by omega)
   rw [add_block] at hbl
   obtain ⟨z,rfl,_,hw⟩:=DataW.trod_int Tryz.underlying5 ht
   simp [Lit.wf,IntKind.min,IntKind.max,IntKind.signed,IntKind.bits] at hw
   refine ⟨⟨UInt8.ofNat z.toNat,?_⟩,hbl⟩
   rw [cell_of_cells?_one hc]
   have:z.toNat < 256:=by omega
   simp [Nat.mod_eq_of_lt this]
   omega
  exact .inr ⟨a,rfl,(hall 0 (by omega)).2,fun i hi=>(hall i hi).1⟩
set_option maxRecDepth 100000 in
theorem contract (H:Type) (enc:TypeId × Value→H) (W:World) (base:Nat) (args:Array Value) (ds gs:List (DataW H)) (before:List MemPlace)
  (hval:∀ (j:Nat) t v,Tryz.f3.params[j]?=some t→args[j]?=some v→Value.okWide Tryz.prog W .any base t v)
  (hW:DataW.Whole enc Tryz.prog Tryz.f3.params.toList Rows.fnClayTokensSpec.vars false W args.toList ds gs before) (hL:laidMetH Tryz.prog Rows.fnClayTokensRow.laid W) :
  Calls Tryz.prog 3 args W fun e W'=>∃ v,e=.returned v∧Rows.fnClayTokensSpec.post enc Tryz.prog Tryz.f3 false true false false W args v W':=by
 have hW':=hW
 obtain ⟨p,q,hA0,hV,rfl,hfz,hnd⟩:=hW
 have hA:DataW.TrodAll enc Tryz.prog W 0 (fun _=>true) true Tryz.f3.params.toList args.toList ds p:=hA0
 rw [Tryz.params3] at hA hval
 obtain ⟨v0,vs0,d0,ds0,p0,q0,hargs,rfl,rfl,h0,r0⟩:=trodAll_cons hA
 obtain ⟨rfl,rfl,rfl⟩:=trodAll_nil r0
 obtain rfl:args=#[v0]:=by cases args;simp_all
 obtain ⟨ad,n,cap,rfl,hc,hcm,hn,hnil⟩:=code_open (hval 0 22 v0 rfl rfl) h0
 have hlt:∀ x ∈ p0,x.block < W.heap.size:=fun x hx=>DataW.TrodAll.lt hA x (by simpa using hx)
 clear hA0
 obtain ⟨g1,hg1⟩:∃ g1,gs=[g1]:=by
  obtain ⟨_,_,_,_,d,_,e,_⟩:=trodVars_one hV
  exact ⟨d,e⟩
 subst hg1
 simp only [List.append_nil] at hW'
 refine (Tk.law_tokens ad n cap W hc hcm (fun _=>hn) hnil (env_of_laid hL)).mono fun e W' ⟨he,hnx⟩=>?_
 subst he
 refine ⟨_,rfl,_,_,_,[],p0,q,hW',?_,?_,?_,hnx.frame _,fun h=>by cases h⟩
 ·exact trodAll_mk1 (shut_bool Tryz.underlying4 _)
 ·exact trodAll_mk1 (hnx.trod laidOut readB (of_decide_eq_true (by kernel_rfl)) h0 hlt)
 ·exact hnx.trodVars laidOut varsOk hV
def tabMK:Array Value:=#[.string ⟨#[61,61]⟩,.string ⟨#[33,61]⟩,.string ⟨#[60,61]⟩,.string ⟨#[62,61]⟩,.string ⟨#[61,62]⟩,.string ⟨#[40]⟩,.string ⟨#[41]⟩,.string ⟨#[91]⟩,.string ⟨#[93]⟩,.string ⟨#[123]⟩,.string ⟨#[125]⟩,.string ⟨#[44]⟩,.string ⟨#[59]⟩,.string ⟨#[58]⟩,.string ⟨#[46]⟩,.string ⟨#[61]⟩,.string ⟨#[60]⟩,.string ⟨#[62]⟩,.string ⟨#[43]⟩,.string ⟨#[45]⟩,.string ⟨#[42]⟩,.string ⟨#[47]⟩,.string ⟨#[37]⟩]
def tabP:Array Value:=#[.int .u64 1,.int .u64 10,.int .u64 100,.int .u64 1000,.int .u64 10000,.int .u64 100000,.int .u64 1000000,.int .u64 10000000,.int .u64 100000000,.int .u64 1000000000,.int .u64 10000000000,.int .u64 100000000000,.int .u64 1000000000000,.int .u64 10000000000000,.int .u64 100000000000000,.int .u64 1000000000000000,.int .u64 10000000000000000,.int .u64 100000000000000000,.int .u64 1000000000000000000,.int .u64 10000000000000000000]
def tab32:Array Value:=#[.int .u8 0,.int .u8 1,.int .u8 28,.int .u8 2,.int .u8 29,.int .u8 14,.int .u8 24,.int .u8 3,.int .u8 30,.int .u8 22,.int .u8 20,.int .u8 15,.int .u8 25,.int .u8 17,.int .u8 4,.int .u8 8,.int .u8 31,.int .u8 27,.int .u8 13,.int .u8 23,.int .u8 21,.int .u8 19,.int .u8 16,.int .u8 7,.int .u8 26,.int .u8 12,.int .u8 18,.int .u8 6,.int .u8 11,.int .u8 5,.int .u8 10,.int .u8 9]
def tab64:Array Value:=#[.int .u8 0,.int .u8 1,.int .u8 56,.int .u8 2,.int .u8 57,.int .u8 49,.int .u8 28,.int .u8 3,.int .u8 61,.int .u8 58,.int .u8 42,.int .u8 50,.int .u8 38,.int .u8 29,.int .u8 17,.int .u8 4,.int .u8 62,.int .u8 47,.int .u8 59,.int .u8 36,.int .u8 45,.int .u8 43,.int .u8 51,.int .u8 22,.int .u8 53,.int .u8 39,.int .u8 33,.int .u8 30,.int .u8 24,.int .u8 18,.int .u8 12,.int .u8 5,.int .u8 63,.int .u8 55,.int .u8 48,.int .u8 27,.int .u8 60,.int .u8 41,.int .u8 37,.int .u8 16,.int .u8 46,.int .u8 35,.int .u8 44,.int .u8 21,.int .u8 52,.int .u8 32,.int .u8 23,.int .u8 11,.int .u8 54,.int .u8 26,.int .u8 40,.int .u8 15,.int .u8 34,.int .u8 20,.int .u8 31,.int .u8 10,.int .u8 25,.int .u8 14,.int .u8 19,.int .u8 9,.int .u8 13,.int .u8 8,.int .u8 7,.int .u8 6]
def putCells (cs:Array Value):Obj→Obj
 | .cells _ t frozen=>.cells cs t frozen
 | o=>o
def startIn:Input:=⟨#[.cells #[.string ⟨#[105,110,118,97,108,105,100,32,115,121,110,116,97,120]⟩] 152,.cells #[.string ⟨#[118,97,108,117,101,32,111,117,116,32,111,102,32,114,97,110,103,101]⟩] 152],#[],[]⟩
theorem laid_met (os:Os):laidMet Tryz.prog Rows.fnClayTokensRow.laid (({ World.holding Tryz.prog os startIn with heap:=((((((World.holding Tryz.prog os startIn).heap.modify 0 (putCells tabMK)).modify 2 (putCells #[.iface 150 (.pointer (some ⟨(World.holding Tryz.prog default ⟨#[],#[],[]⟩).heap.size,0,none⟩))])).modify 3 (putCells #[.iface 150 (.pointer (some ⟨(World.holding Tryz.prog default ⟨#[],#[],[]⟩).heap.size+1,0,none⟩))])).modify 4 (putCells tabP)).modify 5 (putCells tab32)).modify 6 (putCells tab64) }:World).forCall (fun _ _=>0) ⟨#[],#[.slice none 0 0],[]⟩).memory :=
 laidMet_of_run' 8 (by kernel_rfl) (by kernel_rfl)
theorem reads (os:Os) {H:Type} (enc:TypeId × Value→H):∃ places,DataW.whole enc Tryz.prog (({ World.holding Tryz.prog os startIn with heap:=((((((World.holding Tryz.prog os startIn).heap.modify 0 (putCells tabMK)).modify 2 (putCells #[.iface 150 (.pointer (some ⟨(World.holding Tryz.prog default ⟨#[],#[],[]⟩).heap.size,0,none⟩))])).modify 3 (putCells #[.iface 150 (.pointer (some ⟨(World.holding Tryz.prog default ⟨#[],#[],[]⟩).heap.size+1,0,none⟩))])).modify 4 (putCells tabP)).modify 5 (putCells tab32)).modify 6 (putCells tab64) }:World).forCall (fun _ _=>0) ⟨#[],#[.slice none 0 0],[]⟩).memory Tryz.f3.params.toList Rows.fnClayTokensSpec.vars false #[Value.slice none 0 0].toList 8=some ([.nil],[Rows.laid_loop_example_kilnyard_impl_clayMarks],places) :=
 ⟨MemPlace.row ⟨0,0,none⟩ 23,by kernel_rfl⟩
set_option maxRecDepth 100000 in
theorem lifted (os:Os) (started:os.Started) (H:Type) (enc:TypeId × Value→H) (F:Stop.Interp) :
  ReturnsInHanded {} Tryz.checked os 3 .any ((OpenSpec.ofChange Rows.fnClayTokensSpec).preRow enc Tryz.prog Tryz.f3 Rows.fnClayTokensRow.domain false Rows.fnClayTokensRow.laid) (((OpenSpec.ofChange Rows.fnClayTokensSpec).at F).post enc Tryz.prog Tryz.f3 false true false false):=by
 obtain ⟨places,hx⟩:=reads os enc
 refine returnsInHanded_of_row (C:=Tryz.checked) (s:=OpenSpec.ofChange Rows.fnClayTokensSpec) own started (by kernel_rfl) Tryz.func3
  (witness_row_at (enc:=enc) (C:=Tryz.checked) false ({ World.holding Tryz.prog os startIn with heap:=((((((World.holding Tryz.prog os startIn).heap.modify 0 (putCells tabMK)).modify 2 (putCells #[.iface 150 (.pointer (some ⟨(World.holding Tryz.prog default ⟨#[],#[],[]⟩).heap.size,0,none⟩))])).modify 3 (putCells #[.iface 150 (.pointer (some ⟨(World.holding Tryz.prog default ⟨#[],#[],[]⟩).heap.size+1,0,none⟩))])).modify 4 (putCells tabP)).modify 5 (putCells tab32)).modify 6 (putCells tab64) }:World) #[.slice none 0 0] rfl (by kernel_rfl) (by kernel_rfl) (by kernel_rfl)
   (OpenSpec.preRow_of_cond 8 hx (by kernel_rfl) (fun k hk=>by cases hk) (by kernel_rfl) (laid_met os))) ?_
 intro W base args ds gs before hval hW _ _ _ hL _ _
 exact contract H enc W base args ds gs before hval hW hL
theorem said:Rows.FnClayTokensSaid :=
 OpenClaim.holds_of_cond 3 Tryz.f3 rfl rfl rfl rfl rfl rfl rfl ⟨rfl,rfl,rfl,rfl,rfl⟩ rfl rfl rfl rfl rfl (by kernel_rfl) Tryz.func3 (by kernel_rfl)
  (of_decide_eq_true (by kernel_rfl)) (by unfold Func.isWrapper;first | (rw [if_pos (by decide +kernel)];kernel_rfl) | (rw [if_neg (by decide +kernel)];exact ⟨rfl,rfl⟩))
  (fun os started H enc _ F=>by rw [OpenClaim.pre_eq_preRow];exact lifted os started H enc F)
theorem plain (f : FuncId) (fn : Func) (hf : Tryz.pinned.checked.prog.funcNamed "loop.example/kilnyard/laws.FnClayTokens" = some f) (hfn : Tryz.pinned.checked.prog.funcs[f]? = some fn) :
  true=Tryz.pinned.checked.prog.looks []∧∀ (j:Nat) t,fn.params[j]?=some t→Tryz.pinned.checked.prog.wantsStandIn t=false:=by
 obtain rfl : f = 3 := Option.some.inj ((show Tryz.prog.funcNamed "loop.example/kilnyard/laws.FnClayTokens" = some 3 by kernel_rfl).symm.trans hf) |>.symm
 obtain rfl:fn=Tryz.f3:=(Option.some.inj (Tryz.func3.symm.trans hfn)).symm
 refine ⟨by kernel_rfl,fun j t ht=>?_⟩
 rw [Tryz.params3] at ht
 obtain rfl:t=22:=by simpa using Array.mem_of_getElem? ht
 exact (show Tryz.prog.wantsStandIn 22=false by kernel_rfl)
theorem card_fnClayTokens:Rows.FnClayTokensCardSaid :=
 Claim7.holds_tied_plain_at .later [] _ _ _ _ said (fun _ h=>by cases h) (by kernel_rfl) (fun _ h=>by cases h) fnClayTokens_row_tie rfl ⟨rfl,rfl⟩ (by kernel_rfl) rfl plain (by kernel_rfl)
#print axioms card_fnClayTokens
end Go.Proofs.YtabbahpalemlhaaGreatDoor
