import Derived.Test.YthnohneaanphbaaGreatDoorJ29
namespace Go.Proofs.YthnohneaanphbaaGreatDoor
open Go.RowKit Go.Maps Go.WideMaps
set_option maxRecDepth 20000
theorem ends_join {x:Bx} {w wr w1:World} {bn bn1:Nat→Int} {p:Int × Int} {e1 e2:List Ev} (hs:Sv x.S w wr) (hn:fls e1=[]→bn1=apB bn e1) (h2:x.Ends wr w1 bn1 (ft p (fls e1)) e2):x.Ends w w1 bn p (e1 ++ e2):=by
 obtain ⟨s2,b2,a2,n2⟩:=h2
 refine ⟨hs.trans s2,b2,by rw [fls_append,ft_append];exact a2,fun h=>?_⟩
 rw [fls_append] at h
 obtain ⟨e3,e4⟩:=List.append_eq_nil_iff.1 h
 rw [n2 e4,hn e3,apB_append]
theorem Bx.kids {x:Bx} (hx:x.Ok) {w:World} (ht:Stb x.S w x.Tree) (k:Nat) (hk:k < x.N):∃ ad c,(x.o.getD k []).length≤c∧c≤maxLen∧(x.o.getD k []=[]∨∃ g,ad=some ⟨g,0,none⟩) ∧
  Stb x.S w fun W=>W.cell? ⟨x.gk,k,none⟩=some (.slice ad (x.o.getD k []).length c)∧PlA W ad (x.o.getD k []):=by
 obtain ⟨ad,c,h1,h2,h3,h4⟩:=ht.now.2 k hk
 refine ⟨ad,c,h2,h3,h4.imp_right fun ⟨g,h,_⟩=>⟨g,h⟩,fun W hW=>?_⟩
 have e:=(hW.cell (p:=⟨x.gk,k,none⟩) (World.block_lt_of_cell? w _ h1) hx.gk).trans h1
 obtain ⟨ad',c',h5,_,_,h6⟩:=(ht W hW).2 k hk
 rw [e] at h5
 cases h5
 refine ⟨e,h6.imp_right ?_⟩
 rintro ⟨g,rfl,h7⟩
 exact ⟨g,0,rfl,fun i hi=>by rw [Nat.zero_add];exact h7 i hi⟩
theorem Bx.At.grown {x:Bx} {W W':World} {bn:Nat→Int} {c a:Int} {m:Nat} (h:x.At W bn c a) (hg:W.grownBy W' (some m)) (hm:¬ x.S m):x.At W' bn c a:=by
 have hl:=h.lt
 obtain ⟨h1,cur,h2,h3⟩:=h
 exact ⟨(hg.block _ (hl _ (.inl rfl)) (fun e=>hm (by injection e with e;exact .inl e.symm))).trans h1,cur,(hg.block _ (hl _ (.inr rfl)) (fun e=>hm (by injection e with e;exact .inr e.symm))).trans h2,h3⟩
theorem finds_more {x:Bx} (hne:x.bb≠x.gb) (code at_:Nat) {w wr:World} {bn bn1:Nat→Int} {p:Int × Int} {ec:List Ev} (hs:Sv x.S w wr) (ha:x.At wr bn1 (ft p (fls ec)).1 (ft p (fls ec)).2) (hn:fls ec=[]→bn1=apB bn ec) :
  Calls Tryz.prog 97 #[.pointer (some ⟨x.bb,0,none⟩),.int .i64 code,.int .i64 at_] wr fun e w'=>e=.returned (.tuple #[])∧x.Ends w w' bn p (ec ++ [.flt at_ code])∧Sv x.S wr w':=by
 refine (finds_any x code at_ bn1 (ft p (fls ec)) wr ha hne).mono ?_
 rintro e w' ⟨rfl,h⟩
 exact ⟨rfl,ends_join hs hn h,h.1⟩
theorem finds_int {x:Bx} (hne:x.bb≠x.gb) (code:Int) (hc:0≤code) (at_:Nat) {w wr:World} {bn bn1:Nat→Int} {p:Int × Int} {ec:List Ev} (hs:Sv x.S w wr) (ha:x.At wr bn1 (ft p (fls ec)).1 (ft p (fls ec)).2) (hn:fls ec=[]→bn1=apB bn ec) :
  Calls Tryz.prog 97 #[.pointer (some ⟨x.bb,0,none⟩),.int .i64 code,.int .i64 at_] wr fun e w'=>e=.returned (.tuple #[])∧x.Ends w w' bn p (ec ++ [.flt at_ code.toNat])∧Sv x.S wr w':=by
 obtain ⟨c,rfl⟩:=Int.eq_ofNat_of_zero_le hc
 exact finds_more hne c at_ hs ha hn
structure PInv (x:Bx) (W:Env→Nat→List Ev) (w wr:World) (a:Option Addr) (kn:Env) (bn:Nat→Int) (p:Int × Int) (ps:List Nat) (j:Nat) (b m:Nat) (d:Bool):Prop where
 run:∃ f ns es,Top wr b m j f (.pointer a)∧x.Ends w wr bn p es∧(∀ t,(f t).isSome=inL t ns) ∧
  es ++ (prm x.nd x.o W (ps.drop j) (fun t=>(f t).getD (kn t)) ns d).1=(prm x.nd x.o W ps kn [] false).1∧(prm x.nd x.o W (ps.drop j) (fun t=>(f t).getD (kn t)) ns d).2=(prm x.nd x.o W ps kn [] false).2
theorem ext_set (f:ByteArray→Option Int) (kn:Env) (s:ByteArray) (v:Int):(fun t=>(setF f s v t).getD (kn t))=Env.ext (fun t=>(f t).getD (kn t)) s v:=by
 funext t
 unfold setF Env.ext
 split <;> rfl
theorem inL_cons (t s:ByteArray) (ns:List ByteArray):inL t (s :: ns)=(decide (s=t) || inL t ns):=rfl
theorem set_some {f:ByteArray→Option Int} {ns:List ByteArray} (h:∀ t,(f t).isSome=inL t ns) (s:ByteArray) (v:Int):∀ t,(setF f s v t).isSome=inL t (s :: ns):=by
 intro t
 rw [inL_cons]
 unfold setF
 by_cases e:t=s
 ·subst e;simp
 ·rw [if_neg e,h t]
  have:¬ s=t:=fun h=>e h.symm
  simp [this]
theorem prm_drop (nd:Nat→Nd) (o:List (List Nat)) (W:Env→Nat→List Ev) {ps:List Nat} {j y:Nat} (h:ps[j]?=some y) (kn:Env) (ns:List ByteArray) (d:Bool) :
  prm nd o W (ps.drop j) kn ns d=((o.getD y []).flatMap (W kn) ++ ((if inL (nd y).text ns=true then [.flt y 8] else []) ++ ((if d=true∧o.getD y []=[] then [.flt y 10] else []) ++
   (prm nd o W (ps.drop (j+1)) (kn.ext (nd y).text y) ((nd y).text :: ns) (d || !(o.getD y []).isEmpty)).1)),
   (prm nd o W (ps.drop (j+1)) (kn.ext (nd y).text y) ((nd y).text :: ns) (d || !(o.getD y []).isEmpty)).2):=by
 have hl:=(List.getElem?_eq_some_iff.1 h).1
 have e:ps[j]=y:=(List.getElem?_eq_some_iff.1 h).2
 rw [List.drop_eq_getElem_cons hl,e]
 rfl
set_option maxHeartbeats 2000000 in
theorem function_of (x:Bx) (hx:x.Ok) (ps:List Nat) (l:Nat) (kn:Env) (W:Env→Nat→List Ev) (hw:∀ q ∈ ps,∀ j ∈ x.o.getD q [],∀ kn,WalksTo x j (fun kn=>W kn j) kn) (hlast:∀ kn,WalksTo x l (fun kn=>W kn l) kn) (hpN:∀ q ∈ ps,q < x.N) (hlen:ps.length≤4000)
  (g cp:Nat) (a:Option Addr) (bn:Nat→Int) (p:Int × Int) (w:World) (hcp:ps.length+1≤cp) (hp:Stb x.S w fun W=>∀ i,i < ps.length+1→W.cell? ⟨g,i,none⟩=some (.int .i64 ((ps ++ [l]).getD i 0:Nat))) (h:x.At w bn p.1 p.2) (ht:Stb x.S w x.Tree) (hk:Kn x.S w (.pointer a) kn) :
  Calls Tryz.prog 67 #[.pointer (some ⟨x.bb,0,none⟩),.slice (some ⟨g,0,none⟩) (ps.length+1) cp,.pointer a] w fun e w'=>e=.returned (.tuple #[])∧x.Ends w w' bn p ((prm x.nd x.o W ps kn [] false).1 ++ W (prm x.nd x.o W ps kn [] false).2 l):=by
 have HX:=hid hx
 have HW:=hid hw
 have HL:=hid hlast
 have HPN:=hid hpN
 have HP:=hid hp
 have H:=hid h
 have HT:=hid ht
 have HK:=hid hk
 clear hx hw hlast hpN hp h ht hk
 obtain ⟨m,hm⟩:∃ m,ps.length=m:=⟨_,rfl⟩
 have HM:=hid hm
 rw [hm] at hlen hcp HP ⊢
 clear hm
 go_enter Tryz.func67,Tryz.ntmps67
 go_wp2_with (first
  | (go_at_call 98;refine (inside_any a _).mono ?_;rintro e w1 ⟨b,mm,rfl,htop,hb,hmm,hbw⟩;have HTOP:=hid htop;have HBW:=hid hbw;clear htop hbw))
 have HSb:Hid (¬ x.S b):=fun h=>by have:=H.out.lt b h;omega
 have HSm:Hid (¬ x.S mm):=fun h=>by have:=H.out.lt mm h;omega
 go_loopw [8,23] (fun dv i wr=>∃ (j:Nat) (d:Bool),j≤m∧i=.int .i64 j∧dv=.bool d∧PInv x W w wr a kn bn p ps j b mm d) (fun _ i _=>m - (intOf i).toNat)
 case atStart=>exact ⟨0,false,Nat.zero_le _,rfl,rfl,⟨_,[],[],HTOP.out,⟨Sv.of_below HBW.out,bn,H.out.go HBW.out,fun _=>rfl⟩,fun t=>rfl,rfl,rfl⟩⟩
 case round =>
  obtain ⟨j,d,hj,rfl,rfl,⟨f,ns,es,htop,hen,hfs,hes,hkn⟩⟩:=hrel
  clear HTOP
  have HTOP:=hid htop
  have HFS:=hid hfs
  have HES:=hid hes
  have HKN:=hid hkn
  obtain ⟨hs1,bn1,ha1,hn1⟩:=hen
  have HS1:=hid hs1
  have HA1:=hid ha1
  have HN1:=hid hn1
  clear htop hfs hes hkn hs1 ha1 hn1
  by_cases hlt:j < m
  ·obtain ⟨y,hy⟩:∃ y,ps[j]?=some y:=⟨_,List.getElem?_eq_getElem (by have:=HM.out;omega)⟩
   have HY:=hid hy
   have HYM:=hid (List.mem_of_getElem? hy)
   have hyN:=HPN.out y HYM.out
   have hN5:=HX.out.N
   have c0:=HP.out _ HS1.out j (by omega)
   rw [List.getD_eq_getElem?_getD,List.getElem?_append_left (by have:=HM.out;omega),hy] at c0
   simp only [Option.getD_some] at c0
   clear hy
   obtain ⟨ad,c,hk1,hk2,hk3,hk4⟩:=Bx.kids HX.out HT.out y hyN
   obtain ⟨kl,hkl⟩:∃ kl,x.o.getD y []=kl:=⟨_,rfl⟩
   have HKL:=hid hkl
   have HK5:=hid (HX.out.kids y)
   rw [hkl] at hk4 hk1 HK5
   have HK4:=hid hk4
   have k0:=(hk4 _ HS1.out).1
   clear hk4 hk3 hkl
   obtain ⟨f0,f1,f2,f3,f4,f5,f6⟩:=HA1.out.five
   go_wp2_with (first
    | (go_at_call 65;refine (walkAll_of x kl (fun t=>(f t).getD (kn t)) (fun j kn=>W kn j) (fun j hj=>HW.out y HYM.out j (by rw [HKL.out];exact hj) _) ad c (some ⟨b,0,none⟩) bn1 (ft p (fls es)) _ HK5.out (fun W' hW'=>(HK4.out W' (HS1.out.trans hW')).2) HA1.out (HT.out.go HS1.out) (HK.out.top HS1.out HTOP.out HSb.out HSm.out hb)).mono ?_;rintro e w2 ⟨rfl,hen1⟩;have HE1:=hid hen1;clear hen1))
   clear f0 f1 f2 f3 f4 f5 f6 k0 c0
   have HEN:Hid (x.Ends w w2 bn p (es ++ kl.flatMap (fun j=>W (fun t=>(f t).getD (kn t)) j))):=ends_join HS1.out HN1.out HE1.out
   have HSR:=hid HE1.out.1
   clear HE1 HA1 HN1
   obtain ⟨hsc,bnc,hac,hnc⟩:=HEN.out
   have HSC:=hid hsc
   have HAC:=hid hac
   have HNC:=hid hnc
   have HTC:=hid (HTOP.out.go HSR.out HSb.out HSm.out)
   clear hsc hac hnc HEN
   obtain ⟨f0,f1,f2,f3,f4,f5,f6⟩:=HAC.out.five
   have t0:=HTC.out.made
   obtain ⟨c0,c1,c2,c3,c4⟩:=(HT.out _ HSC.out).1 y hyN
   have hget:=(HTC.out.map.keep (W':=w2.drew) rfl).get (x.nd y).text (HX.out.text y hyN)
   rw [HFS.out] at hget
   go_region
   have HSC:Hid (Sv x.S w w2.drew):=HSC.out.drew
   have HSR:Hid (Sv x.S wr w2.drew):=HSR.out.drew
   have HAC:Hid (x.At w2.drew bnc (ft p (fls (es ++ kl.flatMap (fun j=>W (fun t=>(f t).getD (kn t)) j)))).1 (ft p (fls (es ++ kl.flatMap (fun j=>W (fun t=>(f t).getD (kn t)) j)))).2):=HAC.out
   clear f0 f1 f2 f3 f4 f5 f6 c0 c1 c2 c3 c4 t0 hget HTC
   generalize w2.drew=w3 at *
   obtain ⟨f0,f1,f2,f3,f4,f5,f6⟩:=HAC.out.five
   have k0:=(HK4.out _ HSC.out).1
   cases htw:inL (x.nd y).text ns
   all_goals cases hkk:kl
   all_goals cases hdd:d
   all_goals
    rw [hkk] at k0 hk1 HK4 HKL HAC HNC
    simp only [List.length_nil,List.length_cons] at k0
    have HTW:=hid htw
    clear htw
    go_wp2_with (first | (go_at_call 97;refine (finds_int HX.out.ne _ (by decide) y HSC.out HAC.out HNC.out).mono ?_;rintro e w4 ⟨rfl,hen,hsv⟩;have HEN:=hid hen;have HSR:=hid (HSR.out.trans hsv);clear hen hsv HSC HAC HNC f0 f1 f2 f3 f4 f5 f6 k0;obtain ⟨hsc,bnc,hac,hnc⟩:=HEN.out;have HSC:=hid hsc;have HAC:=hid hac;have HNC:=hid hnc;clear hsc hac hnc HEN;obtain ⟨f0,f1,f2,f3,f4,f5,f6⟩:=HAC.out.five;have k0:=(HK4.out _ HSC.out).1))
    have HTC0:=hid (HTOP.out.go HSR.out HSb.out HSm.out)
    have HTC:=hid (HTC0.out.go ((Sv.refl x.S _).drew) HSb.out HSm.out)
    have t0:=HTC0.out.made
    obtain ⟨c0,c1,c2,c3,c4⟩:=(HT.out _ HSC.out).1 y hyN
    obtain ⟨w6,hput,hmap,hgr⟩:=HTC.out.map.put (by unfold maxLen;omega) (x.nd y).text (HX.out.text y hyN) y (wf_nat y (by omega))
    have HPUT:=hid (top_put HTC.out hgr hmap HSC.out.drew hmm)
    have HA6:=hid (Bx.At.grown (W:=World.drew _) HAC.out hgr HSm.out)
    clear hmap hgr
    go_region
    clear c0 c1 c2 c3 c4 t0 f0 f1 f2 f3 f4 f5 f6 hput
    go_wp2
    go_roundw
    case rel =>
     refine ⟨j+1,_,by omega,by go_num,rfl,⟨_,_,_,HPUT.out.1,⟨HPUT.out.2,bnc,HA6.out,HNC.out⟩,set_some HFS.out (x.nd y).text y,?_,?_⟩⟩
     ·rw [← HES.out,prm_drop _ _ _ HY.out,ext_set,HKL.out,HTW.out]
      simp [List.append_assoc,hdd]
     ·rw [← HKN.out,prm_drop _ _ _ HY.out,ext_set,HKL.out]
      simp [hdd]
    case measure=>simp [intOf];omega
  ·obtain rfl:j=m:=by omega
   have c0:=HP.out _ HS1.out j (by omega)
   rw [List.getD_eq_getElem?_getD,List.getElem?_append_right (by have:=HM.out;omega),HM.out,Nat.sub_self] at c0
   simp only [List.getElem?_cons_zero,Option.getD_some] at c0
   have e:ps.drop j=[]:=List.drop_eq_nil_of_le (by have:=HM.out;omega)
   rw [e] at HES HKN
   simp only [prm,List.append_nil] at HES HKN
   have e2:es=(prm x.nd x.o W ps kn [] false).1:=HES.out
   have e3:(fun t=>(f t).getD (kn t))=(prm x.nd x.o W ps kn [] false).2:=HKN.out
   have HKT:=hid (HK.out.top HS1.out HTOP.out HSb.out HSm.out hb)
   rw [e3] at HKT
   rw [e2] at HA1 HN1
   clear e e2 e3
   go_wp2_with (first
    | (go_at_call 36;refine (HL.out _ _ bn1 _ _ HA1.out (HT.out.go HS1.out) HKT.out).mono ?_;rintro e w2 ⟨rfl,hen1⟩;have HE1:=hid hen1;clear hen1))
   go_end0
   exact ⟨rfl,ends_join HS1.out HN1.out HE1.out⟩
end Go.Proofs.YthnohneaanphbaaGreatDoor
