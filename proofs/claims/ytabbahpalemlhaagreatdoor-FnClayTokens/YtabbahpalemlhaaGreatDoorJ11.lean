import Derived.Deep.RegionLaw
import Derived.Deep.RegionHeld3
import Derived.Test.YtabbahpalemlhaaGreatDoorJ10
namespace Go.Proofs.YtabbahpalemlhaaGreatDoor
open Go.RowKit
set_option maxRecDepth 20000
theorem seen_cut {w:World} {B:Nat} {v:Value} {ns:List (ByteArray × Int)} {x:ByteArray × Int} (h:w.ownsRow B 123 2 v (ns ++ [x]).length (seenRow (ns ++ [x]))) :
  ∃ g cap:Nat,v=.slice (some ⟨g,0,none⟩) (ns.length+1) cap∧ns.length≤cap∧cap≤maxLen∧w.ownsRow B 123 2 (.slice (some ⟨g,0,none⟩) ns.length cap) ns.length (seenRow ns):=by
 obtain ⟨a,⟨_,h0⟩ | ⟨g,cap,cur,e,h1,h2,h3,h4,h5,h6⟩⟩:=h
 ·simp at h0
 ·simp only [List.length_append,List.length_cons,List.length_nil] at e h3 h6
  refine ⟨g,cap,e,by omega,h4,seenRow_length ns,.inr ⟨g,cap,cur,rfl,h1,h2,by omega,h4,h5,?_⟩⟩
  have:=congrArg (List.take (ns.length * 2)) h6
  rw [List.take_take,Nat.min_eq_left (by omega),seenRow_append,List.take_left' (seenRow_length ns)] at this
  exact this
theorem gen_set {R G:Nat} {w:World} {ns':List (ByteArray × Int)} {fs:List Fn} {c:Nat} {sz:Int} {p:Nat} {vn vf:Value} (h1:w.heap[G]?=some (.cells #[.pointer (some ⟨R,0,none⟩),vn,vf,.int .i64 c,.int .i64 sz] 102 (0,0))) (h3:w.ownsRow R 129 4 vf fs.length (fnRow fs)) (h4:Rd R w p) (h5:R < G) (h7:∀ f ∈ fs,FnOk w f) (v:Value) (hv:w.ownsRow R 123 2 v ns'.length (seenRow ns')) (hn:∀ x ∈ ns',x.1.size≤100):GenAt R G R (w.setCell ⟨G,1,none⟩ v) ns' fs c sz p∧Gk R w (w.setCell ⟨G,1,none⟩ v):=by
 have hg:Gk R w (w.setCell ⟨G,1,none⟩ v):=(Gk.refl R w).set h1 (by unfold GenT;decide) (by omega) (by decide) _
 refine ⟨⟨⟨v,vf,?_,own_setG hv h1 (by decide),own_setG h3 h1 (by decide)⟩,?_,⟨Nat.le_refl _,h5⟩,hn,fun f hf=>(h7 f hf).gk hg⟩,hg⟩
 ·have:=set_at (i:=1) v h1
  simpa using this
 ·exact h4.sv (S:=fun k=>k=G) (Sv.setCell (S:=fun k=>k=G) (Sv.refl _ w) (p:=⟨G,1,none⟩) (.inl rfl) _) (fun k e=>by subst e;exact h5)
set_option maxHeartbeats 2000000 in
theorem inside_at {d:Int} {K Ce:Nat} (he:EOk d K Ce) {s:Gs} {C:Nat} {w w':World} (h:At s C w w') (hr:Room (C+Ce+11) s) (name:ByteArray) (hn:name.size≤100) (kind want:Int) :
  Calls Tryz.prog 94 #[.pointer (some ⟨s.G,0,none⟩),.string name,.int .i64 kind,.int .i64 want,.int .i64 d] w' (NdEnd s K (C+Ce) w w'):=by
 obtain ⟨R,G,ns,fs,c0,sz0,p0⟩:=s
 obtain ⟨p',c',sz',h1,h2,h3,h4,h5,h6,h7,h8⟩:=h
 simp only at h1 h2 h3 h4 h5 h6 h7 h8 ⊢
 have HG:=hid h7
 have HK0:=hid h8
 have HE:=hid he
 have HR:=hid hr
 have HRN:Hid (p0+(C+Ce+11)≤1000000∧c0+(C+Ce+11)≤1000000∧-1000000≤sz0 - ((C+Ce+11:Nat):Int)∧sz0≤1000∧ns.length+(C+Ce+11)≤1000000):=⟨hr.p,hr.c,hr.lo,hr.hi,hr.n⟩
 have hnl:ns.length≤1000000:=by have:=hr.n;simp only at this;omega
 obtain ⟨i0,hi,hz0,hz1,hz2⟩:=info_parts info_sn
 have HHI:=hid (And.intro hi (And.intro hz0 (And.intro hz1 hz2)))
 have HBD:=hid (And.intro h1 (And.intro h2 (And.intro h3 (And.intro h4 (And.intro h5 h6)))))
 clear hi hz0 hz1 hz2 h8 he hr h1 h2 h3 h4 h5 h6
 obtain ⟨vn,vf,g1,g2,g3⟩:=h7.ex
 have HO:=hid g2
 have x1:=cell_hp g1 1
 simp at x1
 obtain ⟨an,cn,rfl⟩:=own_sl g2
 have HGC:=hid g1
 clear g1 g2 g3 h7
 go_enter Tryz.func94,Tryz.ntmps94
 have hB:R≤w'.heap.size:=HG.out.bw
 have HA:=hid ((Below.refl w'.heap.size w').alloc (Nat.le_refl _) (.cells #[.string name,.int .i64 kind] 123))
 go_wp2_with (at_builtin;refine wpList_append_own _ rfl _ _ 99 rfl R 123 i0 (.agg #[.string ⟨#[]⟩,.int .i64 0]) 2 24 Tryz.underlying99 HHI.out.1 HHI.out.2.1 HHI.out.2.2.1 HHI.out.2.2.2 rfl (by decide) _ _ _ rfl (HO.out.alloc _) ⟨w'.heap.size,0,none⟩ 1 1 [.string name,.int .i64 kind] rfl rfl ?c1 ?c2 ?c3 ?c4 ?c5 ?_)
 case c1 =>
  intro j u hj
  match j,hj with
  | 0,hj=>simp at hj;subst hj;rw [add_none,cell_new_row];rfl
  | 1,hj=>simp at hj;subst hj;rw [add_none,cell_new_row];rfl
 case c2=>intro u hu;simp at hu;rcases hu with rfl | rfl <;> rfl
 case c3=>unfold maxLen;omega
 case c4=>omega
 case c5=>simp;omega
 intro v2 w2 o2 g2 _
 obtain ⟨⟨vn2,vf2,b1,b2,b3⟩,rd2,fk2,gk2⟩:=(HG.out.next HA.out).grown (HO.out.alloc _) rfl g2
 have HG2:=hid (gen_set (ns':=ns ++ [(name,kind)]) b2 b3 rd2 HG.out.le.2 fk2 v2 (by rw [seenRow_append,List.length_append];exact o2) (fun x hx=>by
  rcases List.mem_append.1 hx with hx | hx
  ·exact HG.out.nok x hx
  ·simp at hx;subst hx;exact hn))
 have HK2:=hid ((Gk.of_below HA.out hB).trans (gk2.trans HG2.out.2))
 have y1:=cell_hp b2 1
 have z1:=frozen_hp b2 1
 simp at y1
 obtain ⟨an2,cn2,rfl⟩:=own_sl o2
 clear b1 b2 b3 rd2 fk2 gk2 o2 g2
 go_wp2_with fail
 refine (HE.out ⟨R,G,ns ++ [(name,kind)],fs,c',sz',p'⟩ want _ HG2.out.1 ⟨by have:=HRN.out;have:=HBD.out;show p'+(Ce+10)≤_;omega,by have:=HRN.out;have:=HBD.out;show c'+(Ce+10)≤_;omega,by have:=HRN.out;have:=HBD.out;show _≤sz' - ((Ce+10:Nat):Int);omega,by have:=HRN.out;have:=HBD.out;show sz'≤_;omega,by have:=HRN.out;show (ns ++ [(name,kind)]).length+(Ce+10)≤_;simp only [List.length_append,List.length_cons,List.length_nil];omega,HR.out.f⟩).mono ?_
 rintro e w3 ⟨v3,l3,rfl,n3,ok3,⟨p3,c3,sz3,q1,q2,q3,q4,q5,q6,q7,q8⟩,_⟩
 simp only at q1 q2 q3 q4 q5 q6 q7 q8
 obtain ⟨vn3,vf3,d1,d2,d3⟩:=q7.ex
 obtain ⟨g3,cap3,rfl,hc3,hc4,o3⟩:=seen_cut d2
 have HN3:=hid n3
 have HOK:=hid ok3
 have HG3:=hid (gen_set (ns':=ns) d1 d3 q7.rd HG.out.le.2 q7.fok (.slice (some ⟨g3,0,none⟩) ns.length cap3) o3 HG.out.nok)
 have HK3:=hid (HK2.out.trans (q8.trans HG3.out.2))
 have HQ:=hid (And.intro q1 (And.intro q2 (And.intro q3 (And.intro q4 (And.intro q5 q6)))))
 have y3:=cell_hp d1 1
 have z3:=frozen_hp d1 1
 simp at y3
 have hc5:(ns.length:Int)≤cap3:=by omega
 obtain ⟨ga,ca,rfl⟩:∃ g c,v3=.slice (some ⟨g,0,none⟩) l3.length c:=by obtain ⟨_,g,c,_,e,_⟩:=n3;exact ⟨g,_,e⟩
 clear n3 ok3 q1 q2 q3 q4 q5 q6 q7 q8 d1 d2 d3 o3
 go_wp2
 go_ret
 exact ⟨_,l3,rfl,HN3.out.gk HG3.out.2,HOK.out,⟨p3,c3,sz3,by have:=HBD.out;have:=HQ.out;show p0≤p3;omega,by have:=HBD.out;have:=HQ.out;show p3≤p0+(C+Ce);omega,by have:=HBD.out;have:=HQ.out;show c0≤c3;omega,by have:=HBD.out;have:=HQ.out;show c3≤c0+(C+Ce);omega,by have:=HBD.out;have:=HQ.out;show sz0 - ((C+Ce:Nat):Int)≤sz3;omega,by have:=HBD.out;have:=HQ.out;show sz3≤sz0;omega,HG3.out.1,HK0.out.trans HK3.out⟩,HK3.out⟩
theorem text_at {s:Gs} {C:Nat} {w w':World} (h:At s C w w') (t:ByteArray) (ht:t.size≤1000) :
  Calls Tryz.prog 106 #[.string t] w' (NdEnd s 1 C w w'):=by
 refine (textNode_any t w').mono ?_
 rintro e w2 ⟨v,rfl,h1,h2⟩
 exact ⟨v,_,rfl,h1,NdOk.one ht,h.next h2,h.gk_next h2⟩
theorem int_at {s:Gs} {C:Nat} {w w':World} (h:At s C w w') (n:Int) :
  Calls Tryz.prog 60 #[.int .i64 n] w' (NdEnd s 1 C w w'):=by
 refine (intNode_any n w').mono ?_
 rintro e w2 ⟨v,rfl,h1,h2⟩
 exact ⟨v,_,rfl,h1,NdOk.one (by show (⟨#[]⟩:ByteArray).size≤1000;decide),h.next h2,h.gk_next h2⟩
theorem name_at {s:Gs} {C:Nat} {w w':World} (h:At s C w w') (t:ByteArray) (ht:t.size≤1000) :
  Calls Tryz.prog 107 #[.string t] w' (NdEnd s 1 C w w'):=by
 refine (nameNode_any t w').mono ?_
 rintro e w2 ⟨v,rfl,h1,h2⟩
 exact ⟨v,_,rfl,h1,NdOk.one ht,h.next h2,h.gk_next h2⟩
def Has (K:Nat) (w:World) (v:Value):Prop:=∃ l,NdIn w v l∧NdOk K l
theorem Has.gk {K B:Nat} {w w':World} {v:Value} (h:Has K w v) (hg:Gk B w w'):Has K w' v:=by obtain ⟨l,h1,h2⟩:=h;exact ⟨l,h1.gk hg,h2⟩
theorem Has.sl {K:Nat} {w:World} {v:Value} (h:Has K w v):∃ g n c,v=.slice (some ⟨g,0,none⟩) n c:=by obtain ⟨l,h1,_⟩:=h;exact h1.sl
theorem over1_at {s:Gs} {C Ka:Nat} {w w':World} (h:At s C w w') (x:Nd) (a:Value) (ha:Has Ka w' a) (hx:x.text.size≤1000) (hK:Ka≤100000) :
  Calls Tryz.prog 61 #[.agg #[.int .i64 x.kind,.int .i64 x.op,.int .i64 x.n,.string x.text,.int .i64 x.kids],.slice (some ⟨w'.heap.size,0,none⟩) 1 1] (w'.alloc (.cells #[a] 48)) (NdEnd s (Ka+1) C w w'):=by
 obtain ⟨la,h1,h2⟩:=ha
 refine (over1 x a la w' h1 (by have:=h2.1;omega)).mono ?_
 rintro e w2 ⟨v,rfl,h3,h4⟩
 exact ⟨v,_,rfl,h3,h2.over hx,h.next h4,h.gk_next h4⟩
theorem over2_at {s:Gs} {C Ka Kb:Nat} {w w':World} (h:At s C w w') (x:Nd) (a b:Value) (ha:Has Ka w' a) (hb:Has Kb w' b) (hx:x.text.size≤1000) (hK:Ka+Kb≤100000) :
  Calls Tryz.prog 61 #[.agg #[.int .i64 x.kind,.int .i64 x.op,.int .i64 x.n,.string x.text,.int .i64 x.kids],.slice (some ⟨w'.heap.size,0,none⟩) 2 2] (w'.alloc (.cells #[a,b] 48)) (NdEnd s (Ka+Kb+1) C w w'):=by
 obtain ⟨la,h1,h2⟩:=ha
 obtain ⟨lb,h5,h6⟩:=hb
 refine (over2 x a b la lb w' h1 h5 (by have:=h2.1;have:=h6.1;omega)).mono ?_
 rintro e w2 ⟨v,rfl,h3,h4⟩
 exact ⟨v,_,rfl,h3,(h2.app h6).over hx,h.next h4,h.gk_next h4⟩
theorem over3_at {s:Gs} {C Ka Kb Kc:Nat} {w w':World} (h:At s C w w') (x:Nd) (a b c:Value) (ha:Has Ka w' a) (hb:Has Kb w' b) (hc:Has Kc w' c) (hx:x.text.size≤1000) (hK:Ka+Kb+Kc≤100000) :
  Calls Tryz.prog 61 #[.agg #[.int .i64 x.kind,.int .i64 x.op,.int .i64 x.n,.string x.text,.int .i64 x.kids],.slice (some ⟨w'.heap.size,0,none⟩) 3 3] (w'.alloc (.cells #[a,b,c] 48)) (NdEnd s (Ka+Kb+Kc+1) C w w'):=by
 obtain ⟨la,h1,h2⟩:=ha
 obtain ⟨lb,h5,h6⟩:=hb
 obtain ⟨lc,h7,h8⟩:=hc
 refine (over3 x a b c la lb lc w' h1 h5 h7 (by have:=h2.1;have:=h6.1;have:=h8.1;omega)).mono ?_
 rintro e w2 ⟨v,rfl,h3,h4⟩
 exact ⟨v,_,rfl,h3,((h2.app h6).app h8).over hx,h.next h4,h.gk_next h4⟩
theorem bin_at {s:Gs} {C Ka Kb:Nat} {w w':World} (h:At s C w w') (op:Int) (a b:Value) (ha:Has Ka w' a) (hb:Has Kb w' b) (hK:Ka+Kb≤100000) :
  Calls Tryz.prog 109 #[.int .i64 op,a,b] w' (NdEnd s (Ka+Kb+1) C w w'):=by
 obtain ⟨la,h1,h2⟩:=ha
 obtain ⟨lb,h5,h6⟩:=hb
 refine (binNode_any op a b la lb w' h1 h5 (by have:=h2.1;have:=h6.1;omega)).mono ?_
 rintro e w2 ⟨v,rfl,h3,h4⟩
 exact ⟨v,_,rfl,h3,(h2.app h6).over (by show (⟨#[]⟩:ByteArray).size≤1000;decide),h.next h4,h.gk_next h4⟩
theorem parts_new {w':World} {xs:List Value} {ls:List (List Nd)} (hl:xs.length=ls.length) (h:∀ (j:Nat) u l,xs[j]?=some u→ls[j]?=some l→NdIn w' u l):PartsIn (w'.alloc (.cells xs.toArray 48)) (some ⟨w'.heap.size,0,none⟩) xs ls :=
 ⟨hl,.inr ⟨w'.heap.size,rfl,_,heap_alloc_new w' _,fun j u hu=>by simpa using hu⟩,fun j u l hu hl=>(h j u l hu hl).next ((Below.refl _ _).alloc (Nat.le_refl _) _)⟩
theorem callN_at {s:Gs} {C n K:Nat} {w w':World} (h:At s C w w') (t:ByteArray) (xs:List Value) (ls:List (List Nd)) (hn:xs.length=n) (hn2:n≤100) (hl:xs.length=ls.length) (hh:∀ (j:Nat) u l,xs[j]?=some u→ls[j]?=some l→NdIn w' u l) (h0:xs≠[]) (hok:NdOk K ls.flatten) (ht:t.size≤1000) (hK:K≤100000) :
  Calls Tryz.prog 108 #[.string t,.slice (some ⟨w'.heap.size,0,none⟩) n n] (w'.alloc (.cells xs.toArray 48)) (NdEnd s (K+2) C w w'):=by
 have hb:=(Below.refl w'.heap.size w').alloc (Nat.le_refl _) (.cells xs.toArray 48)
 refine (callNode_any t w'.heap.size n xs ls _ hn hn2 (parts_new hl hh) h0 (by have:=hok.1;omega)).mono ?_
 rintro e w2 ⟨v,rfl,h3,h4⟩
 have hb2:=hb.trans (h4.mono hb.size)
 refine ⟨v,_,rfl,h3,?_,h.next hb2,h.gk_next hb2⟩
 exact ((NdOk.one (x:=⟨5,0,0,t,0⟩) ht).app hok |>.over (x:=⟨12,0,0,⟨#[]⟩,n+1⟩) (by show (⟨#[]⟩:ByteArray).size≤1000;decide)).mono (by omega)
theorem call1_at {s:Gs} {C Ka:Nat} {w w':World} (h:At s C w w') (t:ByteArray) (a:Value) (ha:Has Ka w' a) (ht:t.size≤1000) (hK:Ka≤100000) :
  Calls Tryz.prog 108 #[.string t,.slice (some ⟨w'.heap.size,0,none⟩) 1 1] (w'.alloc (.cells #[a] 48)) (NdEnd s (Ka+2) C w w'):=by
 obtain ⟨la,h1,h2⟩:=ha
 refine callN_at h t [a] [la] rfl (by omega) rfl (fun j u l hu hl=>?_) (by simp) (by simpa using h2) ht hK
 match j,hu,hl with
 | 0,hu,hl=>cases hu;cases hl;exact h1
theorem call2_at {s:Gs} {C Ka Kb:Nat} {w w':World} (h:At s C w w') (t:ByteArray) (a b:Value) (ha:Has Ka w' a) (hb:Has Kb w' b) (ht:t.size≤1000) (hK:Ka+Kb≤100000) :
  Calls Tryz.prog 108 #[.string t,.slice (some ⟨w'.heap.size,0,none⟩) 2 2] (w'.alloc (.cells #[a,b] 48)) (NdEnd s (Ka+Kb+2) C w w'):=by
 obtain ⟨la,h1,h2⟩:=ha
 obtain ⟨lb,h3,h4⟩:=hb
 refine callN_at h t [a,b] [la,lb] rfl (by omega) rfl (fun j u l hu hl=>?_) (by simp) (by simpa using h2.app h4) ht hK
 match j,hu,hl with
 | 0,hu,hl=>cases hu;cases hl;exact h1
 | 1,hu,hl=>cases hu;cases hl;exact h3
theorem call3_at {s:Gs} {C Ka Kb Kc:Nat} {w w':World} (h:At s C w w') (t:ByteArray) (a b c:Value) (ha:Has Ka w' a) (hb:Has Kb w' b) (hc:Has Kc w' c) (ht:t.size≤1000) (hK:Ka+Kb+Kc≤100000) :
  Calls Tryz.prog 108 #[.string t,.slice (some ⟨w'.heap.size,0,none⟩) 3 3] (w'.alloc (.cells #[a,b,c] 48)) (NdEnd s (Ka+Kb+Kc+2) C w w'):=by
 obtain ⟨la,h1,h2⟩:=ha
 obtain ⟨lb,h3,h4⟩:=hb
 obtain ⟨lc,h5,h6⟩:=hc
 refine callN_at h t [a,b,c] [la,lb,lc] rfl (by omega) rfl (fun j u l hu hl=>?_) (by simp) (by have:=(h2.app h4).app h6;simpa [List.append_assoc] using this) ht hK
 match j,hu,hl with
 | 0,hu,hl=>cases hu;cases hl;exact h1
 | 1,hu,hl=>cases hu;cases hl;exact h3
 | 2,hu,hl=>cases hu;cases hl;exact h5
theorem NdEnd.get {s:Gs} {K C:Nat} {w w':World} {e:Ending} {w2:World} (h:NdEnd s K C w w' e w2):∃ g n c,e=.returned (.slice (some ⟨g,0,none⟩) n c)∧Has K w2 (.slice (some ⟨g,0,none⟩) n c)∧At s C w w2∧Gk s.R w' w2:=by
 obtain ⟨v,l,rfl,h1,h2,h3,h4⟩:=h
 obtain ⟨g,n,c,rfl⟩:=h1.sl
 exact ⟨g,n,c,rfl,⟨l,h1,h2⟩,h3,h4⟩
theorem Has.fin {s:Gs} {K C K' C':Nat} {w w' w2:World} {v:Value} (h:Has K w2 v) (ha:At s C w w2) (hg:Gk s.R w' w2) (hK:K≤K') (hC:C≤C'):NdEnd s K' C' w w' (.returned v) w2:=by
 obtain ⟨l,h1,h2⟩:=h
 exact ⟨v,l,rfl,h1,h2.mono hK,ha.mono hC,hg⟩
theorem lit_cell {B:Nat} {W w5:World} {cs:Array Value} {t:TypeId} {i:Nat} (hg:Gk B (W.alloc (.cells cs t)) w5) (ht:¬ GenT t):w5.cell? ⟨W.heap.size,i,none⟩=cs[i]?:=by
 have h0:=heap_alloc_new W (.cells cs t)
 exact cell_hp ((hg.block _ cs t (0,0) h0 ht).trans h0) i
theorem step_enter {P:Program} {ops:Array Oper} {o:Oper} {a:Act} {w:World} {K:Act→World→Prop} {Q:Exit→Act→World→Prop} {E:Prop} (hg:o.guard=none) {f:FuncId} {vals:Array Value}
  (hx:(execOp a.eval o).run P w=.ok (.enter f vals) w) {Q':Ending→World→Prop} (hc:Calls P f vals w Q') (h:∀ e w',Q' e w'→∃ v,e=.returned v∧K (a.put o.dst v) w') :
  if Region.wanted o (yielded ops a.tmps)=true then Oper.wp P o a w K Q else E:=by
 have hw:Region.wanted o (yielded ops a.tmps)=true:=by simp [Region.wanted,hg]
 rw [if_pos hw]
 unfold Oper.wp
 rw [hx,Oper.upon_enter]
 refine hc.mono fun e w' hq=>?_
 obtain ⟨v,rfl,hk⟩:=h e w' hq
 exact hk
def IsTwo (a b:ByteArray) (x:Nat) (o:Option Value):Prop:=o=[a,b][x]?.map Value.string
theorem two_of {a b:ByteArray} {x:Nat} (hx:x < 2) (ha:a.size≤1000) (hb:b.size≤1000):∃ y:ByteArray,y.size≤1000∧∀ (W:World) (p:Addr),IsTwo a b x (W.cell? p)→W.cell? p=some (.string y):=by
 have h7:x=0∨x=1:=by omega
 rcases h7 with rfl | rfl
 ·exact ⟨a,ha,fun _ _ h=>h⟩
 ·exact ⟨b,hb,fun _ _ h=>h⟩
theorem lit_two {B:Nat} {W w5:World} {t:TypeId} {a b:ByteArray} {x:Nat} (hg:Gk B (W.alloc (.cells #[.string a,.string b] t)) w5) (ht:¬ GenT t) (hx:x < 2) :
  IsTwo a b x (w5.cell? ⟨W.heap.size,x,none⟩)∧∀ w6,Gk B w5 w6→IsTwo a b x (w6.cell? ⟨W.heap.size,x,none⟩):=by
 have k:∀ w6,Gk B (W.alloc (.cells #[.string a,.string b] t)) w6→IsTwo a b x (w6.cell? ⟨W.heap.size,x,none⟩):=fun w6 h=>by
  rw [lit_cell h ht]
  have h7:x=0∨x=1:=by omega
  rcases h7 with rfl | rfl <;> rfl
 exact ⟨k _ hg,fun w6 h=>k _ (hg.trans h)⟩
theorem lit_new (W:World) {t:TypeId} {a b:ByteArray} {x:Nat} (hx:x < 2):IsTwo a b x ((W.alloc (.cells #[.string a,.string b] t)).cell? ⟨W.heap.size,x,none⟩):=by
 rw [cell_new_row]
 have h7:x=0∨x=1:=by omega
 rcases h7 with rfl | rfl <;> rfl
theorem over1_in {s:Gs} {C Ka g:Nat} {w W:World} (h:At s C w W) (x:Nd) (a:Value) (hg:W.heap[g]?=some (.cells #[a] 48 (0,0))) (ha:Has Ka W a) (hx:x.text.size≤1000) (hK:Ka≤100000) :
  Calls Tryz.prog 61 #[.agg #[.int .i64 x.kind,.int .i64 x.op,.int .i64 x.n,.string x.text,.int .i64 x.kids],.slice (some ⟨g,0,none⟩) 1 1] W (NdEnd s (Ka+1) C w W):=by
 obtain ⟨la,h1,h2⟩:=ha
 refine (l2Over_any x (some ⟨g,0,none⟩) 1 1 [a] [la] W rfl (by omega) ⟨rfl,.inr ⟨g,rfl,_,hg,fun j u hu=>by simpa using hu⟩,fun j u l hu hl=>?_⟩ (by have:=h2.1;simp;omega)).mono ?_
 ·match j,hu,hl with
  | 0,hu,hl=>cases hu;cases hl;exact h1
 rintro e w2 ⟨v,rfl,h3,h4⟩
 exact ⟨v,_,rfl,h3,(show NdOk (Ka+1) _ from (NdOk.over (x:=_) (by simpa using h2) hx)),h.next h4,h.gk_next h4⟩
theorem call1_in {s:Gs} {C Ka g:Nat} {w W:World} (h:At s C w W) (t:ByteArray) (a:Value) (hg:W.heap[g]?=some (.cells #[a] 48 (0,0))) (ha:Has Ka W a) (ht:t.size≤1000) (hK:Ka≤100000) :
  Calls Tryz.prog 108 #[.string t,.slice (some ⟨g,0,none⟩) 1 1] W (NdEnd s (Ka+2) C w W):=by
 obtain ⟨la,h1,h2⟩:=ha
 refine (callNode_any t g 1 [a] [la] W rfl (by omega) ⟨rfl,.inr ⟨g,rfl,_,hg,fun j u hu=>by simpa using hu⟩,fun j u l hu hl=>?_⟩ (by simp) (by have:=h2.1;simp;omega)).mono ?_
 ·match j,hu,hl with
  | 0,hu,hl=>cases hu;cases hl;exact h1
 rintro e w2 ⟨v,rfl,h3,h4⟩
 refine ⟨v,_,rfl,h3,?_,h.next h4,h.gk_next h4⟩
 exact ((NdOk.one (x:=⟨5,0,0,t,0⟩) ht).app (by simpa using h2) |>.over (x:=⟨12,0,0,⟨#[]⟩,1+1⟩) (by show (⟨#[]⟩:ByteArray).size≤1000;decide)).mono (by omega)
end Go.Proofs.YtabbahpalemlhaaGreatDoor
