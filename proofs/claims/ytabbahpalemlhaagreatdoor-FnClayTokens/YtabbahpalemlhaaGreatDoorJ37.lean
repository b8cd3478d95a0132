import Derived.Test.YtabbahpalemlhaaGreatDoorJ36
namespace Go.Proofs.YtabbahpalemlhaaGreatDoor
open Go.RowKit
set_option maxRecDepth 20000
def RowIn (W:World) (g:Nat) (l:List Nd):Prop:=∃ cur,W.heap[g]?=some (.cells cur 81 (0,0))∧∀ (j:Nat) u,(ndRow l)[j]?=some u→cur[j]?=some u
theorem RowIn.keep {W V:World} {g:Nat} {l:List Nd} (h:RowIn W g l) (hk:V.heap[g]?=W.heap[g]?):RowIn V g l:=by
 obtain ⟨cur,h1,h2⟩:=h
 exact ⟨cur,hk.trans h1,h2⟩
theorem RowIn.lt {W:World} {g:Nat} {l:List Nd} (h:RowIn W g l):g < W.heap.size:=by
 obtain ⟨cur,h1,_⟩:=h
 exact (Array.getElem?_eq_some_iff.1 h1).1
theorem NdIn.row {W:World} {g n c:Nat} {l:List Nd} (h:NdIn W (.slice (some ⟨g,0,none⟩) n c) l):n=l.length∧n≤c∧RowIn W g l:=by
 obtain ⟨_,g',c',cur,e,h1,h2⟩:=h
 cases e
 exact ⟨rfl,Nat.le_add_right _ _,cur,h1,h2⟩
theorem RowIn.nd {W:World} {g c:Nat} {l:List Nd} (h:RowIn W g l) (h0:l≠[]) (hc:l.length≤c):NdIn W (.slice (some ⟨g,0,none⟩) l.length c) l:=by
 obtain ⟨cur,h1,h2⟩:=h
 exact ⟨h0,g,c - l.length,cur,by congr 1;omega,h1,h2⟩
def ndF (x:Nd):List Value:=[.int .i64 x.kind,.int .i64 x.op,.int .i64 x.n,.string x.text,.int .i64 x.kids]
theorem ndRow_cons (x:Nd) (l:List Nd):ndRow (x :: l)=ndF x ++ ndRow l:=rfl
theorem ndRow_get:∀ (l:List Nd) (i t:Nat) (hi:i < l.length),t < 5→(ndRow l)[i * 5+t]?=(ndF l[i])[t]?
 | x :: l,0,t,_,ht=>by
  rw [ndRow_cons,Nat.zero_mul,Nat.zero_add,List.getElem?_append_left (by show t < 5;exact ht)]
  rfl
 | x :: l,i+1,t,hi,ht=>by
  have hi':i < l.length:=by simpa using hi
  rw [ndRow_cons,List.getElem?_append_right (by show 5≤(i+1) * 5+t;omega)]
  have:(i+1) * 5+t - (ndF x).length=i * 5+t:=by show (i+1) * 5+t - 5=_;omega
  rw [this,ndRow_get l i t hi' ht]
  rfl
theorem RowIn.cell {W:World} {g:Nat} {l:List Nd} (h:RowIn W g l) (i:Nat) (hi:i < l.length):W.cell? ⟨g,i * 5,none⟩=some (.int .i64 l[i].kind)∧W.cell? ⟨g,i * 5+1,none⟩=some (.int .i64 l[i].op)∧W.cell? ⟨g,i * 5+2,none⟩=some (.int .i64 l[i].n)∧W.cell? ⟨g,i * 5+3,none⟩=some (.string l[i].text)∧W.cell? ⟨g,i * 5+4,none⟩=some (.int .i64 l[i].kids):=by
 obtain ⟨cur,h1,h2⟩:=h
 have f:∀ t u,t < 5→(ndF l[i])[t]?=some u→W.cell? ⟨g,i * 5+t,none⟩=some u:=fun t u ht hu=>by
  rw [← ndRow_get l i t hi ht] at hu
  exact (cell_hp h1 _).trans (h2 _ _ hu)
 exact ⟨f 0 _ (by decide) rfl,f 1 _ (by decide) rfl,f 2 _ (by decide) rfl,f 3 _ (by decide) rfl,f 4 _ (by decide) rfl⟩
theorem RowIn.frozen {W:World} {g:Nat} {l:List Nd} (h:RowIn W g l) (i:Nat):W.frozen? ⟨g,i,none⟩=false:=by
 obtain ⟨cur,h1,_⟩:=h
 exact frozen_hp h1 i
theorem RowIn.set {W:World} {g:Nat} {l:List Nd} (h:RowIn W g l) (i t:Nat) (hi:i < l.length) (ht:t < 5) (v:Value) (y:Nd) (hy:ndF y=(ndF l[i]).set t v):RowIn (W.setCell ⟨g,i * 5+t,none⟩ v) g (l.set i y):=by
 obtain ⟨cur,h1,h2⟩:=h
 refine ⟨_,set_at v h1,fun j u hu=>?_⟩
 have hlen:j < l.length * 5:=by
  have:=(List.getElem?_eq_some_iff.1 hu).1
  rw [ndRow_length] at this
  simpa using this
 have hcur:∀ k,k < l.length * 5→k < cur.size:=fun k hk=>by
  have hk':k < (ndRow l).length:=by rw [ndRow_length];exact hk
  have:=h2 k _ (List.getElem?_eq_getElem hk')
  exact (Array.getElem?_eq_some_iff.1 this).1
 obtain ⟨a,b,rfl,hb⟩:∃ a b,j=a * 5+b∧b < 5:=⟨j / 5,j % 5,by omega,by omega⟩
 have ha:a < l.length:=by omega
 rw [ndRow_get _ a b (by simpa using ha) hb] at hu
 by_cases e:a=i
 ·subst e
  rw [List.getElem_set_self,hy] at hu
  by_cases e2:b=t
  ·subst e2
   rw [List.getElem?_set_self (by show b < 5;exact hb)] at hu
   cases hu
   rw [Array.getElem?_setIfInBounds_self_of_lt (hcur _ hlen)]
  ·rw [List.getElem?_set_ne (fun h=>e2 h.symm),← ndRow_get l a b ha hb] at hu
   rw [Array.getElem?_setIfInBounds_ne (by omega)]
   exact h2 _ _ hu
 ·rw [List.getElem_set_ne (fun h=>e h.symm),← ndRow_get l a b ha hb] at hu
  rw [Array.getElem?_setIfInBounds_ne (by omega)]
  exact h2 _ _ hu
theorem RowIn.other {W:World} {g b i:Nat} {l:List Nd} {v:Value} (h:RowIn W g l) (hb:b≠g):RowIn (W.setCell ⟨b,i,none⟩ v) g l:=h.keep (Below.heap_setCell _ _ _ _ (fun e=>hb e.symm))
structure SI (R tb rb ob gt g ct cap P:Nat) (w:World) (l0 l:List Nd) (wr:World):Prop where
 rd:∃ p,p≤P∧Rd R wr p
 xt:wr.heap[tb]?=some (.cells #[.slice (some ⟨gt,0,none⟩) l0.length ct] 50 (0,0))
 xr:wr.heap[rb]?=some (.cells #[.slice none 0 0] 50 (0,0))
 xo:wr.heap[ob]?=some (.cells #[.slice (some ⟨g,0,none⟩) l.length cap] 50 (0,0))
 rt:RowIn wr gt l0
 ro:RowIn wr g l
 sv:Sv (fun k=>k=R) w wr
 lo:w.heap.size≤tb∧tb < rb∧rb < ob∧w.heap.size≤g∧gt < w.heap.size
 lt:R < w.heap.size
 cp:l0.length≤ct∧l.length≤cap
section
variable {R tb rb ob gt g ct cap P:Nat} {w:World} {l0 l:List Nd} {wr:World}
theorem SI.next (h:SI R tb rb ob gt g ct cap P w l0 l wr) {w2:World} (hb:Below wr.heap.size wr w2):SI R tb rb ob gt g ct cap P w l0 l w2:=by
 obtain ⟨⟨p,a1,a2⟩,h1,h2,h3,h4,h5,h6,h7,h8,h9⟩:=h
 exact ⟨⟨p,a1,a2.next hb⟩,hp_next h1 hb,hp_next h2 hb,hp_next h3 hb,h4.keep (hb.block _ h4.lt),h5.keep (hb.block _ h5.lt),h6.trans (Sv.of_below hb),h7,h8,h9⟩
theorem SI.pick (h:SI R tb rb ob gt g ct cap P w l0 l wr) (hP:P≤1000000) (n:Int) (hn:n≤1000000000) :
  Calls Tryz.prog 8 #[.pointer (some ⟨R,0,none⟩),.int .i64 n] wr fun e w2=>∃ x:Nat,e=.returned (.int .i64 x)∧(x=0∨(x:Int) < n)∧SI R tb rb ob gt g ct cap (P+1) w l0 l w2∧Sv (fun k=>k=R) wr w2:=by
 obtain ⟨⟨p,a1,a2⟩,h1,h2,h3,h4,h5,h6,h7,h8,h9⟩:=h
 have a2b:=a2
 obtain ⟨ad,m,cp,hR,_⟩:=a2b
 refine (pick_any R p n wr (by omega) hn a2).mono ?_
 rintro e w2 ⟨⟨x,rfl,hx⟩,b1,b2⟩
 have keep:∀ (k:Nat) cs t fr,wr.heap[k]?=some (.cells cs t fr)→t≠45→w2.heap[k]?=wr.heap[k]?:=fun k cs t fr hc ht=>b2.block k (Array.getElem?_eq_some_iff.1 hc).1 (fun e=>by
  have e':k=R:=e
  subst e'
  rw [hR] at hc
  cases hc
  exact ht rfl)
 obtain ⟨c4,d4,_⟩:=id h4
 obtain ⟨c5,d5,_⟩:=id h5
 exact ⟨x,rfl,hx,⟨⟨p+1,by omega,b1⟩,(keep tb _ _ _ h1 (by decide)).trans h1,(keep rb _ _ _ h2 (by decide)).trans h2,(keep ob _ _ _ h3 (by decide)).trans h3,h4.keep (keep gt _ _ _ d4 (by decide)),h5.keep (keep g _ _ _ d5 (by decide)),h6.trans b2,h7,h8,h9⟩,b2⟩
theorem SI.boxed (h:SI R tb rb ob gt g ct cap P w l0 l wr) {b i:Nat} (v:Value) (h1:w.heap.size≤b) (h2:b≠tb∧b≠rb∧b≠ob∧b≠g):SI R tb rb ob gt g ct cap P w l0 l (wr.setCell ⟨b,i,none⟩ v):=by
 obtain ⟨⟨p,a1,a2⟩,h3,h4,h5,h6,h7,h8,h9,h10,h11⟩:=h
 have keep:∀ k,k≠b→(wr.setCell ⟨b,i,none⟩ v).heap[k]?=wr.heap[k]?:=fun k hk=>Below.heap_setCell _ _ _ _ hk
 exact ⟨⟨p,a1,a2.sv (S:=fun k=>k=b) (Sv.setCell (S:=fun k=>k=b) (Sv.refl _ wr) (p:=⟨b,i,none⟩) (.inl rfl) _) (fun k e=>by subst e;omega)⟩,(keep tb (fun e=>h2.1 e.symm)).trans h3,(keep rb (fun e=>h2.2.1 e.symm)).trans h4,(keep ob (fun e=>h2.2.2.1 e.symm)).trans h5,h6.keep (keep gt (by omega)),h7.keep (keep g (fun e=>h2.2.2.2 e.symm)),h8.setCell (.inr h1) _,h9,h10,h11⟩
end
section
variable {R tb rb ob gt g ct cap P:Nat} {w:World} {l0 l:List Nd} {wr:World}
theorem SI.mono (h:SI R tb rb ob gt g ct cap P w l0 l wr) {P':Nat} (hP:P≤P'):SI R tb rb ob gt g ct cap P' w l0 l wr:=by
 obtain ⟨⟨p,a1,a2⟩,h3,h4,h5,h6,h7,h8,h9,h10,h11⟩:=h
 exact ⟨⟨p,by omega,a2⟩,h3,h4,h5,h6,h7,h8,h9,h10,h11⟩
theorem SI.apart (h:SI R tb rb ob gt g ct cap P w l0 l wr):g≠tb∧g≠rb∧g≠ob∧g≠gt:=by
 obtain ⟨_,h3,h4,h5,_,h7,_,h9,_,_⟩:=h
 obtain ⟨cur,h7,_⟩:=h7
 have f:∀ k cs,wr.heap[k]?=some (.cells cs 50 (0,0))→g≠k:=fun k cs hc e=>by
  subst e
  rw [h7] at hc
  cases hc
 exact ⟨f _ _ h3,f _ _ h4,f _ _ h5,by omega⟩
theorem SI.set1 (h:SI R tb rb ob gt g ct cap P w l0 l wr) (i t:Nat) (hi:i < l.length) (ht:t < 5) (v:Value) (y:Nd) (hy:ndF y=(ndF l[i]).set t v):SI R tb rb ob gt g ct cap P w l0 (l.set i y) (wr.setCell ⟨g,i * 5+t,none⟩ v):=by
 have ha:=h.apart
 obtain ⟨⟨p,a1,a2⟩,h3,h4,h5,h6,h7,h8,h9,h10,h11⟩:=h
 have keep:∀ k,k≠g→(wr.setCell ⟨g,i * 5+t,none⟩ v).heap[k]?=wr.heap[k]?:=fun k hk=>Below.heap_setCell _ _ _ _ hk
 refine ⟨⟨p,a1,a2.sv (S:=fun k=>k=g) (Sv.setCell (S:=fun k=>k=g) (Sv.refl _ wr) (p:=⟨g,i * 5+t,none⟩) (.inl rfl) _) (fun k e=>by subst e;omega)⟩,(keep tb (fun e=>ha.1 e.symm)).trans h3,(keep rb (fun e=>ha.2.1 e.symm)).trans h4,?_,h6.keep (keep gt (fun e=>ha.2.2.2 e.symm)),h7.set i t hi ht v y hy,h8.setCell (.inr h9.2.2.2.1) _,h9,h10,h11.1,by simpa using h11.2⟩
 have:=(keep ob (fun e=>ha.2.2.1 e.symm)).trans h5
 simpa using this
theorem SI.put (h:SI R tb rb ob gt g ct cap P w l0 l wr) (i:Nat) (hi:i < l.length) (y:Nd):SI R tb rb ob gt g ct cap P w l0 (l.set i y) (((((wr.setCell ⟨g,i * 5,none⟩ (.int .i64 y.kind)).setCell ⟨g,i * 5+1,none⟩ (.int .i64 y.op)).setCell ⟨g,i * 5+2,none⟩ (.int .i64 y.n)).setCell ⟨g,i * 5+3,none⟩ (.string y.text)).setCell ⟨g,i * 5+4,none⟩ (.int .i64 y.kids)):=by
 have s0:=h.set1 i 0 hi (by decide) (.int .i64 y.kind) { l[i] with kind:=y.kind } rfl
 have s1:=s0.set1 i 1 (by simpa using hi) (by decide) (.int .i64 y.op) { l[i] with kind:=y.kind,op:=y.op } (by rw [List.getElem_set_self];rfl)
 rw [List.set_set] at s1
 have s2:=s1.set1 i 2 (by simpa using hi) (by decide) (.int .i64 y.n) { l[i] with kind:=y.kind,op:=y.op,n:=y.n } (by rw [List.getElem_set_self];rfl)
 rw [List.set_set] at s2
 have s3:=s2.set1 i 3 (by simpa using hi) (by decide) (.string y.text) { l[i] with kind:=y.kind,op:=y.op,n:=y.n,text:=y.text } (by rw [List.getElem_set_self];rfl)
 rw [List.set_set] at s3
 have s4:=s3.set1 i 4 (by simpa using hi) (by decide) (.int .i64 y.kids) y (by rw [List.getElem_set_self];rfl)
 rw [List.set_set] at s4
 exact s4
theorem NdOk.set {K:Nat} {l:List Nd} (h:NdOk K l) (i:Nat) (y:Nd) (hy:y.text.size≤1000):NdOk K (l.set i y):=by
 refine ⟨by simpa using h.1,fun x hx=>?_⟩
 rcases List.mem_or_eq_of_mem_set hx with h1 | rfl
 ·exact h.2 x h1
 ·exact hy
theorem SI.fin (h:SI R tb rb ob gt g ct cap P w l0 l wr) {K:Nat} (hok:NdOk K l) (h0:l≠[]):Has K (wr.setCell ⟨rb,0,none⟩ (.slice (some ⟨g,0,none⟩) l.length cap)) (.slice (some ⟨g,0,none⟩) l.length cap)∧(∃ p',p'≤P∧Rd R (wr.setCell ⟨rb,0,none⟩ (.slice (some ⟨g,0,none⟩) l.length cap)) p')∧BR R w (wr.setCell ⟨rb,0,none⟩ (.slice (some ⟨g,0,none⟩) l.length cap)):=by
 have ha:=h.apart
 obtain ⟨⟨p,a1,a2⟩,h3,h4,h5,h6,h7,h8,h9,h10,h11⟩:=h
 refine ⟨⟨l,(h7.other (fun e=>ha.2.1 e.symm)).nd h0 h11.2,hok⟩,⟨p,a1,a2.sv (S:=fun k=>k=rb) (Sv.setCell (S:=fun k=>k=rb) (Sv.refl _ wr) (p:=⟨rb,0,none⟩) (.inl rfl) _) (fun k e=>by subst e;omega)⟩,(BR.of_sv h8 (by omega)).set (by omega) (by omega) _⟩
end
theorem SI.start {R p gt ct:Nat} {w w1:World} {l:List Nd} {v1:Value} (hr:Rd R w p) (hl:RowIn w gt l) (h0:l≠[]) (hct:l.length≤ct)
  (hg:(((w.alloc (.cells #[.slice (some ⟨gt,0,none⟩) l.length ct] 50)).alloc (.cells #[.slice none 0 0] 50)).alloc (.cells #[] 81)).grownBy w1 (some (w.heap.size+2))) (ho:w1.ownsRow (w.heap.size+2) 81 5 v1 l.length (ndRow l)) :
  ∃ g cap,v1=.slice (some ⟨g,0,none⟩) l.length cap∧SI R w.heap.size (w.heap.size+1) w1.heap.size gt g ct cap p w l l (w1.alloc (.cells #[.slice (some ⟨g,0,none⟩) l.length cap] 50)):=by
 have hlp:0 < l.length:=List.length_pos_iff.2 h0
 have hb:Below w.heap.size w (((w.alloc (.cells #[.slice (some ⟨gt,0,none⟩) l.length ct] 50)).alloc (.cells #[.slice none 0 0] 50)).alloc (.cells #[] 81)):=(((Below.refl w.heap.size w).alloc (Nat.le_refl _) _).alloc (by simp) _).alloc (by simp;omega) _
 have hb1:Below w.heap.size w w1:=hb.grown hg hb.size (fun q e=>by cases e;omega)
 have hz:w.heap.size+3≤w1.heap.size:=by have:=hg.size;simp at this;omega
 have hal:Below w1.heap.size w1 (w1.alloc (.cells #[v1] 50)):=(Below.refl _ _).alloc (Nat.le_refl _) _
 have hx:w1.heap[w.heap.size]?=some (.cells #[.slice (some ⟨gt,0,none⟩) l.length ct] 50):=by
  rw [hg.block w.heap.size (by simp;omega) (by simp),Below.heap_alloc _ _ _ (by simp;omega),Below.heap_alloc _ _ _ (by simp)]
  exact heap_alloc_new w _
 have hy:w1.heap[w.heap.size+1]?=some (.cells #[.slice none 0 0] 50):=by
  rw [hg.block (w.heap.size+1) (by simp) (by simp),Below.heap_alloc _ _ _ (by simp)]
  have:=heap_alloc_new (w.alloc (.cells #[.slice (some ⟨gt,0,none⟩) l.length ct] 50)) (.cells #[.slice none 0 0] 50)
  rwa [World.size_alloc] at this
 rcases ho.2 with ⟨_,hz0⟩ | ⟨g,cap,cur,hv,hgl,hgc,hcap,_,_,ht⟩
 ·omega
 ·subst hv
  refine ⟨g,cap,rfl,⟨p,Nat.le_refl _,(hr.next hb1).next hal⟩,hp_next hx hal,hp_next hy hal,heap_alloc_new w1 _,hl.keep ((hal.block _ (by have:=hl.lt;omega)).trans (hb1.block _ hl.lt)),⟨cur,hp_next hgc hal,fun j u hu=>?_⟩,Sv.of_below (hb1.trans (hal.mono hb1.size)),⟨Nat.le_refl _,by omega,by omega,by omega,hl.lt⟩,hr.lt,hct,hcap⟩
  rw [← ht] at hu
  have hj:=(List.getElem?_eq_some_iff.1 hu).1
  rw [List.length_take] at hj
  rw [List.getElem?_take_of_lt (by omega)] at hu
  simpa using hu
def TrIn (K:Nat) (w:World) (v:Value):Prop:=(∃ ad c,v=.slice ad 0 c)∨Has K w v
theorem TrIn.mono {K K':Nat} {w:World} {v:Value} (h:TrIn K w v) (hk:K≤K'):TrIn K' w v:=by
 rcases h with h | ⟨l,h1,h2⟩
 ·exact .inl h
 ·exact .inr ⟨l,h1,h2.mono hk⟩
theorem own_tr {W:World} {base m:Nat} {v:Value} {l:List Nd} (h:W.ownsRow base 81 5 v m (ndRow l)) (hm:m=l.length):(∃ ad c,v=.slice ad m c∧(m=0∨∃ g,ad=some ⟨g,0,none⟩∧base≤g∧m≤c∧RowIn W g l))∧∀ b,v.ownBlock=some b→base≤b:=by
 obtain ⟨_,⟨rfl,h0⟩ | ⟨g,cap,cur,rfl,hgl,hgc,hcap,_,_,ht⟩⟩:=h
 ·exact ⟨⟨none,0,by rw [h0],.inl h0⟩,fun b e=>by simp [Value.ownBlock] at e⟩
 ·refine ⟨⟨_,cap,rfl,.inr ⟨g,rfl,hgl,hcap,cur,hgc,fun j u hu=>?_⟩⟩,fun b e=>by simp [Value.ownBlock] at e;omega⟩
  rw [← ht] at hu
  have hj:=(List.getElem?_eq_some_iff.1 hu).1
  rw [List.length_take] at hj
  rw [List.getElem?_take_of_lt (by omega)] at hu
  simpa using hu
structure SE (R P:Nat) (w wr:World):Prop where
 rd:∃ p,p≤P∧Rd R wr p
 sv:Sv (fun k=>k=R) w wr
 lt:R < w.heap.size
theorem SI.se {R tb rb ob gt g ct cap P:Nat} {w:World} {l0 l:List Nd} {wr:World} (h:SI R tb rb ob gt g ct cap P w l0 l wr):SE R P w wr:=⟨h.rd,h.sv,h.lt⟩
theorem SE.set {R P:Nat} {w wr:World} (h:SE R P w wr) {b i:Nat} (v:Value) (hb:w.heap.size≤b):SE R P w (wr.setCell ⟨b,i,none⟩ v):=by
 obtain ⟨⟨p,a1,a2⟩,h8,h10⟩:=h
 exact ⟨⟨p,a1,a2.sv (S:=fun k=>k=b) (Sv.setCell (S:=fun k=>k=b) (Sv.refl _ wr) (p:=⟨b,i,none⟩) (.inl rfl) _) (fun k e=>by subst e;omega)⟩,h8.setCell (.inr hb) _,h10⟩
theorem SE.fin {R P K:Nat} {w wr:World} (h:SE R P w wr) {ad:Option Addr} {m c:Nat} {l:List Nd} (ht:m=0∨∃ g,ad=some ⟨g,0,none⟩∧m≤c∧RowIn wr g l) (hm:m=l.length) (hk:NdOk K l):TrIn K wr (.slice ad m c)∧(∃ p',p'≤P∧Rd R wr p')∧BR R w wr:=by
 obtain ⟨⟨p,a1,a2⟩,h8,h10⟩:=h
 refine ⟨?_,⟨p,a1,a2⟩,BR.of_sv h8 (by omega)⟩
 by_cases h0:m=0
 ·subst h0
  exact .inl ⟨ad,c,rfl⟩
 ·rcases ht with h | ⟨g,rfl,h1,h2⟩
  ·exact absurd h h0
  ·subst hm
   exact .inr ⟨l,h2.nd (fun e=>h0 (by rw [e];rfl)) h1,hk⟩
theorem NdOk.cut {K:Nat} {l:List Nd} (h:NdOk K l) (k:Nat):NdOk K (l.take k ++ l.drop (k+1)):=by
 refine ⟨by have:=h.1;rw [List.length_append,List.length_take,List.length_drop];omega,fun x hx=>?_⟩
 rcases List.mem_append.1 hx with h1 | h1
 ·exact h.2 x (List.mem_of_mem_take h1)
 ·exact h.2 x (List.mem_of_mem_drop h1)
theorem RowIn.part {W:World} {g:Nat} {l:List Nd} (h:RowIn W g l) (k:Nat) (hk:k≤l.length):(∀ (j:Nat) u,(ndRow (l.take k))[j]?=some u→W.cell? ((⟨g,0,none⟩:Addr).add j)=some u)∧∀ (j:Nat) u,(ndRow (l.drop k))[j]?=some u→W.cell? ((⟨g,k * 5,none⟩:Addr).add j)=some u:=by
 obtain ⟨cur,h1,h2⟩:=h
 have e:ndRow l=ndRow (l.take k) ++ ndRow (l.drop k):=by rw [← ndRow_append,List.take_append_drop]
 have hl:(ndRow (l.take k)).length=k * 5:=by rw [ndRow_length,List.length_take];congr 1;omega
 constructor
 ·intro j u hu
  rw [add_none,Nat.zero_add]
  refine (cell_hp h1 _).trans (h2 _ _ ?_)
  rw [e,List.getElem?_append_left (List.getElem?_eq_some_iff.1 hu).1]
  exact hu
 ·intro j u hu
  rw [add_none]
  refine (cell_hp h1 _).trans (h2 _ _ ?_)
  rw [e,List.getElem?_append_right (by omega),hl,Nat.add_sub_cancel_left]
  exact hu
set_option maxHeartbeats 2000000 in
theorem l1Many_k (s:ByteArray) (n:Nat) (w:World) (h:s.size * n≤1000) (hn:n≤1000) (hs:s.size≤1000) :
  Calls Tryz.prog 10 #[.string s,.int .i64 n] w fun e w'=>(∃ t:ByteArray,e=.returned (.string t)∧t.size≤1000)∧w'=w:=by
 go_enter Tryz.func10,Tryz.ntmps10
 go_wp2
 go_loopw [0,1,5] (fun a b c wr=>∃ (s o:ByteArray) (k:Nat),a=.string s∧b=.int .i64 k∧c=.string o∧o.size+s.size * k≤1000∧k≤1000∧s.size≤2000∧wr=w) (fun _ b _ _=>(intOf b).toNat)
 case atStart=>exact ⟨s,⟨#[]⟩,n,rfl,rfl,rfl,by show 0+s.size * n≤1000;omega,hn,by omega,rfl⟩
 case round =>
  obtain ⟨s,o,k,rfl,rfl,rfl,h1,h2,h3,rfl⟩:=hrel
  by_cases hk:0 < k
  ·have hk2:s.size≤s.size * k:=Nat.le_mul_of_pos_right _ hk
   have hd:k=2 * (k / 2)+k % 2:=(Nat.div_add_mod k 2).symm
   have hq:(k:Int) / 2=((k / 2:Nat):Int):=by omega
   have hr:(k:Int) % 2=((k % 2:Nat):Int):=by omega
   have he:s.size * k=s.size * 2 * (k / 2)+s.size * (k % 2):=by
    conv=>lhs;rw [hd]
    rw [Nat.mul_add,Nat.mul_assoc]
   obtain ⟨m,hm⟩:∃ m,k / 2=m:=⟨_,rfl⟩
   rw [hm] at hq he
   rcases Nat.mod_two_eq_zero_or_one k with hz | hz
   ·rw [hz] at hr he
    have HX:=hid (show o.size+(s.size+s.size) * m≤1000∧m < k from ⟨by rw [Nat.mul_zero,Nat.add_zero] at he;rw [← Nat.mul_two];omega,by omega⟩)
    clear he hd
    go_wp2
    go_roundw
    case rel=>exact ⟨s ++ s,o,m,rfl,by go_num,rfl,by rw [ByteArray.size_append];exact HX.out.1,by have:=HX.out.2;omega,by rw [ByteArray.size_append];omega,by trivial⟩
    case measure=>have:=HX.out.2;simp [intOf];omega
   ·rw [hz] at hr he
    have HX:=hid (show o.size+s.size+(s.size+s.size) * m≤1000∧m < k from ⟨by rw [Nat.mul_one] at he;rw [← Nat.mul_two];omega,by omega⟩)
    clear he hd
    go_wp2
    go_roundw
    case rel=>exact ⟨s ++ s,o ++ s,m,rfl,by go_num,rfl,by rw [ByteArray.size_append,ByteArray.size_append];exact HX.out.1,by have:=HX.out.2;omega,by rw [ByteArray.size_append];omega,by trivial⟩
    case measure=>have:=HX.out.2;simp [intOf];omega
  ·go_wp2
   go_ret
   exact ⟨⟨o,rfl,by omega⟩,rfl⟩
set_option maxHeartbeats 400000 in
theorem l1In_q (x lo hi:Int) (w:World) :
  Calls Tryz.prog 50 #[.int .i64 x,.int .i64 lo,.int .i64 hi] w fun e w'=>e=.returned (.bool (decide (lo≤x) && decide (x≤hi)))∧w'=w:=by
 go_enter Tryz.func50,Tryz.ntmps50
 go_wp2
 all_goals go_ret
 all_goals exact ⟨ret_bool (by rw [Bool.eq_iff_iff];simp;try omega),rfl⟩
theorem l1In_b (x lo hi:Int) (w:World):Calls Tryz.prog 50 #[.int .i64 x,.int .i64 lo,.int .i64 hi] w fun e w'=>(∃ b:Bool,e=.returned (.bool b))∧w'=w:=(l1In_q x lo hi w).mono fun _ _ h=>⟨⟨_,h.1⟩,h.2⟩
theorem NdOk.ins {K:Nat} {l:List Nd} (h:NdOk K l) (j:Nat) (y:Nd) (hy:y.text.size≤1000):NdOk (K+1) (l.take j ++ [y] ++ l.drop j):=by
 refine ⟨by have:=h.1;rw [List.length_append,List.length_append,List.length_take,List.length_drop];simp;omega,fun x hx=>?_⟩
 rcases List.mem_append.1 hx with h1 | h1
 ·rcases List.mem_append.1 h1 with h2 | h2
  ·exact h.2 x (List.mem_of_mem_take h2)
  ·rw [List.mem_singleton.1 h2]
   exact hy
 ·exact h.2 x (List.mem_of_mem_drop h1)
end Go.Proofs.YtabbahpalemlhaaGreatDoor
