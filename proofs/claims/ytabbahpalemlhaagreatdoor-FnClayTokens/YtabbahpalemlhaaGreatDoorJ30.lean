import Derived.Deep.RegionHeld3
import Derived.Test.YtabbahpalemlhaaGreatDoorJ06
import Derived.Test.YtabbahpalemlhaaGreatDoorJ03
import Derived.Test.YtabbahpalemlhaaGreatDoorJ22
import Derived.Test.YtabbahpalemlhaaGreatDoorJ04
import Derived.Test.YtabbahpalemlhaaGreatDoorJ24
import Derived.Test.YtabbahpalemlhaaGreatDoorJ23
namespace Go.Proofs.YtabbahpalemlhaaGreatDoor
theorem markOne_take (L:List UInt8) (k:Nat) (hc:(markOne L).code=0) (hk:(markOne L).size≤k):markOne (L.take k)=markOne L:=by
 unfold markOne at hc hk ⊢
 cases hm:marks.find? (fun m=>m.isPrefixOf L) with
 | none=>rw [hm] at hc;simp [One.bad] at hc
 | some m =>
  rw [hm] at hk
  have e:marks.find? (fun m=>m.isPrefixOf (L.take k))=some m:=by
   rw [List.find?_eq_some_iff_append] at hm ⊢
   obtain ⟨h1,xa,xb,h2,h3⟩:=hm
   refine ⟨?_,xa,xb,h2,fun a ha=>?_⟩
   ·have hp:=List.isPrefixOf_iff_prefix.1 h1
    rw [List.isPrefixOf_iff_prefix]
    exact List.prefix_take_iff.2 ⟨hp,hk⟩
   ·have h4:=h3 a ha
    cases hq:a.isPrefixOf (L.take k)
    ·rfl
    ·have hp:=(List.isPrefixOf_iff_prefix.1 hq).trans (List.take_prefix k L)
     rw [List.isPrefixOf_iff_prefix.2 hp] at h4
     simp at h4
  rw [e]
theorem one_take (L:List UInt8) (k:Nat) (hc:(one L).code=0) (hk:(one L).size≤k):one (L.take k)=one L:=by
 have hs:=one_size L hc
 cases L with
 | nil=>simp [one,One.bad] at hc
 | cons c r =>
  obtain ⟨k,rfl⟩:∃ k',k=k'+1:=⟨k - 1,by omega⟩
  have ht:(c :: r).take (k+1)=c :: r.take k:=rfl
  simp only [one] at hc hk hs
  rw [ht]
  simp only [one]
  split at hc
  ·rename_i h1
   rw [if_pos h1] at hk hs ⊢
   rw [if_pos h1]
   unfold textOne at hc hk ⊢
   cases hu:unqF (r.length+1) r with
   | none=>rw [hu] at hc;simp [One.bad] at hc
   | some x =>
    obtain ⟨o,m⟩:=x
    rw [hu] at hc hk
    simp only at hc hk ⊢
    by_cases hl:1000 < o.length
    ·rw [if_pos hl] at hc;simp [One.bad] at hc
    ·rw [if_neg hl] at hk
     rw [unqF_take hu k (by simp at hk;omega) _ (Nat.lt_succ_self _)]
  ·rename_i h1
   rw [if_neg h1] at hk hs ⊢
   rw [if_neg h1]
   split at hc
   ·rename_i h2
    rw [if_pos h2] at hk hs ⊢
    rw [if_pos h2]
    unfold numOne at hc hk ⊢
    split at hc
    ·simp [One.bad] at hc
    ·rename_i hx
     rw [if_neg hx] at hk
     have hz:run digB (c :: r)≤k+1:=hk
     have hz2:run letB (c :: r)=run digB (c :: r):=Decidable.byContradiction fun h=>hx (.inl h)
     have e1:=run_take digB (c :: r) (k+1) hz
     have e2:=run_take letB (c :: r) (k+1) (by omega)
     rw [ht] at e1 e2
     have e3:(c :: r.take k).take (run digB (c :: r))=(c :: r).take (run digB (c :: r)):=by rw [← ht,List.take_take,Nat.min_eq_left hz]
     have e4:(c :: r.take k).take 1=(c :: r).take 1:=rfl
     rw [e1,e2,e3,e4]
   ·rename_i h2
    rw [if_neg h2] at hk hs ⊢
    rw [if_neg h2]
    split at hc
    ·rename_i h3
     rw [if_pos h3] at hk hs ⊢
     rw [if_pos h3]
     have hz:run letB (c :: r)≤k+1:=by
      unfold nameOne at hc hk
      split at hc
      ·rename_i hx;rw [if_pos hx] at hk;exact hk
      ·rename_i hx
       rw [if_neg hx] at hk
       split at hc
       ·simp [One.bad] at hc
       ·rename_i hy;rw [if_neg hy] at hk;exact hk
     unfold nameOne
     have e:=run_take letB (c :: r) (k+1) hz
     rw [ht] at e
     rw [e,← ht,List.take_take,Nat.min_eq_left hz]
    ·rename_i h3
     rw [if_neg h3] at hk hs ⊢
     rw [if_neg h3,← ht]
     exact markOne_take (c :: r) (k+1) hc hk
theorem marks_head:∀ m ∈ marks,m≠[]∧m.head?≠some 32∧m.head?≠some 10∧m.head?≠some 35:=by decide
theorem one_nogap (L:List UInt8) (hc:(one L).code=0):gapN false L=0:=by
 cases L with
 | nil=>rfl
 | cons c r =>
  have hno:∀ b:UInt8,b=32∨b=10∨b=35→markOne (b :: r)=One.bad 2:=by
   intro b hb
   unfold markOne
   have e:marks.find? (fun m=>m.isPrefixOf (b :: r))=none:=by
    rw [List.find?_eq_none]
    intro m hm hp
    obtain ⟨h0,h1,h2,h3⟩:=marks_head m hm
    cases m with
    | nil=>exact h0 rfl
    | cons a m =>
     simp only [List.isPrefixOf,Bool.and_eq_true,beq_iff_eq] at hp
     simp only [List.head?_cons,ne_eq,Option.some.injEq] at h1 h2 h3
     rcases hb with h | h | h
     ·exact h1 (hp.1.trans h)
     ·exact h2 (hp.1.trans h)
     ·exact h3 (hp.1.trans h)
   rw [e]
  have hbad:∀ b:UInt8,b=32∨b=10∨b=35→one (b :: r)=One.bad 2:=by
   intro b hb
   have hm:=hno b hb
   rcases hb with rfl | rfl | rfl
   ·exact hm
   ·exact hm
   ·exact hm
  simp only [gapN]
  by_cases h1:c=35
  ·rw [hbad c (.inr (.inr h1))] at hc;simp [One.bad] at hc
  ·rw [if_neg h1]
   by_cases h2:c=32∨c=10
   ·rw [hbad c (by rcases h2 with h | h;exact .inl h;exact .inr (.inl h))] at hc;simp [One.bad] at hc
   ·rw [if_neg h2]
def ctokAt (l:List UInt8) (p:Nat):Tok:=⟨(one (l.drop p)).kind,(one (l.drop p)).text,(one (l.drop p)).n,p⟩
def cnextAt (l:List UInt8) (p:Nat):Nat:=p+(one (l.drop p)).size+gapN false (l.drop (p+(one (l.drop p)).size))
def CChain (l:List UInt8):Nat→List Tok→Prop
 | p,[]=>l.length≤p
 | p,t :: ts=>p < l.length∧(one (l.drop p)).code=0∧t=ctokAt l p∧CChain l (cnextAt l p) ts
theorem cnextAt_le {l:List UInt8} {p:Nat} (hp:p < l.length) (hc:(one (l.drop p)).code=0):p < cnextAt l p∧cnextAt l p≤l.length:=by
 have h1:=one_size _ hc
 rw [List.length_drop] at h1
 have h2:=gapN_le false (l.drop (p+(one (l.drop p)).size))
 rw [List.length_drop] at h2
 unfold cnextAt;omega
theorem cchain_of {f:Nat} {l:List UInt8} {p:Nat} {ts:List Tok} (h:scanA f l p=(ts,none)) (hf:l.length - p < f):CChain l p ts:=by
 induction f generalizing p ts with
 | zero=>omega
 | succ f ih =>
  by_cases hp:p < l.length
  ·by_cases hc:(one (l.drop p)).code=0
   ·rw [scanA_go f l p hp hc] at h
    simp only [Prod.mk.injEq] at h
    obtain ⟨h1,h2⟩:=h
    subst h1
    have hn:=cnextAt_le hp hc
    exact ⟨hp,hc,rfl,ih (p:=cnextAt l p) (Prod.ext rfl h2) (by omega)⟩
   ·rw [scanA_bad f l p hp hc] at h;cases h
  ·rw [scanA_end _ l p (by omega)] at h
   cases h
   exact Nat.le_of_not_lt hp
theorem of_cchain {f:Nat} {l:List UInt8} {p:Nat} {ts:List Tok} (h:CChain l p ts) (hf:l.length - p < f):scanA f l p=(ts,none):=by
 induction ts generalizing f p with
 | nil=>exact scanA_end f l p h
 | cons t ts ih =>
  obtain ⟨hp,hc,rfl,hr⟩:=h
  obtain ⟨f,rfl⟩:∃ g,f=g+1:=⟨f - 1,by omega⟩
  have hn:=cnextAt_le hp hc
  have:=ih hr (f:=f) (by omega)
  rw [scanA_go f l p hp hc]
  show (_ :: (scanA f l (cnextAt l p)).1,(scanA f l (cnextAt l p)).2)=_
  rw [this];rfl
def cpieceAt (l:List UInt8) (p:Nat):List UInt8:=(l.drop p).take (cnextAt l p - p)
theorem cpiece_one {l:List UInt8} {p:Nat} (_hp:p < l.length) (hc:(one (l.drop p)).code=0):one (cpieceAt l p)=one (l.drop p):=by
 refine one_take _ _ hc ?_
 unfold cnextAt;omega
theorem cpiece_len {l:List UInt8} {p:Nat} (hp:p < l.length) (hc:(one (l.drop p)).code=0):(cpieceAt l p).length=cnextAt l p - p:=by
 have hn:=cnextAt_le hp hc
 unfold cpieceAt;rw [List.length_take,List.length_drop];omega
theorem cpiece_rest {l:List UInt8} {p:Nat}:(cpieceAt l p).drop (one (l.drop p)).size=(l.drop (p+(one (l.drop p)).size)).take (gapN false (l.drop (p+(one (l.drop p)).size))):=by
 unfold cpieceAt
 rw [List.drop_take,List.drop_drop]
 have e:cnextAt l p - p - (one (l.drop p)).size=gapN false (l.drop (p+(one (l.drop p)).size)):=by unfold cnextAt;omega
 rw [e]
theorem cpiece_gap {l:List UInt8} {p:Nat}:gapN false ((cpieceAt l p).drop (one (l.drop p)).size)=((cpieceAt l p).drop (one (l.drop p)).size).length:=by
 rw [cpiece_rest,gapN_take,List.length_take]
 have:=gapN_le false (l.drop (p+(one (l.drop p)).size));omega
theorem cpiece_alone {l:List UInt8} {p:Nat} (hp:p < l.length) (hc:(one (l.drop p)).code=0) (hl:l.length≤8000):scanR (cpieceAt l p)=([{ ctokAt l p with place:=0 }],0,0):=by
 have h1:=cpiece_one hp hc
 have h2:=cpiece_len hp hc
 have hn:=cnextAt_le hp hc
 have hg:gapN false (cpieceAt l p)=0:=one_nogap _ (by rw [h1];exact hc)
 have hch:CChain (cpieceAt l p) 0 [{ ctokAt l p with place:=0 }]:=by
  refine ⟨by omega,by rw [List.drop_zero,h1];exact hc,by unfold ctokAt;rw [List.drop_zero,h1],?_⟩
  show (cpieceAt l p).length≤cnextAt (cpieceAt l p) 0
  unfold cnextAt
  rw [List.drop_zero,h1,Nat.zero_add,cpiece_gap,List.length_drop];omega
 unfold scanR
 rw [if_neg (by omega),hg,of_cchain hch (by omega)]
theorem scan_code (f:Nat) (l:List UInt8) (p:Nat) (ts:List Tok) (x:Nat × Nat) (h:scanA f l p=(ts,some x)):x.1≠0:=by
 induction f generalizing p ts with
 | zero=>simp [scanA] at h
 | succ f ih =>
  unfold scanA at h
  split at h
  ·simp at h
  ·split at h
   ·rename_i hc
    simp only [Prod.mk.injEq,Option.some.injEq] at h
    rw [← h.2];exact hc
   ·simp only [Prod.mk.injEq] at h
    exact ih _ _ (Prod.ext rfl h.2)
theorem cchain_scan {l:List UInt8} {ts:List Tok} (h:scanR l=(ts,0,0)):CChain l (gapN false l) ts∧l.length≤8000:=by
 unfold scanR at h
 split at h
 ·simp at h
 ·rename_i hl
  refine ⟨?_,by omega⟩
  rcases hr:scanA (l.length+1) l (gapN false l) with ⟨us,o⟩
  rw [hr] at h
  cases o with
  | none=>simp only [Prod.mk.injEq] at h;rw [← h.1];exact cchain_of hr (by omega)
  | some x =>
   exfalso
   simp only [Prod.mk.injEq] at h
   exact scan_code _ _ _ _ _ hr (by rw [h.2])
end Go.Proofs.YtabbahpalemlhaaGreatDoor
namespace Go.Proofs.YtabbahpalemlhaaGreatDoor.Tk
def tok0:Tok:=⟨0,[],0,0⟩
theorem chain_at {l:List UInt8} {p:Nat} {ts:List Tok} (h:CChain l p ts):∀ i,i < ts.length →
  (ts.getD i tok0).place < l.length∧(one (l.drop (ts.getD i tok0).place)).code=0∧ts.getD i tok0=ctokAt l (ts.getD i tok0).place ∧
  (i+1 < ts.length→(ts.getD (i+1) tok0).place=cnextAt l (ts.getD i tok0).place)∧(¬ i+1 < ts.length→cnextAt l (ts.getD i tok0).place=l.length):=by
 induction ts generalizing p with
 | nil=>intro i hi;exact absurd hi (Nat.not_lt_zero _)
 | cons t ts ih =>
  obtain ⟨hp,hc,rfl,hr⟩:=h
  intro i hi
  cases i with
  | zero =>
   have e:((ctokAt l p :: ts).getD 0 tok0)=ctokAt l p:=rfl
   have e2:(ctokAt l p).place=p:=rfl
   rw [e,e2]
   refine ⟨hp,hc,rfl,fun h1=>?_,fun h1=>?_⟩
   ·cases ts with
    | nil=>simp at h1
    | cons u us =>
     obtain ⟨_,_,hu,_⟩:=hr
     show u.place=_
     rw [hu]
     rfl
   ·cases ts with
    | nil =>
     have h2:l.length≤cnextAt l p:=hr
     have h3:=(cnextAt_le hp hc).2
     omega
    | cons u us=>exact absurd (by simp:0+1 < (ctokAt l p :: u :: us).length) h1
  | succ i =>
   have hi':i < ts.length:=by simpa using hi
   obtain ⟨a,b,c,d,e⟩:=ih hr i hi'
   refine ⟨a,b,c,fun h1=>d (by simpa using h1),fun h1=>e (by simpa using h1)⟩
theorem scan_at {l:List UInt8} {ts:List Tok} {c a:Nat} (h:scanR l=(ts,c,a)) (hc:c=0) (i:Nat) (hi:i < ts.length) :
  l.length≤8000∧(ts.getD i tok0).place < l.length∧(one (l.drop (ts.getD i tok0).place)).code=0∧ts.getD i tok0=ctokAt l (ts.getD i tok0).place ∧
  (i+1 < ts.length→(ts.getD (i+1) tok0).place=cnextAt l (ts.getD i tok0).place)∧(¬ i+1 < ts.length→cnextAt l (ts.getD i tok0).place=l.length) ∧
  (ts.getD i tok0).place < cnextAt l (ts.getD i tok0).place∧cnextAt l (ts.getD i tok0).place≤l.length:=by
 subst hc
 have ha:a=0:=by
  unfold scanR at h
  split at h
  ·simp at h
  ·rcases hr:scanA (l.length+1) l (gapN false l) with ⟨us,o⟩
   rw [hr] at h
   cases o with
   | none=>simp only [Prod.mk.injEq] at h;exact h.2.2.symm
   | some x =>
    exfalso
    simp only [Prod.mk.injEq] at h
    exact scan_code _ _ _ _ _ hr (by rw [h.2])
 subst ha
 obtain ⟨h1,h2⟩:=cchain_scan h
 obtain ⟨x1,x2,x3,x4,x5⟩:=chain_at h1 i hi
 obtain ⟨y1,y2⟩:=cnextAt_le x1 x2
 exact ⟨h2,x1,x2,x3,x4,x5,y1,y2⟩
theorem scan_none {l:List UInt8} {ts:List Tok} {c a:Nat} (h:scanR l=(ts,c,a)) (hc:¬ c=0):ts=[]:=by
 unfold scanR at h
 split at h
 ·simp only [Prod.mk.injEq] at h;exact h.1.symm
 ·rcases hr:scanA (l.length+1) l (gapN false l) with ⟨us,o⟩
  rw [hr] at h
  cases o with
  | none=>simp only [Prod.mk.injEq] at h;exact absurd h.2.1.symm hc
  | some x=>simp only [Prod.mk.injEq] at h;exact h.1.symm
end Go.Proofs.YtabbahpalemlhaaGreatDoor.Tk
namespace Go.Proofs.YtabbahpalemlhaaGreatDoor
open Go.RowKit
set_option maxRecDepth 20000
theorem kids_lt {nd:Nat→Nd} {N:Nat} {O:List (List Nat)} {s:List Nat} (h:kidsF nd N=some (O,s)) (j:Nat) (hj:j < N):∀ y ∈ O.getD j [],y < j:=by
 obtain ⟨s',h6⟩:=kidsF_pre h (j+1) (by omega)
 obtain ⟨o',sp,sk,h1,h2,_,_⟩:=kidsF_step h6
 have hl:=kidsF_len nd _ _ _ h1
 have hO:=(kidsF_len nd _ _ _ h).1
 have e:O.getD j []=sk:=by
  have:(O.take (j+1))[j]?=(o' ++ [sk])[j]?:=by rw [h2]
  rw [List.getElem?_take_of_lt (by omega),List.getElem?_append_right (by omega),hl.1] at this
  rw [List.getD_eq_getElem?_getD,this];simp
 intro y hy
 rw [e] at hy
 exact hl.2.2 y (by simp [hy])
theorem kids_len_le {nd:Nat→Nd} {N:Nat} {O:List (List Nat)} {s:List Nat} (h:kidsF nd N=some (O,s)) (j:Nat) (hj:j < N):(O.getD j []).length≤j:=by
 obtain ⟨s',h6⟩:=kidsF_pre h (j+1) (by omega)
 obtain ⟨o',sp,sk,h1,h2,_,_⟩:=kidsF_step h6
 have hl:=kidsF_len nd _ _ _ h1
 have hO:=(kidsF_len nd _ _ _ h).1
 have e:O.getD j []=sk:=by
  have:(O.take (j+1))[j]?=(o' ++ [sk])[j]?:=by rw [h2]
  rw [List.getElem?_take_of_lt (by omega),List.getElem?_append_right (by omega),hl.1] at this
  rw [List.getD_eq_getElem?_getD,this];simp
 rw [e]
 have:=hl.2.1
 rw [List.length_append] at this
 omega
def Seven (W:World) (a b go j:Nat) (x:Nd) (v u:Value):Prop:=W.cell? ⟨a,0,none⟩=some v∧W.cell? ⟨b,j * 5,none⟩=some (.int .i64 x.kind)∧W.cell? ⟨b,j * 5+1,none⟩=some (.int .i64 x.op)∧W.cell? ⟨b,j * 5+2,none⟩=some (.int .i64 x.n)∧W.cell? ⟨b,j * 5+3,none⟩=some (.string x.text)∧W.cell? ⟨b,j * 5+4,none⟩=some (.int .i64 x.kids)∧W.cell? ⟨go,j,none⟩=some u
theorem Seven.below {W W':World} {a b go j B:Nat} {x:Nd} {v u:Value} (h:Seven W a b go j x v u) (hb:Below B W W') (h1:a < B) (h2:b < B) (h3:go < B):Seven W' a b go j x v u:=by
 obtain ⟨c1,c2,c3,c4,c5,c6,c7⟩:=h
 exact ⟨(hb.cell (p:=⟨a,_,none⟩) h1).trans c1,(hb.cell (p:=⟨b,_,none⟩) h2).trans c2,(hb.cell (p:=⟨b,_,none⟩) h2).trans c3,(hb.cell (p:=⟨b,_,none⟩) h2).trans c4,(hb.cell (p:=⟨b,_,none⟩) h2).trans c5,(hb.cell (p:=⟨b,_,none⟩) h2).trans c6,(hb.cell (p:=⟨go,_,none⟩) h3).trans c7⟩
def SInv (nd:Nat→Nd) (O:List (List Nat)) (B:Nat) (W1 W:World) (j:Nat) (vh:Value):Prop:=∃ g c,vh=.slice (some ⟨g,0,none⟩) j c∧B≤g∧RowAt W 3 g c j (intRow (highs (O.take j)))∧(∀ x,x < j→(highs O).getD x 0≤50∧FitAt nd O x)∧Below B W1 W
theorem below_drewN {B:Nat} {w w':World} (h:Below B w w') (n:Nat):Below B w (w'.drewN n):=by
 induction n with
 | zero=>exact h
 | succ n ih=>exact ih.drew
theorem Says.pos {e:Ending} {P:Prop} (h:Says e P) (hp:P):e=.returned (.bool true):=by
 rcases h.get with ⟨h1,_⟩ | ⟨_,h2⟩
 ·exact h1
 ·exact absurd hp h2
theorem Says.neg {e:Ending} {P:Prop} (h:Says e P) (hp:¬ P):e=.returned (.bool false):=by
 rcases h.get with ⟨_,h2⟩ | ⟨h1,_⟩
 ·exact absurd h2 hp
 ·exact h1
theorem upK_take (l:List Nat) (q:Nat) (hq:q < l.length):upK (l.take (q+1))=max (upK (l.take q)) (l[q]+1):=by
 rw [List.take_succ_eq_append_getElem hq,upK_snoc]
theorem upK_bound (l:List Nat) (b:Nat) (h:∀ x ∈ l,x≤b):upK l≤b+1:=by
 have:∀ n,∀ l:List Nat,l.length=n→(∀ x ∈ l,x≤b)→upK l≤b+1:=by
  intro n
  induction n with
  | zero=>intro l h _;rw [List.length_eq_zero_iff.1 h];simp [upK]
  | succ n ih =>
   intro l h hx
   obtain ⟨l',y,rfl⟩:=(List.eq_nil_or_concat l).resolve_left (by rintro rfl;cases h)
   rw [List.concat_eq_append] at h hx ⊢
   rw [upK_snoc]
   have h1:=ih l' (by simp at h;exact h) (fun x hm=>hx x (by simp [hm]))
   have h2:=hx y (by simp)
   omega
 exact this _ l rfl h
theorem SInv_step {nd:Nat→Nd} {O:List (List Nat)} {B:Nat} {W1 W:World} {j:Nat} {ks:List Nat} {v:Value} (hO:j < O.length) (hks:O.getD j []=ks) (hnn:¬ v=.slice none 0 0)
  (hown:W.ownsRow B 3 1 v (j+1) (intRow (highs (O.take j)) ++ [.int .i64 (upK (kidHighs (highs (O.take j)) ks):Nat)])) (hfit:∀ x,x < j→(highs O).getD x 0≤50∧FitAt nd O x)
  (h50:upK (kidHighs (highs (O.take j)) ks)≤50) (hP:PlainNd (nd j)) (hK:KidsOk (nd j).kind ks.length (fun i=>nd (ks.getD i 0))) (hb:Below B W1 W):SInv nd O B W1 W (j+1) v:=by
 obtain ⟨g,c,rfl,hB,hr⟩:=RowAt.of_own hown hnn
 have e:highs (O.take (j+1))=highs (O.take j) ++ [upK (kidHighs (highs (O.take j)) ks)]:=by rw [highs_take O j hO,hks]
 refine ⟨g,c,rfl,hB,?_,?_,hb⟩
 ·rw [e,intRow_append];exact hr
 ·intro x hx
  rcases Nat.lt_or_eq_of_le (Nat.lt_succ_iff.1 hx) with h | h
  ·exact hfit x h
  ·subst h
   refine ⟨?_,?_⟩
   ·rw [← highs_pre O (x+1) x (by omega) (by omega),e,List.getD_eq_getElem?_getD,List.getElem?_append_right (by rw [highs_length,List.length_take];omega)]
    rw [highs_length,List.length_take,Nat.min_eq_left (by omega),Nat.sub_self]
    simpa using h50
   ·unfold FitAt
    rw [hks]
    exact ⟨hP,hK⟩
theorem spec_bad {nd:Nat→Nd} {N j:Nat} {O:List (List Nat)} {x:Nat} {ks:List Nat} (h:kidsF nd N=some (O,[x])) (hj:j < N) (hks:O.getD j []=ks) (hb:¬ (upK (kidHighs (highs (O.take j)) ks)≤50∧PlainNd (nd j)∧KidsOk (nd j).kind ks.length (fun i=>nd (ks.getD i 0)))):¬ ValidT nd N:=by
 rintro ⟨_,_,_,O2,x2,h4,h5⟩
 rw [h] at h4
 cases h4
 have hO:=(kidsF_len nd _ _ _ h).1
 obtain ⟨f1,f2⟩:=h5 j hj
 unfold FitAt at f2
 rw [hks] at f2
 refine hb ⟨?_,f2.1,f2.2⟩
 rw [← highs_pre O (j+1) j (by omega) (by omega),highs_take O j (by omega),List.getD_eq_getElem?_getD,List.getElem?_append_right (by rw [highs_length,List.length_take];omega)] at f1
 rw [highs_length,List.length_take,Nat.min_eq_left (by omega),Nat.sub_self,hks] at f1
 simpa using f1
set_option maxHeartbeats 4000000 in
theorem specValid_any (b N cap:Nat) (nd:Nat→Nd) (w:World) (hN1:1≤N) (hN:N≤5000) (h24:(nd (N - 1)).kind=24) (hb:b < w.heap.size) (hn:NodesAt w b N nd) (hx:∀ i,i < N→(nd i).text.size≤maxLen) :
  Calls Tryz.prog 34 #[.agg #[.slice (some ⟨b,0,none⟩) N cap]] w fun e w'=>Says e (ValidT nd N)∧Below w.heap.size w w':=by
 have HX:=hid hx
 have HBT:=hid ((Below.refl w.heap.size w).alloc (Nat.le_refl _) (.cells #[.slice (some ⟨b,0,none⟩) N cap] 50))
 have HNT:=hid (hn.below HBT.out hb)
 have HN:=hid hn
 have hb0:=hb
 have HIN:Hid ((decide ((1:Int)≤(N:Int)) && decide ((N:Int)≤5000))=true):=by show _=_;simp;omega
 have a0:=((hn.below HBT.out hb) (N - 1) (by omega)).1
 rw [h24] at a0
 clear hn hx
 go_enter Tryz.func34,Tryz.ntmps34
 go_wp2_with (first
  | (go_at_call 50;refine (l1In_dec _ _ _ _).mono ?_;rintro e w' ⟨rfl,hw⟩;have hw2:=hw.symm;clear hw;subst hw2;rw [HIN.out])
  | (go_at_call 35;refine (l2Kids_any b N cap nd _ hN (by simp;omega) HNT.out).mono ?_;rintro e w1 ⟨hb1,⟨v,rfl,hno⟩ | ⟨L,x,go,co,rfl,hkf,hrow,hgo,hall⟩⟩))
 ·have HF:Hid (¬ ValidT nd N):=fun ⟨_,_,_,O,x,h4,_⟩=>hno O x h4
  clear hno
  go_ret
  exact ⟨says_f HF.out,HBT.out.trans (hb1.mono (by simp))⟩
 ·have HKF:=hid hkf
  have HROW:=hid hrow
  have HALL:=hid hall
  have HB1:=hid hb1
  have hLl:L.length=N:=by have:=(kidsF_len nd _ _ _ hkf).1;rwa [List.length_map] at this
  have hgo1:=hrow.lt
  have hw1:w.heap.size+1≤w1.heap.size:=by have:=hb1.size;simpa using this
  have hgo2:w.heap.size+1≤go:=by simpa using hgo
  obtain ⟨O,hO⟩:∃ O,L.map (fun x=>x.2.2)=O:=⟨_,rfl⟩
  rw [hO] at HKF
  have HO:=hid hO
  have hOl:O.length=N:=by rw [← hO,List.length_map];exact hLl
  obtain ⟨i0,hi,hz0,hz1,hz2⟩:=info_parts info_int
  have HHI:=hid (And.intro hi (And.intro hz0 (And.intro hz1 hz2)))
  have HBB:=hid (HBT.out.trans (hb1.mono (B':=w.heap.size) (by simp)))
  have HTC:=hid (tree_cell (w:=w) (wr:=w1) (by simpa using hb1))
  have HLL:=hid hLl
  have HOL:=hid hOl
  clear hkf hrow hall hb1 hgo hO hi hz0 hz1 hz2 hLl hOl a0
  go_loopw [6,7] (fun vh i wr=>∃ j:Nat,j≤N∧i=.int .i64 j∧SInv nd O w1.heap.size w1 wr j vh) (fun _ i _=>N - (intOf i).toNat)
  case atStart =>
   refine ⟨0,Nat.zero_le _,rfl,w1.heap.size,0,rfl,Nat.le_refl _,?_,fun x h=>absurd h (Nat.not_lt_zero _),(Below.refl _ _).alloc (Nat.le_refl _) _⟩
   exact ⟨rfl,Nat.le_refl _,by unfold maxLen;omega,#[],heap_alloc_new w1 _,rfl,rfl⟩
  case round =>
   obtain ⟨j,hj,rfl,gh,c,rfl,hBg,hrh,hfit,hbw⟩:=hrel
   have HRH:=hid hrh
   have HFIT:=hid hfit
   have HBW:=hid hbw
   have hghl:=hrh.lt
   clear hrh hfit hbw
   by_cases hlt:j < N
   ·have hjL:j < L.length:=by have:=HLL.out;omega
    obtain ⟨⟨gk,ck,ks⟩,hLj⟩:∃ y,L[j]?=some y:=⟨L[j],List.getElem?_eq_getElem hjL⟩
    have hmem:(gk,ck,ks) ∈ L:=List.mem_of_getElem? hLj
    obtain ⟨hgk0,hrk⟩:=HALL.out _ hmem
    have hgk1:=hrk.lt
    have HKS:Hid (O.getD j []=ks):=by
     show _=_
     rw [← HO.out,List.getD_eq_getElem?_getD,List.getElem?_map,hLj];rfl
    have HLT:=hid (kids_lt HKF.out j hlt)
    rw [HKS.out] at HLT
    have hbx:∀ p:Addr,p.block < w1.heap.size→wr.cell? p=w1.cell? p:=fun p hp=>HBW.out.cell hp
    have c1:wr.cell? ⟨go,j,none⟩=some (.slice (some ⟨gk,0,none⟩) ks.length ck):=by
     rw [hbx _ hgo1,HROW.out.cell j hjL]
     simp [gridRow,hLj]
    have HG:Hid ((gridRow L)[j]?=some (.slice (some ⟨gk,0,none⟩) ks.length ck)):=by
     show _=_
     simp [gridRow,hLj]
    have HC2:Hid (∀ q (hq:q < ks.length),wr.cell? ⟨gk,q,none⟩=some (.int .i64 (ks[q]:Nat))):=fun q hq=>by
     rw [hbx _ hgk1,hrk.cell q hq]
     simp [intRow,hq]
    have HC3:Hid (∀ y,y < j→wr.cell? ⟨gh,y,none⟩=some (.int .i64 ((highs (O.take j)).getD y 0:Nat))):=fun y hy=>by
     have hl:(highs (O.take j)).length=j:=by rw [highs_length,List.length_take];have:=HOL.out;omega
     rw [HRH.out.cell y hy]
     simp [intRow,hl,hy]
    have HUB:Hid (∀ q,upK ((kidHighs (highs (O.take j)) ks).take q)≤5001):=fun q=>upK_bound _ 5000 (fun x hx=>by
     obtain ⟨y,_,rfl⟩:=List.mem_map.1 (List.mem_of_mem_take hx)
     have:=highs_le (O.take j) y
     rw [List.length_take] at this
     show (highs (O.take j)).getD y 0≤5000
     omega)
    have hksl:ks.length≤5000:=by have:=kids_len_le HKF.out j hlt;rw [HKS.out] at this;omega
    have HRK:=hid hrk
    clear hrk hmem hLj hbx
    go_wp2
    go_loop [8,9] (fun h i=>∃ q:Nat,q≤ks.length∧i=.int .i64 q∧h=.int .i64 (upK ((kidHighs (highs (O.take j)) ks).take q):Nat)) (fun _ i=>ks.length - (intOf i).toNat)
    case atStart=>exact ⟨0,Nat.zero_le _,rfl,rfl⟩
    case round =>
     obtain ⟨q,hq,rfl,rfl⟩:=hrel
     by_cases hql:q < ks.length
     ·have d2:=HC2.out q hql
      have hyj:ks[q] < j:=HLT.out _ (List.getElem_mem hql)
      have d3:=HC3.out ks[q] hyj
      have hkl:q < (kidHighs (highs (O.take j)) ks).length:=by simp [kidHighs];exact hql
      have HS:=hid (upK_take _ q hkl)
      have hkg:(kidHighs (highs (O.take j)) ks)[q]=(highs (O.take j)).getD ks[q] 0:=by simp [kidHighs]
      rw [hkg] at HS
      have hub:=HUB.out q
      have hub2:(highs (O.take j)).getD ks[q] 0≤5000:=by
       have:=highs_le (O.take j) ks[q]
       rw [List.length_take] at this
       omega
      clear hkg hkl
      generalize (highs (O.take j)).getD ks[q] 0=hy at *
      generalize ks[q]=y at *
      generalize upK ((kidHighs (highs (O.take j)) ks).take q)=u at *
      by_cases hgt:u < hy+1
      ·go_wp2
       go_round
       case rel=>exact ⟨q+1,by omega,by go_num,by rw [HS.out];congr 1;omega⟩
       case measure=>simp [intOf];omega
      ·go_wp2
       go_round
       case rel=>exact ⟨q+1,by omega,by go_num,by rw [HS.out];congr 1;omega⟩
       case measure=>simp [intOf];omega
     ·obtain rfl:q=ks.length:=by omega
      have HUF:Hid ((kidHighs (highs (O.take j)) ks).take ks.length=kidHighs (highs (O.take j)) ks):=List.take_of_length_le (by simp [kidHighs])
      rw [HUF.out]
      obtain ⟨h,hh⟩:∃ h,upK (kidHighs (highs (O.take j)) ks)=h:=⟨_,rfl⟩
      rw [hh]
      have hh50:h≤5001:=by have:=HUB.out ks.length;rw [HUF.out,hh] at this;exact this
      have HBAD:=hid (spec_bad HKF.out hlt HKS.out)
      rw [hh] at HBAD
      have HBE:Hid (∀ W,Below w1.heap.size w1 W→Below w.heap.size w W):=fun W hb=>HBB.out.trans (hb.mono (by omega))
      have HSV:Hid (∀ W,Below w1.heap.size w1 W→Seven W w.heap.size b go j (nd j) (.slice (some ⟨b,0,none⟩) N cap) (.slice (some ⟨gk,0,none⟩) ks.length ck)):=fun W hb=>by
       obtain ⟨f0,f1,f2,f3,f4⟩:=(HN.out.below (HBE.out W hb) hb0) j hlt
       refine ⟨(hb.cell (p:=⟨w.heap.size,0,none⟩) hw1).trans HTC.out,f0,f1,f2,f3,f4,?_⟩
       rw [hb.cell (p:=⟨go,j,none⟩) hgo1,HROW.out.cell j hjL]
       exact HG.out
      have HPL:Hid (∀ W,Below w1.heap.size w1 W→PlacesAt W gk 0 ks.length N (fun i=>ks.getD i 0)):=fun W hb i hi=>by
       refine ⟨?_,?_⟩
       ·rw [hb.cell (p:=⟨gk,0+i,none⟩) hgk1,Nat.zero_add,HRK.out.cell i hi]
        simp [intRow,hi]
       ·show ks.getD i 0 < N
        rw [List.getD_eq_getElem?_getD,List.getElem?_eq_getElem hi]
        have:=HLT.out _ (List.getElem_mem hi)
        simp;omega
      have hbw1:b < w1.heap.size:=by omega
      by_cases h5:h≤50
      ·have hd:decide ((50:Int) < (h:Int))=false:=by simp;omega
       by_cases hP:PlainNd (nd j)
       ·have HP:=hid hP
        by_cases hK:KidsOk (nd j).kind ks.length (fun i=>nd (ks.getD i 0))
        ·have HK:=hid hK
         clear hP hK
         go_wp2_with (at_builtin;refine wpList_append_own_at _ rfl (.tmp 72) (.tmp 74) 82 rfl w1.heap.size 3 i0 (.int .i64 0) 1 8 Tryz.underlying82 HHI.out.1 HHI.out.2.1 HHI.out.2.2.1 HHI.out.2.2.2 rfl (by decide) (.slice (some ⟨gh,0,none⟩) j c) j (intRow (highs (O.take j))) rfl ((HRH.out.alloc _).own hBg) ⟨wr.heap.size,0,none⟩ 1 1 [.int .i64 h] rfl rfl (cell_one_new _ _ _) (by simp [Value.oneCell']) (by unfold maxLen;omega) (by omega) (by have:=HBW.out.size;simp;omega) ?_;intro v2 w2 o2 g2 nn2 b2;have O2:=hid o2;have NN2:=hid (some_not_nil nn2);have HB2:=hid ((HBW.out.alloc HBW.out.size _).grown g2 (by have:=HBW.out.size;simp;omega) (fun q e=>by injection e with e;exact e ▸ hBg));have hw2:=HB2.out.size;clear o2 g2 nn2 b2)
         obtain ⟨s1,s2,s3,s4,s5,s6,s7⟩:=HSV.out _ HB2.out
         go_region_held3 (fun w'=>w'.cell? ⟨w.heap.size,0,none⟩=some (.slice (some ⟨b,0,none⟩) N cap)∧w'.cell? ⟨b,j * 5,none⟩=some (.int .i64 (nd j).kind)∧w'.cell? ⟨b,j * 5+1,none⟩=some (.int .i64 (nd j).op)∧w'.cell? ⟨b,j * 5+2,none⟩=some (.int .i64 (nd j).n)∧w'.cell? ⟨b,j * 5+3,none⟩=some (.string (nd j).text)∧w'.cell? ⟨b,j * 5+4,none⟩=some (.int .i64 (nd j).kids)∧w'.cell? ⟨go,j,none⟩=some (.slice (some ⟨gk,0,none⟩) ks.length ck)) (first | (exact Seven.below ⟨s1,s2,s3,s4,s5,s6,s7⟩ (W:=w2.drew) hb3 (by simp;omega) (by simp;omega) (by simp;omega)) | (exact HSV.out _ HB4.out) | go_keep) (first | (go_at_call 51;refine (l2Plain_any (nd j) _ (HX.out j hlt)).mono ?_;rintro e w3 ⟨hs3,hb3⟩;have HB3:=hid (HB2.out.drew.trans (hb3.mono (by simpa using hw2)));obtain rfl:=hs3.pos HP.out) | (go_at_call 52;refine (l2KidsOk_any (nd j).kind b N cap gk 0 ks.length ck nd (fun i=>ks.getD i 0) _ (by omega) HRK.out.2.1 (Nat.lt_of_lt_of_le (Nat.lt_of_lt_of_le hbw1 hw2) hb3.size) (Nat.lt_of_lt_of_le (Nat.lt_of_lt_of_le hgk1 hw2) hb3.size) (HN.out.below (HBE.out _ HB3.out) hb0) (HPL.out _ HB3.out)).mono ?_;rintro e w4 ⟨hs4,hb4⟩;have HB4:=hid (HB3.out.trans (hb4.mono (Nat.le_trans hw2 hb3.size)));have HO4:=hid (own_below (own_below (show w2.drew.ownsRow w1.heap.size 3 1 v2 (j+1) _ from O2.out) hb3) hb4);obtain rfl:=hs4.pos HK.out))
         have NX:=hid (SInv_step (by have:=HOL.out;omega) HKS.out NN2.out (by rw [hh];exact HO4.out) HFIT.out (by rw [hh];exact h5) HP.out HK.out HB4.out)
         go_wp2
         go_roundw
         case rel=>exact ⟨j+1,by omega,by go_num,NX.out⟩
         case measure=>simp [intOf];omega
        ·have HF:=hid (HBAD.out (fun h=>hK h.2.2))
         have HK:=hid hK
         clear hP hK
         go_wp2_with (at_builtin;refine wpList_append_own_at _ rfl (.tmp 72) (.tmp 74) 82 rfl w1.heap.size 3 i0 (.int .i64 0) 1 8 Tryz.underlying82 HHI.out.1 HHI.out.2.1 HHI.out.2.2.1 HHI.out.2.2.2 rfl (by decide) (.slice (some ⟨gh,0,none⟩) j c) j (intRow (highs (O.take j))) rfl ((HRH.out.alloc _).own hBg) ⟨wr.heap.size,0,none⟩ 1 1 [.int .i64 h] rfl rfl (cell_one_new _ _ _) (by simp [Value.oneCell']) (by unfold maxLen;omega) (by omega) (by have:=HBW.out.size;simp;omega) ?_;intro v2 w2 o2 g2 nn2 b2;have O2:=hid o2;have NN2:=hid (some_not_nil nn2);have HB2:=hid ((HBW.out.alloc HBW.out.size _).grown g2 (by have:=HBW.out.size;simp;omega) (fun q e=>by injection e with e;exact e ▸ hBg));have hw2:=HB2.out.size;clear o2 g2 nn2 b2)
         obtain ⟨s1,s2,s3,s4,s5,s6,s7⟩:=HSV.out _ HB2.out
         go_region_held3 (fun w'=>w'.cell? ⟨w.heap.size,0,none⟩=some (.slice (some ⟨b,0,none⟩) N cap)∧w'.cell? ⟨b,j * 5,none⟩=some (.int .i64 (nd j).kind)∧w'.cell? ⟨b,j * 5+1,none⟩=some (.int .i64 (nd j).op)∧w'.cell? ⟨b,j * 5+2,none⟩=some (.int .i64 (nd j).n)∧w'.cell? ⟨b,j * 5+3,none⟩=some (.string (nd j).text)∧w'.cell? ⟨b,j * 5+4,none⟩=some (.int .i64 (nd j).kids)∧w'.cell? ⟨go,j,none⟩=some (.slice (some ⟨gk,0,none⟩) ks.length ck)) (first | (exact Seven.below ⟨s1,s2,s3,s4,s5,s6,s7⟩ (W:=w2.drew) hb3 (by simp;omega) (by simp;omega) (by simp;omega)) | (exact HSV.out _ HB4.out) | go_keep) (first | (go_at_call 51;refine (l2Plain_any (nd j) _ (HX.out j hlt)).mono ?_;rintro e w3 ⟨hs3,hb3⟩;have HB3:=hid (HB2.out.drew.trans (hb3.mono (by simpa using hw2)));obtain rfl:=hs3.pos HP.out) | (go_at_call 52;refine (l2KidsOk_any (nd j).kind b N cap gk 0 ks.length ck nd (fun i=>ks.getD i 0) _ (by omega) HRK.out.2.1 (Nat.lt_of_lt_of_le (Nat.lt_of_lt_of_le hbw1 hw2) hb3.size) (Nat.lt_of_lt_of_le (Nat.lt_of_lt_of_le hgk1 hw2) hb3.size) (HN.out.below (HBE.out _ HB3.out) hb0) (HPL.out _ HB3.out)).mono ?_;rintro e w4 ⟨hs4,hb4⟩;have HB4:=hid (HB3.out.trans (hb4.mono (Nat.le_trans hw2 hb3.size)));have HO4:=hid (own_below (own_below (show w2.drew.ownsRow w1.heap.size 3 1 v2 (j+1) _ from O2.out) hb3) hb4);obtain rfl:=hs4.neg HK.out))
         go_wp2
         go_ret
         exact ⟨says_f HF.out,HBE.out _ HB4.out⟩
       ·have HF:=hid (HBAD.out (fun h=>hP h.2.1))
        have HP:=hid hP
        clear hP
        go_wp2_with (at_builtin;refine wpList_append_own_at _ rfl (.tmp 72) (.tmp 74) 82 rfl w1.heap.size 3 i0 (.int .i64 0) 1 8 Tryz.underlying82 HHI.out.1 HHI.out.2.1 HHI.out.2.2.1 HHI.out.2.2.2 rfl (by decide) (.slice (some ⟨gh,0,none⟩) j c) j (intRow (highs (O.take j))) rfl ((HRH.out.alloc _).own hBg) ⟨wr.heap.size,0,none⟩ 1 1 [.int .i64 h] rfl rfl (cell_one_new _ _ _) (by simp [Value.oneCell']) (by unfold maxLen;omega) (by omega) (by have:=HBW.out.size;simp;omega) ?_;intro v2 w2 o2 g2 nn2 b2;have O2:=hid o2;have NN2:=hid (some_not_nil nn2);have HB2:=hid ((HBW.out.alloc HBW.out.size _).grown g2 (by have:=HBW.out.size;simp;omega) (fun q e=>by injection e with e;exact e ▸ hBg));have hw2:=HB2.out.size;clear o2 g2 nn2 b2)
        have HSW:∀ p:Gr w2,Seven p.W w.heap.size b go j (nd j) (.slice (some ⟨b,0,none⟩) N cap) (.slice (some ⟨gk,0,none⟩) ks.length ck):=fun p=>HSV.out _ (HB2.out.trans (p.h.mono hw2))
        have t0:=fun p:Gr w2=>(HSW p).1
        have t1:=fun p:Gr w2=>(HSW p).2.1
        have t2:=fun p:Gr w2=>(HSW p).2.2.1
        have t3:=fun p:Gr w2=>(HSW p).2.2.2.1
        have t4:=fun p:Gr w2=>(HSW p).2.2.2.2.1
        have t5:=fun p:Gr w2=>(HSW p).2.2.2.2.2.1
        have t6:=fun p:Gr w2=>(HSW p).2.2.2.2.2.2
        clear HSW
        have hne:Nonempty (Gr w2):=⟨⟨w2,Below.refl _ _⟩⟩
        refine wp_region_gr (by kernel_rfl) (by kernel_rfl) ?_
        repeat (go_big_quiet_step (first | (go_at_call 51;refine Calls.gr_of (v:=.bool false) fun _=>?_;refine (l2Plain_any (nd j) _ (HX.out j hlt)).mono ?_;rintro e w3 ⟨hs3,hb3⟩;exact ⟨hs3.neg HP.out,hb3⟩)))
        refine wpQuiet_nil ?_
        intro _ hw'
        obtain ⟨pw,rfl⟩:=hw'
        have HB4:=hid (HB2.out.trans (pw.h.mono hw2))
        clear t0 t1 t2 t3 t4 t5 t6
        go_wp2
        go_ret
        exact ⟨says_f HF.out,HBE.out _ HB4.out⟩
      ·have HF:=hid (HBAD.out (fun h=>h5 h.1))
       have hd:(50:Int) < (h:Int):=by omega
       go_wp2_with (at_builtin;refine wpList_append_own_at _ rfl (.tmp 72) (.tmp 74) 82 rfl w1.heap.size 3 i0 (.int .i64 0) 1 8 Tryz.underlying82 HHI.out.1 HHI.out.2.1 HHI.out.2.2.1 HHI.out.2.2.2 rfl (by decide) (.slice (some ⟨gh,0,none⟩) j c) j (intRow (highs (O.take j))) rfl ((HRH.out.alloc _).own hBg) ⟨wr.heap.size,0,none⟩ 1 1 [.int .i64 h] rfl rfl (cell_one_new _ _ _) (by simp [Value.oneCell']) (by unfold maxLen;omega) (by omega) (by have:=HBW.out.size;simp;omega) ?_;intro v2 w2 o2 g2 nn2 b2;have O2:=hid o2;have NN2:=hid (some_not_nil nn2);have HB2:=hid ((HBW.out.alloc HBW.out.size _).grown g2 (by have:=HBW.out.size;simp;omega) (fun q e=>by injection e with e;exact e ▸ hBg));have hw2:=HB2.out.size;clear o2 g2 nn2 b2)
       go_quiet (fail)
       go_wp2
       go_ret
       exact ⟨says_f HF.out,HBE.out _ (below_drewN HB2.out _)⟩
   ·obtain rfl:j=N:=by omega
    have HT:Hid (ValidT nd j):=⟨hN1,hN,h24,O,x,HKF.out,HFIT.out⟩
    go_wp2
    go_ret
    exact ⟨says_t HT.out,HBB.out.trans (HBW.out.mono (by omega))⟩
end Go.Proofs.YtabbahpalemlhaaGreatDoor
namespace Go.Proofs.YtabbahpalemlhaaGreatDoor.Tk
open Go.RowKit
set_option maxRecDepth 20000
structure Ctx (nd:Nat→Nd) (O:List (List Nat)) (N b cap g co P j:Nat) (x:Nd) (ks:List Nat):Prop where
 hN:N≤5000
 hj:j < N
 hx:nd j=x
 hks:O.getD j []=ks
 plain:PlainNd x
 kidsOk:KidsOk x.kind ks.length (fun i=>nd (ks.getD i 0))
 sum:wgt O j=4000+wgts O ks
 top:wgt O j≤20000000
 kl:ks.length≤5000
 kid:∀ k ∈ ks,k < N∧InkOk nd O N b cap g co P k∧PlainNd (nd k)
theorem Ctx.at {nd:Nat→Nd} {O:List (List Nat)} {N b cap g co P j:Nat} {x:Nd} {ks:List Nat} (h:Ctx nd O N b cap g co P j x ks) {W:World} (hp:PenAt nd O N b cap g co P W) :
  ∃ gk ck,W.cell? ⟨g,j,none⟩=some (.slice (some ⟨gk,0,none⟩) ks.length ck)∧gk < W.heap.size∧FiveAt W b j x∧ks.length≤ck∧ck≤maxLen∧Hid (RowAt W 3 gk ck ks.length (intRow ks)):=by
 obtain ⟨gk,ck,h1,h2⟩:=hp.kids j h.hj
 have h3:=hp.nodes j h.hj
 rw [h.hks] at h1 h2
 rw [h.hx] at h3
 exact ⟨gk,ck,h1,h2.lt,h3,h2.2.1,h2.2.2.1,h2⟩
theorem Ctx.wk {nd:Nat→Nd} {O:List (List Nat)} {N b cap g co P j:Nat} {x:Nd} {ks:List Nat} (h:Ctx nd O N b cap g co P j x ks) {k:Nat} (hk:k ∈ ks):wgt O k≤20000000:=by
 have:=wgt_le (o:=O) hk
 have:=h.sum
 have:=h.top
 omega
theorem Ctx.pl {nd:Nat→Nd} {O:List (List Nat)} {N b cap g co P j:Nat} {x:Nd} {ks:List Nat} (h:Ctx nd O N b cap g co P j x ks) {k:Nat} (hk:k ∈ ks) (W:World) (hp:PenAt nd O N b cap g co P W) :
  Calls Tryz.prog 36 #[.pointer (some ⟨P,0,none⟩),.int .i64 k] W fun e w'=>(∃ y:ByteArray,e=.returned (.string y)∧y.size+100≤wgt O k)∧Below W.heap.size W w':=(h.kid k hk).2.1 W hp
theorem Ctx.ee {nd:Nat→Nd} {O:List (List Nat)} {N b cap g co P j:Nat} {x:Nd} {ks:List Nat} (h:Ctx nd O N b cap g co P j x ks) {k:Nat} (hk:k ∈ ks) (r:Int) (W:World) (hp:PenAt nd O N b cap g co P W) :
  Calls Tryz.prog 53 #[.pointer (some ⟨P,0,none⟩),.int .i64 k,.int .i64 r] W fun e w'=>(∃ y:ByteArray,e=.returned (.string y)∧y.size+98≤wgt O k)∧Below W.heap.size W w' :=
 e_any (h.kid k hk).1 (h.kid k hk).2.1 (h.wk hk) (h.kid k hk).2.2 r W hp
theorem Ctx.li {nd:Nat→Nd} {O:List (List Nat)} {N b cap g co P j:Nat} {x:Nd} {ks:List Nat} (h:Ctx nd O N b cap g co P j x ks) {L:List Nat} (hL:∀ k ∈ L,k ∈ ks) (hs:wgts O L≤wgts O ks) (hl:L.length≤ks.length) {ad:Option Addr} (ck:Nat) (W:World) (hp:PenAt nd O N b cap g co P W) (hli:Listed W ad L) :
  Calls Tryz.prog 55 #[.pointer (some ⟨P,0,none⟩),.slice ad L.length ck] W fun e w'=>(∃ y:ByteArray,e=.returned (.string y)∧y.size≤wgts O L)∧Below W.heap.size W w' :=
 list_any L ad ck W hp hli (by have:=h.kl;omega) (fun k hk=>(h.kid k (hL k hk)).2.1) (by have:=h.sum;have:=h.top;omega)
theorem five_new {w w1:World} {a0 a1 a2 a3 a4:Value} {t:TypeId} (h:Below (w.heap.size+1) (w.alloc (.cells #[a0,a1,a2,a3,a4] t)) w1) :
  w1.cell? ⟨w.heap.size,0,none⟩=some a0∧w1.cell? ⟨w.heap.size,1,none⟩=some a1∧w1.cell? ⟨w.heap.size,2,none⟩=some a2∧w1.cell? ⟨w.heap.size,3,none⟩=some a3∧w1.cell? ⟨w.heap.size,4,none⟩=some a4:=by
 have f:∀ i,w1.cell? ⟨w.heap.size,i,none⟩=#[a0,a1,a2,a3,a4][i]?:=fun i=>by
  rw [h.cell (p:=⟨w.heap.size,i,none⟩) (by simp),cell_new_row]
 exact ⟨f 0,f 1,f 2,f 3,f 4⟩
theorem below_next {w V V':World} {X:Obj} (h:Below (w.heap.size+1) (w.alloc X) V) (h2:Below V.heap.size V V'):Below (w.heap.size+1) (w.alloc X) V':=h.trans (h2.mono (by have:=h.size;simpa using this))
theorem row_at {W:World} {gk ck:Nat} {ks:List Nat} (h:RowAt W 3 gk ck ks.length (intRow ks)) (hg:gk < W.heap.size) {X:Obj} {V:World} (hb:Below (W.heap.size+1) (W.alloc X) V) (i:Nat) (hi:i < ks.length):V.cell? ⟨gk,i,none⟩=some (.int .i64 (ks.getD i 0:Nat)):=row_int (h.below (btree hb) hg) i hi
end Go.Proofs.YtabbahpalemlhaaGreatDoor.Tk
