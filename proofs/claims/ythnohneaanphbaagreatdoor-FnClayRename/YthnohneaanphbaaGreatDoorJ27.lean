import Derived.Test.YthnohneaanphbaaGreatDoorJ17
namespace Go.Proofs.YthnohneaanphbaaGreatDoor.K
open Go.RowKit
set_option maxRecDepth 20000
def oneV (o:One) (a:Int):Value :=
 if o.code=0 then .tuple #[.agg #[.int .i64 o.kind,.string ⟨o.text.toArray⟩,.int .i64 o.n,.int .i64 a],.int .i64 (a+o.size),.int .i64 0]
 else .tuple #[.agg #[.int .i64 0,.string ⟨#[]⟩,.int .i64 0,.int .i64 0],.int .i64 0,.int .i64 o.code]
theorem hid {p:Prop} (h:p):Hid p:=h
theorem oneV_bad {o:One} {c:Nat} (h:o=One.bad c) (hc:c≠0) (a:Int):oneV o a=.tuple #[.agg #[.int .i64 0,.string ⟨#[]⟩,.int .i64 0,.int .i64 0],.int .i64 0,.int .i64 c]:=by
 subst h;exact if_neg hc
theorem oneV_good {o:One} {k:Nat} {t:List UInt8} {n z:Nat} (h:o=⟨k,t,n,z,0⟩) (a:Int):oneV o a=.tuple #[.agg #[.int .i64 k,.string ⟨t.toArray⟩,.int .i64 n,.int .i64 a],.int .i64 (a+z),.int .i64 0]:=by
 subst h;unfold oneV;rw [if_pos rfl]
theorem drop_get (l L:List UInt8) (n k:Nat) (h:l.drop n=L) (hl:n+k < l.length) (hL:k < L.length):L[k]=l[n+k]:=by
 subst h;simp
theorem take1 (l L:List UInt8) (n:Nat) (h:l.drop n=L) (hl:n < l.length):L.take 1=[l[n]]:=by
 subst h;rw [List.drop_eq_getElem_cons hl];rfl
theorem sing48 (c:UInt8):[c]=[48] ↔ c.toNat=48:=by
 constructor
 ·intro h;cases h;rfl
 ·intro h;rw [show c=48 from UInt8.toNat_inj.1 h]
theorem num_post (s:ByteArray) (n k:Nat) (L:List UInt8) (HL:Hid (s.data.toList.drop n=L)) (hn:n < s.size) (hd:run digB L=k) (hk:k < L.length→n+k < s.size) (hke:¬ k < L.length→L.length=k) :
  (∀ (hlt:n+k < s.size),letB s[n+k]=true→numOne L=One.bad 3)∧(s[n].toNat=48→1 < k→numOne L=One.bad 3)∧(9223372036854775807 < dval (L.take k)→numOne L=One.bad 3) ∧
  ((∀ (hlt:n+k < s.size),letB s[n+k]=false)→(s[n].toNat=48→k≤1)→dval (L.take k)≤9223372036854775807→numOne L=⟨3,[],dval (L.take k),k,0⟩):=by
 have hlen:L.length=s.size - n:=by rw [← HL.out,List.length_drop,len_size]
 have ht:L.take 1=[s[n]]:=take1 _ L n HL.out (by rw [len_size];exact hn)
 have hg:∀ (h1:k < L.length) (h2:n+k < s.size),L[k]=s[n+k]:=fun h1 h2=>drop_get _ L n k HL.out (by rw [len_size];exact h2) h1
 refine ⟨fun hlt h=>?_,fun h1 h2=>?_,fun h=>?_,fun h1 h2 h3=>?_⟩
 ·have hk1:k < L.length:=by omega
  exact num_bad L k hd (.inl ((num_let L k hd hk1).1 (by rw [hg hk1 hlt];exact h)))
 ·exact num_bad L k hd (.inr (.inl ⟨by rw [ht];exact (sing48 _).2 h1,h2⟩))
 ·exact num_bad L k hd (.inr (.inr h))
 ·refine num_good L k hd ?_ ?_ h3
  ·by_cases hk1:k < L.length
   ·have h2:=hk hk1
    have:=h1 h2
    cases hb:letB L[k]
    ·have hm:=run_mono (fun c=>dig_let (c:=c)) L
     rw [hd] at hm
     exact run_stop letB L k hm hk1 hb
    ·rw [hg hk1 h2,this] at hb;cases hb
   ·have he:=hke hk1
    have:=num_end L (by rw [hd,he])
    omega
  ·rintro ⟨h4,h5⟩
   rw [ht] at h4
   have:=h2 ((sing48 _).1 h4);omega
set_option maxHeartbeats 2000000 in
theorem l1Number_any (s:ByteArray) (n:Nat) (w:World) (hs:s.size≤8000) (hn:n < s.size) :
  Calls Tryz.prog 101 #[.string s,.int .i64 n] w fun e w'=>e=.returned (oneV (numOne (s.data.toList.drop n)) n)∧Below w.heap.size w w':=by
 obtain ⟨L,hL⟩:∃ L,s.data.toList.drop n=L:=⟨_,rfl⟩
 rw [hL]
 have HL:Hid (s.data.toList.drop n=L):=hL
 clear hL
 have HLEN:Hid (L.length=s.size - n):=by show _=_;rw [← HL.out,List.length_drop,len_size]
 go_enter Tryz.func101,Tryz.ntmps101
 go_wp2
 go_loop [7,8,9] (fun e x b=>∃ k:Nat,k≤run digB L∧n+k≤s.size∧e=.int .i64 ((n+k:Nat):Int) ∧
   ((b=.bool false∧x=.int .u64 (dval (L.take k))∧dval (L.take k)≤9223372036854775807) ∨
    (b=.bool true∧(∃ y,x=.int .u64 y)∧9223372036854775807 < dval (L.take k)))) (fun e _ _=>s.size - (intOf e).toNat)
 case atStart=>exact ⟨0,Nat.zero_le _,by omega,rfl,.inl ⟨rfl,rfl,by simp [dval]⟩⟩
 case round =>
  obtain ⟨k,hk,hks,rfl,hr⟩:=hrel
  have hrl:=run_le digB L
  by_cases hlt:n+k < s.size
  ·have hkl:k < L.length:=by have:=HLEN.out;omega
   have HGK:Hid (L[k]=s[n+k]):=drop_get _ L n k HL.out (by rw [len_size];exact hlt) hkl
   cases hp:dig (s[n+k].toNat:Int)
   ·have hd:=run_stop digB L k hk hkl (by rw [HGK.out];exact hp)
    have HP:=hid (num_post s n k L HL hn hd (fun _=>hlt) (fun h=>absurd hkl h))
    clear hd hkl HGK HLEN hk hrl
    rcases hr with ⟨rfl,rfl,hv⟩ | ⟨rfl,⟨y,rfl⟩,hv⟩
    ·cases hl:let_ (s[n+k].toNat:Int)
     ·by_cases z1:s[n].toNat=48
      ·have z1':((s[n].toNat:Int) == 48)=true:=by rw [beq_iff_eq];omega
       by_cases z2:1 < k
       ·have HB:Hid (numOne L=One.bad 3):=HP.out.2.1 z1 z2
        clear HP z1
        go_wp2_with (first
         | (go_at_call 73;refine (l1Digit_any _ _).mono ?_;rintro e w' ⟨rfl,rfl⟩)
         | (go_at_call 46;refine (l1Letter_any _ _).mono ?_;rintro e w' ⟨rfl,rfl⟩))
        exact bodyPost_ret (v:=.tuple #[.agg #[.int .i64 0,.string ⟨#[]⟩,.int .i64 0,.int .i64 0],.int .i64 0,.int .i64 3]) (by simp [results,Tryz.results101,go_sem]) rfl ⟨by rw [oneV_bad HB.out (by decide)];rfl,(Below.refl _ _).alloc (Nat.le_refl _) _⟩
       ·have HB:Hid (numOne L=⟨3,[],dval (L.take k),k,0⟩):=HP.out.2.2.2 (fun _=>hl) (fun _=>by omega) hv
        clear HP z1
        go_wp2_with (first
         | (go_at_call 73;refine (l1Digit_any _ _).mono ?_;rintro e w' ⟨rfl,rfl⟩)
         | (go_at_call 46;refine (l1Letter_any _ _).mono ?_;rintro e w' ⟨rfl,rfl⟩))
        exact bodyPost_ret (v:=.tuple #[.agg #[.int .i64 3,.string ⟨#[]⟩,.int .i64 (dval (L.take k)),.int .i64 n],.int .i64 ((n+k:Nat):Int),.int .i64 0]) (by simp [results,Tryz.results101,go_sem]) rfl ⟨by rw [oneV_good HB.out];rfl,(Below.refl _ _).alloc (Nat.le_refl _) _⟩
      ·have z1':((s[n].toNat:Int) == 48)=false:=by rw [beq_eq_false_iff_ne];omega
       have HB:Hid (numOne L=⟨3,[],dval (L.take k),k,0⟩):=HP.out.2.2.2 (fun _=>hl) (fun h=>absurd h z1) hv
       clear HP z1
       go_wp2_with (first
         | (go_at_call 73;refine (l1Digit_any _ _).mono ?_;rintro e w' ⟨rfl,rfl⟩)
         | (go_at_call 46;refine (l1Letter_any _ _).mono ?_;rintro e w' ⟨rfl,rfl⟩))
       exact bodyPost_ret (v:=.tuple #[.agg #[.int .i64 3,.string ⟨#[]⟩,.int .i64 (dval (L.take k)),.int .i64 n],.int .i64 ((n+k:Nat):Int),.int .i64 0]) (by simp [results,Tryz.results101,go_sem]) rfl ⟨by rw [oneV_good HB.out];rfl,(Below.refl _ _).alloc (Nat.le_refl _) _⟩
     ·by_cases z1:s[n].toNat=48
      ·have z1':((s[n].toNat:Int) == 48)=true:=by rw [beq_iff_eq];omega
       by_cases z2:1 < k
       ·have HB:Hid (numOne L=One.bad 3):=HP.out.2.1 z1 z2
        clear HP z1
        go_wp2_with (first
         | (go_at_call 73;refine (l1Digit_any _ _).mono ?_;rintro e w' ⟨rfl,rfl⟩)
         | (go_at_call 46;refine (l1Letter_any _ _).mono ?_;rintro e w' ⟨rfl,rfl⟩))
        exact bodyPost_ret (v:=.tuple #[.agg #[.int .i64 0,.string ⟨#[]⟩,.int .i64 0,.int .i64 0],.int .i64 0,.int .i64 3]) (by simp [results,Tryz.results101,go_sem]) rfl ⟨by rw [oneV_bad HB.out (by decide)];rfl,(Below.refl _ _).alloc (Nat.le_refl _) _⟩
       ·have HB:Hid (numOne L=One.bad 3):=HP.out.1 hlt hl
        clear HP z1
        go_wp2_with (first
         | (go_at_call 73;refine (l1Digit_any _ _).mono ?_;rintro e w' ⟨rfl,rfl⟩)
         | (go_at_call 46;refine (l1Letter_any _ _).mono ?_;rintro e w' ⟨rfl,rfl⟩))
        exact bodyPost_ret (v:=.tuple #[.agg #[.int .i64 0,.string ⟨#[]⟩,.int .i64 0,.int .i64 0],.int .i64 0,.int .i64 3]) (by simp [results,Tryz.results101,go_sem]) rfl ⟨by rw [oneV_bad HB.out (by decide)];rfl,(Below.refl _ _).alloc (Nat.le_refl _) _⟩
      ·have z1':((s[n].toNat:Int) == 48)=false:=by rw [beq_eq_false_iff_ne];omega
       have HB:Hid (numOne L=One.bad 3):=HP.out.1 hlt hl
       clear HP z1
       go_wp2_with (first
         | (go_at_call 73;refine (l1Digit_any _ _).mono ?_;rintro e w' ⟨rfl,rfl⟩)
         | (go_at_call 46;refine (l1Letter_any _ _).mono ?_;rintro e w' ⟨rfl,rfl⟩))
       exact bodyPost_ret (v:=.tuple #[.agg #[.int .i64 0,.string ⟨#[]⟩,.int .i64 0,.int .i64 0],.int .i64 0,.int .i64 3]) (by simp [results,Tryz.results101,go_sem]) rfl ⟨by rw [oneV_bad HB.out (by decide)];rfl,(Below.refl _ _).alloc (Nat.le_refl _) _⟩
    ·have HB:Hid (numOne L=One.bad 3):=HP.out.2.2.1 hv
     clear HP
     go_wp2_with (first
         | (go_at_call 73;refine (l1Digit_any _ _).mono ?_;rintro e w' ⟨rfl,rfl⟩)
         | (go_at_call 46;refine (l1Letter_any _ _).mono ?_;rintro e w' ⟨rfl,rfl⟩))
     exact bodyPost_ret (v:=.tuple #[.agg #[.int .i64 0,.string ⟨#[]⟩,.int .i64 0,.int .i64 0],.int .i64 0,.int .i64 3]) (by simp [results,Tryz.results101,go_sem]) rfl ⟨by rw [oneV_bad HB.out (by decide)];rfl,(Below.refl _ _).alloc (Nat.le_refl _) _⟩
   ·have hst:=run_step digB L k hk hkl (by rw [HGK.out];exact hp)
    have HDV:Hid (dval (L.take (k+1))=dval (L.take k) * 10+(s[n+k].toNat - 48)):=by show _=_;rw [dval_step L k hkl,HGK.out]
    have hdg:48≤(s[n+k].toNat:Int)∧(s[n+k].toNat:Int)≤57:=by unfold dig at hp;simpa using hp
    obtain ⟨hd1,hd2⟩:=hdg
    clear hkl HGK HLEN hk hrl
    rcases hr with ⟨rfl,rfl,hv⟩ | ⟨rfl,⟨y,rfl⟩,hv⟩
    ·by_cases c1:dval (L.take k)≤922337203685477580
     ·have c1':(dval (L.take k):Int)≤922337203685477580:=by omega
      by_cases c2:dval (L.take k) * 10+(s[n+k].toNat - 48)≤9223372036854775807
      ·have c2':(dval (L.take k):Int) * 10+((s[n+k].toNat:Int) - 48)≤9223372036854775807:=by omega
       go_wp2_with (first
         | (go_at_call 73;refine (l1Digit_any _ _).mono ?_;rintro e w' ⟨rfl,rfl⟩)
         | (go_at_call 46;refine (l1Letter_any _ _).mono ?_;rintro e w' ⟨rfl,rfl⟩))
       go_round
       case rel=>exact ⟨k+1,hst,by omega,by go_num,.inl ⟨rfl,by rw [HDV.out];go_num,by rw [HDV.out];exact c2⟩⟩
       case measure=>simp [intOf];omega
      ·have c2':9223372036854775807 < (dval (L.take k):Int) * 10+((s[n+k].toNat:Int) - 48):=by omega
       go_wp2_with (first
         | (go_at_call 73;refine (l1Digit_any _ _).mono ?_;rintro e w' ⟨rfl,rfl⟩)
         | (go_at_call 46;refine (l1Letter_any _ _).mono ?_;rintro e w' ⟨rfl,rfl⟩))
       go_round
       case rel=>exact ⟨k+1,hst,by omega,by go_num,.inr ⟨rfl,⟨_,rfl⟩,by rw [HDV.out];omega⟩⟩
       case measure=>simp [intOf];omega
     ·have c1':922337203685477580 < (dval (L.take k):Int):=by omega
      go_wp2_with (first
         | (go_at_call 73;refine (l1Digit_any _ _).mono ?_;rintro e w' ⟨rfl,rfl⟩)
         | (go_at_call 46;refine (l1Letter_any _ _).mono ?_;rintro e w' ⟨rfl,rfl⟩))
      all_goals
       go_round
       case rel=>exact ⟨k+1,hst,by omega,by go_num,.inr ⟨rfl,⟨_,rfl⟩,by rw [HDV.out];omega⟩⟩
       case measure=>simp [intOf];omega
    ·go_wp2_with (first
         | (go_at_call 73;refine (l1Digit_any _ _).mono ?_;rintro e w' ⟨rfl,rfl⟩)
         | (go_at_call 46;refine (l1Letter_any _ _).mono ?_;rintro e w' ⟨rfl,rfl⟩))
     all_goals
      go_round
      case rel=>exact ⟨k+1,hst,by omega,by go_num,.inr ⟨rfl,⟨_,rfl⟩,by rw [HDV.out];omega⟩⟩
      case measure=>simp [intOf];omega
  ·have hke:L.length=k:=by have:=HLEN.out;omega
   have hd:run digB L=k:=by omega
   have HP:=hid (num_post s n k L HL hn hd (fun h=>by omega) (fun _=>hke))
   clear hd HLEN hk hrl hke
   rcases hr with ⟨rfl,rfl,hv⟩ | ⟨rfl,⟨y,rfl⟩,hv⟩
   ·by_cases z1:s[n].toNat=48
    ·have z1':((s[n].toNat:Int) == 48)=true:=by rw [beq_iff_eq];omega
     by_cases z2:1 < k
     ·have HB:Hid (numOne L=One.bad 3):=HP.out.2.1 z1 z2
      clear HP z1
      go_wp2_with (first
         | (go_at_call 73;refine (l1Digit_any _ _).mono ?_;rintro e w' ⟨rfl,rfl⟩)
         | (go_at_call 46;refine (l1Letter_any _ _).mono ?_;rintro e w' ⟨rfl,rfl⟩))
      exact bodyPost_ret (v:=.tuple #[.agg #[.int .i64 0,.string ⟨#[]⟩,.int .i64 0,.int .i64 0],.int .i64 0,.int .i64 3]) (by simp [results,Tryz.results101,go_sem]) rfl ⟨by rw [oneV_bad HB.out (by decide)];rfl,(Below.refl _ _).alloc (Nat.le_refl _) _⟩
     ·have HB:Hid (numOne L=⟨3,[],dval (L.take k),k,0⟩):=HP.out.2.2.2 (fun h=>absurd h hlt) (fun _=>by omega) hv
      clear HP z1
      go_wp2_with (first
         | (go_at_call 73;refine (l1Digit_any _ _).mono ?_;rintro e w' ⟨rfl,rfl⟩)
         | (go_at_call 46;refine (l1Letter_any _ _).mono ?_;rintro e w' ⟨rfl,rfl⟩))
      exact bodyPost_ret (v:=.tuple #[.agg #[.int .i64 3,.string ⟨#[]⟩,.int .i64 (dval (L.take k)),.int .i64 n],.int .i64 ((n+k:Nat):Int),.int .i64 0]) (by simp [results,Tryz.results101,go_sem]) rfl ⟨by rw [oneV_good HB.out];rfl,(Below.refl _ _).alloc (Nat.le_refl _) _⟩
    ·have z1':((s[n].toNat:Int) == 48)=false:=by rw [beq_eq_false_iff_ne];omega
     have HB:Hid (numOne L=⟨3,[],dval (L.take k),k,0⟩):=HP.out.2.2.2 (fun h=>absurd h hlt) (fun h=>absurd h z1) hv
     clear HP z1
     go_wp2_with (first
         | (go_at_call 73;refine (l1Digit_any _ _).mono ?_;rintro e w' ⟨rfl,rfl⟩)
         | (go_at_call 46;refine (l1Letter_any _ _).mono ?_;rintro e w' ⟨rfl,rfl⟩))
     exact bodyPost_ret (v:=.tuple #[.agg #[.int .i64 3,.string ⟨#[]⟩,.int .i64 (dval (L.take k)),.int .i64 n],.int .i64 ((n+k:Nat):Int),.int .i64 0]) (by simp [results,Tryz.results101,go_sem]) rfl ⟨by rw [oneV_good HB.out];rfl,(Below.refl _ _).alloc (Nat.le_refl _) _⟩
   ·have HB:Hid (numOne L=One.bad 3):=HP.out.2.2.1 hv
    clear HP
    go_wp2_with (first
         | (go_at_call 73;refine (l1Digit_any _ _).mono ?_;rintro e w' ⟨rfl,rfl⟩)
         | (go_at_call 46;refine (l1Letter_any _ _).mono ?_;rintro e w' ⟨rfl,rfl⟩))
    exact bodyPost_ret (v:=.tuple #[.agg #[.int .i64 0,.string ⟨#[]⟩,.int .i64 0,.int .i64 0],.int .i64 0,.int .i64 3]) (by simp [results,Tryz.results101,go_sem]) rfl ⟨by rw [oneV_bad HB.out (by decide)];rfl,(Below.refl _ _).alloc (Nat.le_refl _) _⟩
end Go.Proofs.YthnohneaanphbaaGreatDoor.K
