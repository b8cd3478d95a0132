import Derived.Test.YtabbahpalemlhaaGreatDoorJ15
import Derived.Test.YtabbahpalemlhaaGreatDoorJ16
import Derived.Test.YtabbahpalemlhaaGreatDoorJ17
import Derived.Test.YtabbahpalemlhaaGreatDoorJ14
namespace Go.Proofs.YtabbahpalemlhaaGreatDoor
open Go.RowKit
def RecOk (d:Int) (K Ce:Nat):Prop:=∀ (s:Gs) (C:Nat) (w w':World),At s C w w'→Room (C+3 * Ce+50) s→Calls Tryz.prog 111 #[.pointer (some ⟨s.G,0,none⟩),.int .i64 d] w' (NdEnd s (3 * K+8) (C+3 * Ce+20) w w')
theorem ofKind_at {d:Int} {K Ce:Nat} (he:EOk (d - 1) K Ce) (hrec:RecOk d K Ce) (hK:K≤10000) (hd:1≤d) (hd2:d≤10) (kind:Int) {s:Gs} {C:Nat} {w w':World} (h:At s C w w') (hr:Room (C+3 * Ce+60) s) :
  Calls Tryz.prog 96 #[.pointer (some ⟨s.G,0,none⟩),.int .i64 kind,.int .i64 d] w' (NdEnd s (3 * K+8) (C+3 * Ce+40) w w'):=by
 have hk:kind=0∨kind=1∨kind=2∨kind=3∨kind=4∨kind < 0∨4 < kind:=by omega
 rcases hk with rfl | rfl | rfl | rfl | rfl | hk
 ·exact ofKind0_at he hK hd hd2 h hr
 ·exact ofKind1_at he hK hd hd2 h hr
 ·exact ofKind2_at he hK hd hd2 h hr
 ·exact ofKind3_at he hK hd hd2 (fun s C w w' h hr kind=>each_at he hK hd hd2 s C w w' h hr kind) h hr
 ·exact ofKind4_at he hK hd hd2 (fun s C w w' h hr=>hrec s C w w' h hr) h hr
 ·exact ofKind5_at he hK hd hd2 kind hk h hr
theorem At.comp {s:Gs} {C C2:Nat} {w w' w2:World} {p' c':Nat} {sz':Int} (b1:s.p≤p') (b2:p'≤s.p+C) (b3:s.c≤c') (b4:c'≤s.c+C) (b5:s.sz - C≤sz') (b6:sz'≤s.sz) (hk:Gk s.R w w') (h:At ⟨s.R,s.G,s.ns,s.fs,c',sz',p'⟩ C2 w' w2):At s (C+C2) w w2∧Gk s.R w' w2:=by
 obtain ⟨p2,c2,sz2,q1,q2,q3,q4,q5,q6,q7,q8⟩:=h
 simp only at q1 q2 q3 q4 q5 q6 q7 q8
 exact ⟨⟨p2,c2,sz2,by omega,by omega,by omega,by omega,by omega,by omega,q7,hk.trans q8⟩,q8⟩
def CallEnd2 (s:Gs) (K C C3:Nat) (w w':World) (e:Ending) (w2:World):Prop:=(∃ g n c,e=.returned (.tuple #[.slice (some ⟨g,0,none⟩) n c,.bool true])∧Has K w2 (.slice (some ⟨g,0,none⟩) n c)∧At s C w w2∧Gk s.R w' w2)∨∃ g c,e=.returned (.tuple #[.slice (some ⟨g,0,none⟩) 0 c,.bool false])∧At s C3 w w2∧Gk s.R w' w2
theorem callF_at {d:Int} {K Ce:Nat} (he:EOk (d - 1) K Ce) (hK:K≤10000) (hd:1≤d) (hd2:d≤10) (kind:Int) {s:Gs} {C:Nat} {w w':World} (h:At s C w w') (hr:Room (C+3 * Ce+60) s) :
  Calls Tryz.prog 95 #[.pointer (some ⟨s.G,0,none⟩),.int .i64 kind,.int .i64 d] w' (CallEnd2 s (3 * K+6) (C+(3 * Ce+3)) (C+3) w w'):=by
 obtain ⟨p',c',sz',h1,h2,h3,h4,h5,h6,h7,h8⟩:=h
 refine (call_root he hK hd hd2 kind ⟨s.R,s.G,s.ns,s.fs,c',sz',p'⟩ w' h7 ⟨by have:=hr.p;simp only;omega,by have:=hr.c;simp only;omega,by have:=hr.lo;simp only;omega,by have:=hr.hi;simp only;omega,by have:=hr.n;simp only;omega,hr.f⟩).mono ?_
 rintro e w2 (⟨g,n,c,rfl,hl,ha⟩ | ⟨g,c,rfl,ha⟩)
 ·obtain ⟨k1,k2⟩:=At.comp h1 h2 h3 h4 h5 h6 h8 ha
  exact .inl ⟨g,n,c,rfl,hl,k1,k2⟩
 ·obtain ⟨k1,k2⟩:=At.comp h1 h2 h3 h4 h5 h6 h8 ha
  exact .inr ⟨g,c,rfl,k1,k2⟩
theorem At.g4 {s:Gs} {C:Nat} {w w':World} (h:At s C w w'):∃ z:Int,w'.cell? ⟨s.G,4,none⟩=some (.int .i64 z):=by
 obtain ⟨p',c',sz',h1,h2,h3,h4,h5,h6,h7,h8⟩:=h
 obtain ⟨vn,vf,e1,_⟩:=h7.ex
 have:=cell_hp e1 4
 simp at this
 exact ⟨_,this⟩
theorem sized_at {s:Gs} {w:World} (h:GenAt s.R s.G s.R w s.ns s.fs s.c s.sz s.p):At s 1 w (w.setCell ⟨s.G,4,none⟩ (.int .i64 (s.sz - 1))):=by
 obtain ⟨h1,h2⟩:=h.sized (s.sz - 1)
 exact ⟨s.p,s.c,s.sz - 1,by omega,by omega,by omega,by omega,by omega,by omega,h1,h2⟩
end Go.Proofs.YtabbahpalemlhaaGreatDoor
