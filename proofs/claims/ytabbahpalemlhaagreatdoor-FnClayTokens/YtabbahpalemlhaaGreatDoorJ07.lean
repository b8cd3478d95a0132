import Derived.Test.YtabbahpalemlhaaGreatDoorJ06
namespace Go.Proofs.YtabbahpalemlhaaGreatDoor
open Go.RowKit
set_option maxRecDepth 20000
theorem GenAt.g0 {R G B:Nat} {w:World} {ns:List (ByteArray × Int)} {fs:List Fn} {c:Nat} {sz:Int} {p:Nat} (h:GenAt R G B w ns fs c sz p):w.cell? ⟨G,0,none⟩=some (.pointer (some ⟨R,0,none⟩)):=by
 obtain ⟨vn,vf,h1,_⟩:=h.ex
 have:=cell_hp h1 0
 simpa using this
def LeafEnd (R G B K c':Nat) (w:World) (ns:List (ByteArray × Int)) (fs:List Fn) (c:Nat) (sz:Int) (p:Nat) (e:Ending) (w':World):Prop :=
 (∃ v l,e=.returned v∧NdIn w' v l∧NdOk K l)∧(∃ p',p≤p'∧p'≤p+c'∧GenAt R G B w' ns fs c sz p')∧Gk B w w'
end Go.Proofs.YtabbahpalemlhaaGreatDoor
