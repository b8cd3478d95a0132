import Derived.Test.YtfndbnbnimhnaaaGreatDoorChecked
import Derived.Test.YtfndbnbnimhnaaaGreatDoorJ04
/-! Plain mathematics of Mill's trees: nothing of the program's functions stands here. -/
namespace Go.Proofs.YtfndbnbnimhnaaaGreatDoor.Q
def NameOk (s : ByteArray) : Prop := ∃ (h1 : 0 < s.size), s.size ≤ 30 ∧ mltB s[0] = true ∧ ¬ s.data.toList ∈ mws ∧ ∀ i (h : i < s.size), letB s[i] = true
end Go.Proofs.YtfndbnbnimhnaaaGreatDoor.Q
