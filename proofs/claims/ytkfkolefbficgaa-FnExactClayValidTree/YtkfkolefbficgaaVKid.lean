import Derived.Test.YtkfkolefbficgaaVKidB
import Derived.Test.YtkfkolefbficgaaVKidC
import Derived.Test.YtkfkolefbficgaaVKidD
import Derived.Test.YtkfkolefbficgaaVKidE
import Derived.Test.YtkfkolefbficgaaVKidH
import Derived.Test.YtkfkolefbficgaaVKidI
namespace Go.Proofs.Ytkfkolefbficgaa
open Go.RowKit
theorem l2KidsOk_any (kind : Int) (b N cap g o m c : Nat) (nd : Nat → Nd) (ks : Nat → Nat) (w : World) (hm : m ≤ 1000000) (hcm : m ≤ c) (hb : b < w.heap.size) (hg : g < w.heap.size) (hn : NodesAt w b N nd) (hk : PlacesAt w g o m N ks) :
    Calls Try.prog 13 #[.agg #[.slice (some ⟨b, 0, none⟩) N cap], .int .i64 kind, .slice (some ⟨g, o, none⟩) m c] w fun e w' => Says e (KidsOk kind m (fun i => nd (ks i))) ∧ Below w.heap.size w w' := by
  by_cases h12 : kind = 12
  · subst h12; exact KO_12 b N cap g o m c nd ks w hm hcm hb hg hn hk
  · have h : KO kind := by
      by_cases a : kind = 1 ∨ kind = 6 ∨ kind = 16
      · exact KO_A kind a
      · by_cases b : kind = 2 ∨ kind = 3 ∨ kind = 4 ∨ kind = 5 ∨ kind = 7 ∨ kind = 8
        · exact KO_B kind b
        · by_cases c : kind = 10 ∨ kind = 11 ∨ kind = 13 ∨ kind = 14 ∨ kind = 17
          · exact KO_C kind c
          · by_cases d : kind = 18 ∨ kind = 19 ∨ kind = 21 ∨ kind = 22
            · exact KO_D kind d
            · by_cases e9 : kind = 9
              · subst e9; exact KO_9
              · by_cases e15 : kind = 15
                · subst e15; exact KO_15
                · by_cases e20 : kind = 20
                  · subst e20; exact KO_20
                  · by_cases e23 : kind = 23
                    · subst e23; exact KO_23
                    · by_cases e24 : kind = 24
                      · subst e24; exact KO_24
                      · exact KO_E kind (by omega)
    exact h b N cap g o m c nd ks w hm hb hg hn hk
end Go.Proofs.Ytkfkolefbficgaa
