import Derived.Test.YtefpifcfnfkfoaaDoorTellsA
import Derived.Test.YtefpifcfnfkfoaaDoorTellsB
import Derived.Test.YtefpifcfnfkfoaaDoorTellsC
import Derived.Test.YtefpifcfnfkfoaaDoorTellsD
import Derived.Test.YtefpifcfnfkfoaaDoorTellsE
namespace Go.Proofs.YtefpifcfnfkfoaaDoor
open Go.RowKit

theorem tells_walk (a b : ByteArray) (sa : a.size ≤ maxLen) (sb : b.size ≤ maxLen) (w : World) (hd : Door w) :
    Calls Tryd.prog 3 #[.string a, .string b] w fun e w' => e = .returned (.bool true) ∧ Below w.heap.size w w' := by
  rcases good_or_bad a with ha | ⟨k, ha⟩
  · rcases good_or_bad b with hb | ⟨k, hb⟩
    · by_cases h : num a < num b
      · exact tells_less a b ha hb h (by omega) w hd
      · by_cases h0 : num b = 0
        · exact tells_zero a b ha hb (by omega) h0 w hd
        · exact tells_more a b ha hb (by omega) (by omega) w hd
    · exact tells_wrong2 a b ha hb sa sb w hd
  · exact tells_wrong1 a b ha sa sb w hd

end Go.Proofs.YtefpifcfnfkfoaaDoor
