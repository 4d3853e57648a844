/-
  A transfer read from its bytes: package bank's Parse.
-/
import Derived.Test.YtnoaohlajllngaaDoorbbBkTr
import Derived.Test.YtnoaohlajllngaaDoorbbBkSup
import Derived.Test.YtnoaohlajllngaaDoorbbSt8RKey
import Derived.Test.YtnoaohlajllngaaDoorbbHdMems
import Derived.Test.YtnoaohlajllngaaDoorbbWireBoth
import Derived.Test.YtnoaohlajllngaaDoorbbRegions
import Derived.Test.YtnoaohlajllngaaDoorbbRef1All
import Derived.Test.YtnoaohlajllngaaDoorbbSameB
import Derived.Test.YtnoaohlajllngaaDoorbbSealGood
import Derived.Test.YtnoaohlajllngaaDoorbbStOne
import Derived.Test.YtnoaohlajllngaaDoorbbRegGo
import Derived.Test.YtnoaohlajllngaaDoorbbFrKit
import Derived.Lib.ConvBytes
import Derived.Laws.IdiomStrings
import Derived.Laws.MakeOwn
namespace Go.Proofs.YtnoaohlajllngaaDoor
open Go.RowKit

def Tr.zero : Tr := ⟨⟨#[]⟩, 0, ⟨#[]⟩, ⟨#[]⟩⟩
end Go.Proofs.YtnoaohlajllngaaDoor
namespace Go.Proofs.YtnoaohlajllngaaDoor
open Go.RowKit

theorem Row.f4 {w : World} {g : Nat} {t : TypeId} {a b c d : Value} (h : Row w g t [a, b, c, d]) : w.cell? ⟨g, 0, none⟩ = some a ∧ w.cell? ⟨g, 1, none⟩ = some b ∧ w.cell? ⟨g, 2, none⟩ = some c ∧ w.cell? ⟨g, 3, none⟩ = some d ∧ w.frozen? ⟨g, 0, none⟩ = false ∧ w.frozen? ⟨g, 1, none⟩ = false ∧ w.frozen? ⟨g, 2, none⟩ = false ∧ w.frozen? ⟨g, 3, none⟩ = false :=
  ⟨h.cell 0, h.cell 1, h.cell 2, h.cell 3, h.frozen 0, h.frozen 1, h.frozen 2, h.frozen 3⟩
/-- four cells written over an answer -/
theorem Fr.four {w w1 : World} {g : Nat} {t : TypeId} {a b c d : Value} {l : List Bx} (F : Fr w ((g, t, [a, b, c, d]) :: l) w1) (a' b' c' d' : Value) : Fr w ((g, t, [a', b', c', d']) :: l) ((((w1.setCell ⟨g, 0, none⟩ a').setCell ⟨g, 1, none⟩ b').setCell ⟨g, 2, none⟩ c').setCell ⟨g, 3, none⟩ d') :=
  (((F.set1 0 0 a' rfl).set1 0 1 b' rfl).set1 0 2 c' rfl).set1 0 3 d' rfl
end Go.Proofs.YtnoaohlajllngaaDoor
