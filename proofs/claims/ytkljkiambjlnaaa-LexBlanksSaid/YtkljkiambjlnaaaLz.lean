/-
  Layer 6: the contracts that the code owes, of the code itself.
-/
import Derived.Test.YtkljkiambjlnaaaLe
import Derived.Test.YtkljkiambjlnaaaLi
import Derived.Test.YtkljkiambjlnaaaLl
namespace Go.Proofs.Ytkljkiambjlnaaa
theorem lexDone : LexDone := ⟨words_any, name_any, fun s l w hs hl => (number_any s l w hs hl).mono (by rintro e w' ⟨rfl, rfl⟩; exact ⟨rfl, Turn.refl _ _⟩)⟩
end Go.Proofs.Ytkljkiambjlnaaa
