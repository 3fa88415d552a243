/- DERIVED. CONTRACT: ProjectOk of the program. -/
import Derived.Test.YtdbnhdiboemmiabPrB
namespace Go.Proofs.Ytdbnhdiboemmiab
open Go.RowKit Go.Shelf
set_option linter.unusedVariables false

/-- The ands of the program in the order of the model. -/
theorem pok_false_0 {a b c d e f g h i : Bool}  (h0 : (a && e) = false) : false = (a && (b && (c && (d && (e && (f && (g && (h && i)))))))) := by
  cases a <;> cases b <;> cases c <;> cases d <;> cases e <;> cases f <;> cases g <;> cases h <;> cases i <;> simp_all
theorem pok_false_1 {a b c d e f g h i : Bool} (h0 : (a && e) = true) (h1 : (f) = false) : false = (a && (b && (c && (d && (e && (f && (g && (h && i)))))))) := by
  cases a <;> cases b <;> cases c <;> cases d <;> cases e <;> cases f <;> cases g <;> cases h <;> cases i <;> simp_all
theorem pok_false_2 {a b c d e f g h i : Bool} (h0 : (a && e) = true) (h1 : (f) = true) (h2 : (b && g) = false) : false = (a && (b && (c && (d && (e && (f && (g && (h && i)))))))) := by
  cases a <;> cases b <;> cases c <;> cases d <;> cases e <;> cases f <;> cases g <;> cases h <;> cases i <;> simp_all
theorem pok_false_3 {a b c d e f g h i : Bool} (h0 : (a && e) = true) (h1 : (f) = true) (h2 : (b && g) = true) (h3 : (c && h) = false) : false = (a && (b && (c && (d && (e && (f && (g && (h && i)))))))) := by
  cases a <;> cases b <;> cases c <;> cases d <;> cases e <;> cases f <;> cases g <;> cases h <;> cases i <;> simp_all
theorem pok_false_4 {a b c d e f g h i : Bool} (h0 : (a && e) = true) (h1 : (f) = true) (h2 : (b && g) = true) (h3 : (c && h) = true) (h4 : (d && i) = false) : false = (a && (b && (c && (d && (e && (f && (g && (h && i)))))))) := by
  cases a <;> cases b <;> cases c <;> cases d <;> cases e <;> cases f <;> cases g <;> cases h <;> cases i <;> simp_all
theorem pok_true {a b c d e f g h i : Bool} (h0 : (a && e) = true) (h1 : (f) = true) (h2 : (b && g) = true) (h3 : (c && h) = true) (h4 : (d && i) = true) : true = (a && (b && (c && (d && (e && (f && (g && (h && i)))))))) := by
  cases a <;> cases b <;> cases c <;> cases d <;> cases e <;> cases f <;> cases g <;> cases h <;> cases i <;> simp_all

end Go.Proofs.Ytdbnhdiboemmiab
