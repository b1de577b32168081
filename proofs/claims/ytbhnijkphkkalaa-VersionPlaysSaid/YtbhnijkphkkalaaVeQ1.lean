/- The law's known: its runs, as closed facts. (By gen_veq.py.) -/
import Derived.Test.YtbhnijkphkkalaaVeM
namespace Go.Proofs.Ytbhnijkphkkalaa
open Go.ChangeShapes Go.WideShapes Go.ChangeAt Go.RowKit
theorem kn1 : endsO 9 ⟨false, 0, 2, [7, 8], 0, 1, 0, 0, 0⟩ [0, 0, 0, 0, 0, 0, 0, 0] = some (5, ⟨false, 0, 2, [7, 8], 2, 5, 0, 1, 0⟩, [2, 0, 7, 8, 0, 0, 0, 0]) := by kernel_rfl
theorem kn2 : endsO 9 ⟨true, 0, 1, [0, 0, 0], 0, 1, 0, 0, 1⟩ [2, 0, 7, 8, 0, 0, 0, 0] = some (5, ⟨true, 0, 1, [0, 7, 8], 3, 5, 2, 1, 1⟩, [2, 0, 7, 8, 0, 0, 0, 0]) := by kernel_rfl
theorem kn3 : stpsO 2 ⟨false, 0, 2, [1, 2], 0, 1, 0, 0, 0⟩ [2, 0, 7, 8, 0, 0, 0, 0] = some (⟨false, 0, 2, [1, 2], 0, 3, 2, 0, 0⟩, [3, 0, 7, 8, 0, 0, 0, 0]) := by kernel_rfl
theorem kn4 : stp ⟨true, 0, 2, [0, 0], 0, 1, 0, 0, 2⟩ [3, 0, 7, 8, 0, 0, 0, 0] = (true, 0, ⟨true, 0, 2, [0, 0], 0, 1, 0, 0, 2⟩, [3, 0, 7, 8, 0, 0, 0, 0]) := by kernel_rfl
theorem kn5 : endsO 9 ⟨false, 0, 2, [1, 2], 0, 3, 2, 0, 0⟩ [3, 0, 7, 8, 0, 0, 0, 0] = some (3, ⟨false, 0, 2, [1, 2], 2, 5, 2, 1, 0⟩, [4, 0, 1, 2, 0, 0, 0, 0]) := by kernel_rfl
theorem kn6 : endsO 9 ⟨true, 0, 2, [0, 0], 0, 1, 0, 0, 2⟩ [4, 0, 1, 2, 0, 0, 0, 0] = some (4, ⟨true, 0, 2, [1, 2], 2, 5, 4, 1, 2⟩, [4, 0, 1, 2, 0, 0, 0, 0]) := by kernel_rfl
theorem kn7 : stpsO 2 ⟨true, 0, 2, [0, 0], 0, 1, 0, 0, 1⟩ [4, 0, 1, 2, 0, 0, 0, 0] = some (⟨true, 0, 2, [1, 0], 1, 3, 4, 0, 1⟩, [4, 0, 1, 2, 0, 0, 0, 0]) := by kernel_rfl
theorem kn8 : endsO 9 ⟨false, 0, 2, [5, 6], 0, 1, 0, 0, 0⟩ [4, 0, 1, 2, 0, 0, 0, 0] = some (5, ⟨false, 0, 2, [5, 6], 2, 5, 4, 1, 0⟩, [6, 0, 5, 6, 0, 0, 0, 0]) := by kernel_rfl
theorem kn9 : endsO 9 ⟨true, 0, 2, [1, 0], 1, 3, 4, 0, 1⟩ [6, 0, 5, 6, 0, 0, 0, 0] = some (2, ⟨true, 0, 2, [1, 6], 0, 5, 4, 0, 0⟩, [6, 0, 5, 6, 0, 0, 0, 0]) := by kernel_rfl
theorem kn10 : stp ⟨false, 0, 2, [5], 0, 1, 0, 0, 0⟩ [3, 0, 5, 6, 0, 0, 0, 0] = (false, 8, ⟨false, 0, 2, [5], 0, 1, 0, 0, 0⟩, [3, 0, 5, 6, 0, 0, 0, 0]) := by kernel_rfl
end Go.Proofs.Ytbhnijkphkkalaa
