/- Runs of moves and decisions as functions; a new decision. No program in it. -/
import Derived.Test.YticbbfcachnkiaaGreatDoorUdA
namespace Go.Proofs.YticbbfcachnkiaaGreatDoor
set_option linter.unusedVariables false
/-- A run of a move to its end, at most so many steps, none of which waits. -/
def endsM (T : Nat) : Nat → List Int → Mv → Gs → Option (List Int × Mv × Gs)
  | 0, ws, m, g => if m.nx = 0 then some (ws, m, g) else none
  | f + 1, ws, m, g => if m.nx = 0 then some (ws, m, g) else match mstpO T ws m g with
    | some (m', g', ws', wait, no) => if wait = false ∧ no = 0 then endsM T f ws' m' g' else none
    | none => none
/-- The same of a decision; how many steps it had. -/
def endsD (T : Nat) : Nat → Nat → List Int → Ds → Option (Nat × List Int × Ds)
  | 0, i, ws, s => if s.now = 5 then some (i, ws, s) else none
  | f + 1, i, ws, s => if s.now = 5 then some (i, ws, s) else match s.step T ws with
    | some (s', ws', wait) => if wait = false then endsD T f (i + 1) ws' s' else none
    | none => none
/-- A new decision of the thread t. -/
def Ds.new (t : Nat) (l c : Mv × Gs) : Ds := ⟨[(Mv.new 4 0 t 0 2, Gs.new), l, (Mv.new 4 0 t 2 3, Gs.new), c, (Mv.new 4 0 t 1 0, Gs.new)], 0, 0⟩
end Go.Proofs.YticbbfcachnkiaaGreatDoor
