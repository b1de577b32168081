/-
  NARROWER THAN 'FOR EVERY INPUT', by the rows' own cells (each row's printed sentence says how): UpgradePlays: laid · UpgradeEnded: laid · UpgradeNil: laid · UpgradeHolds: laid.
  DERIVED. THE GIVEN ROWS OF THIS SEAT. 4 by the template 'for every input the law returns true; each argument reads behind the call as it read before'; 0 by the template 'total and deterministic' (their statements: YticbbfcachnkiaaGreatDoorTotals.lean).
  GIVEN WITH THE SEED: the statements are not yours to turn. If you find one false, say at which input.
  Laid BY PROGRAM, IN A SANDBOX (cutbox-rows.mjs): the forced cells as the released guide's own fill.sh prints them over the translation 6e4144435b257ba3… (all of the seat's roots in one cut). By AI agents, Wed Nov 11 2026. No macro, syntax, notation, axiom, sorry.
-/
import Derived.Test.YticbbfcachnkiaaGreatDoorChecked
import GoSem.Claim
import GoSem.ClaimJoined
import GoSem.ClaimMapViews
import Derived.JoinedTies
import Derived.KernelRfl
namespace Go.Proofs.YticbbfcachnkiaaGreatDoor
/- THE CELL 'sum', in the pinned program and in every row, IS THE sha256 OF THE DUMP (.gsa) THAT YticbbfcachnkiaaGreatDoorProg.lean LOADS. Nothing in Lean hashes anything: it is a label: what it is worth is what the hold of that sum in a sandbox is worth. -/
noncomputable def Tryz.pinned : Pinned := { name := "yticbbfcachnkiaagreatdoor", sum := "6e4144435b257ba34dfdffee6a06614bd5e2086d88b462ed91d19136ce4c5ac5", checked := Tryz.checked }
namespace Rows
def none {H : Type} : Left H := { results := [], args := [] }

/- WHAT THE LISTED PACKAGE-LEVEL VARIABLES READ AS WHEN THE CALL BEGINS. Each datum BY PROGRAM (the guide's laid-datum.mjs) off the statement by which the dump's own 'gosem.cut.vars' lays the variable. In a bare row this is a premise. The card (YticbbfcachnkiaaGreatDoorCards.lean) ties it to the program's text. -/
def laid_math_bits_deBruijn64tab {H : Type} : DataW H := .agg [.lit (.int .u8 0), .lit (.int .u8 1), .lit (.int .u8 56), .lit (.int .u8 2), .lit (.int .u8 57), .lit (.int .u8 49), .lit (.int .u8 28), .lit (.int .u8 3), .lit (.int .u8 61), .lit (.int .u8 58), .lit (.int .u8 42), .lit (.int .u8 50), .lit (.int .u8 38), .lit (.int .u8 29), .lit (.int .u8 17), .lit (.int .u8 4), .lit (.int .u8 62), .lit (.int .u8 47), .lit (.int .u8 59), .lit (.int .u8 36), .lit (.int .u8 45), .lit (.int .u8 43), .lit (.int .u8 51), .lit (.int .u8 22), .lit (.int .u8 53), .lit (.int .u8 39), .lit (.int .u8 33), .lit (.int .u8 30), .lit (.int .u8 24), .lit (.int .u8 18), .lit (.int .u8 12), .lit (.int .u8 5), .lit (.int .u8 63), .lit (.int .u8 55), .lit (.int .u8 48), .lit (.int .u8 27), .lit (.int .u8 60), .lit (.int .u8 41), .lit (.int .u8 37), .lit (.int .u8 16), .lit (.int .u8 46), .lit (.int .u8 35), .lit (.int .u8 44), .lit (.int .u8 21), .lit (.int .u8 52), .lit (.int .u8 32), .lit (.int .u8 23), .lit (.int .u8 11), .lit (.int .u8 54), .lit (.int .u8 26), .lit (.int .u8 40), .lit (.int .u8 15), .lit (.int .u8 34), .lit (.int .u8 20), .lit (.int .u8 31), .lit (.int .u8 10), .lit (.int .u8 25), .lit (.int .u8 14), .lit (.int .u8 19), .lit (.int .u8 9), .lit (.int .u8 13), .lit (.int .u8 8), .lit (.int .u8 7), .lit (.int .u8 6)]
def laid_ticketline_modes_together {H : Type} : DataW H := .agg [.agg [.lit (.bool false), .lit (.bool false), .lit (.bool false), .lit (.bool false)], .agg [.lit (.bool false), .lit (.bool true), .lit (.bool true), .lit (.bool false)], .agg [.lit (.bool false), .lit (.bool true), .lit (.bool false), .lit (.bool false)], .agg [.lit (.bool false), .lit (.bool false), .lit (.bool false), .lit (.bool false)]]

/-- 'ticketlinelaw10.UpgradePlays': WHATEVER THE INPUT: true; the input reads as it did. -/
def upgradePlaysSpec : ChangeSpec := { name := "upgradePlays", fn := fun _ => fun
  | [d1, d2, d3, d4] => { results := [.lit (.bool true)], args := [d1, d2, d3, d4] }
  | _ => none }
def upgradePlaysRow : OpenClaim := { program := "yticbbfcachnkiaagreatdoor", sum := "6e4144435b257ba34dfdffee6a06614bd5e2086d88b462ed91d19136ce4c5ac5", func := "ticketline/ticketlinelaw10.UpgradePlays", spec := "upgradePlays", unfollowed := true, recurses := true, named := ["ticketline/modes.together", "math/bits.deBruijn64tab"], apart := false, laid := [("math/bits.deBruijn64tab", laid_math_bits_deBruijn64tab), ("ticketline/modes.together", laid_ticketline_modes_together)] }
def UpgradePlaysSaid : Prop := upgradePlaysRow.holds Tryz.pinned (OpenSpec.ofChange upgradePlaysSpec)

/-- ITS FALSE NEIGHBOUR: 'it returns false'. Refute it at one input. -/
def upgradePlaysWrong : ChangeSpec := { name := "upgradePlays", fn := fun _ => fun
  | [d1, d2, d3, d4] => { results := [.lit (.bool false)], args := [d1, d2, d3, d4] }
  | _ => none }
def UpgradePlaysWrongFalsely : Prop := upgradePlaysRow.holds Tryz.pinned (OpenSpec.ofChange upgradePlaysWrong)

/-- 'ticketlinelaw10.UpgradeEnded': WHATEVER THE INPUT: true; the input reads as it did. -/
def upgradeEndedSpec : ChangeSpec := { name := "upgradeEnded", fn := fun _ => fun
  | [d1, d2] => { results := [.lit (.bool true)], args := [d1, d2] }
  | _ => none }
def upgradeEndedRow : OpenClaim := { program := "yticbbfcachnkiaagreatdoor", sum := "6e4144435b257ba34dfdffee6a06614bd5e2086d88b462ed91d19136ce4c5ac5", func := "ticketline/ticketlinelaw10.UpgradeEnded", spec := "upgradeEnded", unfollowed := true, recurses := true, named := ["ticketline/modes.together", "math/bits.deBruijn64tab"], apart := false, laid := [("math/bits.deBruijn64tab", laid_math_bits_deBruijn64tab), ("ticketline/modes.together", laid_ticketline_modes_together)] }
def UpgradeEndedSaid : Prop := upgradeEndedRow.holds Tryz.pinned (OpenSpec.ofChange upgradeEndedSpec)

/-- ITS FALSE NEIGHBOUR: 'it returns false'. Refute it at one input. -/
def upgradeEndedWrong : ChangeSpec := { name := "upgradeEnded", fn := fun _ => fun
  | [d1, d2] => { results := [.lit (.bool false)], args := [d1, d2] }
  | _ => none }
def UpgradeEndedWrongFalsely : Prop := upgradeEndedRow.holds Tryz.pinned (OpenSpec.ofChange upgradeEndedWrong)

/-- 'ticketlinelaw10.UpgradeNil': WHATEVER THE INPUT: true; the input reads as it did. -/
def upgradeNilSpec : ChangeSpec := { name := "upgradeNil", fn := fun _ => fun
  | [d1, d2, d3] => { results := [.lit (.bool true)], args := [d1, d2, d3] }
  | _ => none }
def upgradeNilRow : OpenClaim := { program := "yticbbfcachnkiaagreatdoor", sum := "6e4144435b257ba34dfdffee6a06614bd5e2086d88b462ed91d19136ce4c5ac5", func := "ticketline/ticketlinelaw10.UpgradeNil", spec := "upgradeNil", unfollowed := true, recurses := true, named := ["ticketline/modes.together", "math/bits.deBruijn64tab"], apart := false, laid := [("math/bits.deBruijn64tab", laid_math_bits_deBruijn64tab), ("ticketline/modes.together", laid_ticketline_modes_together)] }
def UpgradeNilSaid : Prop := upgradeNilRow.holds Tryz.pinned (OpenSpec.ofChange upgradeNilSpec)

/-- ITS FALSE NEIGHBOUR: 'it returns false'. Refute it at one input. -/
def upgradeNilWrong : ChangeSpec := { name := "upgradeNil", fn := fun _ => fun
  | [d1, d2, d3] => { results := [.lit (.bool false)], args := [d1, d2, d3] }
  | _ => none }
def UpgradeNilWrongFalsely : Prop := upgradeNilRow.holds Tryz.pinned (OpenSpec.ofChange upgradeNilWrong)

/-- 'ticketlinelaw10.UpgradeHolds': WHATEVER THE INPUT: true; the input reads as it did. -/
def upgradeHoldsSpec : ChangeSpec := { name := "upgradeHolds", fn := fun _ => fun
  | [d1, d2, d3] => { results := [.lit (.bool true)], args := [d1, d2, d3] }
  | _ => none }
def upgradeHoldsRow : OpenClaim := { program := "yticbbfcachnkiaagreatdoor", sum := "6e4144435b257ba34dfdffee6a06614bd5e2086d88b462ed91d19136ce4c5ac5", func := "ticketline/ticketlinelaw10.UpgradeHolds", spec := "upgradeHolds", unfollowed := true, recurses := true, named := ["ticketline/modes.together", "math/bits.deBruijn64tab"], apart := false, laid := [("math/bits.deBruijn64tab", laid_math_bits_deBruijn64tab), ("ticketline/modes.together", laid_ticketline_modes_together)] }
def UpgradeHoldsSaid : Prop := upgradeHoldsRow.holds Tryz.pinned (OpenSpec.ofChange upgradeHoldsSpec)

/-- ITS FALSE NEIGHBOUR: 'it returns false'. Refute it at one input. -/
def upgradeHoldsWrong : ChangeSpec := { name := "upgradeHolds", fn := fun _ => fun
  | [d1, d2, d3] => { results := [.lit (.bool false)], args := [d1, d2, d3] }
  | _ => none }
def UpgradeHoldsWrongFalsely : Prop := upgradeHoldsRow.holds Tryz.pinned (OpenSpec.ofChange upgradeHoldsWrong)

/- THE SECOND FORM. 'bulk': how many values and letters a reading holds, each counted each time it is reached (what is shared counts as often as it is met; a slice's spare places count too). A statement '..UptoSaid' is the law's where the arguments, and the package variables that the reading takes, are together of bulk at most 1048576: NARROWER than '..Said'. Prove '..Said' where nothing that the law and all that it calls make is longer than what came in: it says more and counts as full. Else prove '..UptoSaid'. A law counts once. -/
mutual
def uptoBulk {H : Type} : DataW H → Nat
  | .lit (.string bytes) => bytes.length + 1
  | .lit _ => 1
  | .nil => 1
  | .ptr d => uptoBulk d + 1
  | .slice elems spare => uptoBulkAll elems + uptoBulkAll spare + 1
  | .agg parts => uptoBulkAll parts + 1
  | .iface _ d => uptoBulk d + 1
  | .map entries => uptoBulkEntries entries + 1
  | .held _ => 1
def uptoBulkAll {H : Type} : List (DataW H) → Nat
  | [] => 0
  | d :: r => uptoBulk d + uptoBulkAll r
def uptoBulkEntries {H : Type} : List (Lit × DataW H) → Nat
  | [] => 0
  | x :: r => uptoBulkEntry x + uptoBulkEntries r
def uptoBulkEntry {H : Type} : Lit × DataW H → Nat
  | (.string bytes, d) => bytes.length + uptoBulk d + 1
  | (_, d) => uptoBulk d + 1
 end
def uptoSmall : (H : Type) → List (DataW H) → Bool := fun _ ds => decide (uptoBulkAll ds ≤ 1048576)
def OpenSpec.upto (s : _root_.Go.ChangeSpec) : _root_.Go.OpenSpec := { _root_.Go.OpenSpec.ofChange s with cond := some uptoSmall }

/-- 'ticketlinelaw10.UpgradePlays', WHERE WHAT IT READS IS OF BULK AT MOST 1048576: true; the input reads as it did. -/
def upgradePlaysUptoRow : OpenClaim := { program := "yticbbfcachnkiaagreatdoor", sum := "6e4144435b257ba34dfdffee6a06614bd5e2086d88b462ed91d19136ce4c5ac5", func := "ticketline/ticketlinelaw10.UpgradePlays", spec := "upgradePlays", unfollowed := true, recurses := true, named := ["ticketline/modes.together", "math/bits.deBruijn64tab"], apart := false, laid := [("math/bits.deBruijn64tab", laid_math_bits_deBruijn64tab), ("ticketline/modes.together", laid_ticketline_modes_together)], narrowed := true }
def UpgradePlaysUptoSaid : Prop := upgradePlaysUptoRow.holds Tryz.pinned (OpenSpec.upto upgradePlaysSpec)

/-- 'ticketlinelaw10.UpgradeEnded', WHERE WHAT IT READS IS OF BULK AT MOST 1048576: true; the input reads as it did. -/
def upgradeEndedUptoRow : OpenClaim := { program := "yticbbfcachnkiaagreatdoor", sum := "6e4144435b257ba34dfdffee6a06614bd5e2086d88b462ed91d19136ce4c5ac5", func := "ticketline/ticketlinelaw10.UpgradeEnded", spec := "upgradeEnded", unfollowed := true, recurses := true, named := ["ticketline/modes.together", "math/bits.deBruijn64tab"], apart := false, laid := [("math/bits.deBruijn64tab", laid_math_bits_deBruijn64tab), ("ticketline/modes.together", laid_ticketline_modes_together)], narrowed := true }
def UpgradeEndedUptoSaid : Prop := upgradeEndedUptoRow.holds Tryz.pinned (OpenSpec.upto upgradeEndedSpec)

/-- 'ticketlinelaw10.UpgradeNil', WHERE WHAT IT READS IS OF BULK AT MOST 1048576: true; the input reads as it did. -/
def upgradeNilUptoRow : OpenClaim := { program := "yticbbfcachnkiaagreatdoor", sum := "6e4144435b257ba34dfdffee6a06614bd5e2086d88b462ed91d19136ce4c5ac5", func := "ticketline/ticketlinelaw10.UpgradeNil", spec := "upgradeNil", unfollowed := true, recurses := true, named := ["ticketline/modes.together", "math/bits.deBruijn64tab"], apart := false, laid := [("math/bits.deBruijn64tab", laid_math_bits_deBruijn64tab), ("ticketline/modes.together", laid_ticketline_modes_together)], narrowed := true }
def UpgradeNilUptoSaid : Prop := upgradeNilUptoRow.holds Tryz.pinned (OpenSpec.upto upgradeNilSpec)

/-- 'ticketlinelaw10.UpgradeHolds', WHERE WHAT IT READS IS OF BULK AT MOST 1048576: true; the input reads as it did. -/
def upgradeHoldsUptoRow : OpenClaim := { program := "yticbbfcachnkiaagreatdoor", sum := "6e4144435b257ba34dfdffee6a06614bd5e2086d88b462ed91d19136ce4c5ac5", func := "ticketline/ticketlinelaw10.UpgradeHolds", spec := "upgradeHolds", unfollowed := true, recurses := true, named := ["ticketline/modes.together", "math/bits.deBruijn64tab"], apart := false, laid := [("math/bits.deBruijn64tab", laid_math_bits_deBruijn64tab), ("ticketline/modes.together", laid_ticketline_modes_together)], narrowed := true }
def UpgradeHoldsUptoSaid : Prop := upgradeHoldsUptoRow.holds Tryz.pinned (OpenSpec.upto upgradeHoldsSpec)

end Rows
end Go.Proofs.YticbbfcachnkiaaGreatDoor
