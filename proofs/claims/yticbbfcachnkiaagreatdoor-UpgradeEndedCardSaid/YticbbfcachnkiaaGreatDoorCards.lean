/-
  DERIVED. GIVEN WITH THE SEED: THE CARDS: each row of YticbbfcachnkiaaGreatDoorRows.lean that lists a variable, with what it lists TIED to the program's text (the seventh form; the later family's looks); each row that meets fmt, with fmt's text TOLD by the authors' own Lean function (tested against real Go, not proved from fmt's source: count such statements apart). THE CARD IS WHAT COUNTS. Prove the row's statement (the work); the ties are given (YticbbfcachnkiaaGreatDoorTie.lean); close each card by the builder's one call (the guide's Derived/Test/ToyasCard.lean, 'card_holds'). Laid BY PROGRAM, IN A SANDBOX (cutbox-door.mjs). By AI agents, Wed Nov 11 2026. No macro, syntax, notation, axiom, sorry.
-/
import Derived.Test.YticbbfcachnkiaaGreatDoorRows
import GoSem.ClaimSeven
namespace Go.Proofs.YticbbfcachnkiaaGreatDoor
namespace Rows

/-- THE TIED CARD OF 'ticketlinelaw10.UpgradePlays'. -/
def upgradePlaysCard : Claim7 := { stood := { row := upgradePlaysRow, standIns := [], harness := (true, "22600618850224470216c97679162ecb2ad5585baa5c793a25432dc595ec2cfe"), looks := true }, kinds := [], alts := [], laidByText := true, laidKinds := [.data, .data], laidTests := true, laidLooks := .later }
def UpgradePlaysCardSaid : Prop := Claim7.holds Tryz.pinned (.plain (OpenSpec.ofChange upgradePlaysSpec)) upgradePlaysCard

/-- THE TIED CARD OF 'ticketlinelaw10.UpgradeEnded'. -/
def upgradeEndedCard : Claim7 := { stood := { row := upgradeEndedRow, standIns := [], harness := (true, "22600618850224470216c97679162ecb2ad5585baa5c793a25432dc595ec2cfe"), looks := true }, kinds := [], alts := [], laidByText := true, laidKinds := [.data, .data], laidTests := true, laidLooks := .later }
def UpgradeEndedCardSaid : Prop := Claim7.holds Tryz.pinned (.plain (OpenSpec.ofChange upgradeEndedSpec)) upgradeEndedCard

/-- THE TIED CARD OF 'ticketlinelaw10.UpgradeNil'. -/
def upgradeNilCard : Claim7 := { stood := { row := upgradeNilRow, standIns := [], harness := (true, "22600618850224470216c97679162ecb2ad5585baa5c793a25432dc595ec2cfe"), looks := true }, kinds := [], alts := [], laidByText := true, laidKinds := [.data, .data], laidTests := true, laidLooks := .later }
def UpgradeNilCardSaid : Prop := Claim7.holds Tryz.pinned (.plain (OpenSpec.ofChange upgradeNilSpec)) upgradeNilCard

/-- THE TIED CARD OF 'ticketlinelaw10.UpgradeHolds'. -/
def upgradeHoldsCard : Claim7 := { stood := { row := upgradeHoldsRow, standIns := [], harness := (true, "22600618850224470216c97679162ecb2ad5585baa5c793a25432dc595ec2cfe"), looks := true }, kinds := [], alts := [], laidByText := true, laidKinds := [.data, .data], laidTests := true, laidLooks := .later }
def UpgradeHoldsCardSaid : Prop := Claim7.holds Tryz.pinned (.plain (OpenSpec.ofChange upgradeHoldsSpec)) upgradeHoldsCard

/-- THE SECOND FORM's CARD OF 'ticketlinelaw10.UpgradePlays'. -/
def upgradePlaysUptoCard : Claim7 := { stood := { row := upgradePlaysUptoRow, standIns := [], harness := (true, "22600618850224470216c97679162ecb2ad5585baa5c793a25432dc595ec2cfe"), looks := true }, kinds := [], alts := [], laidByText := true, laidKinds := [.data, .data], laidTests := true, laidLooks := .later }
def UpgradePlaysUptoCardSaid : Prop := Claim7.holds Tryz.pinned (.plain (OpenSpec.upto upgradePlaysSpec)) upgradePlaysUptoCard

/-- THE SECOND FORM's CARD OF 'ticketlinelaw10.UpgradeEnded'. -/
def upgradeEndedUptoCard : Claim7 := { stood := { row := upgradeEndedUptoRow, standIns := [], harness := (true, "22600618850224470216c97679162ecb2ad5585baa5c793a25432dc595ec2cfe"), looks := true }, kinds := [], alts := [], laidByText := true, laidKinds := [.data, .data], laidTests := true, laidLooks := .later }
def UpgradeEndedUptoCardSaid : Prop := Claim7.holds Tryz.pinned (.plain (OpenSpec.upto upgradeEndedSpec)) upgradeEndedUptoCard

/-- THE SECOND FORM's CARD OF 'ticketlinelaw10.UpgradeNil'. -/
def upgradeNilUptoCard : Claim7 := { stood := { row := upgradeNilUptoRow, standIns := [], harness := (true, "22600618850224470216c97679162ecb2ad5585baa5c793a25432dc595ec2cfe"), looks := true }, kinds := [], alts := [], laidByText := true, laidKinds := [.data, .data], laidTests := true, laidLooks := .later }
def UpgradeNilUptoCardSaid : Prop := Claim7.holds Tryz.pinned (.plain (OpenSpec.upto upgradeNilSpec)) upgradeNilUptoCard

/-- THE SECOND FORM's CARD OF 'ticketlinelaw10.UpgradeHolds'. -/
def upgradeHoldsUptoCard : Claim7 := { stood := { row := upgradeHoldsUptoRow, standIns := [], harness := (true, "22600618850224470216c97679162ecb2ad5585baa5c793a25432dc595ec2cfe"), looks := true }, kinds := [], alts := [], laidByText := true, laidKinds := [.data, .data], laidTests := true, laidLooks := .later }
def UpgradeHoldsUptoCardSaid : Prop := Claim7.holds Tryz.pinned (.plain (OpenSpec.upto upgradeHoldsSpec)) upgradeHoldsUptoCard
end Rows
end Go.Proofs.YticbbfcachnkiaaGreatDoor
