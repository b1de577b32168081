/-
  DERIVED. GIVEN WITH THE SEED: THE CARDS: each row of YtjhidkjhfgbaeaaGreatDoorRows.lean that lists a variable, with what it lists TIED to the program's text (the seventh form; the later family's looks); each row that meets fmt, with fmt's text TOLD by the authors' own Lean function (tested against real Go, not proved from fmt's source: count such statements apart). THE CARD IS WHAT COUNTS. Prove the row's statement (the work); the ties are given (YtjhidkjhfgbaeaaGreatDoorTie.lean); close each card by the builder's one call (the guide's Derived/Test/ToyasCard.lean, 'card_holds'). Laid BY PROGRAM, IN A SANDBOX (cutbox-door.mjs). By AI agents, Wed Nov 11 2026. No macro, syntax, notation, axiom, sorry.
-/
import Derived.Test.YtjhidkjhfgbaeaaGreatDoorRows
import GoSem.ClaimSeven
namespace Go.Proofs.YtjhidkjhfgbaeaaGreatDoor
namespace Rows

/-- THE TIED CARD OF 'ticketlinelaw09.LatchPacks'. -/
def latchPacksCard : Claim7 := { stood := { row := latchPacksRow, standIns := [], harness := (true, "ec1eabcb8847329ad3227827701b4d42d901f638f330acccb67a7c5a4e9ddc7f"), looks := false }, kinds := [], alts := [], laidByText := true, laidKinds := [.data, .data], laidTests := true, laidLooks := .later }
def LatchPacksCardSaid : Prop := Claim7.holds Tryz.pinned (.plain (OpenSpec.ofChange latchPacksSpec)) latchPacksCard

/-- THE TIED CARD OF 'ticketlinelaw09.LatchPlays'. -/
def latchPlaysCard : Claim7 := { stood := { row := latchPlaysRow, standIns := [], harness := (true, "ec1eabcb8847329ad3227827701b4d42d901f638f330acccb67a7c5a4e9ddc7f"), looks := false }, kinds := [], alts := [], laidByText := true, laidKinds := [.data, .data], laidTests := true, laidLooks := .later }
def LatchPlaysCardSaid : Prop := Claim7.holds Tryz.pinned (.plain (OpenSpec.ofChange latchPlaysSpec)) latchPlaysCard

/-- THE TIED CARD OF 'ticketlinelaw09.LatchNil'. -/
def latchNilCard : Claim7 := { stood := { row := latchNilRow, standIns := [], harness := (true, "ec1eabcb8847329ad3227827701b4d42d901f638f330acccb67a7c5a4e9ddc7f"), looks := false }, kinds := [], alts := [], laidByText := true, laidKinds := [.data, .data], laidTests := true, laidLooks := .later }
def LatchNilCardSaid : Prop := Claim7.holds Tryz.pinned (.plain (OpenSpec.ofChange latchNilSpec)) latchNilCard

/-- THE TIED CARD OF 'ticketlinelaw09.LatchHolds'. -/
def latchHoldsCard : Claim7 := { stood := { row := latchHoldsRow, standIns := [], harness := (true, "ec1eabcb8847329ad3227827701b4d42d901f638f330acccb67a7c5a4e9ddc7f"), looks := false }, kinds := [], alts := [], laidByText := true, laidKinds := [.data, .data], laidTests := true, laidLooks := .later }
def LatchHoldsCardSaid : Prop := Claim7.holds Tryz.pinned (.plain (OpenSpec.ofChange latchHoldsSpec)) latchHoldsCard

/-- THE TIED CARD OF 'ticketlinelaw09.LatchBatches'. -/
def latchBatchesCard : Claim7 := { stood := { row := latchBatchesRow, standIns := [], harness := (true, "ec1eabcb8847329ad3227827701b4d42d901f638f330acccb67a7c5a4e9ddc7f"), looks := false }, kinds := [], alts := [], laidByText := true, laidKinds := [.data, .data], laidTests := true, laidLooks := .later }
def LatchBatchesCardSaid : Prop := Claim7.holds Tryz.pinned (.plain (OpenSpec.ofChange latchBatchesSpec)) latchBatchesCard

/-- THE SECOND FORM's CARD OF 'ticketlinelaw09.LatchPacks'. -/
def latchPacksUptoCard : Claim7 := { stood := { row := latchPacksUptoRow, standIns := [], harness := (true, "ec1eabcb8847329ad3227827701b4d42d901f638f330acccb67a7c5a4e9ddc7f"), looks := false }, kinds := [], alts := [], laidByText := true, laidKinds := [.data, .data], laidTests := true, laidLooks := .later }
def LatchPacksUptoCardSaid : Prop := Claim7.holds Tryz.pinned (.plain (OpenSpec.upto latchPacksSpec)) latchPacksUptoCard

/-- THE SECOND FORM's CARD OF 'ticketlinelaw09.LatchPlays'. -/
def latchPlaysUptoCard : Claim7 := { stood := { row := latchPlaysUptoRow, standIns := [], harness := (true, "ec1eabcb8847329ad3227827701b4d42d901f638f330acccb67a7c5a4e9ddc7f"), looks := false }, kinds := [], alts := [], laidByText := true, laidKinds := [.data, .data], laidTests := true, laidLooks := .later }
def LatchPlaysUptoCardSaid : Prop := Claim7.holds Tryz.pinned (.plain (OpenSpec.upto latchPlaysSpec)) latchPlaysUptoCard

/-- THE SECOND FORM's CARD OF 'ticketlinelaw09.LatchNil'. -/
def latchNilUptoCard : Claim7 := { stood := { row := latchNilUptoRow, standIns := [], harness := (true, "ec1eabcb8847329ad3227827701b4d42d901f638f330acccb67a7c5a4e9ddc7f"), looks := false }, kinds := [], alts := [], laidByText := true, laidKinds := [.data, .data], laidTests := true, laidLooks := .later }
def LatchNilUptoCardSaid : Prop := Claim7.holds Tryz.pinned (.plain (OpenSpec.upto latchNilSpec)) latchNilUptoCard

/-- THE SECOND FORM's CARD OF 'ticketlinelaw09.LatchHolds'. -/
def latchHoldsUptoCard : Claim7 := { stood := { row := latchHoldsUptoRow, standIns := [], harness := (true, "ec1eabcb8847329ad3227827701b4d42d901f638f330acccb67a7c5a4e9ddc7f"), looks := false }, kinds := [], alts := [], laidByText := true, laidKinds := [.data, .data], laidTests := true, laidLooks := .later }
def LatchHoldsUptoCardSaid : Prop := Claim7.holds Tryz.pinned (.plain (OpenSpec.upto latchHoldsSpec)) latchHoldsUptoCard

/-- THE SECOND FORM's CARD OF 'ticketlinelaw09.LatchBatches'. -/
def latchBatchesUptoCard : Claim7 := { stood := { row := latchBatchesUptoRow, standIns := [], harness := (true, "ec1eabcb8847329ad3227827701b4d42d901f638f330acccb67a7c5a4e9ddc7f"), looks := false }, kinds := [], alts := [], laidByText := true, laidKinds := [.data, .data], laidTests := true, laidLooks := .later }
def LatchBatchesUptoCardSaid : Prop := Claim7.holds Tryz.pinned (.plain (OpenSpec.upto latchBatchesSpec)) latchBatchesUptoCard
end Rows
end Go.Proofs.YtjhidkjhfgbaeaaGreatDoor
