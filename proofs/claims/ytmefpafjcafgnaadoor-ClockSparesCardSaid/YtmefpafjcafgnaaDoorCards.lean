/-
  DERIVED. GIVEN WITH THE SEED: THE CARDS: each row of YtmefpafjcafgnaaDoorRows.lean that lists a variable, with what it lists TIED to the program's text (the seventh form; the later family's looks); each row that meets fmt, with fmt's text TOLD by the authors' own Lean function (tested against real Go, not proved from fmt's source: count such statements apart). THE CARD IS WHAT COUNTS. Prove the row's statement (the work); the ties are given (YtmefpafjcafgnaaDoorTie.lean); close each card by the builder's one call (the guide's Derived/Test/ToyasCard.lean, 'card_holds'). Laid BY PROGRAM, IN A SANDBOX (cutbox-door.mjs). By AI agents, Wed Nov 11 2026. No macro, syntax, notation, axiom, sorry.
-/
import Derived.Test.YtmefpafjcafgnaaDoorRows
import GoSem.ClaimSeven
namespace Go.Proofs.YtmefpafjcafgnaaDoor
namespace Rows

/-- THE TIED CARD OF 'tenancylaw13.ClockPlays'. -/
def clockPlaysCard : Claim7 := { stood := { row := clockPlaysRow, standIns := [], harness := (true, "f8d51a0c5fca4c8178ac4a0959e01c224a7145e5c09e55ceb36093d0206aeebd"), looks := false }, kinds := [], alts := [], laidByText := true, laidKinds := [.data], laidTests := true, laidLooks := .later }
def ClockPlaysCardSaid : Prop := Claim7.holds Tryd.pinned (.plain (OpenSpec.ofChange clockPlaysSpec)) clockPlaysCard

/-- THE TIED CARD OF 'tenancylaw13.ClockSpares'. -/
def clockSparesCard : Claim7 := { stood := { row := clockSparesRow, standIns := [], harness := (true, "f8d51a0c5fca4c8178ac4a0959e01c224a7145e5c09e55ceb36093d0206aeebd"), looks := false }, kinds := [], alts := [], laidByText := true, laidKinds := [.data], laidTests := true, laidLooks := .later }
def ClockSparesCardSaid : Prop := Claim7.holds Tryd.pinned (.plain (OpenSpec.ofChange clockSparesSpec)) clockSparesCard

/-- THE TIED CARD OF 'tenancylaw13.ClockNobody'. -/
def clockNobodyCard : Claim7 := { stood := { row := clockNobodyRow, standIns := [], harness := (true, "f8d51a0c5fca4c8178ac4a0959e01c224a7145e5c09e55ceb36093d0206aeebd"), looks := false }, kinds := [], alts := [], laidByText := true, laidKinds := [.data], laidTests := true, laidLooks := .later }
def ClockNobodyCardSaid : Prop := Claim7.holds Tryd.pinned (.plain (OpenSpec.ofChange clockNobodySpec)) clockNobodyCard

/-- THE SECOND FORM's CARD OF 'tenancylaw13.ClockPlays'. -/
def clockPlaysUptoCard : Claim7 := { stood := { row := clockPlaysUptoRow, standIns := [], harness := (true, "f8d51a0c5fca4c8178ac4a0959e01c224a7145e5c09e55ceb36093d0206aeebd"), looks := false }, kinds := [], alts := [], laidByText := true, laidKinds := [.data], laidTests := true, laidLooks := .later }
def ClockPlaysUptoCardSaid : Prop := Claim7.holds Tryd.pinned (.plain (OpenSpec.upto clockPlaysSpec)) clockPlaysUptoCard

/-- THE SECOND FORM's CARD OF 'tenancylaw13.ClockSpares'. -/
def clockSparesUptoCard : Claim7 := { stood := { row := clockSparesUptoRow, standIns := [], harness := (true, "f8d51a0c5fca4c8178ac4a0959e01c224a7145e5c09e55ceb36093d0206aeebd"), looks := false }, kinds := [], alts := [], laidByText := true, laidKinds := [.data], laidTests := true, laidLooks := .later }
def ClockSparesUptoCardSaid : Prop := Claim7.holds Tryd.pinned (.plain (OpenSpec.upto clockSparesSpec)) clockSparesUptoCard

/-- THE SECOND FORM's CARD OF 'tenancylaw13.ClockNobody'. -/
def clockNobodyUptoCard : Claim7 := { stood := { row := clockNobodyUptoRow, standIns := [], harness := (true, "f8d51a0c5fca4c8178ac4a0959e01c224a7145e5c09e55ceb36093d0206aeebd"), looks := false }, kinds := [], alts := [], laidByText := true, laidKinds := [.data], laidTests := true, laidLooks := .later }
def ClockNobodyUptoCardSaid : Prop := Claim7.holds Tryd.pinned (.plain (OpenSpec.upto clockNobodySpec)) clockNobodyUptoCard
end Rows
end Go.Proofs.YtmefpafjcafgnaaDoor
