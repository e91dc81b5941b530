/-
  DERIVED. GIVEN WITH THE SEED: THE CARDS: each row of YtcglfknkkeaegaaGreatDoorRows.lean that lists a variable, with what it lists TIED to the program's text (the seventh form; the later family's looks); each row that meets fmt, with fmt's text TOLD by the authors' own Lean function (tested against real Go, not proved from fmt's source: count such statements apart). THE CARD IS WHAT COUNTS. Prove the row's statement (the work); the ties are given (YtcglfknkkeaegaaGreatDoorTie.lean); close each card by the builder's one call (the guide's Derived/Test/ToyasCard.lean, 'card_holds'). Laid BY PROGRAM, IN A SANDBOX (cutbox-door.mjs). By AI agents, Wed Nov 11 2026. No macro, syntax, notation, axiom, sorry.
-/
import Derived.Test.YtcglfknkkeaegaaGreatDoorRows
import GoSem.ClaimSeven
namespace Go.Proofs.YtcglfknkkeaegaaGreatDoor
namespace Rows

/-- THE TIED CARD OF 'tenancylaw15.PcachePlays'. -/
def pcachePlaysCard : Claim7 := { stood := { row := pcachePlaysRow, standIns := [], harness := (true, "cc8aff9254b5644c9ee28242e08be72e18a8a07340c184fb35786c08c0c08e91"), looks := false }, kinds := [], alts := [], laidByText := true, laidKinds := [.data], laidTests := true, laidLooks := .later }
def PcachePlaysCardSaid : Prop := Claim7.holds Tryz.pinned (.plain (OpenSpec.ofChange pcachePlaysSpec)) pcachePlaysCard

/-- THE TIED CARD OF 'tenancylaw15.PcacheKept'. -/
def pcacheKeptCard : Claim7 := { stood := { row := pcacheKeptRow, standIns := [], harness := (true, "cc8aff9254b5644c9ee28242e08be72e18a8a07340c184fb35786c08c0c08e91"), looks := false }, kinds := [], alts := [], laidByText := true, laidKinds := [.data], laidTests := true, laidLooks := .later }
def PcacheKeptCardSaid : Prop := Claim7.holds Tryz.pinned (.plain (OpenSpec.ofChange pcacheKeptSpec)) pcacheKeptCard

/-- THE TIED CARD OF 'tenancylaw15.PcacheQuota'. -/
def pcacheQuotaCard : Claim7 := { stood := { row := pcacheQuotaRow, standIns := [], harness := (true, "cc8aff9254b5644c9ee28242e08be72e18a8a07340c184fb35786c08c0c08e91"), looks := false }, kinds := [], alts := [], laidByText := true, laidKinds := [.data], laidTests := true, laidLooks := .later }
def PcacheQuotaCardSaid : Prop := Claim7.holds Tryz.pinned (.plain (OpenSpec.ofChange pcacheQuotaSpec)) pcacheQuotaCard

/-- THE TIED CARD OF 'tenancylaw15.PcacheOpens'. -/
def pcacheOpensCard : Claim7 := { stood := { row := pcacheOpensRow, standIns := [], harness := (true, "cc8aff9254b5644c9ee28242e08be72e18a8a07340c184fb35786c08c0c08e91"), looks := false }, kinds := [], alts := [], laidByText := true, laidKinds := [.data], laidTests := true, laidLooks := .later }
def PcacheOpensCardSaid : Prop := Claim7.holds Tryz.pinned (.plain (OpenSpec.ofChange pcacheOpensSpec)) pcacheOpensCard

/-- THE SECOND FORM's CARD OF 'tenancylaw15.PcachePlays'. -/
def pcachePlaysUptoCard : Claim7 := { stood := { row := pcachePlaysUptoRow, standIns := [], harness := (true, "cc8aff9254b5644c9ee28242e08be72e18a8a07340c184fb35786c08c0c08e91"), looks := false }, kinds := [], alts := [], laidByText := true, laidKinds := [.data], laidTests := true, laidLooks := .later }
def PcachePlaysUptoCardSaid : Prop := Claim7.holds Tryz.pinned (.plain (OpenSpec.upto pcachePlaysSpec)) pcachePlaysUptoCard

/-- THE SECOND FORM's CARD OF 'tenancylaw15.PcacheKept'. -/
def pcacheKeptUptoCard : Claim7 := { stood := { row := pcacheKeptUptoRow, standIns := [], harness := (true, "cc8aff9254b5644c9ee28242e08be72e18a8a07340c184fb35786c08c0c08e91"), looks := false }, kinds := [], alts := [], laidByText := true, laidKinds := [.data], laidTests := true, laidLooks := .later }
def PcacheKeptUptoCardSaid : Prop := Claim7.holds Tryz.pinned (.plain (OpenSpec.upto pcacheKeptSpec)) pcacheKeptUptoCard

/-- THE SECOND FORM's CARD OF 'tenancylaw15.PcacheQuota'. -/
def pcacheQuotaUptoCard : Claim7 := { stood := { row := pcacheQuotaUptoRow, standIns := [], harness := (true, "cc8aff9254b5644c9ee28242e08be72e18a8a07340c184fb35786c08c0c08e91"), looks := false }, kinds := [], alts := [], laidByText := true, laidKinds := [.data], laidTests := true, laidLooks := .later }
def PcacheQuotaUptoCardSaid : Prop := Claim7.holds Tryz.pinned (.plain (OpenSpec.upto pcacheQuotaSpec)) pcacheQuotaUptoCard

/-- THE SECOND FORM's CARD OF 'tenancylaw15.PcacheOpens'. -/
def pcacheOpensUptoCard : Claim7 := { stood := { row := pcacheOpensUptoRow, standIns := [], harness := (true, "cc8aff9254b5644c9ee28242e08be72e18a8a07340c184fb35786c08c0c08e91"), looks := false }, kinds := [], alts := [], laidByText := true, laidKinds := [.data], laidTests := true, laidLooks := .later }
def PcacheOpensUptoCardSaid : Prop := Claim7.holds Tryz.pinned (.plain (OpenSpec.upto pcacheOpensSpec)) pcacheOpensUptoCard
end Rows
end Go.Proofs.YtcglfknkkeaegaaGreatDoor
