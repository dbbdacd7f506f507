/-
  DERIVED. GIVEN WITH THE SEED: THE CARDS: each row of YtpckmjfabiallaaGreatDoorRows.lean that lists a variable, with what it lists TIED to the program's text (the seventh form; the later family's looks); each row that meets fmt, with fmt's text TOLD by the authors' own Lean function (tested against real Go, not proved from fmt's source: count such statements apart). THE CARD IS WHAT COUNTS. Prove the row's statement (the work); the ties are given (YtpckmjfabiallaaGreatDoorTie.lean); close each card by the builder's one call (the guide's Derived/Test/ToyasCard.lean, 'card_holds'). Laid BY PROGRAM, IN A SANDBOX (cutbox-door.mjs). By AI agents, Wed Nov 11 2026. No macro, syntax, notation, axiom, sorry.
-/
import Derived.Test.YtpckmjfabiallaaGreatDoorRows
import GoSem.ClaimSeven
namespace Go.Proofs.YtpckmjfabiallaaGreatDoor
namespace Rows

/-- THE TIED CARD OF 'quernlaw10.TypesChecks'. -/
def typesChecksCard : Claim7 := { stood := { row := typesChecksRow, standIns := [], harness := (true, "b8a94d563677a722d0c4f0d48f8836c87d38d4aaf067a748f50efe92bbda25fc"), looks := true }, kinds := [], alts := [], laidByText := true, laidKinds := [.data, .data, .data, .sentinel, .sentinel], laidTests := true, laidLooks := .later }
def TypesChecksCardSaid : Prop := Claim7.holds Tryz.pinned (.plain (OpenSpec.ofChange typesChecksSpec)) typesChecksCard

/-- THE TIED CARD OF 'quernlaw10.TypesOdd'. -/
def typesOddCard : Claim7 := { stood := { row := typesOddRow, standIns := [], harness := (true, "b8a94d563677a722d0c4f0d48f8836c87d38d4aaf067a748f50efe92bbda25fc"), looks := true }, kinds := [], alts := [], laidByText := true, laidKinds := [.data, .data, .data, .sentinel, .sentinel], laidTests := true, laidLooks := .later }
def TypesOddCardSaid : Prop := Claim7.holds Tryz.pinned (.plain (OpenSpec.ofChange typesOddSpec)) typesOddCard

/-- THE TIED CARD OF 'quernlaw10.TypesClosed'. -/
def typesClosedCard : Claim7 := { stood := { row := typesClosedRow, standIns := [], harness := (true, "b8a94d563677a722d0c4f0d48f8836c87d38d4aaf067a748f50efe92bbda25fc"), looks := true }, kinds := [], alts := [], laidByText := true, laidKinds := [.data, .data, .data, .sentinel, .sentinel], laidTests := true, laidLooks := .later }
def TypesClosedCardSaid : Prop := Claim7.holds Tryz.pinned (.plain (OpenSpec.ofChange typesClosedSpec)) typesClosedCard

/-- THE TIED CARD OF 'quernlaw10.TypesNames'. -/
def typesNamesCard : Claim7 := { stood := { row := typesNamesRow, standIns := [], harness := (true, "b8a94d563677a722d0c4f0d48f8836c87d38d4aaf067a748f50efe92bbda25fc"), looks := true }, kinds := [], alts := [], laidByText := true, laidKinds := [.data, .data, .data, .sentinel, .sentinel], laidTests := true, laidLooks := .later }
def TypesNamesCardSaid : Prop := Claim7.holds Tryz.pinned (.plain (OpenSpec.ofChange typesNamesSpec)) typesNamesCard

/-- THE TIED CARD OF 'quernlaw10.TypesShown'. -/
def typesShownCard : Claim7 := { stood := { row := typesShownRow, standIns := [], harness := (true, "b8a94d563677a722d0c4f0d48f8836c87d38d4aaf067a748f50efe92bbda25fc"), looks := true }, kinds := [], alts := [], laidByText := true, laidKinds := [.data, .data, .data, .sentinel, .sentinel], laidTests := true, laidLooks := .later }
def TypesShownCardSaid : Prop := Claim7.holds Tryz.pinned (.plain (OpenSpec.ofChange typesShownSpec)) typesShownCard

/-- THE SECOND FORM's CARD OF 'quernlaw10.TypesChecks'. -/
def typesChecksUptoCard : Claim7 := { stood := { row := typesChecksUptoRow, standIns := [], harness := (true, "b8a94d563677a722d0c4f0d48f8836c87d38d4aaf067a748f50efe92bbda25fc"), looks := true }, kinds := [], alts := [], laidByText := true, laidKinds := [.data, .data, .data, .sentinel, .sentinel], laidTests := true, laidLooks := .later }
def TypesChecksUptoCardSaid : Prop := Claim7.holds Tryz.pinned (.plain (OpenSpec.upto typesChecksSpec)) typesChecksUptoCard

/-- THE SECOND FORM's CARD OF 'quernlaw10.TypesOdd'. -/
def typesOddUptoCard : Claim7 := { stood := { row := typesOddUptoRow, standIns := [], harness := (true, "b8a94d563677a722d0c4f0d48f8836c87d38d4aaf067a748f50efe92bbda25fc"), looks := true }, kinds := [], alts := [], laidByText := true, laidKinds := [.data, .data, .data, .sentinel, .sentinel], laidTests := true, laidLooks := .later }
def TypesOddUptoCardSaid : Prop := Claim7.holds Tryz.pinned (.plain (OpenSpec.upto typesOddSpec)) typesOddUptoCard

/-- THE SECOND FORM's CARD OF 'quernlaw10.TypesClosed'. -/
def typesClosedUptoCard : Claim7 := { stood := { row := typesClosedUptoRow, standIns := [], harness := (true, "b8a94d563677a722d0c4f0d48f8836c87d38d4aaf067a748f50efe92bbda25fc"), looks := true }, kinds := [], alts := [], laidByText := true, laidKinds := [.data, .data, .data, .sentinel, .sentinel], laidTests := true, laidLooks := .later }
def TypesClosedUptoCardSaid : Prop := Claim7.holds Tryz.pinned (.plain (OpenSpec.upto typesClosedSpec)) typesClosedUptoCard

/-- THE SECOND FORM's CARD OF 'quernlaw10.TypesNames'. -/
def typesNamesUptoCard : Claim7 := { stood := { row := typesNamesUptoRow, standIns := [], harness := (true, "b8a94d563677a722d0c4f0d48f8836c87d38d4aaf067a748f50efe92bbda25fc"), looks := true }, kinds := [], alts := [], laidByText := true, laidKinds := [.data, .data, .data, .sentinel, .sentinel], laidTests := true, laidLooks := .later }
def TypesNamesUptoCardSaid : Prop := Claim7.holds Tryz.pinned (.plain (OpenSpec.upto typesNamesSpec)) typesNamesUptoCard

/-- THE SECOND FORM's CARD OF 'quernlaw10.TypesShown'. -/
def typesShownUptoCard : Claim7 := { stood := { row := typesShownUptoRow, standIns := [], harness := (true, "b8a94d563677a722d0c4f0d48f8836c87d38d4aaf067a748f50efe92bbda25fc"), looks := true }, kinds := [], alts := [], laidByText := true, laidKinds := [.data, .data, .data, .sentinel, .sentinel], laidTests := true, laidLooks := .later }
def TypesShownUptoCardSaid : Prop := Claim7.holds Tryz.pinned (.plain (OpenSpec.upto typesShownSpec)) typesShownUptoCard
end Rows
end Go.Proofs.YtpckmjfabiallaaGreatDoor
