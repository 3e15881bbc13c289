/-
  DERIVED. GIVEN WITH THE SEED: THE CARDS: each row of YtaalpdfaljbaiaaDoorRows.lean that lists a variable, with what it lists TIED to the program's text (the seventh form; the later family's looks); each row that meets fmt, with fmt's text TOLD by the authors' own Lean function (tested against real Go, not proved from fmt's source: count such statements apart). THE CARD IS WHAT COUNTS. Prove the row's statement (the work); the ties are given (YtaalpdfaljbaiaaDoorTie.lean); close each card by the builder's one call (the guide's Derived/Test/ToyasCard.lean, 'card_holds'). Laid BY PROGRAM, IN A SANDBOX (cutbox-door.mjs). By AI agents, Wed Nov 11 2026. No macro, syntax, notation, axiom, sorry.
-/
import Derived.Test.YtaalpdfaljbaiaaDoorRows
import GoSem.ClaimSeven
namespace Go.Proofs.YtaalpdfaljbaiaaDoor
namespace Rows

/-- THE TIED CARD OF 'arrearslaw18.ScriptReadsBack'. -/
def scriptReadsBackCard : Claim7 := { stood := { row := scriptReadsBackRow, standIns := [], harness := (true, "5248113f48853a96254b5148764b8460b5be6b27bc26651220fcbc0e5c17f4c0"), looks := true }, kinds := [], alts := [], laidByText := true, laidKinds := [.data, .data, .data], laidTests := true, laidLooks := .later }
def ScriptReadsBackCardSaid : Prop := Claim7.holds Tryd.pinned (.plain (OpenSpec.ofChange scriptReadsBackSpec)) scriptReadsBackCard

/-- THE TIED CARD OF 'arrearslaw18.ScriptShows'. -/
def scriptShowsCard : Claim7 := { stood := { row := scriptShowsRow, standIns := [], harness := (true, "5248113f48853a96254b5148764b8460b5be6b27bc26651220fcbc0e5c17f4c0"), looks := true }, kinds := [], alts := [], laidByText := true, laidKinds := [.data, .data, .data], laidTests := true, laidLooks := .later }
def ScriptShowsCardSaid : Prop := Claim7.holds Tryd.pinned (.plain (OpenSpec.ofChange scriptShowsSpec)) scriptShowsCard

/-- THE TIED CARD OF 'arrearslaw18.ScriptFormats'. -/
def scriptFormatsCard : Claim7 := { stood := { row := scriptFormatsRow, standIns := [], harness := (true, "5248113f48853a96254b5148764b8460b5be6b27bc26651220fcbc0e5c17f4c0"), looks := true }, kinds := [], alts := [], laidByText := true, laidKinds := [.data, .data, .data, .data, .data], laidTests := true, laidLooks := .later }
def ScriptFormatsCardSaid : Prop := Claim7.holds Tryd.pinned (.plain (OpenSpec.ofChange scriptFormatsSpec)) scriptFormatsCard

/-- THE TIED CARD OF 'arrearslaw18.ScriptAmounts'. -/
def scriptAmountsCard : Claim7 := { stood := { row := scriptAmountsRow, standIns := [], harness := (true, "5248113f48853a96254b5148764b8460b5be6b27bc26651220fcbc0e5c17f4c0"), looks := true }, kinds := [], alts := [], laidByText := true, laidKinds := [.data, .data, .data, .data, .handle, .sentinel, .sentinel, .data, .data, .pinned], laidTests := true, laidLooks := .later }
def ScriptAmountsCardSaid : Prop := Claim7.holds Tryd.pinned (.plain (OpenSpec.ofChange scriptAmountsSpec)) scriptAmountsCard

/-- THE SECOND FORM's CARD OF 'arrearslaw18.ScriptReadsBack'. -/
def scriptReadsBackUptoCard : Claim7 := { stood := { row := scriptReadsBackUptoRow, standIns := [], harness := (true, "5248113f48853a96254b5148764b8460b5be6b27bc26651220fcbc0e5c17f4c0"), looks := true }, kinds := [], alts := [], laidByText := true, laidKinds := [.data, .data, .data], laidTests := true, laidLooks := .later }
def ScriptReadsBackUptoCardSaid : Prop := Claim7.holds Tryd.pinned (.plain (OpenSpec.upto scriptReadsBackSpec)) scriptReadsBackUptoCard

/-- THE SECOND FORM's CARD OF 'arrearslaw18.ScriptShows'. -/
def scriptShowsUptoCard : Claim7 := { stood := { row := scriptShowsUptoRow, standIns := [], harness := (true, "5248113f48853a96254b5148764b8460b5be6b27bc26651220fcbc0e5c17f4c0"), looks := true }, kinds := [], alts := [], laidByText := true, laidKinds := [.data, .data, .data], laidTests := true, laidLooks := .later }
def ScriptShowsUptoCardSaid : Prop := Claim7.holds Tryd.pinned (.plain (OpenSpec.upto scriptShowsSpec)) scriptShowsUptoCard

/-- THE SECOND FORM's CARD OF 'arrearslaw18.ScriptFormats'. -/
def scriptFormatsUptoCard : Claim7 := { stood := { row := scriptFormatsUptoRow, standIns := [], harness := (true, "5248113f48853a96254b5148764b8460b5be6b27bc26651220fcbc0e5c17f4c0"), looks := true }, kinds := [], alts := [], laidByText := true, laidKinds := [.data, .data, .data, .data, .data], laidTests := true, laidLooks := .later }
def ScriptFormatsUptoCardSaid : Prop := Claim7.holds Tryd.pinned (.plain (OpenSpec.upto scriptFormatsSpec)) scriptFormatsUptoCard

/-- THE SECOND FORM's CARD OF 'arrearslaw18.ScriptAmounts'. -/
def scriptAmountsUptoCard : Claim7 := { stood := { row := scriptAmountsUptoRow, standIns := [], harness := (true, "5248113f48853a96254b5148764b8460b5be6b27bc26651220fcbc0e5c17f4c0"), looks := true }, kinds := [], alts := [], laidByText := true, laidKinds := [.data, .data, .data, .data, .handle, .sentinel, .sentinel, .data, .data, .pinned], laidTests := true, laidLooks := .later }
def ScriptAmountsUptoCardSaid : Prop := Claim7.holds Tryd.pinned (.plain (OpenSpec.upto scriptAmountsSpec)) scriptAmountsUptoCard
end Rows
end Go.Proofs.YtaalpdfaljbaiaaDoor
