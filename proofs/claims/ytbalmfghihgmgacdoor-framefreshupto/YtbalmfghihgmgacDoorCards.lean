/-
  DERIVED. GIVEN WITH THE SEED: THE CARDS: each row of YtbalmfghihgmgacDoorRows.lean that lists a variable, with what it lists TIED to the program's text (the seventh form; the later family's looks); each row that meets fmt, with fmt's text TOLD by the authors' own Lean function (tested against real Go, not proved from fmt's source: count such statements apart). THE CARD IS WHAT COUNTS. Prove the row's statement (the work); the ties are given (YtbalmfghihgmgacDoorTie.lean); close each card by the builder's one call (the guide's Derived/Test/ToyasCard.lean, 'card_holds'). Laid BY PROGRAM, IN A SANDBOX (cutbox-door.mjs). By AI agents, Wed Nov 11 2026. No macro, syntax, notation, axiom, sorry.
-/
import Derived.Test.YtbalmfghihgmgacDoorRows
import GoSem.ClaimSeven
namespace Go.Proofs.YtbalmfghihgmgacDoor
namespace Rows

/-- THE TIED CARD OF 'arrearslaw6.FrameCutAgain'. -/
def frameCutAgainCard : Claim7 := { stood := { row := frameCutAgainRow, standIns := [], harness := (true, "8cb8042b507700834068bccb9d5fa7a2235a69fac8df3fcf2c2e059ab4e4bfaf"), looks := false }, kinds := [], alts := [], laidByText := true, laidKinds := [.data], laidTests := true, laidLooks := .later }
def FrameCutAgainCardSaid : Prop := Claim7.holds Tryd.pinned (.plain (OpenSpec.ofChange frameCutAgainSpec)) frameCutAgainCard

/-- THE TIED CARD OF 'arrearslaw6.FrameSpoilt'. -/
def frameSpoiltCard : Claim7 := { stood := { row := frameSpoiltRow, standIns := [], harness := (true, "8cb8042b507700834068bccb9d5fa7a2235a69fac8df3fcf2c2e059ab4e4bfaf"), looks := false }, kinds := [], alts := [], laidByText := true, laidKinds := [.data], laidTests := true, laidLooks := .later }
def FrameSpoiltCardSaid : Prop := Claim7.holds Tryd.pinned (.plain (OpenSpec.ofChange frameSpoiltSpec)) frameSpoiltCard

/-- THE TIED CARD OF 'arrearslaw6.FrameTorn'. -/
def frameTornCard : Claim7 := { stood := { row := frameTornRow, standIns := [], harness := (true, "8cb8042b507700834068bccb9d5fa7a2235a69fac8df3fcf2c2e059ab4e4bfaf"), looks := false }, kinds := [], alts := [], laidByText := true, laidKinds := [.data], laidTests := true, laidLooks := .later }
def FrameTornCardSaid : Prop := Claim7.holds Tryd.pinned (.plain (OpenSpec.ofChange frameTornSpec)) frameTornCard

/-- THE TIED CARD OF 'arrearslaw6.FrameDecodes'. -/
def frameDecodesCard : Claim7 := { stood := { row := frameDecodesRow, standIns := [], harness := (true, "8cb8042b507700834068bccb9d5fa7a2235a69fac8df3fcf2c2e059ab4e4bfaf"), looks := false }, kinds := [], alts := [], laidByText := true, laidKinds := [.data], laidTests := true, laidLooks := .later }
def FrameDecodesCardSaid : Prop := Claim7.holds Tryd.pinned (.plain (OpenSpec.ofChange frameDecodesSpec)) frameDecodesCard

/-- THE TIED CARD OF 'arrearslaw6.FrameGoesOn'. -/
def frameGoesOnCard : Claim7 := { stood := { row := frameGoesOnRow, standIns := [], harness := (true, "8cb8042b507700834068bccb9d5fa7a2235a69fac8df3fcf2c2e059ab4e4bfaf"), looks := false }, kinds := [], alts := [], laidByText := true, laidKinds := [.data], laidTests := true, laidLooks := .later }
def FrameGoesOnCardSaid : Prop := Claim7.holds Tryd.pinned (.plain (OpenSpec.ofChange frameGoesOnSpec)) frameGoesOnCard

/-- THE TIED CARD OF 'arrearslaw6.FrameFresh'. -/
def frameFreshCard : Claim7 := { stood := { row := frameFreshRow, standIns := [], harness := (true, "8cb8042b507700834068bccb9d5fa7a2235a69fac8df3fcf2c2e059ab4e4bfaf"), looks := false }, kinds := [], alts := [], laidByText := true, laidKinds := [.data], laidTests := true, laidLooks := .later }
def FrameFreshCardSaid : Prop := Claim7.holds Tryd.pinned (.plain (OpenSpec.ofChange frameFreshSpec)) frameFreshCard

/-- THE SECOND FORM's CARD OF 'arrearslaw6.FrameCutAgain'. -/
def frameCutAgainUptoCard : Claim7 := { stood := { row := frameCutAgainUptoRow, standIns := [], harness := (true, "8cb8042b507700834068bccb9d5fa7a2235a69fac8df3fcf2c2e059ab4e4bfaf"), looks := false }, kinds := [], alts := [], laidByText := true, laidKinds := [.data], laidTests := true, laidLooks := .later }
def FrameCutAgainUptoCardSaid : Prop := Claim7.holds Tryd.pinned (.plain (OpenSpec.upto frameCutAgainSpec)) frameCutAgainUptoCard

/-- THE SECOND FORM's CARD OF 'arrearslaw6.FrameSpoilt'. -/
def frameSpoiltUptoCard : Claim7 := { stood := { row := frameSpoiltUptoRow, standIns := [], harness := (true, "8cb8042b507700834068bccb9d5fa7a2235a69fac8df3fcf2c2e059ab4e4bfaf"), looks := false }, kinds := [], alts := [], laidByText := true, laidKinds := [.data], laidTests := true, laidLooks := .later }
def FrameSpoiltUptoCardSaid : Prop := Claim7.holds Tryd.pinned (.plain (OpenSpec.upto frameSpoiltSpec)) frameSpoiltUptoCard

/-- THE SECOND FORM's CARD OF 'arrearslaw6.FrameTorn'. -/
def frameTornUptoCard : Claim7 := { stood := { row := frameTornUptoRow, standIns := [], harness := (true, "8cb8042b507700834068bccb9d5fa7a2235a69fac8df3fcf2c2e059ab4e4bfaf"), looks := false }, kinds := [], alts := [], laidByText := true, laidKinds := [.data], laidTests := true, laidLooks := .later }
def FrameTornUptoCardSaid : Prop := Claim7.holds Tryd.pinned (.plain (OpenSpec.upto frameTornSpec)) frameTornUptoCard

/-- THE SECOND FORM's CARD OF 'arrearslaw6.FrameDecodes'. -/
def frameDecodesUptoCard : Claim7 := { stood := { row := frameDecodesUptoRow, standIns := [], harness := (true, "8cb8042b507700834068bccb9d5fa7a2235a69fac8df3fcf2c2e059ab4e4bfaf"), looks := false }, kinds := [], alts := [], laidByText := true, laidKinds := [.data], laidTests := true, laidLooks := .later }
def FrameDecodesUptoCardSaid : Prop := Claim7.holds Tryd.pinned (.plain (OpenSpec.upto frameDecodesSpec)) frameDecodesUptoCard

/-- THE SECOND FORM's CARD OF 'arrearslaw6.FrameGoesOn'. -/
def frameGoesOnUptoCard : Claim7 := { stood := { row := frameGoesOnUptoRow, standIns := [], harness := (true, "8cb8042b507700834068bccb9d5fa7a2235a69fac8df3fcf2c2e059ab4e4bfaf"), looks := false }, kinds := [], alts := [], laidByText := true, laidKinds := [.data], laidTests := true, laidLooks := .later }
def FrameGoesOnUptoCardSaid : Prop := Claim7.holds Tryd.pinned (.plain (OpenSpec.upto frameGoesOnSpec)) frameGoesOnUptoCard

/-- THE SECOND FORM's CARD OF 'arrearslaw6.FrameFresh'. -/
def frameFreshUptoCard : Claim7 := { stood := { row := frameFreshUptoRow, standIns := [], harness := (true, "8cb8042b507700834068bccb9d5fa7a2235a69fac8df3fcf2c2e059ab4e4bfaf"), looks := false }, kinds := [], alts := [], laidByText := true, laidKinds := [.data], laidTests := true, laidLooks := .later }
def FrameFreshUptoCardSaid : Prop := Claim7.holds Tryd.pinned (.plain (OpenSpec.upto frameFreshSpec)) frameFreshUptoCard
end Rows
end Go.Proofs.YtbalmfghihgmgacDoor
