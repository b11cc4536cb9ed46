/-
  DERIVED. GIVEN WITH THE SEED: THE CARDS: each row of YtnpcinjdbeilkaaDoorRows.lean that lists a variable, with what it lists TIED to the program's text (the seventh form; the later family's looks); each row that meets fmt, with fmt's text TOLD by the authors' own Lean function (tested against real Go, not proved from fmt's source: count such statements apart). THE CARD IS WHAT COUNTS. Prove the row's statement (the work); the ties are given (YtnpcinjdbeilkaaDoorTie.lean); close each card by the builder's one call (the guide's Derived/Test/ToyasCard.lean, 'card_holds'). Laid BY PROGRAM, IN A SANDBOX (cutbox-door.mjs). By AI agents, Wed Nov 11 2026. No macro, syntax, notation, axiom, sorry.
-/
import Derived.Test.YtnpcinjdbeilkaaDoorRows
import GoSem.ClaimSeven
namespace Go.Proofs.YtnpcinjdbeilkaaDoor
namespace Rows

/-- THE TIED CARD OF 'springlaw.Reads'. -/
def readsCard : Claim7 := { stood := { row := readsRow, standIns := [], harness := (true, "5e57c1eb1dd37d4aad0a163e6e0de0a1f2f40b30589f75d868d28fa3b33dc479"), looks := true }, kinds := [], alts := [], goes := true, laidByText := true, laidKinds := [.handle, .sentinel, .sentinel, .sentinel, .sentinel, .sentinel, .sentinel, .sentinel, .sentinel, .sentinel, .sentinel, .sentinel], laidTests := true, laidLooks := .later }
def ReadsCardSaid : Prop := Claim7.holds Tryd.pinned (.plain (OpenSpec.ofChange readsSpec)) readsCard

/-- THE TIED CARD OF 'springlaw.Catches'. -/
def catchesCard : Claim7 := { stood := { row := catchesRow, standIns := [], harness := (true, "5e57c1eb1dd37d4aad0a163e6e0de0a1f2f40b30589f75d868d28fa3b33dc479"), looks := true }, kinds := [], alts := [], goes := true, laidByText := true, laidKinds := [.data, .handle, .sentinel, .sentinel, .sentinel, .sentinel, .sentinel, .sentinel, .sentinel, .sentinel, .sentinel, .sentinel, .sentinel], laidTests := true, laidLooks := .later }
def CatchesCardSaid : Prop := Claim7.holds Tryd.pinned (.plain (OpenSpec.ofChange catchesSpec)) catchesCard

/-- THE TIED CARD OF 'springlaw.Told'. -/
def toldCard : Claim7 := { stood := { row := toldRow, standIns := [], harness := (true, "5e57c1eb1dd37d4aad0a163e6e0de0a1f2f40b30589f75d868d28fa3b33dc479"), looks := true }, kinds := [], alts := [], goes := true, laidByText := true, laidKinds := [.data, .handle, .sentinel, .sentinel, .sentinel, .sentinel, .sentinel, .sentinel, .sentinel, .sentinel, .sentinel, .sentinel, .sentinel], laidTests := true, laidLooks := .later }
def ToldCardSaid : Prop := Claim7.holds Tryd.pinned (.plain (OpenSpec.ofChange toldSpec)) toldCard

/-- THE TIED CARD OF 'springlaw.Anyhow'. -/
def anyhowCard : Claim7 := { stood := { row := anyhowRow, standIns := [], harness := (true, "5e57c1eb1dd37d4aad0a163e6e0de0a1f2f40b30589f75d868d28fa3b33dc479"), looks := true }, kinds := [], alts := [], goes := true, laidByText := true, laidKinds := [.data, .handle, .sentinel, .sentinel, .sentinel, .sentinel, .sentinel, .sentinel, .sentinel, .sentinel, .sentinel, .sentinel, .sentinel], laidTests := true, laidLooks := .later }
def AnyhowCardSaid : Prop := Claim7.holds Tryd.pinned (.plain (OpenSpec.ofChange anyhowSpec)) anyhowCard

/-- THE TIED CARD OF 'springlaw.More'. -/
def moreCard : Claim7 := { stood := { row := moreRow, standIns := [], harness := (true, "5e57c1eb1dd37d4aad0a163e6e0de0a1f2f40b30589f75d868d28fa3b33dc479"), looks := true }, kinds := [], alts := [], goes := true, laidByText := true, laidKinds := [.data, .handle, .sentinel, .sentinel, .sentinel, .sentinel, .sentinel, .sentinel, .sentinel, .sentinel, .sentinel, .sentinel, .sentinel], laidTests := true, laidLooks := .later }
def MoreCardSaid : Prop := Claim7.holds Tryd.pinned (.plain (OpenSpec.ofChange moreSpec)) moreCard

/-- THE TIED CARD OF 'springlaw.Leaves'. -/
def leavesCard : Claim7 := { stood := { row := leavesRow, standIns := [], harness := (true, "5e57c1eb1dd37d4aad0a163e6e0de0a1f2f40b30589f75d868d28fa3b33dc479"), looks := true }, kinds := [], alts := [], goes := true, laidByText := true, laidKinds := [.data, .handle, .sentinel, .sentinel, .sentinel, .sentinel, .sentinel, .sentinel, .sentinel, .sentinel, .sentinel, .sentinel, .sentinel], laidTests := true, laidLooks := .later }
def LeavesCardSaid : Prop := Claim7.holds Tryd.pinned (.plain (OpenSpec.ofChange leavesSpec)) leavesCard

/-- THE SECOND FORM's CARD OF 'springlaw.Reads'. -/
def readsUptoCard : Claim7 := { stood := { row := readsUptoRow, standIns := [], harness := (true, "5e57c1eb1dd37d4aad0a163e6e0de0a1f2f40b30589f75d868d28fa3b33dc479"), looks := true }, kinds := [], alts := [], goes := true, laidByText := true, laidKinds := [.handle, .sentinel, .sentinel, .sentinel, .sentinel, .sentinel, .sentinel, .sentinel, .sentinel, .sentinel, .sentinel, .sentinel], laidTests := true, laidLooks := .later }
def ReadsUptoCardSaid : Prop := Claim7.holds Tryd.pinned (.plain (OpenSpec.upto readsSpec)) readsUptoCard

/-- THE SECOND FORM's CARD OF 'springlaw.Catches'. -/
def catchesUptoCard : Claim7 := { stood := { row := catchesUptoRow, standIns := [], harness := (true, "5e57c1eb1dd37d4aad0a163e6e0de0a1f2f40b30589f75d868d28fa3b33dc479"), looks := true }, kinds := [], alts := [], goes := true, laidByText := true, laidKinds := [.data, .handle, .sentinel, .sentinel, .sentinel, .sentinel, .sentinel, .sentinel, .sentinel, .sentinel, .sentinel, .sentinel, .sentinel], laidTests := true, laidLooks := .later }
def CatchesUptoCardSaid : Prop := Claim7.holds Tryd.pinned (.plain (OpenSpec.upto catchesSpec)) catchesUptoCard

/-- THE SECOND FORM's CARD OF 'springlaw.Told'. -/
def toldUptoCard : Claim7 := { stood := { row := toldUptoRow, standIns := [], harness := (true, "5e57c1eb1dd37d4aad0a163e6e0de0a1f2f40b30589f75d868d28fa3b33dc479"), looks := true }, kinds := [], alts := [], goes := true, laidByText := true, laidKinds := [.data, .handle, .sentinel, .sentinel, .sentinel, .sentinel, .sentinel, .sentinel, .sentinel, .sentinel, .sentinel, .sentinel, .sentinel], laidTests := true, laidLooks := .later }
def ToldUptoCardSaid : Prop := Claim7.holds Tryd.pinned (.plain (OpenSpec.upto toldSpec)) toldUptoCard

/-- THE SECOND FORM's CARD OF 'springlaw.Anyhow'. -/
def anyhowUptoCard : Claim7 := { stood := { row := anyhowUptoRow, standIns := [], harness := (true, "5e57c1eb1dd37d4aad0a163e6e0de0a1f2f40b30589f75d868d28fa3b33dc479"), looks := true }, kinds := [], alts := [], goes := true, laidByText := true, laidKinds := [.data, .handle, .sentinel, .sentinel, .sentinel, .sentinel, .sentinel, .sentinel, .sentinel, .sentinel, .sentinel, .sentinel, .sentinel], laidTests := true, laidLooks := .later }
def AnyhowUptoCardSaid : Prop := Claim7.holds Tryd.pinned (.plain (OpenSpec.upto anyhowSpec)) anyhowUptoCard

/-- THE SECOND FORM's CARD OF 'springlaw.More'. -/
def moreUptoCard : Claim7 := { stood := { row := moreUptoRow, standIns := [], harness := (true, "5e57c1eb1dd37d4aad0a163e6e0de0a1f2f40b30589f75d868d28fa3b33dc479"), looks := true }, kinds := [], alts := [], goes := true, laidByText := true, laidKinds := [.data, .handle, .sentinel, .sentinel, .sentinel, .sentinel, .sentinel, .sentinel, .sentinel, .sentinel, .sentinel, .sentinel, .sentinel], laidTests := true, laidLooks := .later }
def MoreUptoCardSaid : Prop := Claim7.holds Tryd.pinned (.plain (OpenSpec.upto moreSpec)) moreUptoCard

/-- THE SECOND FORM's CARD OF 'springlaw.Leaves'. -/
def leavesUptoCard : Claim7 := { stood := { row := leavesUptoRow, standIns := [], harness := (true, "5e57c1eb1dd37d4aad0a163e6e0de0a1f2f40b30589f75d868d28fa3b33dc479"), looks := true }, kinds := [], alts := [], goes := true, laidByText := true, laidKinds := [.data, .handle, .sentinel, .sentinel, .sentinel, .sentinel, .sentinel, .sentinel, .sentinel, .sentinel, .sentinel, .sentinel, .sentinel], laidTests := true, laidLooks := .later }
def LeavesUptoCardSaid : Prop := Claim7.holds Tryd.pinned (.plain (OpenSpec.upto leavesSpec)) leavesUptoCard
end Rows
end Go.Proofs.YtnpcinjdbeilkaaDoor
