/-
  DERIVED. GIVEN WITH THE SEED: THE CARDS: each row of YtjeooegkfjlejaaDoorRows.lean that lists a variable, with what it lists TIED to the program's text (the seventh form; the later family's looks); each row that meets fmt, with fmt's text TOLD by the authors' own Lean function (tested against real Go, not proved from fmt's source: count such statements apart). THE CARD IS WHAT COUNTS. Prove the row's statement (the work); the ties are given (YtjeooegkfjlejaaDoorTie.lean); close each card by the builder's one call (the guide's Derived/Test/ToyasCard.lean, 'card_holds'). Laid BY PROGRAM, IN A SANDBOX (cutbox-door.mjs). By AI agents, Wed Nov 11 2026. No macro, syntax, notation, axiom, sorry.
-/
import Derived.Test.YtjeooegkfjlejaaDoorRows
import GoSem.ClaimSeven
namespace Go.Proofs.YtjeooegkfjlejaaDoor
namespace Rows

/-- THE TIED CARD OF 'cavalcadelaw11.TreeDoes'. -/
def treeDoesCard : Claim7 := { stood := { row := treeDoesRow, standIns := [], harness := (true, "400833122b4ca1e8c823ef6371a0464be7c0caac2952fead6869338476188861"), looks := false }, kinds := [], alts := [], laidByText := true, laidKinds := [.data], laidTests := true, laidLooks := .later }
def TreeDoesCardSaid : Prop := Claim7.holds Tryd.pinned (.plain (OpenSpec.ofChange treeDoesSpec)) treeDoesCard

/-- THE TIED CARD OF 'cavalcadelaw11.TreeHashes'. -/
def treeHashesCard : Claim7 := { stood := { row := treeHashesRow, standIns := [], harness := (true, "400833122b4ca1e8c823ef6371a0464be7c0caac2952fead6869338476188861"), looks := false }, kinds := [], alts := [], laidByText := true, laidKinds := [.data], laidTests := true, laidLooks := .later }
def TreeHashesCardSaid : Prop := Claim7.holds Tryd.pinned (.plain (OpenSpec.ofChange treeHashesSpec)) treeHashesCard

/-- THE TIED CARD OF 'cavalcadelaw11.TreeLinked'. -/
def treeLinkedCard : Claim7 := { stood := { row := treeLinkedRow, standIns := [], harness := (true, "400833122b4ca1e8c823ef6371a0464be7c0caac2952fead6869338476188861"), looks := false }, kinds := [], alts := [], laidByText := true, laidKinds := [.data], laidTests := true, laidLooks := .later }
def TreeLinkedCardSaid : Prop := Claim7.holds Tryd.pinned (.plain (OpenSpec.ofChange treeLinkedSpec)) treeLinkedCard

/-- THE TIED CARD OF 'cavalcadelaw11.TreeFinal'. -/
def treeFinalCard : Claim7 := { stood := { row := treeFinalRow, standIns := [], harness := (true, "400833122b4ca1e8c823ef6371a0464be7c0caac2952fead6869338476188861"), looks := false }, kinds := [], alts := [], laidByText := true, laidKinds := [.data], laidTests := true, laidLooks := .later }
def TreeFinalCardSaid : Prop := Claim7.holds Tryd.pinned (.plain (OpenSpec.ofChange treeFinalSpec)) treeFinalCard

/-- THE TIED CARD OF 'cavalcadelaw11.TreeRefused'. -/
def treeRefusedCard : Claim7 := { stood := { row := treeRefusedRow, standIns := [], harness := (true, "400833122b4ca1e8c823ef6371a0464be7c0caac2952fead6869338476188861"), looks := false }, kinds := [], alts := [], laidByText := true, laidKinds := [.data], laidTests := true, laidLooks := .later }
def TreeRefusedCardSaid : Prop := Claim7.holds Tryd.pinned (.plain (OpenSpec.ofChange treeRefusedSpec)) treeRefusedCard

/-- THE TIED CARD OF 'cavalcadelaw11.TreeNone'. -/
def treeNoneCard : Claim7 := { stood := { row := treeNoneRow, standIns := [], harness := (true, "400833122b4ca1e8c823ef6371a0464be7c0caac2952fead6869338476188861"), looks := false }, kinds := [], alts := [], laidByText := true, laidKinds := [.data], laidTests := true, laidLooks := .later }
def TreeNoneCardSaid : Prop := Claim7.holds Tryd.pinned (.plain (OpenSpec.ofChange treeNoneSpec)) treeNoneCard

/-- THE TIED CARD OF 'cavalcadelaw12.InboxMessages'. -/
def inboxMessagesCard : Claim7 := { stood := { row := inboxMessagesRow, standIns := [], harness := (true, "400833122b4ca1e8c823ef6371a0464be7c0caac2952fead6869338476188861"), looks := false }, kinds := [], alts := [], laidByText := true, laidKinds := [.data], laidTests := true, laidLooks := .later }
def InboxMessagesCardSaid : Prop := Claim7.holds Tryd.pinned (.plain (OpenSpec.ofChange inboxMessagesSpec)) inboxMessagesCard

/-- THE TIED CARD OF 'cavalcadelaw12.InboxReach'. -/
def inboxReachCard : Claim7 := { stood := { row := inboxReachRow, standIns := [], harness := (true, "400833122b4ca1e8c823ef6371a0464be7c0caac2952fead6869338476188861"), looks := false }, kinds := [], alts := [], laidByText := true, laidKinds := [.data], laidTests := true, laidLooks := .later }
def InboxReachCardSaid : Prop := Claim7.holds Tryd.pinned (.plain (OpenSpec.ofChange inboxReachSpec)) inboxReachCard

/-- THE TIED CARD OF 'cavalcadelaw12.InboxGrows'. -/
def inboxGrowsCard : Claim7 := { stood := { row := inboxGrowsRow, standIns := [], harness := (true, "400833122b4ca1e8c823ef6371a0464be7c0caac2952fead6869338476188861"), looks := false }, kinds := [], alts := [], laidByText := true, laidKinds := [.data], laidTests := true, laidLooks := .later }
def InboxGrowsCardSaid : Prop := Claim7.holds Tryd.pinned (.plain (OpenSpec.ofChange inboxGrowsSpec)) inboxGrowsCard

/-- THE TIED CARD OF 'cavalcadelaw12.InboxChained'. -/
def inboxChainedCard : Claim7 := { stood := { row := inboxChainedRow, standIns := [], harness := (true, "400833122b4ca1e8c823ef6371a0464be7c0caac2952fead6869338476188861"), looks := false }, kinds := [], alts := [], laidByText := true, laidKinds := [.data], laidTests := true, laidLooks := .later }
def InboxChainedCardSaid : Prop := Claim7.holds Tryd.pinned (.plain (OpenSpec.ofChange inboxChainedSpec)) inboxChainedCard

/-- THE TIED CARD OF 'cavalcadelaw12.InboxWaits'. -/
def inboxWaitsCard : Claim7 := { stood := { row := inboxWaitsRow, standIns := [], harness := (true, "400833122b4ca1e8c823ef6371a0464be7c0caac2952fead6869338476188861"), looks := false }, kinds := [], alts := [], laidByText := true, laidKinds := [.data], laidTests := true, laidLooks := .later }
def InboxWaitsCardSaid : Prop := Claim7.holds Tryd.pinned (.plain (OpenSpec.ofChange inboxWaitsSpec)) inboxWaitsCard

/-- THE SECOND FORM's CARD OF 'cavalcadelaw11.TreeDoes'. -/
def treeDoesUptoCard : Claim7 := { stood := { row := treeDoesUptoRow, standIns := [], harness := (true, "400833122b4ca1e8c823ef6371a0464be7c0caac2952fead6869338476188861"), looks := false }, kinds := [], alts := [], laidByText := true, laidKinds := [.data], laidTests := true, laidLooks := .later }
def TreeDoesUptoCardSaid : Prop := Claim7.holds Tryd.pinned (.plain (OpenSpec.upto treeDoesSpec)) treeDoesUptoCard

/-- THE SECOND FORM's CARD OF 'cavalcadelaw11.TreeHashes'. -/
def treeHashesUptoCard : Claim7 := { stood := { row := treeHashesUptoRow, standIns := [], harness := (true, "400833122b4ca1e8c823ef6371a0464be7c0caac2952fead6869338476188861"), looks := false }, kinds := [], alts := [], laidByText := true, laidKinds := [.data], laidTests := true, laidLooks := .later }
def TreeHashesUptoCardSaid : Prop := Claim7.holds Tryd.pinned (.plain (OpenSpec.upto treeHashesSpec)) treeHashesUptoCard

/-- THE SECOND FORM's CARD OF 'cavalcadelaw11.TreeLinked'. -/
def treeLinkedUptoCard : Claim7 := { stood := { row := treeLinkedUptoRow, standIns := [], harness := (true, "400833122b4ca1e8c823ef6371a0464be7c0caac2952fead6869338476188861"), looks := false }, kinds := [], alts := [], laidByText := true, laidKinds := [.data], laidTests := true, laidLooks := .later }
def TreeLinkedUptoCardSaid : Prop := Claim7.holds Tryd.pinned (.plain (OpenSpec.upto treeLinkedSpec)) treeLinkedUptoCard

/-- THE SECOND FORM's CARD OF 'cavalcadelaw11.TreeFinal'. -/
def treeFinalUptoCard : Claim7 := { stood := { row := treeFinalUptoRow, standIns := [], harness := (true, "400833122b4ca1e8c823ef6371a0464be7c0caac2952fead6869338476188861"), looks := false }, kinds := [], alts := [], laidByText := true, laidKinds := [.data], laidTests := true, laidLooks := .later }
def TreeFinalUptoCardSaid : Prop := Claim7.holds Tryd.pinned (.plain (OpenSpec.upto treeFinalSpec)) treeFinalUptoCard

/-- THE SECOND FORM's CARD OF 'cavalcadelaw11.TreeRefused'. -/
def treeRefusedUptoCard : Claim7 := { stood := { row := treeRefusedUptoRow, standIns := [], harness := (true, "400833122b4ca1e8c823ef6371a0464be7c0caac2952fead6869338476188861"), looks := false }, kinds := [], alts := [], laidByText := true, laidKinds := [.data], laidTests := true, laidLooks := .later }
def TreeRefusedUptoCardSaid : Prop := Claim7.holds Tryd.pinned (.plain (OpenSpec.upto treeRefusedSpec)) treeRefusedUptoCard

/-- THE SECOND FORM's CARD OF 'cavalcadelaw11.TreeNone'. -/
def treeNoneUptoCard : Claim7 := { stood := { row := treeNoneUptoRow, standIns := [], harness := (true, "400833122b4ca1e8c823ef6371a0464be7c0caac2952fead6869338476188861"), looks := false }, kinds := [], alts := [], laidByText := true, laidKinds := [.data], laidTests := true, laidLooks := .later }
def TreeNoneUptoCardSaid : Prop := Claim7.holds Tryd.pinned (.plain (OpenSpec.upto treeNoneSpec)) treeNoneUptoCard

/-- THE SECOND FORM's CARD OF 'cavalcadelaw12.InboxMessages'. -/
def inboxMessagesUptoCard : Claim7 := { stood := { row := inboxMessagesUptoRow, standIns := [], harness := (true, "400833122b4ca1e8c823ef6371a0464be7c0caac2952fead6869338476188861"), looks := false }, kinds := [], alts := [], laidByText := true, laidKinds := [.data], laidTests := true, laidLooks := .later }
def InboxMessagesUptoCardSaid : Prop := Claim7.holds Tryd.pinned (.plain (OpenSpec.upto inboxMessagesSpec)) inboxMessagesUptoCard

/-- THE SECOND FORM's CARD OF 'cavalcadelaw12.InboxReach'. -/
def inboxReachUptoCard : Claim7 := { stood := { row := inboxReachUptoRow, standIns := [], harness := (true, "400833122b4ca1e8c823ef6371a0464be7c0caac2952fead6869338476188861"), looks := false }, kinds := [], alts := [], laidByText := true, laidKinds := [.data], laidTests := true, laidLooks := .later }
def InboxReachUptoCardSaid : Prop := Claim7.holds Tryd.pinned (.plain (OpenSpec.upto inboxReachSpec)) inboxReachUptoCard

/-- THE SECOND FORM's CARD OF 'cavalcadelaw12.InboxGrows'. -/
def inboxGrowsUptoCard : Claim7 := { stood := { row := inboxGrowsUptoRow, standIns := [], harness := (true, "400833122b4ca1e8c823ef6371a0464be7c0caac2952fead6869338476188861"), looks := false }, kinds := [], alts := [], laidByText := true, laidKinds := [.data], laidTests := true, laidLooks := .later }
def InboxGrowsUptoCardSaid : Prop := Claim7.holds Tryd.pinned (.plain (OpenSpec.upto inboxGrowsSpec)) inboxGrowsUptoCard

/-- THE SECOND FORM's CARD OF 'cavalcadelaw12.InboxChained'. -/
def inboxChainedUptoCard : Claim7 := { stood := { row := inboxChainedUptoRow, standIns := [], harness := (true, "400833122b4ca1e8c823ef6371a0464be7c0caac2952fead6869338476188861"), looks := false }, kinds := [], alts := [], laidByText := true, laidKinds := [.data], laidTests := true, laidLooks := .later }
def InboxChainedUptoCardSaid : Prop := Claim7.holds Tryd.pinned (.plain (OpenSpec.upto inboxChainedSpec)) inboxChainedUptoCard

/-- THE SECOND FORM's CARD OF 'cavalcadelaw12.InboxWaits'. -/
def inboxWaitsUptoCard : Claim7 := { stood := { row := inboxWaitsUptoRow, standIns := [], harness := (true, "400833122b4ca1e8c823ef6371a0464be7c0caac2952fead6869338476188861"), looks := false }, kinds := [], alts := [], laidByText := true, laidKinds := [.data], laidTests := true, laidLooks := .later }
def InboxWaitsUptoCardSaid : Prop := Claim7.holds Tryd.pinned (.plain (OpenSpec.upto inboxWaitsSpec)) inboxWaitsUptoCard
end Rows
end Go.Proofs.YtjeooegkfjlejaaDoor
