/-
  DERIVED. GIVEN WITH THE SEED: THE CARDS: each row of YtgdijbcoacgadaaDoorRows.lean that lists a variable, with what it lists TIED to the program's text (the seventh form; the later family's looks); each row that meets fmt, with fmt's text TOLD by the authors' own Lean function (tested against real Go, not proved from fmt's source: count such statements apart). THE CARD IS WHAT COUNTS. Prove the row's statement (the work); the ties are given (YtgdijbcoacgadaaDoorTie.lean); close each card by the builder's one call (the guide's Derived/Test/ToyasCard.lean, 'card_holds'). Laid BY PROGRAM, IN A SANDBOX (cutbox-door.mjs). By AI agents, Wed Nov 11 2026. No macro, syntax, notation, axiom, sorry.
-/
import Derived.Test.YtgdijbcoacgadaaDoorRows
import GoSem.ClaimSeven
namespace Go.Proofs.YtgdijbcoacgadaaDoor
namespace Rows

/-- THE TIED CARD OF 'cavalcadelaw19.OrderDoes'. -/
def orderDoesCard : Claim7 := { stood := { row := orderDoesRow, standIns := [], harness := (true, "7b6a525d1641c09bba28ab3dcbd5b8204f23256227575f11eae4d8b5a545e0ac"), looks := false }, kinds := [], alts := [], laidByText := true, laidKinds := [.data], laidTests := true, laidLooks := .later }
def OrderDoesCardSaid : Prop := Claim7.holds Tryd.pinned (.plain (OpenSpec.ofChange orderDoesSpec)) orderDoesCard

/-- THE TIED CARD OF 'cavalcadelaw19.OrderChained'. -/
def orderChainedCard : Claim7 := { stood := { row := orderChainedRow, standIns := [], harness := (true, "7b6a525d1641c09bba28ab3dcbd5b8204f23256227575f11eae4d8b5a545e0ac"), looks := false }, kinds := [], alts := [], laidByText := true, laidKinds := [.data], laidTests := true, laidLooks := .later }
def OrderChainedCardSaid : Prop := Claim7.holds Tryd.pinned (.plain (OpenSpec.ofChange orderChainedSpec)) orderChainedCard

/-- THE TIED CARD OF 'cavalcadelaw19.OrderLoads'. -/
def orderLoadsCard : Claim7 := { stood := { row := orderLoadsRow, standIns := [], harness := (true, "7b6a525d1641c09bba28ab3dcbd5b8204f23256227575f11eae4d8b5a545e0ac"), looks := false }, kinds := [], alts := [], laidByText := true, laidKinds := [.data], laidTests := true, laidLooks := .later }
def OrderLoadsCardSaid : Prop := Claim7.holds Tryd.pinned (.plain (OpenSpec.ofChange orderLoadsSpec)) orderLoadsCard

/-- THE TIED CARD OF 'cavalcadelaw19.OrderTurned'. -/
def orderTurnedCard : Claim7 := { stood := { row := orderTurnedRow, standIns := [], harness := (true, "7b6a525d1641c09bba28ab3dcbd5b8204f23256227575f11eae4d8b5a545e0ac"), looks := false }, kinds := [], alts := [], laidByText := true, laidKinds := [.data], laidTests := true, laidLooks := .later }
def OrderTurnedCardSaid : Prop := Claim7.holds Tryd.pinned (.plain (OpenSpec.ofChange orderTurnedSpec)) orderTurnedCard

/-- THE TIED CARD OF 'cavalcadelaw19.OrderNone'. -/
def orderNoneCard : Claim7 := { stood := { row := orderNoneRow, standIns := [], harness := (true, "7b6a525d1641c09bba28ab3dcbd5b8204f23256227575f11eae4d8b5a545e0ac"), looks := false }, kinds := [], alts := [], laidByText := true, laidKinds := [.data], laidTests := true, laidLooks := .later }
def OrderNoneCardSaid : Prop := Claim7.holds Tryd.pinned (.plain (OpenSpec.ofChange orderNoneSpec)) orderNoneCard

/-- THE SECOND FORM's CARD OF 'cavalcadelaw19.OrderDoes'. -/
def orderDoesUptoCard : Claim7 := { stood := { row := orderDoesUptoRow, standIns := [], harness := (true, "7b6a525d1641c09bba28ab3dcbd5b8204f23256227575f11eae4d8b5a545e0ac"), looks := false }, kinds := [], alts := [], laidByText := true, laidKinds := [.data], laidTests := true, laidLooks := .later }
def OrderDoesUptoCardSaid : Prop := Claim7.holds Tryd.pinned (.plain (OpenSpec.upto orderDoesSpec)) orderDoesUptoCard

/-- THE SECOND FORM's CARD OF 'cavalcadelaw19.OrderChained'. -/
def orderChainedUptoCard : Claim7 := { stood := { row := orderChainedUptoRow, standIns := [], harness := (true, "7b6a525d1641c09bba28ab3dcbd5b8204f23256227575f11eae4d8b5a545e0ac"), looks := false }, kinds := [], alts := [], laidByText := true, laidKinds := [.data], laidTests := true, laidLooks := .later }
def OrderChainedUptoCardSaid : Prop := Claim7.holds Tryd.pinned (.plain (OpenSpec.upto orderChainedSpec)) orderChainedUptoCard

/-- THE SECOND FORM's CARD OF 'cavalcadelaw19.OrderLoads'. -/
def orderLoadsUptoCard : Claim7 := { stood := { row := orderLoadsUptoRow, standIns := [], harness := (true, "7b6a525d1641c09bba28ab3dcbd5b8204f23256227575f11eae4d8b5a545e0ac"), looks := false }, kinds := [], alts := [], laidByText := true, laidKinds := [.data], laidTests := true, laidLooks := .later }
def OrderLoadsUptoCardSaid : Prop := Claim7.holds Tryd.pinned (.plain (OpenSpec.upto orderLoadsSpec)) orderLoadsUptoCard

/-- THE SECOND FORM's CARD OF 'cavalcadelaw19.OrderTurned'. -/
def orderTurnedUptoCard : Claim7 := { stood := { row := orderTurnedUptoRow, standIns := [], harness := (true, "7b6a525d1641c09bba28ab3dcbd5b8204f23256227575f11eae4d8b5a545e0ac"), looks := false }, kinds := [], alts := [], laidByText := true, laidKinds := [.data], laidTests := true, laidLooks := .later }
def OrderTurnedUptoCardSaid : Prop := Claim7.holds Tryd.pinned (.plain (OpenSpec.upto orderTurnedSpec)) orderTurnedUptoCard

/-- THE SECOND FORM's CARD OF 'cavalcadelaw19.OrderNone'. -/
def orderNoneUptoCard : Claim7 := { stood := { row := orderNoneUptoRow, standIns := [], harness := (true, "7b6a525d1641c09bba28ab3dcbd5b8204f23256227575f11eae4d8b5a545e0ac"), looks := false }, kinds := [], alts := [], laidByText := true, laidKinds := [.data], laidTests := true, laidLooks := .later }
def OrderNoneUptoCardSaid : Prop := Claim7.holds Tryd.pinned (.plain (OpenSpec.upto orderNoneSpec)) orderNoneUptoCard
end Rows
end Go.Proofs.YtgdijbcoacgadaaDoor
