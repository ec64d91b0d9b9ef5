/-
  DERIVED. GIVEN WITH THE SEED: THE CARDS: each row of YtoicpidiejhjeaaDoorRows.lean that lists a variable, with what it lists TIED to the program's text (the seventh form; the later family's looks); each row that meets fmt, with fmt's text TOLD by the authors' own Lean function (tested against real Go, not proved from fmt's source: count such statements apart). THE CARD IS WHAT COUNTS. Prove the row's statement (the work); the ties are given (YtoicpidiejhjeaaDoorTie.lean); close each card by the builder's one call (the guide's Derived/Test/ToyasCard.lean, 'card_holds'). Laid BY PROGRAM, IN A SANDBOX (cutbox-door.mjs). By AI agents, Wed Nov 11 2026. No macro, syntax, notation, axiom, sorry.
-/
import Derived.Test.YtoicpidiejhjeaaDoorRows
import GoSem.ClaimSeven
namespace Go.Proofs.YtoicpidiejhjeaaDoor
namespace Rows

/-- THE TIED CARD OF 'cavalcadelaw17.AdmitNames'. -/
def admitNamesCard : Claim7 := { stood := { row := admitNamesRow, standIns := [], harness := (true, "991cf7e195e5889912208f922c935d85b7c44e0ea3d67de9b34df3ab508a27af"), looks := false }, kinds := [], alts := [], laidByText := true, laidKinds := [.data], laidTests := true, laidLooks := .later }
def AdmitNamesCardSaid : Prop := Claim7.holds Tryd.pinned (.plain (OpenSpec.ofChange admitNamesSpec)) admitNamesCard

/-- THE TIED CARD OF 'cavalcadelaw17.AdmitApart'. -/
def admitApartCard : Claim7 := { stood := { row := admitApartRow, standIns := [], harness := (true, "991cf7e195e5889912208f922c935d85b7c44e0ea3d67de9b34df3ab508a27af"), looks := false }, kinds := [], alts := [], laidByText := true, laidKinds := [.data], laidTests := true, laidLooks := .later }
def AdmitApartCardSaid : Prop := Claim7.holds Tryd.pinned (.plain (OpenSpec.ofChange admitApartSpec)) admitApartCard

/-- THE TIED CARD OF 'cavalcadelaw17.AdmitNone'. -/
def admitNoneCard : Claim7 := { stood := { row := admitNoneRow, standIns := [], harness := (true, "991cf7e195e5889912208f922c935d85b7c44e0ea3d67de9b34df3ab508a27af"), looks := false }, kinds := [], alts := [], laidByText := true, laidKinds := [.data], laidTests := true, laidLooks := .later }
def AdmitNoneCardSaid : Prop := Claim7.holds Tryd.pinned (.plain (OpenSpec.ofChange admitNoneSpec)) admitNoneCard

/-- THE SECOND FORM's CARD OF 'cavalcadelaw17.AdmitNames'. -/
def admitNamesUptoCard : Claim7 := { stood := { row := admitNamesUptoRow, standIns := [], harness := (true, "991cf7e195e5889912208f922c935d85b7c44e0ea3d67de9b34df3ab508a27af"), looks := false }, kinds := [], alts := [], laidByText := true, laidKinds := [.data], laidTests := true, laidLooks := .later }
def AdmitNamesUptoCardSaid : Prop := Claim7.holds Tryd.pinned (.plain (OpenSpec.upto admitNamesSpec)) admitNamesUptoCard

/-- THE SECOND FORM's CARD OF 'cavalcadelaw17.AdmitApart'. -/
def admitApartUptoCard : Claim7 := { stood := { row := admitApartUptoRow, standIns := [], harness := (true, "991cf7e195e5889912208f922c935d85b7c44e0ea3d67de9b34df3ab508a27af"), looks := false }, kinds := [], alts := [], laidByText := true, laidKinds := [.data], laidTests := true, laidLooks := .later }
def AdmitApartUptoCardSaid : Prop := Claim7.holds Tryd.pinned (.plain (OpenSpec.upto admitApartSpec)) admitApartUptoCard

/-- THE SECOND FORM's CARD OF 'cavalcadelaw17.AdmitNone'. -/
def admitNoneUptoCard : Claim7 := { stood := { row := admitNoneUptoRow, standIns := [], harness := (true, "991cf7e195e5889912208f922c935d85b7c44e0ea3d67de9b34df3ab508a27af"), looks := false }, kinds := [], alts := [], laidByText := true, laidKinds := [.data], laidTests := true, laidLooks := .later }
def AdmitNoneUptoCardSaid : Prop := Claim7.holds Tryd.pinned (.plain (OpenSpec.upto admitNoneSpec)) admitNoneUptoCard
end Rows
end Go.Proofs.YtoicpidiejhjeaaDoor
