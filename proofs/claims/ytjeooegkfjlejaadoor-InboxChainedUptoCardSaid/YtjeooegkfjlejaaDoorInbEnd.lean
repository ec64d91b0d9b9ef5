/- InboxMessages and InboxChained over blocks as they come in. -/
import Derived.Test.YtjeooegkfjlejaaDoorInbLaw3
import Derived.Test.YtjeooegkfjlejaaDoorInbBv
namespace Go.Proofs.YtjeooegkfjlejaaDoor
open Go.RowKit
set_option linter.unusedVariables false
set_option linter.unusedSimpArgs false

theorem inboxMessages_bv (hRS : RefSum) (A : Option Addr) (c : Nat) (l : List Bv) (w : World) (hi : BvIn w w.heap.size A c l) (hf : ∀ x ∈ l, x.Fits) (hl : l.length ≤ 9223372036854775807) (htot : Inb.tot (bks l) ≤ 3000000) (hT : Tab w) :
    Calls Tryd.prog 9 #[.slice A l.length c] w fun e w' => e = .returned (.bool true) ∧ Below w.heap.size w w' := by
  have := inboxMessages_any hRS A c (bks l) w (BvsAt.bks hi.1 hf) (bks_num hf) (by rw [bks_len]; exact hi.2.2) (by rw [bks_len]; exact hl) htot hT
  rw [bks_len] at this
  exact this
theorem inboxChained_bv (hRS : RefSum) (A : Option Addr) (c : Nat) (l : List Bv) (w : World) (hi : BvIn w w.heap.size A c l) (hf : ∀ x ∈ l, x.Fits) (hl : l.length ≤ 9223372036854775807) (htot : Inb.tot (bks l) ≤ 3000000) (hT : Tab w) :
    Calls Tryd.prog 12 #[.slice A l.length c] w fun e w' => e = .returned (.bool true) ∧ Below w.heap.size w w' := by
  have := inboxChained_any hRS A c (bks l) w (BvsAt.bks hi.1 hf) (bks_num hf) (by rw [bks_len]; exact hi.2.2) (by rw [bks_len]; exact hl) htot hT
  rw [bks_len] at this
  exact this
end Go.Proofs.YtjeooegkfjlejaaDoor
