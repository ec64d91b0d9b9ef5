/- What later texts need of the earlier layers. -/
import Derived.Test.YtoicpidiejhjeaaChecked
import Derived.WalkKit
import Derived.Below
import Derived.Lib.Hide
import Derived.LoopTactic
import Derived.Outline
import Derived.Laws.BytesString
import Derived.Laws.BytesArg
import Derived.Laws.BitsAllLaws
import Derived.Laws.BitsLemmas
import Derived.BigQuiet
import Derived.Deep.QuietTactic
import Derived.Laws.MakeOwn
import Derived.Lib.BufferWrite
import Derived.Laws.CopyOwn
import Derived.Deep.RegionWith
import Derived.Laws.AppendOwn
import Derived.OwnWalk
/- ---- MOctA ---- -/
/- Contracts of package octets, and its mathematics. -/
/- ---- OctMath ---- -/
namespace Go.Proofs.Ytoicpidiejhjeaa
set_option linter.unusedVariables false
set_option linter.unusedSimpArgs false
namespace Oct

def bigs : Nat → Nat → List UInt8
  | 0, _ => []
  | f + 1, n => if n = 0 then [] else bigs f (n / 256) ++ [UInt8.ofNat (n % 256)]
def num (n : Nat) : List UInt8 := UInt8.ofNat (bigs 8 n).length :: bigs 8 n
def text (s : List UInt8) : List UInt8 := num s.length ++ s
theorem bigs_len (f n : Nat) : (bigs f n).length ≤ f := by
  induction f generalizing n with
  | zero => simp [bigs]
  | succ f ih =>
    unfold bigs
    split
    · simp
    · have := ih (n / 256)
      simp; omega
theorem num_length (n : Nat) : (num n).length = (bigs 8 n).length + 1 := by simp [num]
theorem num_length_le (n : Nat) : (num n).length ≤ 9 := by have := bigs_len 8 n; rw [num_length]; omega
def textE (s : List UInt8) : List UInt8 × Int := if 65536 < s.length then ([], 3) else (text s, 0)
/-- the texts of a list, one behind the other: none where they are more than 'left' bytes -/
def listGo : Nat → List (List UInt8) → Option (List UInt8)
  | _, [] => some []
  | left, s :: r => if left < s.length then none else (listGo (left - s.length) r).map (text s ++ ·)
def listE (l : List (List UInt8)) : List UInt8 × Int :=
  if 1024 < l.length then ([], 3) else
    match listGo 65536 l with
    | none => ([], 3)
    | some b => (num l.length ++ b, 0)
end Oct
end Go.Proofs.Ytoicpidiejhjeaa

/- ---- OctNum ---- -/
namespace Go.Proofs.Ytoicpidiejhjeaa
open Go.RowKit
set_option linter.unusedVariables false
set_option linter.unusedSimpArgs false

end Go.Proofs.Ytoicpidiejhjeaa

/- ---- OctSpec ---- -/
namespace Go.Proofs.Ytoicpidiejhjeaa
set_option linter.unusedVariables false
set_option linter.unusedSimpArgs false
namespace Oct
end Oct
end Go.Proofs.Ytoicpidiejhjeaa

/- ---- OctRdn ---- -/
namespace Go.Proofs.Ytoicpidiejhjeaa
open Go.RowKit
set_option linter.unusedVariables false
set_option linter.unusedSimpArgs false

end Go.Proofs.Ytoicpidiejhjeaa

/- ---- OctJoin ---- -/
namespace Go.Proofs.Ytoicpidiejhjeaa
open Go.RowKit
set_option linter.unusedVariables false
set_option linter.unusedSimpArgs false

abbrev S (l : List UInt8) : Value := .string ⟨l.toArray⟩
end Go.Proofs.Ytoicpidiejhjeaa

/- ---- OctText ---- -/
namespace Go.Proofs.Ytoicpidiejhjeaa
open Go.RowKit
set_option linter.unusedVariables false
set_option linter.unusedSimpArgs false

end Go.Proofs.Ytoicpidiejhjeaa

/- ---- OctRdl ---- -/
namespace Go.Proofs.Ytoicpidiejhjeaa
open Go.RowKit
set_option linter.unusedVariables false
set_option linter.unusedSimpArgs false

end Go.Proofs.Ytoicpidiejhjeaa

/- ---- OctList ---- -/
namespace Go.Proofs.Ytoicpidiejhjeaa
open Go.RowKit
set_option linter.unusedVariables false
set_option linter.unusedSimpArgs false

end Go.Proofs.Ytoicpidiejhjeaa
