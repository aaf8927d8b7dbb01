/-
  No cell of these rows narrows 'for every input' (looked for: loops, veiled, ifaces, maps, wideKeys, modest, calm, conditions, laid).
  DERIVED. THE GIVEN ROWS OF THIS SEAT. 5 by the template 'for every input the law returns true; each argument reads behind the call as it read before'; 0 by the template 'total and deterministic' (their statements: YtmbpckmpnnmnmabGreatTotals.lean).
  GIVEN WITH THE SEED: the statements are not yours to turn. If you find one false, say at which input.
  Laid BY PROGRAM, IN A SANDBOX (cutbox-rows.mjs): the forced cells as the released guide's own fill.sh prints them over the translation 64b0b92823350078… (all of the seat's roots in one cut). By AI agents, Wed Nov 11 2026. No macro, syntax, notation, axiom, sorry.
-/
import Derived.Test.YtmbpckmpnnmnmabGreatChecked
import GoSem.Claim
import GoSem.ClaimJoined
import GoSem.ClaimMapViews
import Derived.JoinedTies
import Derived.KernelRfl
namespace Go.Proofs.YtmbpckmpnnmnmabGreat
/- THE CELL 'sum', in the pinned program and in every row, IS THE sha256 OF THE DUMP (.gsa) THAT YtmbpckmpnnmnmabGreatProg.lean LOADS. Nothing in Lean hashes anything: it is a label: what it is worth is what the hold of that sum in a sandbox is worth. -/
noncomputable def Tryz.pinned : Pinned := { name := "ytmbpckmpnnmnmabgreat", sum := "64b0b92823350078e099d0caf02bfe69aac82d32f44f2af256cfdda468f98692", checked := Tryz.checked }
namespace Rows
def none {H : Type} : Left H := { results := [], args := [] }

/-- 'eiderdownlaw.SoftDoes': WHATEVER THE INPUT: true; the input reads as it did. -/
def softDoesSpec : ChangeSpec := { name := "softDoes", fn := fun _ => fun
  | [d1, d2, d3] => { results := [.lit (.bool true)], args := [d1, d2, d3] }
  | _ => none }
def softDoesRow : OpenClaim := { program := "ytmbpckmpnnmnmabgreat", sum := "64b0b92823350078e099d0caf02bfe69aac82d32f44f2af256cfdda468f98692", func := "eiderdown/eiderdownlaw.SoftDoes", spec := "softDoes", inPlace := ["internal/reflectlite.ValueOf", "internal/reflectlite.Swapper", "(internal/reflectlite.Value).Len"], unfollowed := true, recurses := true, apart := false }
def SoftDoesSaid : Prop := softDoesRow.holds Tryz.pinned (OpenSpec.ofChange softDoesSpec)

/-- ITS FALSE NEIGHBOUR: 'it returns false'. Refute it at one input. -/
def softDoesWrong : ChangeSpec := { name := "softDoes", fn := fun _ => fun
  | [d1, d2, d3] => { results := [.lit (.bool false)], args := [d1, d2, d3] }
  | _ => none }
def SoftDoesWrongFalsely : Prop := softDoesRow.holds Tryz.pinned (OpenSpec.ofChange softDoesWrong)

/-- 'eiderdownlaw.SoftIdeal': WHATEVER THE INPUT: true; the input reads as it did. -/
def softIdealSpec : ChangeSpec := { name := "softIdeal", fn := fun _ => fun
  | [d] => { results := [.lit (.bool true)], args := [d] }
  | _ => none }
def softIdealRow : OpenClaim := { program := "ytmbpckmpnnmnmabgreat", sum := "64b0b92823350078e099d0caf02bfe69aac82d32f44f2af256cfdda468f98692", func := "eiderdown/eiderdownlaw.SoftIdeal", spec := "softIdeal", inPlace := ["internal/reflectlite.ValueOf", "internal/reflectlite.Swapper", "(internal/reflectlite.Value).Len"], unfollowed := true, recurses := true, apart := false }
def SoftIdealSaid : Prop := softIdealRow.holds Tryz.pinned (OpenSpec.ofChange softIdealSpec)

/-- ITS FALSE NEIGHBOUR: 'it returns false'. Refute it at one input. -/
def softIdealWrong : ChangeSpec := { name := "softIdeal", fn := fun _ => fun
  | [d] => { results := [.lit (.bool false)], args := [d] }
  | _ => none }
def SoftIdealWrongFalsely : Prop := softIdealRow.holds Tryz.pinned (OpenSpec.ofChange softIdealWrong)

/-- 'eiderdownlaw.SoftExact': WHATEVER THE INPUT: true; the input reads as it did. -/
def softExactSpec : ChangeSpec := { name := "softExact", fn := fun _ => fun
  | [d] => { results := [.lit (.bool true)], args := [d] }
  | _ => none }
def softExactRow : OpenClaim := { program := "ytmbpckmpnnmnmabgreat", sum := "64b0b92823350078e099d0caf02bfe69aac82d32f44f2af256cfdda468f98692", func := "eiderdown/eiderdownlaw.SoftExact", spec := "softExact", inPlace := ["internal/reflectlite.ValueOf", "internal/reflectlite.Swapper", "(internal/reflectlite.Value).Len"], unfollowed := true, recurses := true, apart := false }
def SoftExactSaid : Prop := softExactRow.holds Tryz.pinned (OpenSpec.ofChange softExactSpec)

/-- ITS FALSE NEIGHBOUR: 'it returns false'. Refute it at one input. -/
def softExactWrong : ChangeSpec := { name := "softExact", fn := fun _ => fun
  | [d] => { results := [.lit (.bool false)], args := [d] }
  | _ => none }
def SoftExactWrongFalsely : Prop := softExactRow.holds Tryz.pinned (OpenSpec.ofChange softExactWrong)

/-- 'eiderdownlaw.SoftAgain': WHATEVER THE INPUT: true; the input reads as it did. -/
def softAgainSpec : ChangeSpec := { name := "softAgain", fn := fun _ => fun
  | [d] => { results := [.lit (.bool true)], args := [d] }
  | _ => none }
def softAgainRow : OpenClaim := { program := "ytmbpckmpnnmnmabgreat", sum := "64b0b92823350078e099d0caf02bfe69aac82d32f44f2af256cfdda468f98692", func := "eiderdown/eiderdownlaw.SoftAgain", spec := "softAgain", inPlace := ["internal/reflectlite.ValueOf", "internal/reflectlite.Swapper", "(internal/reflectlite.Value).Len"], unfollowed := true, recurses := true, apart := false }
def SoftAgainSaid : Prop := softAgainRow.holds Tryz.pinned (OpenSpec.ofChange softAgainSpec)

/-- ITS FALSE NEIGHBOUR: 'it returns false'. Refute it at one input. -/
def softAgainWrong : ChangeSpec := { name := "softAgain", fn := fun _ => fun
  | [d] => { results := [.lit (.bool false)], args := [d] }
  | _ => none }
def SoftAgainWrongFalsely : Prop := softAgainRow.holds Tryz.pinned (OpenSpec.ofChange softAgainWrong)

/-- 'eiderdownlaw.SoftFresh': WHATEVER THE INPUT: true; the input reads as it did. -/
def softFreshSpec : ChangeSpec := { name := "softFresh", fn := fun _ => fun
  | [d1, d2, d3] => { results := [.lit (.bool true)], args := [d1, d2, d3] }
  | _ => none }
def softFreshRow : OpenClaim := { program := "ytmbpckmpnnmnmabgreat", sum := "64b0b92823350078e099d0caf02bfe69aac82d32f44f2af256cfdda468f98692", func := "eiderdown/eiderdownlaw.SoftFresh", spec := "softFresh", inPlace := ["internal/reflectlite.ValueOf", "internal/reflectlite.Swapper", "(internal/reflectlite.Value).Len"], unfollowed := true, recurses := true, apart := false }
def SoftFreshSaid : Prop := softFreshRow.holds Tryz.pinned (OpenSpec.ofChange softFreshSpec)

/-- ITS FALSE NEIGHBOUR: 'it returns false'. Refute it at one input. -/
def softFreshWrong : ChangeSpec := { name := "softFresh", fn := fun _ => fun
  | [d1, d2, d3] => { results := [.lit (.bool false)], args := [d1, d2, d3] }
  | _ => none }
def SoftFreshWrongFalsely : Prop := softFreshRow.holds Tryz.pinned (OpenSpec.ofChange softFreshWrong)

/- THE SECOND FORM. 'bulk': how many values and letters a reading holds, each counted each time it is reached (what is shared counts as often as it is met; a slice's spare places count too). A statement '..UptoSaid' is the law's where the arguments, and the package variables that the reading takes, are together of bulk at most 1048576: NARROWER than '..Said'. Prove '..Said' where nothing that the law and all that it calls make is longer than what came in: it says more and counts as full. Else prove '..UptoSaid'. A law counts once. -/
mutual
def uptoBulk {H : Type} : DataW H → Nat
  | .lit (.string bytes) => bytes.length + 1
  | .lit _ => 1
  | .nil => 1
  | .ptr d => uptoBulk d + 1
  | .slice elems spare => uptoBulkAll elems + uptoBulkAll spare + 1
  | .agg parts => uptoBulkAll parts + 1
  | .iface _ d => uptoBulk d + 1
  | .map entries => uptoBulkEntries entries + 1
  | .held _ => 1
def uptoBulkAll {H : Type} : List (DataW H) → Nat
  | [] => 0
  | d :: r => uptoBulk d + uptoBulkAll r
def uptoBulkEntries {H : Type} : List (Lit × DataW H) → Nat
  | [] => 0
  | x :: r => uptoBulkEntry x + uptoBulkEntries r
def uptoBulkEntry {H : Type} : Lit × DataW H → Nat
  | (.string bytes, d) => bytes.length + uptoBulk d + 1
  | (_, d) => uptoBulk d + 1
 end
def uptoSmall : (H : Type) → List (DataW H) → Bool := fun _ ds => decide (uptoBulkAll ds ≤ 1048576)
def OpenSpec.upto (s : _root_.Go.ChangeSpec) : _root_.Go.OpenSpec := { _root_.Go.OpenSpec.ofChange s with cond := some uptoSmall }

/-- 'eiderdownlaw.SoftDoes', WHERE WHAT IT READS IS OF BULK AT MOST 1048576: true; the input reads as it did. -/
def softDoesUptoRow : OpenClaim := { program := "ytmbpckmpnnmnmabgreat", sum := "64b0b92823350078e099d0caf02bfe69aac82d32f44f2af256cfdda468f98692", func := "eiderdown/eiderdownlaw.SoftDoes", spec := "softDoes", inPlace := ["internal/reflectlite.ValueOf", "internal/reflectlite.Swapper", "(internal/reflectlite.Value).Len"], unfollowed := true, recurses := true, apart := false, narrowed := true }
def SoftDoesUptoSaid : Prop := softDoesUptoRow.holds Tryz.pinned (OpenSpec.upto softDoesSpec)

/-- 'eiderdownlaw.SoftIdeal', WHERE WHAT IT READS IS OF BULK AT MOST 1048576: true; the input reads as it did. -/
def softIdealUptoRow : OpenClaim := { program := "ytmbpckmpnnmnmabgreat", sum := "64b0b92823350078e099d0caf02bfe69aac82d32f44f2af256cfdda468f98692", func := "eiderdown/eiderdownlaw.SoftIdeal", spec := "softIdeal", inPlace := ["internal/reflectlite.ValueOf", "internal/reflectlite.Swapper", "(internal/reflectlite.Value).Len"], unfollowed := true, recurses := true, apart := false, narrowed := true }
def SoftIdealUptoSaid : Prop := softIdealUptoRow.holds Tryz.pinned (OpenSpec.upto softIdealSpec)

/-- 'eiderdownlaw.SoftExact', WHERE WHAT IT READS IS OF BULK AT MOST 1048576: true; the input reads as it did. -/
def softExactUptoRow : OpenClaim := { program := "ytmbpckmpnnmnmabgreat", sum := "64b0b92823350078e099d0caf02bfe69aac82d32f44f2af256cfdda468f98692", func := "eiderdown/eiderdownlaw.SoftExact", spec := "softExact", inPlace := ["internal/reflectlite.ValueOf", "internal/reflectlite.Swapper", "(internal/reflectlite.Value).Len"], unfollowed := true, recurses := true, apart := false, narrowed := true }
def SoftExactUptoSaid : Prop := softExactUptoRow.holds Tryz.pinned (OpenSpec.upto softExactSpec)

/-- 'eiderdownlaw.SoftAgain', WHERE WHAT IT READS IS OF BULK AT MOST 1048576: true; the input reads as it did. -/
def softAgainUptoRow : OpenClaim := { program := "ytmbpckmpnnmnmabgreat", sum := "64b0b92823350078e099d0caf02bfe69aac82d32f44f2af256cfdda468f98692", func := "eiderdown/eiderdownlaw.SoftAgain", spec := "softAgain", inPlace := ["internal/reflectlite.ValueOf", "internal/reflectlite.Swapper", "(internal/reflectlite.Value).Len"], unfollowed := true, recurses := true, apart := false, narrowed := true }
def SoftAgainUptoSaid : Prop := softAgainUptoRow.holds Tryz.pinned (OpenSpec.upto softAgainSpec)

/-- 'eiderdownlaw.SoftFresh', WHERE WHAT IT READS IS OF BULK AT MOST 1048576: true; the input reads as it did. -/
def softFreshUptoRow : OpenClaim := { program := "ytmbpckmpnnmnmabgreat", sum := "64b0b92823350078e099d0caf02bfe69aac82d32f44f2af256cfdda468f98692", func := "eiderdown/eiderdownlaw.SoftFresh", spec := "softFresh", inPlace := ["internal/reflectlite.ValueOf", "internal/reflectlite.Swapper", "(internal/reflectlite.Value).Len"], unfollowed := true, recurses := true, apart := false, narrowed := true }
def SoftFreshUptoSaid : Prop := softFreshUptoRow.holds Tryz.pinned (OpenSpec.upto softFreshSpec)

end Rows
end Go.Proofs.YtmbpckmpnnmnmabGreat
