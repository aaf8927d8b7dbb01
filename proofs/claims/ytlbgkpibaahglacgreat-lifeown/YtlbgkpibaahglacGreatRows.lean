/-
  No cell of these rows narrows 'for every input' (looked for: loops, veiled, ifaces, maps, wideKeys, modest, calm, conditions, laid).
  DERIVED. THE GIVEN ROWS OF THIS SEAT. 9 by the template 'for every input the law returns true; each argument reads behind the call as it read before'; 0 by the template 'total and deterministic' (their statements: YtlbgkpibaahglacGreatTotals.lean).
  GIVEN WITH THE SEED: the statements are not yours to turn. If you find one false, say at which input.
  Laid BY PROGRAM, IN A SANDBOX (cutbox-rows.mjs): the forced cells as the released guide's own fill.sh prints them over the translation 0a798cae96060998… (all of the seat's roots in one cut). By AI agents, Wed Nov 11 2026. No macro, syntax, notation, axiom, sorry.
-/
import Derived.Test.YtlbgkpibaahglacGreatChecked
import GoSem.Claim
import GoSem.ClaimJoined
import GoSem.ClaimMapViews
import Derived.JoinedTies
import Derived.KernelRfl
namespace Go.Proofs.YtlbgkpibaahglacGreat
/- THE CELL 'sum', in the pinned program and in every row, IS THE sha256 OF THE DUMP (.gsa) THAT YtlbgkpibaahglacGreatProg.lean LOADS. Nothing in Lean hashes anything: it is a label: what it is worth is what the hold of that sum in a sandbox is worth. -/
noncomputable def Tryz.pinned : Pinned := { name := "ytlbgkpibaahglacgreat", sum := "0a798cae96060998b901b07cfb11c12466a97cfc0505fb1e1fb0b8ad9b68b002", checked := Tryz.checked }
namespace Rows
def none {H : Type} : Left H := { results := [], args := [] }

/-- 'eiderdownlaw.LifeDoes': WHATEVER THE INPUT: true; the input reads as it did. -/
def lifeDoesSpec : ChangeSpec := { name := "lifeDoes", fn := fun _ => fun
  | [d] => { results := [.lit (.bool true)], args := [d] }
  | _ => none }
def lifeDoesRow : OpenClaim := { program := "ytlbgkpibaahglacgreat", sum := "0a798cae96060998b901b07cfb11c12466a97cfc0505fb1e1fb0b8ad9b68b002", func := "eiderdown/eiderdownlaw.LifeDoes", spec := "lifeDoes", inPlace := ["internal/reflectlite.ValueOf", "internal/reflectlite.Swapper", "(internal/reflectlite.Value).Len"], unfollowed := true, recurses := true, apart := false }
def LifeDoesSaid : Prop := lifeDoesRow.holds Tryz.pinned (OpenSpec.ofChange lifeDoesSpec)

/-- ITS FALSE NEIGHBOUR: 'it returns false'. Refute it at one input. -/
def lifeDoesWrong : ChangeSpec := { name := "lifeDoes", fn := fun _ => fun
  | [d] => { results := [.lit (.bool false)], args := [d] }
  | _ => none }
def LifeDoesWrongFalsely : Prop := lifeDoesRow.holds Tryz.pinned (OpenSpec.ofChange lifeDoesWrong)

/-- 'eiderdownlaw.LifeMends': WHATEVER THE INPUT: true; the input reads as it did. -/
def lifeMendsSpec : ChangeSpec := { name := "lifeMends", fn := fun _ => fun
  | [d] => { results := [.lit (.bool true)], args := [d] }
  | _ => none }
def lifeMendsRow : OpenClaim := { program := "ytlbgkpibaahglacgreat", sum := "0a798cae96060998b901b07cfb11c12466a97cfc0505fb1e1fb0b8ad9b68b002", func := "eiderdown/eiderdownlaw.LifeMends", spec := "lifeMends", inPlace := ["internal/reflectlite.ValueOf", "internal/reflectlite.Swapper", "(internal/reflectlite.Value).Len"], unfollowed := true, recurses := true, apart := false }
def LifeMendsSaid : Prop := lifeMendsRow.holds Tryz.pinned (OpenSpec.ofChange lifeMendsSpec)

/-- ITS FALSE NEIGHBOUR: 'it returns false'. Refute it at one input. -/
def lifeMendsWrong : ChangeSpec := { name := "lifeMends", fn := fun _ => fun
  | [d] => { results := [.lit (.bool false)], args := [d] }
  | _ => none }
def LifeMendsWrongFalsely : Prop := lifeMendsRow.holds Tryz.pinned (OpenSpec.ofChange lifeMendsWrong)

/-- 'eiderdownlaw.LifeKeeps': WHATEVER THE INPUT: true; the input reads as it did. -/
def lifeKeepsSpec : ChangeSpec := { name := "lifeKeeps", fn := fun _ => fun
  | [d] => { results := [.lit (.bool true)], args := [d] }
  | _ => none }
def lifeKeepsRow : OpenClaim := { program := "ytlbgkpibaahglacgreat", sum := "0a798cae96060998b901b07cfb11c12466a97cfc0505fb1e1fb0b8ad9b68b002", func := "eiderdown/eiderdownlaw.LifeKeeps", spec := "lifeKeeps", inPlace := ["internal/reflectlite.ValueOf", "internal/reflectlite.Swapper", "(internal/reflectlite.Value).Len"], unfollowed := true, recurses := true, apart := false }
def LifeKeepsSaid : Prop := lifeKeepsRow.holds Tryz.pinned (OpenSpec.ofChange lifeKeepsSpec)

/-- ITS FALSE NEIGHBOUR: 'it returns false'. Refute it at one input. -/
def lifeKeepsWrong : ChangeSpec := { name := "lifeKeeps", fn := fun _ => fun
  | [d] => { results := [.lit (.bool false)], args := [d] }
  | _ => none }
def LifeKeepsWrongFalsely : Prop := lifeKeepsRow.holds Tryz.pinned (OpenSpec.ofChange lifeKeepsWrong)

/-- 'eiderdownlaw.LifeOwn': WHATEVER THE INPUT: true; the input reads as it did. -/
def lifeOwnSpec : ChangeSpec := { name := "lifeOwn", fn := fun _ => fun
  | [d] => { results := [.lit (.bool true)], args := [d] }
  | _ => none }
def lifeOwnRow : OpenClaim := { program := "ytlbgkpibaahglacgreat", sum := "0a798cae96060998b901b07cfb11c12466a97cfc0505fb1e1fb0b8ad9b68b002", func := "eiderdown/eiderdownlaw.LifeOwn", spec := "lifeOwn", inPlace := ["internal/reflectlite.ValueOf", "internal/reflectlite.Swapper", "(internal/reflectlite.Value).Len"], unfollowed := true, recurses := true, apart := false }
def LifeOwnSaid : Prop := lifeOwnRow.holds Tryz.pinned (OpenSpec.ofChange lifeOwnSpec)

/-- ITS FALSE NEIGHBOUR: 'it returns false'. Refute it at one input. -/
def lifeOwnWrong : ChangeSpec := { name := "lifeOwn", fn := fun _ => fun
  | [d] => { results := [.lit (.bool false)], args := [d] }
  | _ => none }
def LifeOwnWrongFalsely : Prop := lifeOwnRow.holds Tryz.pinned (OpenSpec.ofChange lifeOwnWrong)

/-- 'eiderdownlaw.LifeSync': WHATEVER THE INPUT: true; the input reads as it did. -/
def lifeSyncSpec : ChangeSpec := { name := "lifeSync", fn := fun _ => fun
  | [d] => { results := [.lit (.bool true)], args := [d] }
  | _ => none }
def lifeSyncRow : OpenClaim := { program := "ytlbgkpibaahglacgreat", sum := "0a798cae96060998b901b07cfb11c12466a97cfc0505fb1e1fb0b8ad9b68b002", func := "eiderdown/eiderdownlaw.LifeSync", spec := "lifeSync", inPlace := ["internal/reflectlite.ValueOf", "internal/reflectlite.Swapper", "(internal/reflectlite.Value).Len"], unfollowed := true, recurses := true, apart := false }
def LifeSyncSaid : Prop := lifeSyncRow.holds Tryz.pinned (OpenSpec.ofChange lifeSyncSpec)

/-- ITS FALSE NEIGHBOUR: 'it returns false'. Refute it at one input. -/
def lifeSyncWrong : ChangeSpec := { name := "lifeSync", fn := fun _ => fun
  | [d] => { results := [.lit (.bool false)], args := [d] }
  | _ => none }
def LifeSyncWrongFalsely : Prop := lifeSyncRow.holds Tryz.pinned (OpenSpec.ofChange lifeSyncWrong)

/-- 'eiderdownlaw.LifeLast': WHATEVER THE INPUT: true; the input reads as it did. -/
def lifeLastSpec : ChangeSpec := { name := "lifeLast", fn := fun _ => fun
  | [d1, d2, d3] => { results := [.lit (.bool true)], args := [d1, d2, d3] }
  | _ => none }
def lifeLastRow : OpenClaim := { program := "ytlbgkpibaahglacgreat", sum := "0a798cae96060998b901b07cfb11c12466a97cfc0505fb1e1fb0b8ad9b68b002", func := "eiderdown/eiderdownlaw.LifeLast", spec := "lifeLast", inPlace := ["internal/reflectlite.ValueOf", "internal/reflectlite.Swapper", "(internal/reflectlite.Value).Len"], unfollowed := true, recurses := true, apart := false }
def LifeLastSaid : Prop := lifeLastRow.holds Tryz.pinned (OpenSpec.ofChange lifeLastSpec)

/-- ITS FALSE NEIGHBOUR: 'it returns false'. Refute it at one input. -/
def lifeLastWrong : ChangeSpec := { name := "lifeLast", fn := fun _ => fun
  | [d1, d2, d3] => { results := [.lit (.bool false)], args := [d1, d2, d3] }
  | _ => none }
def LifeLastWrongFalsely : Prop := lifeLastRow.holds Tryz.pinned (OpenSpec.ofChange lifeLastWrong)

/-- 'eiderdownlaw.LifeAgain': WHATEVER THE INPUT: true; the input reads as it did. -/
def lifeAgainSpec : ChangeSpec := { name := "lifeAgain", fn := fun _ => fun
  | [d] => { results := [.lit (.bool true)], args := [d] }
  | _ => none }
def lifeAgainRow : OpenClaim := { program := "ytlbgkpibaahglacgreat", sum := "0a798cae96060998b901b07cfb11c12466a97cfc0505fb1e1fb0b8ad9b68b002", func := "eiderdown/eiderdownlaw.LifeAgain", spec := "lifeAgain", inPlace := ["internal/reflectlite.ValueOf", "internal/reflectlite.Swapper", "(internal/reflectlite.Value).Len"], unfollowed := true, recurses := true, apart := false }
def LifeAgainSaid : Prop := lifeAgainRow.holds Tryz.pinned (OpenSpec.ofChange lifeAgainSpec)

/-- ITS FALSE NEIGHBOUR: 'it returns false'. Refute it at one input. -/
def lifeAgainWrong : ChangeSpec := { name := "lifeAgain", fn := fun _ => fun
  | [d] => { results := [.lit (.bool false)], args := [d] }
  | _ => none }
def LifeAgainWrongFalsely : Prop := lifeAgainRow.holds Tryz.pinned (OpenSpec.ofChange lifeAgainWrong)

/-- 'eiderdownlaw.LifeNever': WHATEVER THE INPUT: true; the input reads as it did. -/
def lifeNeverSpec : ChangeSpec := { name := "lifeNever", fn := fun _ => fun
  | [d1, d2] => { results := [.lit (.bool true)], args := [d1, d2] }
  | _ => none }
def lifeNeverRow : OpenClaim := { program := "ytlbgkpibaahglacgreat", sum := "0a798cae96060998b901b07cfb11c12466a97cfc0505fb1e1fb0b8ad9b68b002", func := "eiderdown/eiderdownlaw.LifeNever", spec := "lifeNever", inPlace := ["internal/reflectlite.ValueOf", "internal/reflectlite.Swapper", "(internal/reflectlite.Value).Len"], unfollowed := true, recurses := true, apart := false }
def LifeNeverSaid : Prop := lifeNeverRow.holds Tryz.pinned (OpenSpec.ofChange lifeNeverSpec)

/-- ITS FALSE NEIGHBOUR: 'it returns false'. Refute it at one input. -/
def lifeNeverWrong : ChangeSpec := { name := "lifeNever", fn := fun _ => fun
  | [d1, d2] => { results := [.lit (.bool false)], args := [d1, d2] }
  | _ => none }
def LifeNeverWrongFalsely : Prop := lifeNeverRow.holds Tryz.pinned (OpenSpec.ofChange lifeNeverWrong)

/-- 'eiderdownlaw.LifeRename': WHATEVER THE INPUT: true; the input reads as it did. -/
def lifeRenameSpec : ChangeSpec := { name := "lifeRename", fn := fun _ => fun
  | [d1, d2, d3] => { results := [.lit (.bool true)], args := [d1, d2, d3] }
  | _ => none }
def lifeRenameRow : OpenClaim := { program := "ytlbgkpibaahglacgreat", sum := "0a798cae96060998b901b07cfb11c12466a97cfc0505fb1e1fb0b8ad9b68b002", func := "eiderdown/eiderdownlaw.LifeRename", spec := "lifeRename", inPlace := ["internal/reflectlite.ValueOf", "internal/reflectlite.Swapper", "(internal/reflectlite.Value).Len"], unfollowed := true, recurses := true, apart := false }
def LifeRenameSaid : Prop := lifeRenameRow.holds Tryz.pinned (OpenSpec.ofChange lifeRenameSpec)

/-- ITS FALSE NEIGHBOUR: 'it returns false'. Refute it at one input. -/
def lifeRenameWrong : ChangeSpec := { name := "lifeRename", fn := fun _ => fun
  | [d1, d2, d3] => { results := [.lit (.bool false)], args := [d1, d2, d3] }
  | _ => none }
def LifeRenameWrongFalsely : Prop := lifeRenameRow.holds Tryz.pinned (OpenSpec.ofChange lifeRenameWrong)

/- THE SECOND FORM. 'bulk': how many values and letters a reading holds, each counted each time it is reached (what is shared counts as often as it is met; a slice's spare places count too). A statement '..UptoSaid' is the law's where the arguments, and the package variables that the reading takes, are together of bulk at most 1048576: NARROWER than '..Said'. Prove '..Said' where nothing that the law and all that it calls make is longer than what came in: it says more and counts as full. Else prove '..UptoSaid'. A law counts once. -/
mutual
def uptoBulk {H : Type} : DataW H → Nat
  | .lit (.string bytes) => bytes.length + 1
  | .lit _ => 1
  | .nil => 1
  | .ptr d => uptoBulk d + 1
  | .slice elems spare => uptoBulkAll elems + uptoBulkAll spare + 1
  | .agg parts => uptoBulkAll parts + 1
  | .iface _ d => uptoBulk d + 1
  | .map entries => uptoBulkEntries entries + 1
  | .held _ => 1
def uptoBulkAll {H : Type} : List (DataW H) → Nat
  | [] => 0
  | d :: r => uptoBulk d + uptoBulkAll r
def uptoBulkEntries {H : Type} : List (Lit × DataW H) → Nat
  | [] => 0
  | x :: r => uptoBulkEntry x + uptoBulkEntries r
def uptoBulkEntry {H : Type} : Lit × DataW H → Nat
  | (.string bytes, d) => bytes.length + uptoBulk d + 1
  | (_, d) => uptoBulk d + 1
 end
def uptoSmall : (H : Type) → List (DataW H) → Bool := fun _ ds => decide (uptoBulkAll ds ≤ 1048576)
def OpenSpec.upto (s : _root_.Go.ChangeSpec) : _root_.Go.OpenSpec := { _root_.Go.OpenSpec.ofChange s with cond := some uptoSmall }

/-- 'eiderdownlaw.LifeDoes', WHERE WHAT IT READS IS OF BULK AT MOST 1048576: true; the input reads as it did. -/
def lifeDoesUptoRow : OpenClaim := { program := "ytlbgkpibaahglacgreat", sum := "0a798cae96060998b901b07cfb11c12466a97cfc0505fb1e1fb0b8ad9b68b002", func := "eiderdown/eiderdownlaw.LifeDoes", spec := "lifeDoes", inPlace := ["internal/reflectlite.ValueOf", "internal/reflectlite.Swapper", "(internal/reflectlite.Value).Len"], unfollowed := true, recurses := true, apart := false, narrowed := true }
def LifeDoesUptoSaid : Prop := lifeDoesUptoRow.holds Tryz.pinned (OpenSpec.upto lifeDoesSpec)

/-- 'eiderdownlaw.LifeMends', WHERE WHAT IT READS IS OF BULK AT MOST 1048576: true; the input reads as it did. -/
def lifeMendsUptoRow : OpenClaim := { program := "ytlbgkpibaahglacgreat", sum := "0a798cae96060998b901b07cfb11c12466a97cfc0505fb1e1fb0b8ad9b68b002", func := "eiderdown/eiderdownlaw.LifeMends", spec := "lifeMends", inPlace := ["internal/reflectlite.ValueOf", "internal/reflectlite.Swapper", "(internal/reflectlite.Value).Len"], unfollowed := true, recurses := true, apart := false, narrowed := true }
def LifeMendsUptoSaid : Prop := lifeMendsUptoRow.holds Tryz.pinned (OpenSpec.upto lifeMendsSpec)

/-- 'eiderdownlaw.LifeKeeps', WHERE WHAT IT READS IS OF BULK AT MOST 1048576: true; the input reads as it did. -/
def lifeKeepsUptoRow : OpenClaim := { program := "ytlbgkpibaahglacgreat", sum := "0a798cae96060998b901b07cfb11c12466a97cfc0505fb1e1fb0b8ad9b68b002", func := "eiderdown/eiderdownlaw.LifeKeeps", spec := "lifeKeeps", inPlace := ["internal/reflectlite.ValueOf", "internal/reflectlite.Swapper", "(internal/reflectlite.Value).Len"], unfollowed := true, recurses := true, apart := false, narrowed := true }
def LifeKeepsUptoSaid : Prop := lifeKeepsUptoRow.holds Tryz.pinned (OpenSpec.upto lifeKeepsSpec)

/-- 'eiderdownlaw.LifeOwn', WHERE WHAT IT READS IS OF BULK AT MOST 1048576: true; the input reads as it did. -/
def lifeOwnUptoRow : OpenClaim := { program := "ytlbgkpibaahglacgreat", sum := "0a798cae96060998b901b07cfb11c12466a97cfc0505fb1e1fb0b8ad9b68b002", func := "eiderdown/eiderdownlaw.LifeOwn", spec := "lifeOwn", inPlace := ["internal/reflectlite.ValueOf", "internal/reflectlite.Swapper", "(internal/reflectlite.Value).Len"], unfollowed := true, recurses := true, apart := false, narrowed := true }
def LifeOwnUptoSaid : Prop := lifeOwnUptoRow.holds Tryz.pinned (OpenSpec.upto lifeOwnSpec)

/-- 'eiderdownlaw.LifeSync', WHERE WHAT IT READS IS OF BULK AT MOST 1048576: true; the input reads as it did. -/
def lifeSyncUptoRow : OpenClaim := { program := "ytlbgkpibaahglacgreat", sum := "0a798cae96060998b901b07cfb11c12466a97cfc0505fb1e1fb0b8ad9b68b002", func := "eiderdown/eiderdownlaw.LifeSync", spec := "lifeSync", inPlace := ["internal/reflectlite.ValueOf", "internal/reflectlite.Swapper", "(internal/reflectlite.Value).Len"], unfollowed := true, recurses := true, apart := false, narrowed := true }
def LifeSyncUptoSaid : Prop := lifeSyncUptoRow.holds Tryz.pinned (OpenSpec.upto lifeSyncSpec)

/-- 'eiderdownlaw.LifeLast', WHERE WHAT IT READS IS OF BULK AT MOST 1048576: true; the input reads as it did. -/
def lifeLastUptoRow : OpenClaim := { program := "ytlbgkpibaahglacgreat", sum := "0a798cae96060998b901b07cfb11c12466a97cfc0505fb1e1fb0b8ad9b68b002", func := "eiderdown/eiderdownlaw.LifeLast", spec := "lifeLast", inPlace := ["internal/reflectlite.ValueOf", "internal/reflectlite.Swapper", "(internal/reflectlite.Value).Len"], unfollowed := true, recurses := true, apart := false, narrowed := true }
def LifeLastUptoSaid : Prop := lifeLastUptoRow.holds Tryz.pinned (OpenSpec.upto lifeLastSpec)

/-- 'eiderdownlaw.LifeAgain', WHERE WHAT IT READS IS OF BULK AT MOST 1048576: true; the input reads as it did. -/
def lifeAgainUptoRow : OpenClaim := { program := "ytlbgkpibaahglacgreat", sum := "0a798cae96060998b901b07cfb11c12466a97cfc0505fb1e1fb0b8ad9b68b002", func := "eiderdown/eiderdownlaw.LifeAgain", spec := "lifeAgain", inPlace := ["internal/reflectlite.ValueOf", "internal/reflectlite.Swapper", "(internal/reflectlite.Value).Len"], unfollowed := true, recurses := true, apart := false, narrowed := true }
def LifeAgainUptoSaid : Prop := lifeAgainUptoRow.holds Tryz.pinned (OpenSpec.upto lifeAgainSpec)

/-- 'eiderdownlaw.LifeNever', WHERE WHAT IT READS IS OF BULK AT MOST 1048576: true; the input reads as it did. -/
def lifeNeverUptoRow : OpenClaim := { program := "ytlbgkpibaahglacgreat", sum := "0a798cae96060998b901b07cfb11c12466a97cfc0505fb1e1fb0b8ad9b68b002", func := "eiderdown/eiderdownlaw.LifeNever", spec := "lifeNever", inPlace := ["internal/reflectlite.ValueOf", "internal/reflectlite.Swapper", "(internal/reflectlite.Value).Len"], unfollowed := true, recurses := true, apart := false, narrowed := true }
def LifeNeverUptoSaid : Prop := lifeNeverUptoRow.holds Tryz.pinned (OpenSpec.upto lifeNeverSpec)

/-- 'eiderdownlaw.LifeRename', WHERE WHAT IT READS IS OF BULK AT MOST 1048576: true; the input reads as it did. -/
def lifeRenameUptoRow : OpenClaim := { program := "ytlbgkpibaahglacgreat", sum := "0a798cae96060998b901b07cfb11c12466a97cfc0505fb1e1fb0b8ad9b68b002", func := "eiderdown/eiderdownlaw.LifeRename", spec := "lifeRename", inPlace := ["internal/reflectlite.ValueOf", "internal/reflectlite.Swapper", "(internal/reflectlite.Value).Len"], unfollowed := true, recurses := true, apart := false, narrowed := true }
def LifeRenameUptoSaid : Prop := lifeRenameUptoRow.holds Tryz.pinned (OpenSpec.upto lifeRenameSpec)

end Rows
end Go.Proofs.YtlbgkpibaahglacGreat
