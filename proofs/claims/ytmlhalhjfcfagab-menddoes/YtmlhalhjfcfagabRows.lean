/-
  No cell of these rows narrows 'for every input' (looked for: loops, veiled, ifaces, maps, wideKeys, modest, calm, conditions, laid).
  DERIVED. THE GIVEN ROWS OF THIS SEAT. 7 by the template 'for every input the law returns true; each argument reads behind the call as it read before'; 0 by the template 'total and deterministic' (their statements: YtmlhalhjfcfagabTotals.lean).
  GIVEN WITH THE SEED: the statements are not yours to turn. If you find one false, say at which input.
  Laid BY PROGRAM, IN A SANDBOX (cutbox-rows.mjs): the forced cells as the released guide's own fill.sh prints them over the translation 175b650d7c6a7ad4… (all of the seat's roots in one cut). By AI agents, Wed Nov 11 2026. No macro, syntax, notation, axiom, sorry.
-/
import Derived.Test.YtmlhalhjfcfagabChecked
import GoSem.Claim
import GoSem.ClaimJoined
import GoSem.ClaimMapViews
import Derived.JoinedTies
import Derived.KernelRfl
namespace Go.Proofs.Ytmlhalhjfcfagab
/- THE CELL 'sum', in the pinned program and in every row, IS THE sha256 OF THE DUMP (.gsa) THAT YtmlhalhjfcfagabProg.lean LOADS. Nothing in Lean hashes anything: it is a label: what it is worth is what the hold of that sum in a sandbox is worth. -/
noncomputable def Try.pinned : Pinned := { name := "ytmlhalhjfcfagab", sum := "175b650d7c6a7ad4f44c5ea0c207857d1de36ef8263b4895565e46c60aa806ef", checked := Try.checked }
namespace Rows
def none {H : Type} : Left H := { results := [], args := [] }

/-- 'eiderdownlaw.SafeLast': WHATEVER THE INPUT: true; the input reads as it did. -/
def safeLastSpec : ChangeSpec := { name := "safeLast", fn := fun _ => fun
  | [d1, d2, d3] => { results := [.lit (.bool true)], args := [d1, d2, d3] }
  | _ => none }
def safeLastRow : OpenClaim := { program := "ytmlhalhjfcfagab", sum := "175b650d7c6a7ad4f44c5ea0c207857d1de36ef8263b4895565e46c60aa806ef", func := "eiderdown/eiderdownlaw.SafeLast", spec := "safeLast", apart := false }
def SafeLastSaid : Prop := safeLastRow.holds Try.pinned (OpenSpec.ofChange safeLastSpec)

/-- ITS FALSE NEIGHBOUR: 'it returns false'. Refute it at one input. -/
def safeLastWrong : ChangeSpec := { name := "safeLast", fn := fun _ => fun
  | [d1, d2, d3] => { results := [.lit (.bool false)], args := [d1, d2, d3] }
  | _ => none }
def SafeLastWrongFalsely : Prop := safeLastRow.holds Try.pinned (OpenSpec.ofChange safeLastWrong)

/-- 'eiderdownlaw.SafeCounts': WHATEVER THE INPUT: true; the input reads as it did. -/
def safeCountsSpec : ChangeSpec := { name := "safeCounts", fn := fun _ => fun
  | [d1, d2, d3] => { results := [.lit (.bool true)], args := [d1, d2, d3] }
  | _ => none }
def safeCountsRow : OpenClaim := { program := "ytmlhalhjfcfagab", sum := "175b650d7c6a7ad4f44c5ea0c207857d1de36ef8263b4895565e46c60aa806ef", func := "eiderdown/eiderdownlaw.SafeCounts", spec := "safeCounts", apart := false }
def SafeCountsSaid : Prop := safeCountsRow.holds Try.pinned (OpenSpec.ofChange safeCountsSpec)

/-- ITS FALSE NEIGHBOUR: 'it returns false'. Refute it at one input. -/
def safeCountsWrong : ChangeSpec := { name := "safeCounts", fn := fun _ => fun
  | [d1, d2, d3] => { results := [.lit (.bool false)], args := [d1, d2, d3] }
  | _ => none }
def SafeCountsWrongFalsely : Prop := safeCountsRow.holds Try.pinned (OpenSpec.ofChange safeCountsWrong)

/-- 'eiderdownlaw.CacheDoes': WHATEVER THE INPUT: true; the input reads as it did. -/
def cacheDoesSpec : ChangeSpec := { name := "cacheDoes", fn := fun _ => fun
  | [d1, d2, d3, d4] => { results := [.lit (.bool true)], args := [d1, d2, d3, d4] }
  | _ => none }
def cacheDoesRow : OpenClaim := { program := "ytmlhalhjfcfagab", sum := "175b650d7c6a7ad4f44c5ea0c207857d1de36ef8263b4895565e46c60aa806ef", func := "eiderdown/eiderdownlaw.CacheDoes", spec := "cacheDoes", unfollowed := true, recurses := true, apart := false }
def CacheDoesSaid : Prop := cacheDoesRow.holds Try.pinned (OpenSpec.ofChange cacheDoesSpec)

/-- ITS FALSE NEIGHBOUR: 'it returns false'. Refute it at one input. -/
def cacheDoesWrong : ChangeSpec := { name := "cacheDoes", fn := fun _ => fun
  | [d1, d2, d3, d4] => { results := [.lit (.bool false)], args := [d1, d2, d3, d4] }
  | _ => none }
def CacheDoesWrongFalsely : Prop := cacheDoesRow.holds Try.pinned (OpenSpec.ofChange cacheDoesWrong)

/-- 'eiderdownlaw.CacheClean': WHATEVER THE INPUT: true; the input reads as it did. -/
def cacheCleanSpec : ChangeSpec := { name := "cacheClean", fn := fun _ => fun
  | [d1, d2, d3] => { results := [.lit (.bool true)], args := [d1, d2, d3] }
  | _ => none }
def cacheCleanRow : OpenClaim := { program := "ytmlhalhjfcfagab", sum := "175b650d7c6a7ad4f44c5ea0c207857d1de36ef8263b4895565e46c60aa806ef", func := "eiderdown/eiderdownlaw.CacheClean", spec := "cacheClean", unfollowed := true, recurses := true, apart := false }
def CacheCleanSaid : Prop := cacheCleanRow.holds Try.pinned (OpenSpec.ofChange cacheCleanSpec)

/-- ITS FALSE NEIGHBOUR: 'it returns false'. Refute it at one input. -/
def cacheCleanWrong : ChangeSpec := { name := "cacheClean", fn := fun _ => fun
  | [d1, d2, d3] => { results := [.lit (.bool false)], args := [d1, d2, d3] }
  | _ => none }
def CacheCleanWrongFalsely : Prop := cacheCleanRow.holds Try.pinned (OpenSpec.ofChange cacheCleanWrong)

/-- 'eiderdownlaw.CacheFree': WHATEVER THE INPUT: true; the input reads as it did. -/
def cacheFreeSpec : ChangeSpec := { name := "cacheFree", fn := fun _ => fun
  | [d1, d2, d3] => { results := [.lit (.bool true)], args := [d1, d2, d3] }
  | _ => none }
def cacheFreeRow : OpenClaim := { program := "ytmlhalhjfcfagab", sum := "175b650d7c6a7ad4f44c5ea0c207857d1de36ef8263b4895565e46c60aa806ef", func := "eiderdown/eiderdownlaw.CacheFree", spec := "cacheFree", unfollowed := true, recurses := true, apart := false }
def CacheFreeSaid : Prop := cacheFreeRow.holds Try.pinned (OpenSpec.ofChange cacheFreeSpec)

/-- ITS FALSE NEIGHBOUR: 'it returns false'. Refute it at one input. -/
def cacheFreeWrong : ChangeSpec := { name := "cacheFree", fn := fun _ => fun
  | [d1, d2, d3] => { results := [.lit (.bool false)], args := [d1, d2, d3] }
  | _ => none }
def CacheFreeWrongFalsely : Prop := cacheFreeRow.holds Try.pinned (OpenSpec.ofChange cacheFreeWrong)

/-- 'eiderdownlaw.MendDoes': WHATEVER THE INPUT: true; the input reads as it did. -/
def mendDoesSpec : ChangeSpec := { name := "mendDoes", fn := fun _ => fun
  | [d] => { results := [.lit (.bool true)], args := [d] }
  | _ => none }
def mendDoesRow : OpenClaim := { program := "ytmlhalhjfcfagab", sum := "175b650d7c6a7ad4f44c5ea0c207857d1de36ef8263b4895565e46c60aa806ef", func := "eiderdown/eiderdownlaw.MendDoes", spec := "mendDoes", apart := false }
def MendDoesSaid : Prop := mendDoesRow.holds Try.pinned (OpenSpec.ofChange mendDoesSpec)

/-- ITS FALSE NEIGHBOUR: 'it returns false'. Refute it at one input. -/
def mendDoesWrong : ChangeSpec := { name := "mendDoes", fn := fun _ => fun
  | [d] => { results := [.lit (.bool false)], args := [d] }
  | _ => none }
def MendDoesWrongFalsely : Prop := mendDoesRow.holds Try.pinned (OpenSpec.ofChange mendDoesWrong)

/-- 'eiderdownlaw.MendKeeps': WHATEVER THE INPUT: true; the input reads as it did. -/
def mendKeepsSpec : ChangeSpec := { name := "mendKeeps", fn := fun _ => fun
  | [d] => { results := [.lit (.bool true)], args := [d] }
  | _ => none }
def mendKeepsRow : OpenClaim := { program := "ytmlhalhjfcfagab", sum := "175b650d7c6a7ad4f44c5ea0c207857d1de36ef8263b4895565e46c60aa806ef", func := "eiderdown/eiderdownlaw.MendKeeps", spec := "mendKeeps", apart := false }
def MendKeepsSaid : Prop := mendKeepsRow.holds Try.pinned (OpenSpec.ofChange mendKeepsSpec)

/-- ITS FALSE NEIGHBOUR: 'it returns false'. Refute it at one input. -/
def mendKeepsWrong : ChangeSpec := { name := "mendKeeps", fn := fun _ => fun
  | [d] => { results := [.lit (.bool false)], args := [d] }
  | _ => none }
def MendKeepsWrongFalsely : Prop := mendKeepsRow.holds Try.pinned (OpenSpec.ofChange mendKeepsWrong)

/- THE SECOND FORM. 'bulk': how many values and letters a reading holds, each counted each time it is reached (what is shared counts as often as it is met; a slice's spare places count too). A statement '..UptoSaid' is the law's where the arguments, and the package variables that the reading takes, are together of bulk at most 1048576: NARROWER than '..Said'. Prove '..Said' where nothing that the law and all that it calls make is longer than what came in: it says more and counts as full. Else prove '..UptoSaid'. A law counts once. -/
mutual
def uptoBulk {H : Type} : DataW H → Nat
  | .lit (.string bytes) => bytes.length + 1
  | .lit _ => 1
  | .nil => 1
  | .ptr d => uptoBulk d + 1
  | .slice elems spare => uptoBulkAll elems + uptoBulkAll spare + 1
  | .agg parts => uptoBulkAll parts + 1
  | .iface _ d => uptoBulk d + 1
  | .map entries => uptoBulkEntries entries + 1
  | .held _ => 1
def uptoBulkAll {H : Type} : List (DataW H) → Nat
  | [] => 0
  | d :: r => uptoBulk d + uptoBulkAll r
def uptoBulkEntries {H : Type} : List (Lit × DataW H) → Nat
  | [] => 0
  | x :: r => uptoBulkEntry x + uptoBulkEntries r
def uptoBulkEntry {H : Type} : Lit × DataW H → Nat
  | (.string bytes, d) => bytes.length + uptoBulk d + 1
  | (_, d) => uptoBulk d + 1
 end
def uptoSmall : (H : Type) → List (DataW H) → Bool := fun _ ds => decide (uptoBulkAll ds ≤ 1048576)
def OpenSpec.upto (s : _root_.Go.ChangeSpec) : _root_.Go.OpenSpec := { _root_.Go.OpenSpec.ofChange s with cond := some uptoSmall }

/-- 'eiderdownlaw.SafeLast', WHERE WHAT IT READS IS OF BULK AT MOST 1048576: true; the input reads as it did. -/
def safeLastUptoRow : OpenClaim := { program := "ytmlhalhjfcfagab", sum := "175b650d7c6a7ad4f44c5ea0c207857d1de36ef8263b4895565e46c60aa806ef", func := "eiderdown/eiderdownlaw.SafeLast", spec := "safeLast", apart := false, narrowed := true }
def SafeLastUptoSaid : Prop := safeLastUptoRow.holds Try.pinned (OpenSpec.upto safeLastSpec)

/-- 'eiderdownlaw.SafeCounts', WHERE WHAT IT READS IS OF BULK AT MOST 1048576: true; the input reads as it did. -/
def safeCountsUptoRow : OpenClaim := { program := "ytmlhalhjfcfagab", sum := "175b650d7c6a7ad4f44c5ea0c207857d1de36ef8263b4895565e46c60aa806ef", func := "eiderdown/eiderdownlaw.SafeCounts", spec := "safeCounts", apart := false, narrowed := true }
def SafeCountsUptoSaid : Prop := safeCountsUptoRow.holds Try.pinned (OpenSpec.upto safeCountsSpec)

/-- 'eiderdownlaw.CacheDoes', WHERE WHAT IT READS IS OF BULK AT MOST 1048576: true; the input reads as it did. -/
def cacheDoesUptoRow : OpenClaim := { program := "ytmlhalhjfcfagab", sum := "175b650d7c6a7ad4f44c5ea0c207857d1de36ef8263b4895565e46c60aa806ef", func := "eiderdown/eiderdownlaw.CacheDoes", spec := "cacheDoes", unfollowed := true, recurses := true, apart := false, narrowed := true }
def CacheDoesUptoSaid : Prop := cacheDoesUptoRow.holds Try.pinned (OpenSpec.upto cacheDoesSpec)

/-- 'eiderdownlaw.CacheClean', WHERE WHAT IT READS IS OF BULK AT MOST 1048576: true; the input reads as it did. -/
def cacheCleanUptoRow : OpenClaim := { program := "ytmlhalhjfcfagab", sum := "175b650d7c6a7ad4f44c5ea0c207857d1de36ef8263b4895565e46c60aa806ef", func := "eiderdown/eiderdownlaw.CacheClean", spec := "cacheClean", unfollowed := true, recurses := true, apart := false, narrowed := true }
def CacheCleanUptoSaid : Prop := cacheCleanUptoRow.holds Try.pinned (OpenSpec.upto cacheCleanSpec)

/-- 'eiderdownlaw.CacheFree', WHERE WHAT IT READS IS OF BULK AT MOST 1048576: true; the input reads as it did. -/
def cacheFreeUptoRow : OpenClaim := { program := "ytmlhalhjfcfagab", sum := "175b650d7c6a7ad4f44c5ea0c207857d1de36ef8263b4895565e46c60aa806ef", func := "eiderdown/eiderdownlaw.CacheFree", spec := "cacheFree", unfollowed := true, recurses := true, apart := false, narrowed := true }
def CacheFreeUptoSaid : Prop := cacheFreeUptoRow.holds Try.pinned (OpenSpec.upto cacheFreeSpec)

/-- 'eiderdownlaw.MendDoes', WHERE WHAT IT READS IS OF BULK AT MOST 1048576: true; the input reads as it did. -/
def mendDoesUptoRow : OpenClaim := { program := "ytmlhalhjfcfagab", sum := "175b650d7c6a7ad4f44c5ea0c207857d1de36ef8263b4895565e46c60aa806ef", func := "eiderdown/eiderdownlaw.MendDoes", spec := "mendDoes", apart := false, narrowed := true }
def MendDoesUptoSaid : Prop := mendDoesUptoRow.holds Try.pinned (OpenSpec.upto mendDoesSpec)

/-- 'eiderdownlaw.MendKeeps', WHERE WHAT IT READS IS OF BULK AT MOST 1048576: true; the input reads as it did. -/
def mendKeepsUptoRow : OpenClaim := { program := "ytmlhalhjfcfagab", sum := "175b650d7c6a7ad4f44c5ea0c207857d1de36ef8263b4895565e46c60aa806ef", func := "eiderdown/eiderdownlaw.MendKeeps", spec := "mendKeeps", apart := false, narrowed := true }
def MendKeepsUptoSaid : Prop := mendKeepsUptoRow.holds Try.pinned (OpenSpec.upto mendKeepsSpec)

end Rows
end Go.Proofs.Ytmlhalhjfcfagab
