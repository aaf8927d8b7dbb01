/-
  No cell of these rows narrows 'for every input' (looked for: loops, veiled, ifaces, maps, wideKeys, modest, calm, conditions, laid).
  DERIVED. THE GIVEN ROWS OF THIS SEAT. 7 by the template 'for every input the law returns true; each argument reads behind the call as it read before'; 0 by the template 'total and deterministic' (their statements: YtgepolkoddhapaaTotals.lean).
  GIVEN WITH THE SEED: the statements are not yours to turn. If you find one false, say at which input.
  Laid BY PROGRAM, IN A SANDBOX (cutbox-rows.mjs): the forced cells as the released guide's own fill.sh prints them over the translation bb2049fd8915cfce… (all of the seat's roots in one cut). By AI agents, Wed Nov 11 2026. No macro, syntax, notation, axiom, sorry.
-/
import Derived.Test.YtgepolkoddhapaaChecked
import GoSem.Claim
import GoSem.ClaimJoined
import GoSem.ClaimMapViews
import Derived.JoinedTies
import Derived.KernelRfl
namespace Go.Proofs.Ytgepolkoddhapaa
/- THE CELL 'sum', in the pinned program and in every row, IS THE sha256 OF THE DUMP (.gsa) THAT YtgepolkoddhapaaProg.lean LOADS. Nothing in Lean hashes anything: it is a label: what it is worth is what the hold of that sum in a sandbox is worth. -/
noncomputable def Try.pinned : Pinned := { name := "ytgepolkoddhapaa", sum := "bb2049fd8915cfce4445e170f9f476487b944d5b65eff1c851d44f65f6ea14cf", checked := Try.checked }
namespace Rows
def none {H : Type} : Left H := { results := [], args := [] }

/-- 'eiderdownlaw.ImageRefs': WHATEVER THE INPUT: true; the input reads as it did. -/
def imageRefsSpec : ChangeSpec := { name := "imageRefs", fn := fun _ => fun
  | [d] => { results := [.lit (.bool true)], args := [d] }
  | _ => none }
def imageRefsRow : OpenClaim := { program := "ytgepolkoddhapaa", sum := "bb2049fd8915cfce4445e170f9f476487b944d5b65eff1c851d44f65f6ea14cf", func := "eiderdown/eiderdownlaw.ImageRefs", spec := "imageRefs", apart := false }
def ImageRefsSaid : Prop := imageRefsRow.holds Try.pinned (OpenSpec.ofChange imageRefsSpec)

/-- ITS FALSE NEIGHBOUR: 'it returns false'. Refute it at one input. -/
def imageRefsWrong : ChangeSpec := { name := "imageRefs", fn := fun _ => fun
  | [d] => { results := [.lit (.bool false)], args := [d] }
  | _ => none }
def ImageRefsWrongFalsely : Prop := imageRefsRow.holds Try.pinned (OpenSpec.ofChange imageRefsWrong)

/-- 'eiderdownlaw.ImageExact': WHATEVER THE INPUT: true; the input reads as it did. -/
def imageExactSpec : ChangeSpec := { name := "imageExact", fn := fun _ => fun
  | [d1, d2, d3] => { results := [.lit (.bool true)], args := [d1, d2, d3] }
  | _ => none }
def imageExactRow : OpenClaim := { program := "ytgepolkoddhapaa", sum := "bb2049fd8915cfce4445e170f9f476487b944d5b65eff1c851d44f65f6ea14cf", func := "eiderdown/eiderdownlaw.ImageExact", spec := "imageExact", apart := false }
def ImageExactSaid : Prop := imageExactRow.holds Try.pinned (OpenSpec.ofChange imageExactSpec)

/-- ITS FALSE NEIGHBOUR: 'it returns false'. Refute it at one input. -/
def imageExactWrong : ChangeSpec := { name := "imageExact", fn := fun _ => fun
  | [d1, d2, d3] => { results := [.lit (.bool false)], args := [d1, d2, d3] }
  | _ => none }
def ImageExactWrongFalsely : Prop := imageExactRow.holds Try.pinned (OpenSpec.ofChange imageExactWrong)

/-- 'eiderdownlaw.ImageFind': WHATEVER THE INPUT: true; the input reads as it did. -/
def imageFindSpec : ChangeSpec := { name := "imageFind", fn := fun _ => fun
  | [d1, d2, d3] => { results := [.lit (.bool true)], args := [d1, d2, d3] }
  | _ => none }
def imageFindRow : OpenClaim := { program := "ytgepolkoddhapaa", sum := "bb2049fd8915cfce4445e170f9f476487b944d5b65eff1c851d44f65f6ea14cf", func := "eiderdown/eiderdownlaw.ImageFind", spec := "imageFind", apart := false }
def ImageFindSaid : Prop := imageFindRow.holds Try.pinned (OpenSpec.ofChange imageFindSpec)

/-- ITS FALSE NEIGHBOUR: 'it returns false'. Refute it at one input. -/
def imageFindWrong : ChangeSpec := { name := "imageFind", fn := fun _ => fun
  | [d1, d2, d3] => { results := [.lit (.bool false)], args := [d1, d2, d3] }
  | _ => none }
def ImageFindWrongFalsely : Prop := imageFindRow.holds Try.pinned (OpenSpec.ofChange imageFindWrong)

/-- 'eiderdownlaw.IdealDoes': WHATEVER THE INPUT: true; the input reads as it did. -/
def idealDoesSpec : ChangeSpec := { name := "idealDoes", fn := fun _ => fun
  | [d1, d2] => { results := [.lit (.bool true)], args := [d1, d2] }
  | _ => none }
def idealDoesRow : OpenClaim := { program := "ytgepolkoddhapaa", sum := "bb2049fd8915cfce4445e170f9f476487b944d5b65eff1c851d44f65f6ea14cf", func := "eiderdown/eiderdownlaw.IdealDoes", spec := "idealDoes", inPlace := ["slices.overlaps[eiderdown/ideal.entry]"], unfollowed := true, recurses := true, apart := false }
def IdealDoesSaid : Prop := idealDoesRow.holds Try.pinned (OpenSpec.ofChange idealDoesSpec)

/-- ITS FALSE NEIGHBOUR: 'it returns false'. Refute it at one input. -/
def idealDoesWrong : ChangeSpec := { name := "idealDoes", fn := fun _ => fun
  | [d1, d2] => { results := [.lit (.bool false)], args := [d1, d2] }
  | _ => none }
def IdealDoesWrongFalsely : Prop := idealDoesRow.holds Try.pinned (OpenSpec.ofChange idealDoesWrong)

/-- 'eiderdownlaw.IdealBack': WHATEVER THE INPUT: true; the input reads as it did. -/
def idealBackSpec : ChangeSpec := { name := "idealBack", fn := fun _ => fun
  | [d1, d2] => { results := [.lit (.bool true)], args := [d1, d2] }
  | _ => none }
def idealBackRow : OpenClaim := { program := "ytgepolkoddhapaa", sum := "bb2049fd8915cfce4445e170f9f476487b944d5b65eff1c851d44f65f6ea14cf", func := "eiderdown/eiderdownlaw.IdealBack", spec := "idealBack", inPlace := ["slices.overlaps[eiderdown/ideal.entry]"], unfollowed := true, recurses := true, apart := false }
def IdealBackSaid : Prop := idealBackRow.holds Try.pinned (OpenSpec.ofChange idealBackSpec)

/-- ITS FALSE NEIGHBOUR: 'it returns false'. Refute it at one input. -/
def idealBackWrong : ChangeSpec := { name := "idealBack", fn := fun _ => fun
  | [d1, d2] => { results := [.lit (.bool false)], args := [d1, d2] }
  | _ => none }
def IdealBackWrongFalsely : Prop := idealBackRow.holds Try.pinned (OpenSpec.ofChange idealBackWrong)

/-- 'eiderdownlaw.IdealApart': WHATEVER THE INPUT: true; the input reads as it did. -/
def idealApartSpec : ChangeSpec := { name := "idealApart", fn := fun _ => fun
  | [d1, d2] => { results := [.lit (.bool true)], args := [d1, d2] }
  | _ => none }
def idealApartRow : OpenClaim := { program := "ytgepolkoddhapaa", sum := "bb2049fd8915cfce4445e170f9f476487b944d5b65eff1c851d44f65f6ea14cf", func := "eiderdown/eiderdownlaw.IdealApart", spec := "idealApart", inPlace := ["slices.overlaps[eiderdown/ideal.entry]"], unfollowed := true, recurses := true, apart := false }
def IdealApartSaid : Prop := idealApartRow.holds Try.pinned (OpenSpec.ofChange idealApartSpec)

/-- ITS FALSE NEIGHBOUR: 'it returns false'. Refute it at one input. -/
def idealApartWrong : ChangeSpec := { name := "idealApart", fn := fun _ => fun
  | [d1, d2] => { results := [.lit (.bool false)], args := [d1, d2] }
  | _ => none }
def IdealApartWrongFalsely : Prop := idealApartRow.holds Try.pinned (OpenSpec.ofChange idealApartWrong)

/-- 'eiderdownlaw.IdealLinks': WHATEVER THE INPUT: true; the input reads as it did. -/
def idealLinksSpec : ChangeSpec := { name := "idealLinks", fn := fun _ => fun
  | [d1, d2, d3] => { results := [.lit (.bool true)], args := [d1, d2, d3] }
  | _ => none }
def idealLinksRow : OpenClaim := { program := "ytgepolkoddhapaa", sum := "bb2049fd8915cfce4445e170f9f476487b944d5b65eff1c851d44f65f6ea14cf", func := "eiderdown/eiderdownlaw.IdealLinks", spec := "idealLinks", inPlace := ["slices.overlaps[eiderdown/ideal.entry]"], unfollowed := true, recurses := true, apart := false }
def IdealLinksSaid : Prop := idealLinksRow.holds Try.pinned (OpenSpec.ofChange idealLinksSpec)

/-- ITS FALSE NEIGHBOUR: 'it returns false'. Refute it at one input. -/
def idealLinksWrong : ChangeSpec := { name := "idealLinks", fn := fun _ => fun
  | [d1, d2, d3] => { results := [.lit (.bool false)], args := [d1, d2, d3] }
  | _ => none }
def IdealLinksWrongFalsely : Prop := idealLinksRow.holds Try.pinned (OpenSpec.ofChange idealLinksWrong)

/- THE SECOND FORM. 'bulk': how many values and letters a reading holds, each counted each time it is reached (what is shared counts as often as it is met; a slice's spare places count too). A statement '..UptoSaid' is the law's where the arguments, and the package variables that the reading takes, are together of bulk at most 1048576: NARROWER than '..Said'. Prove '..Said' where nothing that the law and all that it calls make is longer than what came in: it says more and counts as full. Else prove '..UptoSaid'. A law counts once. -/
mutual
def uptoBulk {H : Type} : DataW H → Nat
  | .lit (.string bytes) => bytes.length + 1
  | .lit _ => 1
  | .nil => 1
  | .ptr d => uptoBulk d + 1
  | .slice elems spare => uptoBulkAll elems + uptoBulkAll spare + 1
  | .agg parts => uptoBulkAll parts + 1
  | .iface _ d => uptoBulk d + 1
  | .map entries => uptoBulkEntries entries + 1
  | .held _ => 1
def uptoBulkAll {H : Type} : List (DataW H) → Nat
  | [] => 0
  | d :: r => uptoBulk d + uptoBulkAll r
def uptoBulkEntries {H : Type} : List (Lit × DataW H) → Nat
  | [] => 0
  | x :: r => uptoBulkEntry x + uptoBulkEntries r
def uptoBulkEntry {H : Type} : Lit × DataW H → Nat
  | (.string bytes, d) => bytes.length + uptoBulk d + 1
  | (_, d) => uptoBulk d + 1
 end
def uptoSmall : (H : Type) → List (DataW H) → Bool := fun _ ds => decide (uptoBulkAll ds ≤ 1048576)
def OpenSpec.upto (s : _root_.Go.ChangeSpec) : _root_.Go.OpenSpec := { _root_.Go.OpenSpec.ofChange s with cond := some uptoSmall }

/-- 'eiderdownlaw.ImageRefs', WHERE WHAT IT READS IS OF BULK AT MOST 1048576: true; the input reads as it did. -/
def imageRefsUptoRow : OpenClaim := { program := "ytgepolkoddhapaa", sum := "bb2049fd8915cfce4445e170f9f476487b944d5b65eff1c851d44f65f6ea14cf", func := "eiderdown/eiderdownlaw.ImageRefs", spec := "imageRefs", apart := false, narrowed := true }
def ImageRefsUptoSaid : Prop := imageRefsUptoRow.holds Try.pinned (OpenSpec.upto imageRefsSpec)

/-- 'eiderdownlaw.ImageExact', WHERE WHAT IT READS IS OF BULK AT MOST 1048576: true; the input reads as it did. -/
def imageExactUptoRow : OpenClaim := { program := "ytgepolkoddhapaa", sum := "bb2049fd8915cfce4445e170f9f476487b944d5b65eff1c851d44f65f6ea14cf", func := "eiderdown/eiderdownlaw.ImageExact", spec := "imageExact", apart := false, narrowed := true }
def ImageExactUptoSaid : Prop := imageExactUptoRow.holds Try.pinned (OpenSpec.upto imageExactSpec)

/-- 'eiderdownlaw.ImageFind', WHERE WHAT IT READS IS OF BULK AT MOST 1048576: true; the input reads as it did. -/
def imageFindUptoRow : OpenClaim := { program := "ytgepolkoddhapaa", sum := "bb2049fd8915cfce4445e170f9f476487b944d5b65eff1c851d44f65f6ea14cf", func := "eiderdown/eiderdownlaw.ImageFind", spec := "imageFind", apart := false, narrowed := true }
def ImageFindUptoSaid : Prop := imageFindUptoRow.holds Try.pinned (OpenSpec.upto imageFindSpec)

/-- 'eiderdownlaw.IdealDoes', WHERE WHAT IT READS IS OF BULK AT MOST 1048576: true; the input reads as it did. -/
def idealDoesUptoRow : OpenClaim := { program := "ytgepolkoddhapaa", sum := "bb2049fd8915cfce4445e170f9f476487b944d5b65eff1c851d44f65f6ea14cf", func := "eiderdown/eiderdownlaw.IdealDoes", spec := "idealDoes", inPlace := ["slices.overlaps[eiderdown/ideal.entry]"], unfollowed := true, recurses := true, apart := false, narrowed := true }
def IdealDoesUptoSaid : Prop := idealDoesUptoRow.holds Try.pinned (OpenSpec.upto idealDoesSpec)

/-- 'eiderdownlaw.IdealBack', WHERE WHAT IT READS IS OF BULK AT MOST 1048576: true; the input reads as it did. -/
def idealBackUptoRow : OpenClaim := { program := "ytgepolkoddhapaa", sum := "bb2049fd8915cfce4445e170f9f476487b944d5b65eff1c851d44f65f6ea14cf", func := "eiderdown/eiderdownlaw.IdealBack", spec := "idealBack", inPlace := ["slices.overlaps[eiderdown/ideal.entry]"], unfollowed := true, recurses := true, apart := false, narrowed := true }
def IdealBackUptoSaid : Prop := idealBackUptoRow.holds Try.pinned (OpenSpec.upto idealBackSpec)

/-- 'eiderdownlaw.IdealApart', WHERE WHAT IT READS IS OF BULK AT MOST 1048576: true; the input reads as it did. -/
def idealApartUptoRow : OpenClaim := { program := "ytgepolkoddhapaa", sum := "bb2049fd8915cfce4445e170f9f476487b944d5b65eff1c851d44f65f6ea14cf", func := "eiderdown/eiderdownlaw.IdealApart", spec := "idealApart", inPlace := ["slices.overlaps[eiderdown/ideal.entry]"], unfollowed := true, recurses := true, apart := false, narrowed := true }
def IdealApartUptoSaid : Prop := idealApartUptoRow.holds Try.pinned (OpenSpec.upto idealApartSpec)

/-- 'eiderdownlaw.IdealLinks', WHERE WHAT IT READS IS OF BULK AT MOST 1048576: true; the input reads as it did. -/
def idealLinksUptoRow : OpenClaim := { program := "ytgepolkoddhapaa", sum := "bb2049fd8915cfce4445e170f9f476487b944d5b65eff1c851d44f65f6ea14cf", func := "eiderdown/eiderdownlaw.IdealLinks", spec := "idealLinks", inPlace := ["slices.overlaps[eiderdown/ideal.entry]"], unfollowed := true, recurses := true, apart := false, narrowed := true }
def IdealLinksUptoSaid : Prop := idealLinksUptoRow.holds Try.pinned (OpenSpec.upto idealLinksSpec)

end Rows
end Go.Proofs.Ytgepolkoddhapaa
