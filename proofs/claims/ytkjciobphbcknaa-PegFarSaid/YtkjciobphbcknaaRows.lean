/-
  No cell of these rows narrows 'for every input' (looked for: loops, veiled, ifaces, maps, wideKeys, modest, calm, conditions, laid).
  DERIVED. THE GIVEN ROWS OF THIS SEAT. 8 by the template 'for every input the law returns true; each argument reads behind the call as it read before'; 0 by the template 'total and deterministic' (their statements: YtkjciobphbcknaaTotals.lean).
  GIVEN WITH THE SEED: the statements are not yours to turn. If you find one false, say at which input.
  Laid BY PROGRAM, IN A SANDBOX (cutbox-rows.mjs): the forced cells as the released guide's own fill.sh prints them over the translation 9c93a0173cf716e4… (all of the seat's roots in one cut). By AI agents, Wed Nov 11 2026. No macro, syntax, notation, axiom, sorry.
-/
import Derived.Test.YtkjciobphbcknaaChecked
import GoSem.Claim
import GoSem.ClaimJoined
import GoSem.ClaimMapViews
import Derived.JoinedTies
import Derived.KernelRfl
namespace Go.Proofs.Ytkjciobphbcknaa
/- THE CELL 'sum', in the pinned program and in every row, IS THE sha256 OF THE DUMP (.gsa) THAT YtkjciobphbcknaaProg.lean LOADS. Nothing in Lean hashes anything: it is a label: what it is worth is what the hold of that sum in a sandbox is worth. -/
noncomputable def Try.pinned : Pinned := { name := "ytkjciobphbcknaa", sum := "9c93a0173cf716e4595005a59f8478aa1c086a1b48b7cb2f35fc977a63d3aa5c", checked := Try.checked }
namespace Rows
def none {H : Type} : Left H := { results := [], args := [] }

/-- 'furrowworkslaw01.PegStands': WHATEVER THE INPUT: true; the input reads as it did. -/
def pegStandsSpec : ChangeSpec := { name := "pegStands", fn := fun _ => fun
  | [d1, d2] => { results := [.lit (.bool true)], args := [d1, d2] }
  | _ => none }
def pegStandsRow : OpenClaim := { program := "ytkjciobphbcknaa", sum := "9c93a0173cf716e4595005a59f8478aa1c086a1b48b7cb2f35fc977a63d3aa5c", func := "furrowworks/furrowworkslaw01.PegStands", spec := "pegStands", unfollowed := true, recurses := true, plainKeys := false, apart := false }
def PegStandsSaid : Prop := pegStandsRow.holds Try.pinned (OpenSpec.ofChange pegStandsSpec)

/-- ITS FALSE NEIGHBOUR: 'it returns false'. Refute it at one input. -/
def pegStandsWrong : ChangeSpec := { name := "pegStands", fn := fun _ => fun
  | [d1, d2] => { results := [.lit (.bool false)], args := [d1, d2] }
  | _ => none }
def PegStandsWrongFalsely : Prop := pegStandsRow.holds Try.pinned (OpenSpec.ofChange pegStandsWrong)

/-- 'furrowworkslaw01.PegFar': WHATEVER THE INPUT: true; the input reads as it did. -/
def pegFarSpec : ChangeSpec := { name := "pegFar", fn := fun _ => fun
  | [d1, d2, d3, d4] => { results := [.lit (.bool true)], args := [d1, d2, d3, d4] }
  | _ => none }
def pegFarRow : OpenClaim := { program := "ytkjciobphbcknaa", sum := "9c93a0173cf716e4595005a59f8478aa1c086a1b48b7cb2f35fc977a63d3aa5c", func := "furrowworks/furrowworkslaw01.PegFar", spec := "pegFar", unfollowed := true, recurses := true, plainKeys := false, apart := false }
def PegFarSaid : Prop := pegFarRow.holds Try.pinned (OpenSpec.ofChange pegFarSpec)

/-- ITS FALSE NEIGHBOUR: 'it returns false'. Refute it at one input. -/
def pegFarWrong : ChangeSpec := { name := "pegFar", fn := fun _ => fun
  | [d1, d2, d3, d4] => { results := [.lit (.bool false)], args := [d1, d2, d3, d4] }
  | _ => none }
def PegFarWrongFalsely : Prop := pegFarRow.holds Try.pinned (OpenSpec.ofChange pegFarWrong)

/-- 'furrowworkslaw01.PegNames': WHATEVER THE INPUT: true; the input reads as it did. -/
def pegNamesSpec : ChangeSpec := { name := "pegNames", fn := fun _ => fun
  | [] => { results := [.lit (.bool true)], args := [] }
  | _ => none }
def pegNamesRow : OpenClaim := { program := "ytkjciobphbcknaa", sum := "9c93a0173cf716e4595005a59f8478aa1c086a1b48b7cb2f35fc977a63d3aa5c", func := "furrowworks/furrowworkslaw01.PegNames", spec := "pegNames", unfollowed := true, recurses := true, plainKeys := false, apart := false }
def PegNamesSaid : Prop := pegNamesRow.holds Try.pinned (OpenSpec.ofChange pegNamesSpec)

/-- ITS FALSE NEIGHBOUR: 'it returns false'. Refute it at one input. -/
def pegNamesWrong : ChangeSpec := { name := "pegNames", fn := fun _ => fun
  | [] => { results := [.lit (.bool false)], args := [] }
  | _ => none }
def PegNamesWrongFalsely : Prop := pegNamesRow.holds Try.pinned (OpenSpec.ofChange pegNamesWrong)

/-- 'furrowworkslaw01.PegTrue': WHATEVER THE INPUT: true; the input reads as it did. -/
def pegTrueSpec : ChangeSpec := { name := "pegTrue", fn := fun _ => fun
  | [d] => { results := [.lit (.bool true)], args := [d] }
  | _ => none }
def pegTrueRow : OpenClaim := { program := "ytkjciobphbcknaa", sum := "9c93a0173cf716e4595005a59f8478aa1c086a1b48b7cb2f35fc977a63d3aa5c", func := "furrowworks/furrowworkslaw01.PegTrue", spec := "pegTrue", unfollowed := true, recurses := true, plainKeys := false, apart := false }
def PegTrueSaid : Prop := pegTrueRow.holds Try.pinned (OpenSpec.ofChange pegTrueSpec)

/-- ITS FALSE NEIGHBOUR: 'it returns false'. Refute it at one input. -/
def pegTrueWrong : ChangeSpec := { name := "pegTrue", fn := fun _ => fun
  | [d] => { results := [.lit (.bool false)], args := [d] }
  | _ => none }
def PegTrueWrongFalsely : Prop := pegTrueRow.holds Try.pinned (OpenSpec.ofChange pegTrueWrong)

/-- 'furrowworkslaw01.PegProof': WHATEVER THE INPUT: true; the input reads as it did. -/
def pegProofSpec : ChangeSpec := { name := "pegProof", fn := fun _ => fun
  | [d1, d2, d3, d4] => { results := [.lit (.bool true)], args := [d1, d2, d3, d4] }
  | _ => none }
def pegProofRow : OpenClaim := { program := "ytkjciobphbcknaa", sum := "9c93a0173cf716e4595005a59f8478aa1c086a1b48b7cb2f35fc977a63d3aa5c", func := "furrowworks/furrowworkslaw01.PegProof", spec := "pegProof", unfollowed := true, recurses := true, plainKeys := false, apart := false }
def PegProofSaid : Prop := pegProofRow.holds Try.pinned (OpenSpec.ofChange pegProofSpec)

/-- ITS FALSE NEIGHBOUR: 'it returns false'. Refute it at one input. -/
def pegProofWrong : ChangeSpec := { name := "pegProof", fn := fun _ => fun
  | [d1, d2, d3, d4] => { results := [.lit (.bool false)], args := [d1, d2, d3, d4] }
  | _ => none }
def PegProofWrongFalsely : Prop := pegProofRow.holds Try.pinned (OpenSpec.ofChange pegProofWrong)

/-- 'furrowworkslaw01.PegMore': WHATEVER THE INPUT: true; the input reads as it did. -/
def pegMoreSpec : ChangeSpec := { name := "pegMore", fn := fun _ => fun
  | [d1, d2, d3, d4, d5, d6] => { results := [.lit (.bool true)], args := [d1, d2, d3, d4, d5, d6] }
  | _ => none }
def pegMoreRow : OpenClaim := { program := "ytkjciobphbcknaa", sum := "9c93a0173cf716e4595005a59f8478aa1c086a1b48b7cb2f35fc977a63d3aa5c", func := "furrowworks/furrowworkslaw01.PegMore", spec := "pegMore", unfollowed := true, recurses := true, plainKeys := false, apart := false }
def PegMoreSaid : Prop := pegMoreRow.holds Try.pinned (OpenSpec.ofChange pegMoreSpec)

/-- ITS FALSE NEIGHBOUR: 'it returns false'. Refute it at one input. -/
def pegMoreWrong : ChangeSpec := { name := "pegMore", fn := fun _ => fun
  | [d1, d2, d3, d4, d5, d6] => { results := [.lit (.bool false)], args := [d1, d2, d3, d4, d5, d6] }
  | _ => none }
def PegMoreWrongFalsely : Prop := pegMoreRow.holds Try.pinned (OpenSpec.ofChange pegMoreWrong)

/-- 'furrowworkslaw01.PegTurned': WHATEVER THE INPUT: true; the input reads as it did. -/
def pegTurnedSpec : ChangeSpec := { name := "pegTurned", fn := fun _ => fun
  | [d1, d2, d3, d4, d5] => { results := [.lit (.bool true)], args := [d1, d2, d3, d4, d5] }
  | _ => none }
def pegTurnedRow : OpenClaim := { program := "ytkjciobphbcknaa", sum := "9c93a0173cf716e4595005a59f8478aa1c086a1b48b7cb2f35fc977a63d3aa5c", func := "furrowworks/furrowworkslaw01.PegTurned", spec := "pegTurned", unfollowed := true, recurses := true, plainKeys := false, apart := false }
def PegTurnedSaid : Prop := pegTurnedRow.holds Try.pinned (OpenSpec.ofChange pegTurnedSpec)

/-- ITS FALSE NEIGHBOUR: 'it returns false'. Refute it at one input. -/
def pegTurnedWrong : ChangeSpec := { name := "pegTurned", fn := fun _ => fun
  | [d1, d2, d3, d4, d5] => { results := [.lit (.bool false)], args := [d1, d2, d3, d4, d5] }
  | _ => none }
def PegTurnedWrongFalsely : Prop := pegTurnedRow.holds Try.pinned (OpenSpec.ofChange pegTurnedWrong)

/-- 'furrowworkslaw01.PegFree': WHATEVER THE INPUT: true; the input reads as it did. -/
def pegFreeSpec : ChangeSpec := { name := "pegFree", fn := fun _ => fun
  | [d1, d2] => { results := [.lit (.bool true)], args := [d1, d2] }
  | _ => none }
def pegFreeRow : OpenClaim := { program := "ytkjciobphbcknaa", sum := "9c93a0173cf716e4595005a59f8478aa1c086a1b48b7cb2f35fc977a63d3aa5c", func := "furrowworks/furrowworkslaw01.PegFree", spec := "pegFree", unfollowed := true, recurses := true, plainKeys := false, apart := false }
def PegFreeSaid : Prop := pegFreeRow.holds Try.pinned (OpenSpec.ofChange pegFreeSpec)

/-- ITS FALSE NEIGHBOUR: 'it returns false'. Refute it at one input. -/
def pegFreeWrong : ChangeSpec := { name := "pegFree", fn := fun _ => fun
  | [d1, d2] => { results := [.lit (.bool false)], args := [d1, d2] }
  | _ => none }
def PegFreeWrongFalsely : Prop := pegFreeRow.holds Try.pinned (OpenSpec.ofChange pegFreeWrong)

/- THE SECOND FORM. 'bulk': how many values and letters a reading holds, each counted each time it is reached (what is shared counts as often as it is met; a slice's spare places count too). A statement '..UptoSaid' is the law's where the arguments, and the package variables that the reading takes, are together of bulk at most 1048576: NARROWER than '..Said'. Prove '..Said' where nothing that the law and all that it calls make is longer than what came in: it says more and counts as full. Else prove '..UptoSaid'. A law counts once. -/
mutual
def uptoBulk {H : Type} : DataW H → Nat
  | .lit (.string bytes) => bytes.length + 1
  | .lit _ => 1
  | .nil => 1
  | .ptr d => uptoBulk d + 1
  | .slice elems spare => uptoBulkAll elems + uptoBulkAll spare + 1
  | .agg parts => uptoBulkAll parts + 1
  | .iface _ d => uptoBulk d + 1
  | .map entries => uptoBulkEntries entries + 1
  | .held _ => 1
def uptoBulkAll {H : Type} : List (DataW H) → Nat
  | [] => 0
  | d :: r => uptoBulk d + uptoBulkAll r
def uptoBulkEntries {H : Type} : List (Lit × DataW H) → Nat
  | [] => 0
  | x :: r => uptoBulkEntry x + uptoBulkEntries r
def uptoBulkEntry {H : Type} : Lit × DataW H → Nat
  | (.string bytes, d) => bytes.length + uptoBulk d + 1
  | (_, d) => uptoBulk d + 1
 end
def uptoSmall : (H : Type) → List (DataW H) → Bool := fun _ ds => decide (uptoBulkAll ds ≤ 1048576)
def OpenSpec.upto (s : _root_.Go.ChangeSpec) : _root_.Go.OpenSpec := { _root_.Go.OpenSpec.ofChange s with cond := some uptoSmall }

/-- 'furrowworkslaw01.PegStands', WHERE WHAT IT READS IS OF BULK AT MOST 1048576: true; the input reads as it did. -/
def pegStandsUptoRow : OpenClaim := { program := "ytkjciobphbcknaa", sum := "9c93a0173cf716e4595005a59f8478aa1c086a1b48b7cb2f35fc977a63d3aa5c", func := "furrowworks/furrowworkslaw01.PegStands", spec := "pegStands", unfollowed := true, recurses := true, plainKeys := false, apart := false, narrowed := true }
def PegStandsUptoSaid : Prop := pegStandsUptoRow.holds Try.pinned (OpenSpec.upto pegStandsSpec)

/-- 'furrowworkslaw01.PegFar', WHERE WHAT IT READS IS OF BULK AT MOST 1048576: true; the input reads as it did. -/
def pegFarUptoRow : OpenClaim := { program := "ytkjciobphbcknaa", sum := "9c93a0173cf716e4595005a59f8478aa1c086a1b48b7cb2f35fc977a63d3aa5c", func := "furrowworks/furrowworkslaw01.PegFar", spec := "pegFar", unfollowed := true, recurses := true, plainKeys := false, apart := false, narrowed := true }
def PegFarUptoSaid : Prop := pegFarUptoRow.holds Try.pinned (OpenSpec.upto pegFarSpec)

/-- 'furrowworkslaw01.PegNames', WHERE WHAT IT READS IS OF BULK AT MOST 1048576: true; the input reads as it did. -/
def pegNamesUptoRow : OpenClaim := { program := "ytkjciobphbcknaa", sum := "9c93a0173cf716e4595005a59f8478aa1c086a1b48b7cb2f35fc977a63d3aa5c", func := "furrowworks/furrowworkslaw01.PegNames", spec := "pegNames", unfollowed := true, recurses := true, plainKeys := false, apart := false, narrowed := true }
def PegNamesUptoSaid : Prop := pegNamesUptoRow.holds Try.pinned (OpenSpec.upto pegNamesSpec)

/-- 'furrowworkslaw01.PegTrue', WHERE WHAT IT READS IS OF BULK AT MOST 1048576: true; the input reads as it did. -/
def pegTrueUptoRow : OpenClaim := { program := "ytkjciobphbcknaa", sum := "9c93a0173cf716e4595005a59f8478aa1c086a1b48b7cb2f35fc977a63d3aa5c", func := "furrowworks/furrowworkslaw01.PegTrue", spec := "pegTrue", unfollowed := true, recurses := true, plainKeys := false, apart := false, narrowed := true }
def PegTrueUptoSaid : Prop := pegTrueUptoRow.holds Try.pinned (OpenSpec.upto pegTrueSpec)

/-- 'furrowworkslaw01.PegProof', WHERE WHAT IT READS IS OF BULK AT MOST 1048576: true; the input reads as it did. -/
def pegProofUptoRow : OpenClaim := { program := "ytkjciobphbcknaa", sum := "9c93a0173cf716e4595005a59f8478aa1c086a1b48b7cb2f35fc977a63d3aa5c", func := "furrowworks/furrowworkslaw01.PegProof", spec := "pegProof", unfollowed := true, recurses := true, plainKeys := false, apart := false, narrowed := true }
def PegProofUptoSaid : Prop := pegProofUptoRow.holds Try.pinned (OpenSpec.upto pegProofSpec)

/-- 'furrowworkslaw01.PegMore', WHERE WHAT IT READS IS OF BULK AT MOST 1048576: true; the input reads as it did. -/
def pegMoreUptoRow : OpenClaim := { program := "ytkjciobphbcknaa", sum := "9c93a0173cf716e4595005a59f8478aa1c086a1b48b7cb2f35fc977a63d3aa5c", func := "furrowworks/furrowworkslaw01.PegMore", spec := "pegMore", unfollowed := true, recurses := true, plainKeys := false, apart := false, narrowed := true }
def PegMoreUptoSaid : Prop := pegMoreUptoRow.holds Try.pinned (OpenSpec.upto pegMoreSpec)

/-- 'furrowworkslaw01.PegTurned', WHERE WHAT IT READS IS OF BULK AT MOST 1048576: true; the input reads as it did. -/
def pegTurnedUptoRow : OpenClaim := { program := "ytkjciobphbcknaa", sum := "9c93a0173cf716e4595005a59f8478aa1c086a1b48b7cb2f35fc977a63d3aa5c", func := "furrowworks/furrowworkslaw01.PegTurned", spec := "pegTurned", unfollowed := true, recurses := true, plainKeys := false, apart := false, narrowed := true }
def PegTurnedUptoSaid : Prop := pegTurnedUptoRow.holds Try.pinned (OpenSpec.upto pegTurnedSpec)

/-- 'furrowworkslaw01.PegFree', WHERE WHAT IT READS IS OF BULK AT MOST 1048576: true; the input reads as it did. -/
def pegFreeUptoRow : OpenClaim := { program := "ytkjciobphbcknaa", sum := "9c93a0173cf716e4595005a59f8478aa1c086a1b48b7cb2f35fc977a63d3aa5c", func := "furrowworks/furrowworkslaw01.PegFree", spec := "pegFree", unfollowed := true, recurses := true, plainKeys := false, apart := false, narrowed := true }
def PegFreeUptoSaid : Prop := pegFreeUptoRow.holds Try.pinned (OpenSpec.upto pegFreeSpec)

end Rows
end Go.Proofs.Ytkjciobphbcknaa
