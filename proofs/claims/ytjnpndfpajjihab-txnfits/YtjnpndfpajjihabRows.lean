/-
  No cell of these rows narrows 'for every input' (looked for: loops, veiled, ifaces, maps, wideKeys, modest, calm, conditions, laid).
  DERIVED. THE GIVEN ROWS OF THIS SEAT. 8 by the template 'for every input the law returns true; each argument reads behind the call as it read before'; 0 by the template 'total and deterministic' (their statements: YtjnpndfpajjihabTotals.lean).
  GIVEN WITH THE SEED: the statements are not yours to turn. If you find one false, say at which input.
  Laid BY PROGRAM, IN A SANDBOX (cutbox-rows.mjs): the forced cells as the released guide's own fill.sh prints them over the translation 11393a6211aa8133… (all of the seat's roots in one cut). By AI agents, Wed Nov 11 2026. No macro, syntax, notation, axiom, sorry.
-/
import Derived.Test.YtjnpndfpajjihabChecked
import GoSem.Claim
import GoSem.ClaimJoined
import GoSem.ClaimMapViews
import Derived.JoinedTies
import Derived.KernelRfl
namespace Go.Proofs.Ytjnpndfpajjihab
/- THE CELL 'sum', in the pinned program and in every row, IS THE sha256 OF THE DUMP (.gsa) THAT YtjnpndfpajjihabProg.lean LOADS. Nothing in Lean hashes anything: it is a label: what it is worth is what the hold of that sum in a sandbox is worth. -/
noncomputable def Try.pinned : Pinned := { name := "ytjnpndfpajjihab", sum := "11393a6211aa813375b494b09ca8ff297e3a9d1b65850409dd26ede74b969d76", checked := Try.checked }
namespace Rows
def none {H : Type} : Left H := { results := [], args := [] }

/-- 'wastebookkeep.RingParts': WHATEVER THE INPUT: true; the input reads as it did. -/
def ringPartsSpec : ChangeSpec := { name := "ringParts", fn := fun _ => fun
  | [d1, d2, d3] => { results := [.lit (.bool true)], args := [d1, d2, d3] }
  | _ => none }
def ringPartsRow : OpenClaim := { program := "ytjnpndfpajjihab", sum := "11393a6211aa813375b494b09ca8ff297e3a9d1b65850409dd26ede74b969d76", func := "wastebook/wastebookkeep.RingParts", spec := "ringParts", apart := false }
def RingPartsSaid : Prop := ringPartsRow.holds Try.pinned (OpenSpec.ofChange ringPartsSpec)

/-- ITS FALSE NEIGHBOUR: 'it returns false'. Refute it at one input. -/
def ringPartsWrong : ChangeSpec := { name := "ringParts", fn := fun _ => fun
  | [d1, d2, d3] => { results := [.lit (.bool false)], args := [d1, d2, d3] }
  | _ => none }
def RingPartsWrongFalsely : Prop := ringPartsRow.holds Try.pinned (OpenSpec.ofChange ringPartsWrong)

/-- 'wastebooklaw.TxnBegins': WHATEVER THE INPUT: true; the input reads as it did. -/
def txnBeginsSpec : ChangeSpec := { name := "txnBegins", fn := fun _ => fun
  | [d1, d2, d3, d4] => { results := [.lit (.bool true)], args := [d1, d2, d3, d4] }
  | _ => none }
def txnBeginsRow : OpenClaim := { program := "ytjnpndfpajjihab", sum := "11393a6211aa813375b494b09ca8ff297e3a9d1b65850409dd26ede74b969d76", func := "wastebook/wastebooklaw.TxnBegins", spec := "txnBegins", inPlace := ["internal/abi.NoEscape", "internal/bytealg.MakeNoZero"], unfollowed := true, recurses := true, apart := false }
def TxnBeginsSaid : Prop := txnBeginsRow.holds Try.pinned (OpenSpec.ofChange txnBeginsSpec)

/-- ITS FALSE NEIGHBOUR: 'it returns false'. Refute it at one input. -/
def txnBeginsWrong : ChangeSpec := { name := "txnBegins", fn := fun _ => fun
  | [d1, d2, d3, d4] => { results := [.lit (.bool false)], args := [d1, d2, d3, d4] }
  | _ => none }
def TxnBeginsWrongFalsely : Prop := txnBeginsRow.holds Try.pinned (OpenSpec.ofChange txnBeginsWrong)

/-- 'wastebookkeep.TxnFits': WHATEVER THE INPUT: true; the input reads as it did. -/
def txnFitsSpec : ChangeSpec := { name := "txnFits", fn := fun _ => fun
  | [d1, d2] => { results := [.lit (.bool true)], args := [d1, d2] }
  | _ => none }
def txnFitsRow : OpenClaim := { program := "ytjnpndfpajjihab", sum := "11393a6211aa813375b494b09ca8ff297e3a9d1b65850409dd26ede74b969d76", func := "wastebook/wastebookkeep.TxnFits", spec := "txnFits", inPlace := ["internal/abi.NoEscape", "internal/bytealg.MakeNoZero"], unfollowed := true, recurses := true, apart := false }
def TxnFitsSaid : Prop := txnFitsRow.holds Try.pinned (OpenSpec.ofChange txnFitsSpec)

/-- ITS FALSE NEIGHBOUR: 'it returns false'. Refute it at one input. -/
def txnFitsWrong : ChangeSpec := { name := "txnFits", fn := fun _ => fun
  | [d1, d2] => { results := [.lit (.bool false)], args := [d1, d2] }
  | _ => none }
def TxnFitsWrongFalsely : Prop := txnFitsRow.holds Try.pinned (OpenSpec.ofChange txnFitsWrong)

/-- 'wastebookkeep.TxnLast': WHATEVER THE INPUT: true; the input reads as it did. -/
def txnLastSpec : ChangeSpec := { name := "txnLast", fn := fun _ => fun
  | [d1, d2, d3, d4, d5] => { results := [.lit (.bool true)], args := [d1, d2, d3, d4, d5] }
  | _ => none }
def txnLastRow : OpenClaim := { program := "ytjnpndfpajjihab", sum := "11393a6211aa813375b494b09ca8ff297e3a9d1b65850409dd26ede74b969d76", func := "wastebook/wastebookkeep.TxnLast", spec := "txnLast", inPlace := ["internal/abi.NoEscape", "internal/bytealg.MakeNoZero"], unfollowed := true, recurses := true, apart := false }
def TxnLastSaid : Prop := txnLastRow.holds Try.pinned (OpenSpec.ofChange txnLastSpec)

/-- ITS FALSE NEIGHBOUR: 'it returns false'. Refute it at one input. -/
def txnLastWrong : ChangeSpec := { name := "txnLast", fn := fun _ => fun
  | [d1, d2, d3, d4, d5] => { results := [.lit (.bool false)], args := [d1, d2, d3, d4, d5] }
  | _ => none }
def TxnLastWrongFalsely : Prop := txnLastRow.holds Try.pinned (OpenSpec.ofChange txnLastWrong)

/-- 'wastebookkeep.SealNewest': WHATEVER THE INPUT: true; the input reads as it did. -/
def sealNewestSpec : ChangeSpec := { name := "sealNewest", fn := fun _ => fun
  | [d1, d2] => { results := [.lit (.bool true)], args := [d1, d2] }
  | _ => none }
def sealNewestRow : OpenClaim := { program := "ytjnpndfpajjihab", sum := "11393a6211aa813375b494b09ca8ff297e3a9d1b65850409dd26ede74b969d76", func := "wastebook/wastebookkeep.SealNewest", spec := "sealNewest", inPlace := ["internal/abi.NoEscape", "internal/bytealg.MakeNoZero"], unfollowed := true, recurses := true, apart := false }
def SealNewestSaid : Prop := sealNewestRow.holds Try.pinned (OpenSpec.ofChange sealNewestSpec)

/-- ITS FALSE NEIGHBOUR: 'it returns false'. Refute it at one input. -/
def sealNewestWrong : ChangeSpec := { name := "sealNewest", fn := fun _ => fun
  | [d1, d2] => { results := [.lit (.bool false)], args := [d1, d2] }
  | _ => none }
def SealNewestWrongFalsely : Prop := sealNewestRow.holds Try.pinned (OpenSpec.ofChange sealNewestWrong)

/-- 'wastebooklaw.RecoverScans': WHATEVER THE INPUT: true; the input reads as it did. -/
def recoverScansSpec : ChangeSpec := { name := "recoverScans", fn := fun _ => fun
  | [d] => { results := [.lit (.bool true)], args := [d] }
  | _ => none }
def recoverScansRow : OpenClaim := { program := "ytjnpndfpajjihab", sum := "11393a6211aa813375b494b09ca8ff297e3a9d1b65850409dd26ede74b969d76", func := "wastebook/wastebooklaw.RecoverScans", spec := "recoverScans", inPlace := ["internal/abi.NoEscape", "internal/bytealg.MakeNoZero"], unfollowed := true, recurses := true, apart := false }
def RecoverScansSaid : Prop := recoverScansRow.holds Try.pinned (OpenSpec.ofChange recoverScansSpec)

/-- ITS FALSE NEIGHBOUR: 'it returns false'. Refute it at one input. -/
def recoverScansWrong : ChangeSpec := { name := "recoverScans", fn := fun _ => fun
  | [d] => { results := [.lit (.bool false)], args := [d] }
  | _ => none }
def RecoverScansWrongFalsely : Prop := recoverScansRow.holds Try.pinned (OpenSpec.ofChange recoverScansWrong)

/-- 'wastebooklaw.RecoverReplays': WHATEVER THE INPUT: true; the input reads as it did. -/
def recoverReplaysSpec : ChangeSpec := { name := "recoverReplays", fn := fun _ => fun
  | [d] => { results := [.lit (.bool true)], args := [d] }
  | _ => none }
def recoverReplaysRow : OpenClaim := { program := "ytjnpndfpajjihab", sum := "11393a6211aa813375b494b09ca8ff297e3a9d1b65850409dd26ede74b969d76", func := "wastebook/wastebooklaw.RecoverReplays", spec := "recoverReplays", inPlace := ["internal/abi.NoEscape", "internal/bytealg.MakeNoZero"], unfollowed := true, recurses := true, apart := false }
def RecoverReplaysSaid : Prop := recoverReplaysRow.holds Try.pinned (OpenSpec.ofChange recoverReplaysSpec)

/-- ITS FALSE NEIGHBOUR: 'it returns false'. Refute it at one input. -/
def recoverReplaysWrong : ChangeSpec := { name := "recoverReplays", fn := fun _ => fun
  | [d] => { results := [.lit (.bool false)], args := [d] }
  | _ => none }
def RecoverReplaysWrongFalsely : Prop := recoverReplaysRow.holds Try.pinned (OpenSpec.ofChange recoverReplaysWrong)

/-- 'wastebookkeep.RecoverTwice': WHATEVER THE INPUT: true; the input reads as it did. -/
def recoverTwiceSpec : ChangeSpec := { name := "recoverTwice", fn := fun _ => fun
  | [d1, d2, d3] => { results := [.lit (.bool true)], args := [d1, d2, d3] }
  | _ => none }
def recoverTwiceRow : OpenClaim := { program := "ytjnpndfpajjihab", sum := "11393a6211aa813375b494b09ca8ff297e3a9d1b65850409dd26ede74b969d76", func := "wastebook/wastebookkeep.RecoverTwice", spec := "recoverTwice", inPlace := ["internal/abi.NoEscape", "internal/bytealg.MakeNoZero"], unfollowed := true, recurses := true, apart := false }
def RecoverTwiceSaid : Prop := recoverTwiceRow.holds Try.pinned (OpenSpec.ofChange recoverTwiceSpec)

/-- ITS FALSE NEIGHBOUR: 'it returns false'. Refute it at one input. -/
def recoverTwiceWrong : ChangeSpec := { name := "recoverTwice", fn := fun _ => fun
  | [d1, d2, d3] => { results := [.lit (.bool false)], args := [d1, d2, d3] }
  | _ => none }
def RecoverTwiceWrongFalsely : Prop := recoverTwiceRow.holds Try.pinned (OpenSpec.ofChange recoverTwiceWrong)

/- THE SECOND FORM. 'bulk': how many values and letters a reading holds, each counted each time it is reached (what is shared counts as often as it is met; a slice's spare places count too). A statement '..UptoSaid' is the law's where the arguments, and the package variables that the reading takes, are together of bulk at most 1048576: NARROWER than '..Said'. Prove '..Said' where nothing that the law and all that it calls make is longer than what came in: it says more and counts as full. Else prove '..UptoSaid'. A law counts once. -/
mutual
def uptoBulk {H : Type} : DataW H → Nat
  | .lit (.string bytes) => bytes.length + 1
  | .lit _ => 1
  | .nil => 1
  | .ptr d => uptoBulk d + 1
  | .slice elems spare => uptoBulkAll elems + uptoBulkAll spare + 1
  | .agg parts => uptoBulkAll parts + 1
  | .iface _ d => uptoBulk d + 1
  | .map entries => uptoBulkEntries entries + 1
  | .held _ => 1
def uptoBulkAll {H : Type} : List (DataW H) → Nat
  | [] => 0
  | d :: r => uptoBulk d + uptoBulkAll r
def uptoBulkEntries {H : Type} : List (Lit × DataW H) → Nat
  | [] => 0
  | x :: r => uptoBulkEntry x + uptoBulkEntries r
def uptoBulkEntry {H : Type} : Lit × DataW H → Nat
  | (.string bytes, d) => bytes.length + uptoBulk d + 1
  | (_, d) => uptoBulk d + 1
 end
def uptoSmall : (H : Type) → List (DataW H) → Bool := fun _ ds => decide (uptoBulkAll ds ≤ 1048576)
def OpenSpec.upto (s : _root_.Go.ChangeSpec) : _root_.Go.OpenSpec := { _root_.Go.OpenSpec.ofChange s with cond := some uptoSmall }

/-- 'wastebookkeep.RingParts', WHERE WHAT IT READS IS OF BULK AT MOST 1048576: true; the input reads as it did. -/
def ringPartsUptoRow : OpenClaim := { program := "ytjnpndfpajjihab", sum := "11393a6211aa813375b494b09ca8ff297e3a9d1b65850409dd26ede74b969d76", func := "wastebook/wastebookkeep.RingParts", spec := "ringParts", apart := false, narrowed := true }
def RingPartsUptoSaid : Prop := ringPartsUptoRow.holds Try.pinned (OpenSpec.upto ringPartsSpec)

/-- 'wastebooklaw.TxnBegins', WHERE WHAT IT READS IS OF BULK AT MOST 1048576: true; the input reads as it did. -/
def txnBeginsUptoRow : OpenClaim := { program := "ytjnpndfpajjihab", sum := "11393a6211aa813375b494b09ca8ff297e3a9d1b65850409dd26ede74b969d76", func := "wastebook/wastebooklaw.TxnBegins", spec := "txnBegins", inPlace := ["internal/abi.NoEscape", "internal/bytealg.MakeNoZero"], unfollowed := true, recurses := true, apart := false, narrowed := true }
def TxnBeginsUptoSaid : Prop := txnBeginsUptoRow.holds Try.pinned (OpenSpec.upto txnBeginsSpec)

/-- 'wastebookkeep.TxnFits', WHERE WHAT IT READS IS OF BULK AT MOST 1048576: true; the input reads as it did. -/
def txnFitsUptoRow : OpenClaim := { program := "ytjnpndfpajjihab", sum := "11393a6211aa813375b494b09ca8ff297e3a9d1b65850409dd26ede74b969d76", func := "wastebook/wastebookkeep.TxnFits", spec := "txnFits", inPlace := ["internal/abi.NoEscape", "internal/bytealg.MakeNoZero"], unfollowed := true, recurses := true, apart := false, narrowed := true }
def TxnFitsUptoSaid : Prop := txnFitsUptoRow.holds Try.pinned (OpenSpec.upto txnFitsSpec)

/-- 'wastebookkeep.TxnLast', WHERE WHAT IT READS IS OF BULK AT MOST 1048576: true; the input reads as it did. -/
def txnLastUptoRow : OpenClaim := { program := "ytjnpndfpajjihab", sum := "11393a6211aa813375b494b09ca8ff297e3a9d1b65850409dd26ede74b969d76", func := "wastebook/wastebookkeep.TxnLast", spec := "txnLast", inPlace := ["internal/abi.NoEscape", "internal/bytealg.MakeNoZero"], unfollowed := true, recurses := true, apart := false, narrowed := true }
def TxnLastUptoSaid : Prop := txnLastUptoRow.holds Try.pinned (OpenSpec.upto txnLastSpec)

/-- 'wastebookkeep.SealNewest', WHERE WHAT IT READS IS OF BULK AT MOST 1048576: true; the input reads as it did. -/
def sealNewestUptoRow : OpenClaim := { program := "ytjnpndfpajjihab", sum := "11393a6211aa813375b494b09ca8ff297e3a9d1b65850409dd26ede74b969d76", func := "wastebook/wastebookkeep.SealNewest", spec := "sealNewest", inPlace := ["internal/abi.NoEscape", "internal/bytealg.MakeNoZero"], unfollowed := true, recurses := true, apart := false, narrowed := true }
def SealNewestUptoSaid : Prop := sealNewestUptoRow.holds Try.pinned (OpenSpec.upto sealNewestSpec)

/-- 'wastebooklaw.RecoverScans', WHERE WHAT IT READS IS OF BULK AT MOST 1048576: true; the input reads as it did. -/
def recoverScansUptoRow : OpenClaim := { program := "ytjnpndfpajjihab", sum := "11393a6211aa813375b494b09ca8ff297e3a9d1b65850409dd26ede74b969d76", func := "wastebook/wastebooklaw.RecoverScans", spec := "recoverScans", inPlace := ["internal/abi.NoEscape", "internal/bytealg.MakeNoZero"], unfollowed := true, recurses := true, apart := false, narrowed := true }
def RecoverScansUptoSaid : Prop := recoverScansUptoRow.holds Try.pinned (OpenSpec.upto recoverScansSpec)

/-- 'wastebooklaw.RecoverReplays', WHERE WHAT IT READS IS OF BULK AT MOST 1048576: true; the input reads as it did. -/
def recoverReplaysUptoRow : OpenClaim := { program := "ytjnpndfpajjihab", sum := "11393a6211aa813375b494b09ca8ff297e3a9d1b65850409dd26ede74b969d76", func := "wastebook/wastebooklaw.RecoverReplays", spec := "recoverReplays", inPlace := ["internal/abi.NoEscape", "internal/bytealg.MakeNoZero"], unfollowed := true, recurses := true, apart := false, narrowed := true }
def RecoverReplaysUptoSaid : Prop := recoverReplaysUptoRow.holds Try.pinned (OpenSpec.upto recoverReplaysSpec)

/-- 'wastebookkeep.RecoverTwice', WHERE WHAT IT READS IS OF BULK AT MOST 1048576: true; the input reads as it did. -/
def recoverTwiceUptoRow : OpenClaim := { program := "ytjnpndfpajjihab", sum := "11393a6211aa813375b494b09ca8ff297e3a9d1b65850409dd26ede74b969d76", func := "wastebook/wastebookkeep.RecoverTwice", spec := "recoverTwice", inPlace := ["internal/abi.NoEscape", "internal/bytealg.MakeNoZero"], unfollowed := true, recurses := true, apart := false, narrowed := true }
def RecoverTwiceUptoSaid : Prop := recoverTwiceUptoRow.holds Try.pinned (OpenSpec.upto recoverTwiceSpec)

end Rows
end Go.Proofs.Ytjnpndfpajjihab
