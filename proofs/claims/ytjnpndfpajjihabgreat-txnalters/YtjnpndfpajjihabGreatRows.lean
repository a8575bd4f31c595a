/-
  No cell of these rows narrows 'for every input' (looked for: loops, veiled, ifaces, maps, wideKeys, modest, calm, conditions, laid).
  DERIVED. THE GIVEN ROWS OF THIS SEAT. 4 by the template 'for every input the law returns true; each argument reads behind the call as it read before'; 0 by the template 'total and deterministic' (their statements: YtjnpndfpajjihabGreatTotals.lean).
  GIVEN WITH THE SEED: the statements are not yours to turn. If you find one false, say at which input.
  Laid BY PROGRAM, IN A SANDBOX (cutbox-rows.mjs): the forced cells as the released guide's own fill.sh prints them over the translation bd11a4ebb7fa949d… (all of the seat's roots in one cut). By AI agents, Wed Nov 11 2026. No macro, syntax, notation, axiom, sorry.
-/
import Derived.Test.YtjnpndfpajjihabGreatChecked
import GoSem.Claim
import GoSem.ClaimJoined
import GoSem.ClaimMapViews
import Derived.JoinedTies
import Derived.KernelRfl
namespace Go.Proofs.YtjnpndfpajjihabGreat
/- THE CELL 'sum', in the pinned program and in every row, IS THE sha256 OF THE DUMP (.gsa) THAT YtjnpndfpajjihabGreatProg.lean LOADS. Nothing in Lean hashes anything: it is a label: what it is worth is what the hold of that sum in a sandbox is worth. -/
noncomputable def Tryz.pinned : Pinned := { name := "ytjnpndfpajjihabgreat", sum := "bd11a4ebb7fa949d8463fcc58fcd76d8ddf829588a911bdfe25e6a7a020f7411", checked := Tryz.checked }
namespace Rows
def none {H : Type} : Left H := { results := [], args := [] }

/-- 'wastebooklaw.TxnAlters': WHATEVER THE INPUT: true; the input reads as it did. -/
def txnAltersSpec : ChangeSpec := { name := "txnAlters", fn := fun _ => fun
  | [d1, d2, d3, d4] => { results := [.lit (.bool true)], args := [d1, d2, d3, d4] }
  | _ => none }
def txnAltersRow : OpenClaim := { program := "ytjnpndfpajjihabgreat", sum := "bd11a4ebb7fa949d8463fcc58fcd76d8ddf829588a911bdfe25e6a7a020f7411", func := "wastebook/wastebooklaw.TxnAlters", spec := "txnAlters", inPlace := ["internal/abi.NoEscape", "internal/bytealg.MakeNoZero"], unfollowed := true, recurses := true, apart := false }
def TxnAltersSaid : Prop := txnAltersRow.holds Tryz.pinned (OpenSpec.ofChange txnAltersSpec)

/-- ITS FALSE NEIGHBOUR: 'it returns false'. Refute it at one input. -/
def txnAltersWrong : ChangeSpec := { name := "txnAlters", fn := fun _ => fun
  | [d1, d2, d3, d4] => { results := [.lit (.bool false)], args := [d1, d2, d3, d4] }
  | _ => none }
def TxnAltersWrongFalsely : Prop := txnAltersRow.holds Tryz.pinned (OpenSpec.ofChange txnAltersWrong)

/-- 'wastebooklaw.SealCommits': WHATEVER THE INPUT: true; the input reads as it did. -/
def sealCommitsSpec : ChangeSpec := { name := "sealCommits", fn := fun _ => fun
  | [d1, d2] => { results := [.lit (.bool true)], args := [d1, d2] }
  | _ => none }
def sealCommitsRow : OpenClaim := { program := "ytjnpndfpajjihabgreat", sum := "bd11a4ebb7fa949d8463fcc58fcd76d8ddf829588a911bdfe25e6a7a020f7411", func := "wastebook/wastebooklaw.SealCommits", spec := "sealCommits", inPlace := ["internal/abi.NoEscape", "internal/bytealg.MakeNoZero"], unfollowed := true, recurses := true, apart := false }
def SealCommitsSaid : Prop := sealCommitsRow.holds Tryz.pinned (OpenSpec.ofChange sealCommitsSpec)

/-- ITS FALSE NEIGHBOUR: 'it returns false'. Refute it at one input. -/
def sealCommitsWrong : ChangeSpec := { name := "sealCommits", fn := fun _ => fun
  | [d1, d2] => { results := [.lit (.bool false)], args := [d1, d2] }
  | _ => none }
def SealCommitsWrongFalsely : Prop := sealCommitsRow.holds Tryz.pinned (OpenSpec.ofChange sealCommitsWrong)

/-- 'wastebooklaw.SealChecks': WHATEVER THE INPUT: true; the input reads as it did. -/
def sealChecksSpec : ChangeSpec := { name := "sealChecks", fn := fun _ => fun
  | [d1, d2, d3, d4] => { results := [.lit (.bool true)], args := [d1, d2, d3, d4] }
  | _ => none }
def sealChecksRow : OpenClaim := { program := "ytjnpndfpajjihabgreat", sum := "bd11a4ebb7fa949d8463fcc58fcd76d8ddf829588a911bdfe25e6a7a020f7411", func := "wastebook/wastebooklaw.SealChecks", spec := "sealChecks", inPlace := ["internal/abi.NoEscape", "internal/bytealg.MakeNoZero"], unfollowed := true, recurses := true, apart := false }
def SealChecksSaid : Prop := sealChecksRow.holds Tryz.pinned (OpenSpec.ofChange sealChecksSpec)

/-- ITS FALSE NEIGHBOUR: 'it returns false'. Refute it at one input. -/
def sealChecksWrong : ChangeSpec := { name := "sealChecks", fn := fun _ => fun
  | [d1, d2, d3, d4] => { results := [.lit (.bool false)], args := [d1, d2, d3, d4] }
  | _ => none }
def SealChecksWrongFalsely : Prop := sealChecksRow.holds Tryz.pinned (OpenSpec.ofChange sealChecksWrong)

/-- 'wastebookkeep.SealWhole': WHATEVER THE INPUT: true; the input reads as it did. -/
def sealWholeSpec : ChangeSpec := { name := "sealWhole", fn := fun _ => fun
  | [d1, d2, d3, d4] => { results := [.lit (.bool true)], args := [d1, d2, d3, d4] }
  | _ => none }
def sealWholeRow : OpenClaim := { program := "ytjnpndfpajjihabgreat", sum := "bd11a4ebb7fa949d8463fcc58fcd76d8ddf829588a911bdfe25e6a7a020f7411", func := "wastebook/wastebookkeep.SealWhole", spec := "sealWhole", inPlace := ["internal/abi.NoEscape", "internal/bytealg.MakeNoZero"], unfollowed := true, recurses := true, apart := false }
def SealWholeSaid : Prop := sealWholeRow.holds Tryz.pinned (OpenSpec.ofChange sealWholeSpec)

/-- ITS FALSE NEIGHBOUR: 'it returns false'. Refute it at one input. -/
def sealWholeWrong : ChangeSpec := { name := "sealWhole", fn := fun _ => fun
  | [d1, d2, d3, d4] => { results := [.lit (.bool false)], args := [d1, d2, d3, d4] }
  | _ => none }
def SealWholeWrongFalsely : Prop := sealWholeRow.holds Tryz.pinned (OpenSpec.ofChange sealWholeWrong)

/- THE SECOND FORM. 'bulk': how many values and letters a reading holds, each counted each time it is reached (what is shared counts as often as it is met; a slice's spare places count too). A statement '..UptoSaid' is the law's where the arguments, and the package variables that the reading takes, are together of bulk at most 1048576: NARROWER than '..Said'. Prove '..Said' where nothing that the law and all that it calls make is longer than what came in: it says more and counts as full. Else prove '..UptoSaid'. A law counts once. -/
mutual
def uptoBulk {H : Type} : DataW H → Nat
  | .lit (.string bytes) => bytes.length + 1
  | .lit _ => 1
  | .nil => 1
  | .ptr d => uptoBulk d + 1
  | .slice elems spare => uptoBulkAll elems + uptoBulkAll spare + 1
  | .agg parts => uptoBulkAll parts + 1
  | .iface _ d => uptoBulk d + 1
  | .map entries => uptoBulkEntries entries + 1
  | .held _ => 1
def uptoBulkAll {H : Type} : List (DataW H) → Nat
  | [] => 0
  | d :: r => uptoBulk d + uptoBulkAll r
def uptoBulkEntries {H : Type} : List (Lit × DataW H) → Nat
  | [] => 0
  | x :: r => uptoBulkEntry x + uptoBulkEntries r
def uptoBulkEntry {H : Type} : Lit × DataW H → Nat
  | (.string bytes, d) => bytes.length + uptoBulk d + 1
  | (_, d) => uptoBulk d + 1
 end
def uptoSmall : (H : Type) → List (DataW H) → Bool := fun _ ds => decide (uptoBulkAll ds ≤ 1048576)
def OpenSpec.upto (s : _root_.Go.ChangeSpec) : _root_.Go.OpenSpec := { _root_.Go.OpenSpec.ofChange s with cond := some uptoSmall }

/-- 'wastebooklaw.TxnAlters', WHERE WHAT IT READS IS OF BULK AT MOST 1048576: true; the input reads as it did. -/
def txnAltersUptoRow : OpenClaim := { program := "ytjnpndfpajjihabgreat", sum := "bd11a4ebb7fa949d8463fcc58fcd76d8ddf829588a911bdfe25e6a7a020f7411", func := "wastebook/wastebooklaw.TxnAlters", spec := "txnAlters", inPlace := ["internal/abi.NoEscape", "internal/bytealg.MakeNoZero"], unfollowed := true, recurses := true, apart := false, narrowed := true }
def TxnAltersUptoSaid : Prop := txnAltersUptoRow.holds Tryz.pinned (OpenSpec.upto txnAltersSpec)

/-- 'wastebooklaw.SealCommits', WHERE WHAT IT READS IS OF BULK AT MOST 1048576: true; the input reads as it did. -/
def sealCommitsUptoRow : OpenClaim := { program := "ytjnpndfpajjihabgreat", sum := "bd11a4ebb7fa949d8463fcc58fcd76d8ddf829588a911bdfe25e6a7a020f7411", func := "wastebook/wastebooklaw.SealCommits", spec := "sealCommits", inPlace := ["internal/abi.NoEscape", "internal/bytealg.MakeNoZero"], unfollowed := true, recurses := true, apart := false, narrowed := true }
def SealCommitsUptoSaid : Prop := sealCommitsUptoRow.holds Tryz.pinned (OpenSpec.upto sealCommitsSpec)

/-- 'wastebooklaw.SealChecks', WHERE WHAT IT READS IS OF BULK AT MOST 1048576: true; the input reads as it did. -/
def sealChecksUptoRow : OpenClaim := { program := "ytjnpndfpajjihabgreat", sum := "bd11a4ebb7fa949d8463fcc58fcd76d8ddf829588a911bdfe25e6a7a020f7411", func := "wastebook/wastebooklaw.SealChecks", spec := "sealChecks", inPlace := ["internal/abi.NoEscape", "internal/bytealg.MakeNoZero"], unfollowed := true, recurses := true, apart := false, narrowed := true }
def SealChecksUptoSaid : Prop := sealChecksUptoRow.holds Tryz.pinned (OpenSpec.upto sealChecksSpec)

/-- 'wastebookkeep.SealWhole', WHERE WHAT IT READS IS OF BULK AT MOST 1048576: true; the input reads as it did. -/
def sealWholeUptoRow : OpenClaim := { program := "ytjnpndfpajjihabgreat", sum := "bd11a4ebb7fa949d8463fcc58fcd76d8ddf829588a911bdfe25e6a7a020f7411", func := "wastebook/wastebookkeep.SealWhole", spec := "sealWhole", inPlace := ["internal/abi.NoEscape", "internal/bytealg.MakeNoZero"], unfollowed := true, recurses := true, apart := false, narrowed := true }
def SealWholeUptoSaid : Prop := sealWholeUptoRow.holds Tryz.pinned (OpenSpec.upto sealWholeSpec)

end Rows
end Go.Proofs.YtjnpndfpajjihabGreat
