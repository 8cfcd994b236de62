/-
  NARROWER THAN 'FOR EVERY INPUT', by the rows' own cells (each row's printed sentence says how): LawTalk: laid.
  DERIVED. THE GIVEN ROWS OF THIS SEAT. 1 by the template 'for every input the law returns true; each argument reads behind the call as it read before'; 0 by the template 'total and deterministic' (their statements: YtbipdofobgabhaaGreatDoorTotals.lean).
  GIVEN WITH THE SEED: the statements are not yours to turn. If you find one false, say at which input.
  Laid BY PROGRAM, IN A SANDBOX (cutbox-rows.mjs): the forced cells as the released guide's own fill.sh prints them over the translation 6e4390bde999b71e… (all of the seat's roots in one cut). By AI agents, Wed Nov 11 2026. No macro, syntax, notation, axiom, sorry.
-/
import Derived.Test.YtbipdofobgabhaaGreatDoorChecked
import GoSem.Claim
import GoSem.ClaimJoined
import GoSem.ClaimMapViews
import Derived.JoinedTies
import Derived.KernelRfl
namespace Go.Proofs.YtbipdofobgabhaaGreatDoor
/- THE CELL 'sum', in the pinned program and in every row, IS THE sha256 OF THE DUMP (.gsa) THAT YtbipdofobgabhaaGreatDoorProg.lean LOADS. Nothing in Lean hashes anything: it is a label: what it is worth is what the hold of that sum in a sandbox is worth. -/
noncomputable def Tryz.pinned : Pinned := { name := "ytbipdofobgabhaagreatdoor", sum := "6e4390bde999b71e9e8992cb448deab1399310bd189dc398dc49389d667d46d3", checked := Tryz.checked }
namespace Rows
def none {H : Type} : Left H := { results := [], args := [] }

/- WHAT THE LISTED PACKAGE-LEVEL VARIABLES READ AS WHEN THE CALL BEGINS. Each datum BY PROGRAM (the guide's laid-datum.mjs) off the statement by which the dump's own 'gosem.cut.vars' lays the variable. In a bare row this is a premise. The card (YtbipdofobgabhaaGreatDoorCards.lean) ties it to the program's text. -/
def laid_ratchet_prim_roundConstants {H : Type} : DataW H := .agg [.lit (.int .u32 1116352408), .lit (.int .u32 1899447441), .lit (.int .u32 3049323471), .lit (.int .u32 3921009573), .lit (.int .u32 961987163), .lit (.int .u32 1508970993), .lit (.int .u32 2453635748), .lit (.int .u32 2870763221), .lit (.int .u32 3624381080), .lit (.int .u32 310598401), .lit (.int .u32 607225278), .lit (.int .u32 1426881987), .lit (.int .u32 1925078388), .lit (.int .u32 2162078206), .lit (.int .u32 2614888103), .lit (.int .u32 3248222580), .lit (.int .u32 3835390401), .lit (.int .u32 4022224774), .lit (.int .u32 264347078), .lit (.int .u32 604807628), .lit (.int .u32 770255983), .lit (.int .u32 1249150122), .lit (.int .u32 1555081692), .lit (.int .u32 1996064986), .lit (.int .u32 2554220882), .lit (.int .u32 2821834349), .lit (.int .u32 2952996808), .lit (.int .u32 3210313671), .lit (.int .u32 3336571891), .lit (.int .u32 3584528711), .lit (.int .u32 113926993), .lit (.int .u32 338241895), .lit (.int .u32 666307205), .lit (.int .u32 773529912), .lit (.int .u32 1294757372), .lit (.int .u32 1396182291), .lit (.int .u32 1695183700), .lit (.int .u32 1986661051), .lit (.int .u32 2177026350), .lit (.int .u32 2456956037), .lit (.int .u32 2730485921), .lit (.int .u32 2820302411), .lit (.int .u32 3259730800), .lit (.int .u32 3345764771), .lit (.int .u32 3516065817), .lit (.int .u32 3600352804), .lit (.int .u32 4094571909), .lit (.int .u32 275423344), .lit (.int .u32 430227734), .lit (.int .u32 506948616), .lit (.int .u32 659060556), .lit (.int .u32 883997877), .lit (.int .u32 958139571), .lit (.int .u32 1322822218), .lit (.int .u32 1537002063), .lit (.int .u32 1747873779), .lit (.int .u32 1955562222), .lit (.int .u32 2024104815), .lit (.int .u32 2227730452), .lit (.int .u32 2361852424), .lit (.int .u32 2428436474), .lit (.int .u32 2756734187), .lit (.int .u32 3204031479), .lit (.int .u32 3329325298)]
def laid_ratchet_machine_errBad {H : Type} : DataW H := .iface "*errors.errorString" (.ptr (.agg [.lit (.string [110, 111, 116, 32, 97, 32, 118, 97, 108, 105, 100, 32, 115, 116, 97, 116, 101])]))
def laid_ratchet_machine_errMalformed {H : Type} : DataW H := .iface "*errors.errorString" (.ptr (.agg [.lit (.string [110, 111, 116, 32, 97, 32, 102, 114, 97, 109, 101])]))
def laid_ratchet_machine_errBadTag {H : Type} : DataW H := .iface "*errors.errorString" (.ptr (.agg [.lit (.string [116, 104, 101, 32, 116, 97, 103, 32, 105, 115, 32, 119, 114, 111, 110, 103, 32, 117, 110, 100, 101, 114, 32, 116, 104, 101, 32, 107, 101, 121, 32, 111, 102, 32, 116, 104, 101, 32, 112, 111, 115, 105, 116, 105, 111, 110])]))
def laid_ratchet_machine_errSkipLimit {H : Type} : DataW H := .iface "*errors.errorString" (.ptr (.agg [.lit (.string [109, 111, 114, 101, 32, 107, 101, 121, 115, 32, 116, 111, 32, 115, 107, 105, 112, 32, 105, 110, 32, 111, 110, 101, 32, 99, 104, 97, 105, 110, 32, 116, 104, 97, 110, 32, 116, 104, 101, 32, 115, 107, 105, 112, 32, 108, 105, 109, 105, 116])]))
def laid_ratchet_machine_errStoreFull {H : Type} : DataW H := .iface "*errors.errorString" (.ptr (.agg [.lit (.string [116, 104, 101, 32, 115, 107, 105, 112, 112, 101, 100, 32, 107, 101, 121, 115, 32, 100, 111, 32, 110, 111, 116, 32, 102, 105, 116, 32, 105, 110, 116, 111, 32, 116, 104, 101, 32, 115, 116, 111, 114, 101])]))
def laid_ratchet_machine_errCounter {H : Type} : DataW H := .iface "*errors.errorString" (.ptr (.agg [.lit (.string [97, 32, 99, 111, 117, 110, 116, 101, 114, 32, 115, 116, 97, 110, 100, 115, 32, 97, 116, 32, 105, 116, 115, 32, 101, 110, 100])]))
def laid_ratchet_machine_errOld {H : Type} : DataW H := .iface "*errors.errorString" (.ptr (.agg [.lit (.string [116, 104, 101, 32, 112, 111, 115, 105, 116, 105, 111, 110, 32, 108, 105, 101, 115, 32, 98, 101, 104, 105, 110, 100, 32, 97, 110, 100, 32, 110, 111, 32, 107, 101, 121, 32, 105, 115, 32, 107, 101, 112, 116, 32, 102, 111, 114, 32, 105, 116])]))
def laid_ratchet_machine_errNotReady {H : Type} : DataW H := .iface "*errors.errorString" (.ptr (.agg [.lit (.string [97, 32, 107, 101, 121, 32, 111, 102, 32, 116, 104, 101, 32, 112, 101, 101, 114, 32, 111, 114, 32, 111, 102, 32, 111, 110, 101, 39, 115, 32, 111, 119, 110, 32, 105, 115, 32, 110, 111, 116, 32, 116, 104, 101, 114, 101, 32, 121, 101, 116])]))
def laid_ratchet_machine_errTooLong {H : Type} : DataW H := .iface "*errors.errorString" (.ptr (.agg [.lit (.string [116, 104, 101, 32, 109, 101, 115, 115, 97, 103, 101, 32, 105, 115, 32, 116, 111, 111, 32, 108, 111, 110, 103])]))

/-- 'ratchetlaw.LawTalk': WHATEVER THE INPUT: true; the input reads as it did. -/
def lawTalkSpec : ChangeSpec := { name := "lawTalk", fn := fun _ => fun
  | [d1, d2, d3, d4, d5, d6] => { results := [.lit (.bool true)], args := [d1, d2, d3, d4, d5, d6] }
  | _ => none }
def lawTalkRow : OpenClaim := { program := "ytbipdofobgabhaagreatdoor", sum := "6e4390bde999b71e9e8992cb448deab1399310bd189dc398dc49389d667d46d3", func := "ratchet/ratchetlaw.LawTalk", spec := "lawTalk", inPlace := ["math/bits.Add64", "internal/reflectlite.TypeOf"], unfollowed := true, recurses := true, named := ["ratchet/machine.errBad", "ratchet/machine.errTooLong", "ratchet/machine.errNotReady", "ratchet/machine.errCounter", "ratchet/machine.errMalformed", "ratchet/machine.errBadTag", "ratchet/machine.errSkipLimit", "ratchet/machine.errStoreFull", "ratchet/machine.errOld", "ratchet/prim.roundConstants"], apart := false, laid := [("ratchet/prim.roundConstants", laid_ratchet_prim_roundConstants), ("ratchet/machine.errBad", laid_ratchet_machine_errBad), ("ratchet/machine.errMalformed", laid_ratchet_machine_errMalformed), ("ratchet/machine.errBadTag", laid_ratchet_machine_errBadTag), ("ratchet/machine.errSkipLimit", laid_ratchet_machine_errSkipLimit), ("ratchet/machine.errStoreFull", laid_ratchet_machine_errStoreFull), ("ratchet/machine.errCounter", laid_ratchet_machine_errCounter), ("ratchet/machine.errOld", laid_ratchet_machine_errOld), ("ratchet/machine.errNotReady", laid_ratchet_machine_errNotReady), ("ratchet/machine.errTooLong", laid_ratchet_machine_errTooLong)] }
def LawTalkSaid : Prop := lawTalkRow.holds Tryz.pinned (OpenSpec.ofChange lawTalkSpec)

/-- ITS FALSE NEIGHBOUR: 'it returns false'. Refute it at one input. -/
def lawTalkWrong : ChangeSpec := { name := "lawTalk", fn := fun _ => fun
  | [d1, d2, d3, d4, d5, d6] => { results := [.lit (.bool false)], args := [d1, d2, d3, d4, d5, d6] }
  | _ => none }
def LawTalkWrongFalsely : Prop := lawTalkRow.holds Tryz.pinned (OpenSpec.ofChange lawTalkWrong)

/- THE SECOND FORM. 'bulk': how many values and letters a reading holds, each counted each time it is reached (what is shared counts as often as it is met; a slice's spare places count too). A statement '..UptoSaid' is the law's where the arguments, and the package variables that the reading takes, are together of bulk at most 1048576: NARROWER than '..Said'. Prove '..Said' where nothing that the law and all that it calls make is longer than what came in: it says more and counts as full. Else prove '..UptoSaid'. A law counts once. -/
mutual
def uptoBulk {H : Type} : DataW H → Nat
  | .lit (.string bytes) => bytes.length + 1
  | .lit _ => 1
  | .nil => 1
  | .ptr d => uptoBulk d + 1
  | .slice elems spare => uptoBulkAll elems + uptoBulkAll spare + 1
  | .agg parts => uptoBulkAll parts + 1
  | .iface _ d => uptoBulk d + 1
  | .map entries => uptoBulkEntries entries + 1
  | .held _ => 1
def uptoBulkAll {H : Type} : List (DataW H) → Nat
  | [] => 0
  | d :: r => uptoBulk d + uptoBulkAll r
def uptoBulkEntries {H : Type} : List (Lit × DataW H) → Nat
  | [] => 0
  | x :: r => uptoBulkEntry x + uptoBulkEntries r
def uptoBulkEntry {H : Type} : Lit × DataW H → Nat
  | (.string bytes, d) => bytes.length + uptoBulk d + 1
  | (_, d) => uptoBulk d + 1
 end
def uptoSmall : (H : Type) → List (DataW H) → Bool := fun _ ds => decide (uptoBulkAll ds ≤ 1048576)
def OpenSpec.upto (s : _root_.Go.ChangeSpec) : _root_.Go.OpenSpec := { _root_.Go.OpenSpec.ofChange s with cond := some uptoSmall }

/-- 'ratchetlaw.LawTalk', WHERE WHAT IT READS IS OF BULK AT MOST 1048576: true; the input reads as it did. -/
def lawTalkUptoRow : OpenClaim := { program := "ytbipdofobgabhaagreatdoor", sum := "6e4390bde999b71e9e8992cb448deab1399310bd189dc398dc49389d667d46d3", func := "ratchet/ratchetlaw.LawTalk", spec := "lawTalk", inPlace := ["math/bits.Add64", "internal/reflectlite.TypeOf"], unfollowed := true, recurses := true, named := ["ratchet/machine.errBad", "ratchet/machine.errTooLong", "ratchet/machine.errNotReady", "ratchet/machine.errCounter", "ratchet/machine.errMalformed", "ratchet/machine.errBadTag", "ratchet/machine.errSkipLimit", "ratchet/machine.errStoreFull", "ratchet/machine.errOld", "ratchet/prim.roundConstants"], apart := false, laid := [("ratchet/prim.roundConstants", laid_ratchet_prim_roundConstants), ("ratchet/machine.errBad", laid_ratchet_machine_errBad), ("ratchet/machine.errMalformed", laid_ratchet_machine_errMalformed), ("ratchet/machine.errBadTag", laid_ratchet_machine_errBadTag), ("ratchet/machine.errSkipLimit", laid_ratchet_machine_errSkipLimit), ("ratchet/machine.errStoreFull", laid_ratchet_machine_errStoreFull), ("ratchet/machine.errCounter", laid_ratchet_machine_errCounter), ("ratchet/machine.errOld", laid_ratchet_machine_errOld), ("ratchet/machine.errNotReady", laid_ratchet_machine_errNotReady), ("ratchet/machine.errTooLong", laid_ratchet_machine_errTooLong)], narrowed := true }
def LawTalkUptoSaid : Prop := lawTalkUptoRow.holds Tryz.pinned (OpenSpec.upto lawTalkSpec)

end Rows
end Go.Proofs.YtbipdofobgabhaaGreatDoor
