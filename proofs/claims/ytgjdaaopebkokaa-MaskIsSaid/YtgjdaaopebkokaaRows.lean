/-
  No cell of these rows narrows 'for every input' (looked for: loops, veiled, ifaces, maps, wideKeys, modest, calm, conditions, laid).
  DERIVED. THE GIVEN ROWS OF THIS SEAT. 10 by the template 'for every input the law returns true; each argument reads behind the call as it read before'; 0 by the template 'total and deterministic' (their statements: YtgjdaaopebkokaaTotals.lean).
  GIVEN WITH THE SEED: the statements are not yours to turn. If you find one false, say at which input.
  Laid BY PROGRAM, IN A SANDBOX (cutbox-rows.mjs): the forced cells as the released guide's own fill.sh prints them over the translation e2d081405ff0d490… (all of the seat's roots in one cut). By AI agents, Wed Nov 11 2026. No macro, syntax, notation, axiom, sorry.
-/
import Derived.Test.YtgjdaaopebkokaaChecked
import GoSem.Claim
import GoSem.ClaimJoined
import GoSem.ClaimMapViews
import Derived.JoinedTies
import Derived.KernelRfl
namespace Go.Proofs.Ytgjdaaopebkokaa
/- THE CELL 'sum', in the pinned program and in every row, IS THE sha256 OF THE DUMP (.gsa) THAT YtgjdaaopebkokaaProg.lean LOADS. Nothing in Lean hashes anything: it is a label: what it is worth is what the hold of that sum in a sandbox is worth. -/
noncomputable def Try.pinned : Pinned := { name := "ytgjdaaopebkokaa", sum := "e2d081405ff0d490cfe8db693be17c148bf20e84630cb61bed737a36b74919d5", checked := Try.checked }
namespace Rows
def none {H : Type} : Left H := { results := [], args := [] }

/-- 'lustrumlaw06.MaskIs': WHATEVER THE INPUT: true; the input reads as it did. -/
def maskIsSpec : ChangeSpec := { name := "maskIs", fn := fun _ => fun
  | [d1, d2, d3] => { results := [.lit (.bool true)], args := [d1, d2, d3] }
  | _ => none }
def maskIsRow : OpenClaim := { program := "ytgjdaaopebkokaa", sum := "e2d081405ff0d490cfe8db693be17c148bf20e84630cb61bed737a36b74919d5", func := "lustrum/lustrumlaw06.MaskIs", spec := "maskIs", apart := false }
def MaskIsSaid : Prop := maskIsRow.holds Try.pinned (OpenSpec.ofChange maskIsSpec)

/-- ITS FALSE NEIGHBOUR: 'it returns false'. Refute it at one input. -/
def maskIsWrong : ChangeSpec := { name := "maskIs", fn := fun _ => fun
  | [d1, d2, d3] => { results := [.lit (.bool false)], args := [d1, d2, d3] }
  | _ => none }
def MaskIsWrongFalsely : Prop := maskIsRow.holds Try.pinned (OpenSpec.ofChange maskIsWrong)

/-- 'lustrumlaw06.MaskSet': WHATEVER THE INPUT: true; the input reads as it did. -/
def maskSetSpec : ChangeSpec := { name := "maskSet", fn := fun _ => fun
  | [d1, d2] => { results := [.lit (.bool true)], args := [d1, d2] }
  | _ => none }
def maskSetRow : OpenClaim := { program := "ytgjdaaopebkokaa", sum := "e2d081405ff0d490cfe8db693be17c148bf20e84630cb61bed737a36b74919d5", func := "lustrum/lustrumlaw06.MaskSet", spec := "maskSet", unfollowed := true, recurses := true, apart := false }
def MaskSetSaid : Prop := maskSetRow.holds Try.pinned (OpenSpec.ofChange maskSetSpec)

/-- ITS FALSE NEIGHBOUR: 'it returns false'. Refute it at one input. -/
def maskSetWrong : ChangeSpec := { name := "maskSet", fn := fun _ => fun
  | [d1, d2] => { results := [.lit (.bool false)], args := [d1, d2] }
  | _ => none }
def MaskSetWrongFalsely : Prop := maskSetRow.holds Try.pinned (OpenSpec.ofChange maskSetWrong)

/-- 'lustrumlaw06.MaskDigits': WHATEVER THE INPUT: true; the input reads as it did. -/
def maskDigitsSpec : ChangeSpec := { name := "maskDigits", fn := fun _ => fun
  | [d1, d2, d3] => { results := [.lit (.bool true)], args := [d1, d2, d3] }
  | _ => none }
def maskDigitsRow : OpenClaim := { program := "ytgjdaaopebkokaa", sum := "e2d081405ff0d490cfe8db693be17c148bf20e84630cb61bed737a36b74919d5", func := "lustrum/lustrumlaw06.MaskDigits", spec := "maskDigits", apart := false }
def MaskDigitsSaid : Prop := maskDigitsRow.holds Try.pinned (OpenSpec.ofChange maskDigitsSpec)

/-- ITS FALSE NEIGHBOUR: 'it returns false'. Refute it at one input. -/
def maskDigitsWrong : ChangeSpec := { name := "maskDigits", fn := fun _ => fun
  | [d1, d2, d3] => { results := [.lit (.bool false)], args := [d1, d2, d3] }
  | _ => none }
def MaskDigitsWrongFalsely : Prop := maskDigitsRow.holds Try.pinned (OpenSpec.ofChange maskDigitsWrong)

/-- 'lustrumlaw06.MaskMeet': WHATEVER THE INPUT: true; the input reads as it did. -/
def maskMeetSpec : ChangeSpec := { name := "maskMeet", fn := fun _ => fun
  | [d1, d2, d3] => { results := [.lit (.bool true)], args := [d1, d2, d3] }
  | _ => none }
def maskMeetRow : OpenClaim := { program := "ytgjdaaopebkokaa", sum := "e2d081405ff0d490cfe8db693be17c148bf20e84630cb61bed737a36b74919d5", func := "lustrum/lustrumlaw06.MaskMeet", spec := "maskMeet", apart := false }
def MaskMeetSaid : Prop := maskMeetRow.holds Try.pinned (OpenSpec.ofChange maskMeetSpec)

/-- ITS FALSE NEIGHBOUR: 'it returns false'. Refute it at one input. -/
def maskMeetWrong : ChangeSpec := { name := "maskMeet", fn := fun _ => fun
  | [d1, d2, d3] => { results := [.lit (.bool false)], args := [d1, d2, d3] }
  | _ => none }
def MaskMeetWrongFalsely : Prop := maskMeetRow.holds Try.pinned (OpenSpec.ofChange maskMeetWrong)

/-- 'lustrumlaw06.MaskRuns': WHATEVER THE INPUT: true; the input reads as it did. -/
def maskRunsSpec : ChangeSpec := { name := "maskRuns", fn := fun _ => fun
  | [d] => { results := [.lit (.bool true)], args := [d] }
  | _ => none }
def maskRunsRow : OpenClaim := { program := "ytgjdaaopebkokaa", sum := "e2d081405ff0d490cfe8db693be17c148bf20e84630cb61bed737a36b74919d5", func := "lustrum/lustrumlaw06.MaskRuns", spec := "maskRuns", apart := false }
def MaskRunsSaid : Prop := maskRunsRow.holds Try.pinned (OpenSpec.ofChange maskRunsSpec)

/-- ITS FALSE NEIGHBOUR: 'it returns false'. Refute it at one input. -/
def maskRunsWrong : ChangeSpec := { name := "maskRuns", fn := fun _ => fun
  | [d] => { results := [.lit (.bool false)], args := [d] }
  | _ => none }
def MaskRunsWrongFalsely : Prop := maskRunsRow.holds Try.pinned (OpenSpec.ofChange maskRunsWrong)

/-- 'lustrumlaw09.LexIs': WHATEVER THE INPUT: true; the input reads as it did. -/
def lexIsSpec : ChangeSpec := { name := "lexIs", fn := fun _ => fun
  | [d1, d2] => { results := [.lit (.bool true)], args := [d1, d2] }
  | _ => none }
def lexIsRow : OpenClaim := { program := "ytgjdaaopebkokaa", sum := "e2d081405ff0d490cfe8db693be17c148bf20e84630cb61bed737a36b74919d5", func := "lustrum/lustrumlaw09.LexIs", spec := "lexIs", inPlace := ["internal/bytealg.IndexByteString", "internal/abi.NoEscape"], apart := false }
def LexIsSaid : Prop := lexIsRow.holds Try.pinned (OpenSpec.ofChange lexIsSpec)

/-- ITS FALSE NEIGHBOUR: 'it returns false'. Refute it at one input. -/
def lexIsWrong : ChangeSpec := { name := "lexIs", fn := fun _ => fun
  | [d1, d2] => { results := [.lit (.bool false)], args := [d1, d2] }
  | _ => none }
def LexIsWrongFalsely : Prop := lexIsRow.holds Try.pinned (OpenSpec.ofChange lexIsWrong)

/-- 'lustrumlaw09.LexBack': WHATEVER THE INPUT: true; the input reads as it did. -/
def lexBackSpec : ChangeSpec := { name := "lexBack", fn := fun _ => fun
  | [d] => { results := [.lit (.bool true)], args := [d] }
  | _ => none }
def lexBackRow : OpenClaim := { program := "ytgjdaaopebkokaa", sum := "e2d081405ff0d490cfe8db693be17c148bf20e84630cb61bed737a36b74919d5", func := "lustrum/lustrumlaw09.LexBack", spec := "lexBack", inPlace := ["internal/bytealg.IndexByteString", "internal/abi.NoEscape"], apart := false }
def LexBackSaid : Prop := lexBackRow.holds Try.pinned (OpenSpec.ofChange lexBackSpec)

/-- ITS FALSE NEIGHBOUR: 'it returns false'. Refute it at one input. -/
def lexBackWrong : ChangeSpec := { name := "lexBack", fn := fun _ => fun
  | [d] => { results := [.lit (.bool false)], args := [d] }
  | _ => none }
def LexBackWrongFalsely : Prop := lexBackRow.holds Try.pinned (OpenSpec.ofChange lexBackWrong)

/-- 'lustrumlaw09.LexPlaces': WHATEVER THE INPUT: true; the input reads as it did. -/
def lexPlacesSpec : ChangeSpec := { name := "lexPlaces", fn := fun _ => fun
  | [d] => { results := [.lit (.bool true)], args := [d] }
  | _ => none }
def lexPlacesRow : OpenClaim := { program := "ytgjdaaopebkokaa", sum := "e2d081405ff0d490cfe8db693be17c148bf20e84630cb61bed737a36b74919d5", func := "lustrum/lustrumlaw09.LexPlaces", spec := "lexPlaces", inPlace := ["internal/bytealg.IndexByteString", "internal/abi.NoEscape"], apart := false }
def LexPlacesSaid : Prop := lexPlacesRow.holds Try.pinned (OpenSpec.ofChange lexPlacesSpec)

/-- ITS FALSE NEIGHBOUR: 'it returns false'. Refute it at one input. -/
def lexPlacesWrong : ChangeSpec := { name := "lexPlaces", fn := fun _ => fun
  | [d] => { results := [.lit (.bool false)], args := [d] }
  | _ => none }
def LexPlacesWrongFalsely : Prop := lexPlacesRow.holds Try.pinned (OpenSpec.ofChange lexPlacesWrong)

/-- 'lustrumlaw09.LexBad': WHATEVER THE INPUT: true; the input reads as it did. -/
def lexBadSpec : ChangeSpec := { name := "lexBad", fn := fun _ => fun
  | [d1, d2, d3] => { results := [.lit (.bool true)], args := [d1, d2, d3] }
  | _ => none }
def lexBadRow : OpenClaim := { program := "ytgjdaaopebkokaa", sum := "e2d081405ff0d490cfe8db693be17c148bf20e84630cb61bed737a36b74919d5", func := "lustrum/lustrumlaw09.LexBad", spec := "lexBad", inPlace := ["internal/bytealg.IndexByteString", "internal/abi.NoEscape"], apart := false }
def LexBadSaid : Prop := lexBadRow.holds Try.pinned (OpenSpec.ofChange lexBadSpec)

/-- ITS FALSE NEIGHBOUR: 'it returns false'. Refute it at one input. -/
def lexBadWrong : ChangeSpec := { name := "lexBad", fn := fun _ => fun
  | [d1, d2, d3] => { results := [.lit (.bool false)], args := [d1, d2, d3] }
  | _ => none }
def LexBadWrongFalsely : Prop := lexBadRow.holds Try.pinned (OpenSpec.ofChange lexBadWrong)

/-- 'lustrumlaw09.LexJoin': WHATEVER THE INPUT: true; the input reads as it did. -/
def lexJoinSpec : ChangeSpec := { name := "lexJoin", fn := fun _ => fun
  | [d1, d2] => { results := [.lit (.bool true)], args := [d1, d2] }
  | _ => none }
def lexJoinRow : OpenClaim := { program := "ytgjdaaopebkokaa", sum := "e2d081405ff0d490cfe8db693be17c148bf20e84630cb61bed737a36b74919d5", func := "lustrum/lustrumlaw09.LexJoin", spec := "lexJoin", inPlace := ["internal/bytealg.IndexByteString", "internal/abi.NoEscape"], apart := false }
def LexJoinSaid : Prop := lexJoinRow.holds Try.pinned (OpenSpec.ofChange lexJoinSpec)

/-- ITS FALSE NEIGHBOUR: 'it returns false'. Refute it at one input. -/
def lexJoinWrong : ChangeSpec := { name := "lexJoin", fn := fun _ => fun
  | [d1, d2] => { results := [.lit (.bool false)], args := [d1, d2] }
  | _ => none }
def LexJoinWrongFalsely : Prop := lexJoinRow.holds Try.pinned (OpenSpec.ofChange lexJoinWrong)

/- THE SECOND FORM. 'bulk': how many values and letters a reading holds, each counted each time it is reached (what is shared counts as often as it is met; a slice's spare places count too). A statement '..UptoSaid' is the law's where the arguments, and the package variables that the reading takes, are together of bulk at most 1048576: NARROWER than '..Said'. Prove '..Said' where nothing that the law and all that it calls make is longer than what came in: it says more and counts as full. Else prove '..UptoSaid'. A law counts once. -/
mutual
def uptoBulk {H : Type} : DataW H → Nat
  | .lit (.string bytes) => bytes.length + 1
  | .lit _ => 1
  | .nil => 1
  | .ptr d => uptoBulk d + 1
  | .slice elems spare => uptoBulkAll elems + uptoBulkAll spare + 1
  | .agg parts => uptoBulkAll parts + 1
  | .iface _ d => uptoBulk d + 1
  | .map entries => uptoBulkEntries entries + 1
  | .held _ => 1
def uptoBulkAll {H : Type} : List (DataW H) → Nat
  | [] => 0
  | d :: r => uptoBulk d + uptoBulkAll r
def uptoBulkEntries {H : Type} : List (Lit × DataW H) → Nat
  | [] => 0
  | x :: r => uptoBulkEntry x + uptoBulkEntries r
def uptoBulkEntry {H : Type} : Lit × DataW H → Nat
  | (.string bytes, d) => bytes.length + uptoBulk d + 1
  | (_, d) => uptoBulk d + 1
 end
def uptoSmall : (H : Type) → List (DataW H) → Bool := fun _ ds => decide (uptoBulkAll ds ≤ 1048576)
def OpenSpec.upto (s : _root_.Go.ChangeSpec) : _root_.Go.OpenSpec := { _root_.Go.OpenSpec.ofChange s with cond := some uptoSmall }

/-- 'lustrumlaw06.MaskIs', WHERE WHAT IT READS IS OF BULK AT MOST 1048576: true; the input reads as it did. -/
def maskIsUptoRow : OpenClaim := { program := "ytgjdaaopebkokaa", sum := "e2d081405ff0d490cfe8db693be17c148bf20e84630cb61bed737a36b74919d5", func := "lustrum/lustrumlaw06.MaskIs", spec := "maskIs", apart := false, narrowed := true }
def MaskIsUptoSaid : Prop := maskIsUptoRow.holds Try.pinned (OpenSpec.upto maskIsSpec)

/-- 'lustrumlaw06.MaskSet', WHERE WHAT IT READS IS OF BULK AT MOST 1048576: true; the input reads as it did. -/
def maskSetUptoRow : OpenClaim := { program := "ytgjdaaopebkokaa", sum := "e2d081405ff0d490cfe8db693be17c148bf20e84630cb61bed737a36b74919d5", func := "lustrum/lustrumlaw06.MaskSet", spec := "maskSet", unfollowed := true, recurses := true, apart := false, narrowed := true }
def MaskSetUptoSaid : Prop := maskSetUptoRow.holds Try.pinned (OpenSpec.upto maskSetSpec)

/-- 'lustrumlaw06.MaskDigits', WHERE WHAT IT READS IS OF BULK AT MOST 1048576: true; the input reads as it did. -/
def maskDigitsUptoRow : OpenClaim := { program := "ytgjdaaopebkokaa", sum := "e2d081405ff0d490cfe8db693be17c148bf20e84630cb61bed737a36b74919d5", func := "lustrum/lustrumlaw06.MaskDigits", spec := "maskDigits", apart := false, narrowed := true }
def MaskDigitsUptoSaid : Prop := maskDigitsUptoRow.holds Try.pinned (OpenSpec.upto maskDigitsSpec)

/-- 'lustrumlaw06.MaskMeet', WHERE WHAT IT READS IS OF BULK AT MOST 1048576: true; the input reads as it did. -/
def maskMeetUptoRow : OpenClaim := { program := "ytgjdaaopebkokaa", sum := "e2d081405ff0d490cfe8db693be17c148bf20e84630cb61bed737a36b74919d5", func := "lustrum/lustrumlaw06.MaskMeet", spec := "maskMeet", apart := false, narrowed := true }
def MaskMeetUptoSaid : Prop := maskMeetUptoRow.holds Try.pinned (OpenSpec.upto maskMeetSpec)

/-- 'lustrumlaw06.MaskRuns', WHERE WHAT IT READS IS OF BULK AT MOST 1048576: true; the input reads as it did. -/
def maskRunsUptoRow : OpenClaim := { program := "ytgjdaaopebkokaa", sum := "e2d081405ff0d490cfe8db693be17c148bf20e84630cb61bed737a36b74919d5", func := "lustrum/lustrumlaw06.MaskRuns", spec := "maskRuns", apart := false, narrowed := true }
def MaskRunsUptoSaid : Prop := maskRunsUptoRow.holds Try.pinned (OpenSpec.upto maskRunsSpec)

/-- 'lustrumlaw09.LexIs', WHERE WHAT IT READS IS OF BULK AT MOST 1048576: true; the input reads as it did. -/
def lexIsUptoRow : OpenClaim := { program := "ytgjdaaopebkokaa", sum := "e2d081405ff0d490cfe8db693be17c148bf20e84630cb61bed737a36b74919d5", func := "lustrum/lustrumlaw09.LexIs", spec := "lexIs", inPlace := ["internal/bytealg.IndexByteString", "internal/abi.NoEscape"], apart := false, narrowed := true }
def LexIsUptoSaid : Prop := lexIsUptoRow.holds Try.pinned (OpenSpec.upto lexIsSpec)

/-- 'lustrumlaw09.LexBack', WHERE WHAT IT READS IS OF BULK AT MOST 1048576: true; the input reads as it did. -/
def lexBackUptoRow : OpenClaim := { program := "ytgjdaaopebkokaa", sum := "e2d081405ff0d490cfe8db693be17c148bf20e84630cb61bed737a36b74919d5", func := "lustrum/lustrumlaw09.LexBack", spec := "lexBack", inPlace := ["internal/bytealg.IndexByteString", "internal/abi.NoEscape"], apart := false, narrowed := true }
def LexBackUptoSaid : Prop := lexBackUptoRow.holds Try.pinned (OpenSpec.upto lexBackSpec)

/-- 'lustrumlaw09.LexPlaces', WHERE WHAT IT READS IS OF BULK AT MOST 1048576: true; the input reads as it did. -/
def lexPlacesUptoRow : OpenClaim := { program := "ytgjdaaopebkokaa", sum := "e2d081405ff0d490cfe8db693be17c148bf20e84630cb61bed737a36b74919d5", func := "lustrum/lustrumlaw09.LexPlaces", spec := "lexPlaces", inPlace := ["internal/bytealg.IndexByteString", "internal/abi.NoEscape"], apart := false, narrowed := true }
def LexPlacesUptoSaid : Prop := lexPlacesUptoRow.holds Try.pinned (OpenSpec.upto lexPlacesSpec)

/-- 'lustrumlaw09.LexBad', WHERE WHAT IT READS IS OF BULK AT MOST 1048576: true; the input reads as it did. -/
def lexBadUptoRow : OpenClaim := { program := "ytgjdaaopebkokaa", sum := "e2d081405ff0d490cfe8db693be17c148bf20e84630cb61bed737a36b74919d5", func := "lustrum/lustrumlaw09.LexBad", spec := "lexBad", inPlace := ["internal/bytealg.IndexByteString", "internal/abi.NoEscape"], apart := false, narrowed := true }
def LexBadUptoSaid : Prop := lexBadUptoRow.holds Try.pinned (OpenSpec.upto lexBadSpec)

/-- 'lustrumlaw09.LexJoin', WHERE WHAT IT READS IS OF BULK AT MOST 1048576: true; the input reads as it did. -/
def lexJoinUptoRow : OpenClaim := { program := "ytgjdaaopebkokaa", sum := "e2d081405ff0d490cfe8db693be17c148bf20e84630cb61bed737a36b74919d5", func := "lustrum/lustrumlaw09.LexJoin", spec := "lexJoin", inPlace := ["internal/bytealg.IndexByteString", "internal/abi.NoEscape"], apart := false, narrowed := true }
def LexJoinUptoSaid : Prop := lexJoinUptoRow.holds Try.pinned (OpenSpec.upto lexJoinSpec)

end Rows
end Go.Proofs.Ytgjdaaopebkokaa
