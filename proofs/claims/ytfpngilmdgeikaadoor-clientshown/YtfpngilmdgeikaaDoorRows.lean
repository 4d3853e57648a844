/-
  NARROWER THAN 'FOR EVERY INPUT', by the rows' own cells (each row's printed sentence says how): HeaderTells: laid · HeaderVoted: laid · HeaderEdited: laid · HeaderMeet: laid · HeaderMore: laid · HeaderUnlike: laid · ClientShown: laid · ClientKeeps: laid · ClientTwice: laid · ClientWays: laid.
  DERIVED. THE GIVEN ROWS OF THIS SEAT. 10 by the template 'for every input the law returns true; each argument reads behind the call as it read before'; 0 by the template 'total and deterministic' (their statements: YtfpngilmdgeikaaDoorTotals.lean).
  GIVEN WITH THE SEED: the statements are not yours to turn. If you find one false, say at which input.
  Laid BY PROGRAM, IN A SANDBOX (cutbox-rows.mjs): the forced cells as the released guide's own fill.sh prints them over the translation 8eba01bb7fb7c191… (all of the seat's roots in one cut). By AI agents, Wed Nov 11 2026. No macro, syntax, notation, axiom, sorry.
-/
import Derived.Test.YtfpngilmdgeikaaDoorChecked
import GoSem.Claim
import GoSem.ClaimJoined
import GoSem.ClaimMapViews
import Derived.JoinedTies
import Derived.KernelRfl
namespace Go.Proofs.YtfpngilmdgeikaaDoor
/- THE CELL 'sum', in the pinned program and in every row, IS THE sha256 OF THE DUMP (.gsa) THAT YtfpngilmdgeikaaDoorProg.lean LOADS. Nothing in Lean hashes anything: it is a label: what it is worth is what the hold of that sum in a sandbox is worth. -/
noncomputable def Tryd.pinned : Pinned := { name := "ytfpngilmdgeikaadoor", sum := "8eba01bb7fb7c191eb952902568d789b25f376accd579abde49a3de26e5547f7", checked := Tryd.checked }
namespace Rows
def none {H : Type} : Left H := { results := [], args := [] }

/- WHAT THE LISTED PACKAGE-LEVEL VARIABLES READ AS WHEN THE CALL BEGINS. Each datum BY PROGRAM (the guide's laid-datum.mjs) off the statement by which the dump's own 'gosem.cut.vars' lays the variable. In a bare row this is a premise. The card (YtfpngilmdgeikaaDoorCards.lean) ties it to the program's text. -/
def laid_landbridge_sha_cubes {H : Type} : DataW H := .agg [.lit (.int .u32 1116352408), .lit (.int .u32 1899447441), .lit (.int .u32 3049323471), .lit (.int .u32 3921009573), .lit (.int .u32 961987163), .lit (.int .u32 1508970993), .lit (.int .u32 2453635748), .lit (.int .u32 2870763221), .lit (.int .u32 3624381080), .lit (.int .u32 310598401), .lit (.int .u32 607225278), .lit (.int .u32 1426881987), .lit (.int .u32 1925078388), .lit (.int .u32 2162078206), .lit (.int .u32 2614888103), .lit (.int .u32 3248222580), .lit (.int .u32 3835390401), .lit (.int .u32 4022224774), .lit (.int .u32 264347078), .lit (.int .u32 604807628), .lit (.int .u32 770255983), .lit (.int .u32 1249150122), .lit (.int .u32 1555081692), .lit (.int .u32 1996064986), .lit (.int .u32 2554220882), .lit (.int .u32 2821834349), .lit (.int .u32 2952996808), .lit (.int .u32 3210313671), .lit (.int .u32 3336571891), .lit (.int .u32 3584528711), .lit (.int .u32 113926993), .lit (.int .u32 338241895), .lit (.int .u32 666307205), .lit (.int .u32 773529912), .lit (.int .u32 1294757372), .lit (.int .u32 1396182291), .lit (.int .u32 1695183700), .lit (.int .u32 1986661051), .lit (.int .u32 2177026350), .lit (.int .u32 2456956037), .lit (.int .u32 2730485921), .lit (.int .u32 2820302411), .lit (.int .u32 3259730800), .lit (.int .u32 3345764771), .lit (.int .u32 3516065817), .lit (.int .u32 3600352804), .lit (.int .u32 4094571909), .lit (.int .u32 275423344), .lit (.int .u32 430227734), .lit (.int .u32 506948616), .lit (.int .u32 659060556), .lit (.int .u32 883997877), .lit (.int .u32 958139571), .lit (.int .u32 1322822218), .lit (.int .u32 1537002063), .lit (.int .u32 1747873779), .lit (.int .u32 1955562222), .lit (.int .u32 2024104815), .lit (.int .u32 2227730452), .lit (.int .u32 2361852424), .lit (.int .u32 2428436474), .lit (.int .u32 2756734187), .lit (.int .u32 3204031479), .lit (.int .u32 3329325298)]

/-- 'landlaw6.HeaderTells': WHATEVER THE INPUT: true; the input reads as it did. -/
def headerTellsSpec : ChangeSpec := { name := "headerTells", fn := fun _ => fun
  | [d1, d2, d3, d4, d5] => { results := [.lit (.bool true)], args := [d1, d2, d3, d4, d5] }
  | _ => none }
def headerTellsRow : OpenClaim := { program := "ytfpngilmdgeikaadoor", sum := "8eba01bb7fb7c191eb952902568d789b25f376accd579abde49a3de26e5547f7", func := "landbridge/landlaw6.HeaderTells", spec := "headerTells", inPlace := ["math/bits.Add64"], unfollowed := true, recurses := true, named := ["landbridge/sha.cubes", "math/bits.divideError", "math/bits.overflowError"], apart := false, laid := [("landbridge/sha.cubes", laid_landbridge_sha_cubes)] }
def HeaderTellsSaid : Prop := headerTellsRow.holds Tryd.pinned (OpenSpec.ofChange headerTellsSpec)

/-- ITS FALSE NEIGHBOUR: 'it returns false'. Refute it at one input. -/
def headerTellsWrong : ChangeSpec := { name := "headerTells", fn := fun _ => fun
  | [d1, d2, d3, d4, d5] => { results := [.lit (.bool false)], args := [d1, d2, d3, d4, d5] }
  | _ => none }
def HeaderTellsWrongFalsely : Prop := headerTellsRow.holds Tryd.pinned (OpenSpec.ofChange headerTellsWrong)

/-- 'landlaw6.HeaderVoted': WHATEVER THE INPUT: true; the input reads as it did. -/
def headerVotedSpec : ChangeSpec := { name := "headerVoted", fn := fun _ => fun
  | [d1, d2, d3] => { results := [.lit (.bool true)], args := [d1, d2, d3] }
  | _ => none }
def headerVotedRow : OpenClaim := { program := "ytfpngilmdgeikaadoor", sum := "8eba01bb7fb7c191eb952902568d789b25f376accd579abde49a3de26e5547f7", func := "landbridge/landlaw6.HeaderVoted", spec := "headerVoted", inPlace := ["math/bits.Add64"], unfollowed := true, recurses := true, named := ["landbridge/sha.cubes", "math/bits.divideError", "math/bits.overflowError"], apart := false, laid := [("landbridge/sha.cubes", laid_landbridge_sha_cubes)] }
def HeaderVotedSaid : Prop := headerVotedRow.holds Tryd.pinned (OpenSpec.ofChange headerVotedSpec)

/-- ITS FALSE NEIGHBOUR: 'it returns false'. Refute it at one input. -/
def headerVotedWrong : ChangeSpec := { name := "headerVoted", fn := fun _ => fun
  | [d1, d2, d3] => { results := [.lit (.bool false)], args := [d1, d2, d3] }
  | _ => none }
def HeaderVotedWrongFalsely : Prop := headerVotedRow.holds Tryd.pinned (OpenSpec.ofChange headerVotedWrong)

/-- 'landlaw6.HeaderEdited': WHATEVER THE INPUT: true; the input reads as it did. -/
def headerEditedSpec : ChangeSpec := { name := "headerEdited", fn := fun _ => fun
  | [d1, d2, d3, d4] => { results := [.lit (.bool true)], args := [d1, d2, d3, d4] }
  | _ => none }
def headerEditedRow : OpenClaim := { program := "ytfpngilmdgeikaadoor", sum := "8eba01bb7fb7c191eb952902568d789b25f376accd579abde49a3de26e5547f7", func := "landbridge/landlaw6.HeaderEdited", spec := "headerEdited", inPlace := ["math/bits.Add64"], unfollowed := true, recurses := true, named := ["landbridge/sha.cubes", "math/bits.divideError", "math/bits.overflowError"], apart := false, laid := [("landbridge/sha.cubes", laid_landbridge_sha_cubes)] }
def HeaderEditedSaid : Prop := headerEditedRow.holds Tryd.pinned (OpenSpec.ofChange headerEditedSpec)

/-- ITS FALSE NEIGHBOUR: 'it returns false'. Refute it at one input. -/
def headerEditedWrong : ChangeSpec := { name := "headerEdited", fn := fun _ => fun
  | [d1, d2, d3, d4] => { results := [.lit (.bool false)], args := [d1, d2, d3, d4] }
  | _ => none }
def HeaderEditedWrongFalsely : Prop := headerEditedRow.holds Tryd.pinned (OpenSpec.ofChange headerEditedWrong)

/-- 'landlaw6.HeaderMeet': WHATEVER THE INPUT: true; the input reads as it did. -/
def headerMeetSpec : ChangeSpec := { name := "headerMeet", fn := fun _ => fun
  | [d1, d2, d3, d4, d5] => { results := [.lit (.bool true)], args := [d1, d2, d3, d4, d5] }
  | _ => none }
def headerMeetRow : OpenClaim := { program := "ytfpngilmdgeikaadoor", sum := "8eba01bb7fb7c191eb952902568d789b25f376accd579abde49a3de26e5547f7", func := "landbridge/landlaw6.HeaderMeet", spec := "headerMeet", inPlace := ["math/bits.Add64"], unfollowed := true, recurses := true, named := ["landbridge/sha.cubes", "math/bits.divideError", "math/bits.overflowError"], apart := false, laid := [("landbridge/sha.cubes", laid_landbridge_sha_cubes)] }
def HeaderMeetSaid : Prop := headerMeetRow.holds Tryd.pinned (OpenSpec.ofChange headerMeetSpec)

/-- ITS FALSE NEIGHBOUR: 'it returns false'. Refute it at one input. -/
def headerMeetWrong : ChangeSpec := { name := "headerMeet", fn := fun _ => fun
  | [d1, d2, d3, d4, d5] => { results := [.lit (.bool false)], args := [d1, d2, d3, d4, d5] }
  | _ => none }
def HeaderMeetWrongFalsely : Prop := headerMeetRow.holds Tryd.pinned (OpenSpec.ofChange headerMeetWrong)

/-- 'landlaw6.HeaderMore': WHATEVER THE INPUT: true; the input reads as it did. -/
def headerMoreSpec : ChangeSpec := { name := "headerMore", fn := fun _ => fun
  | [d1, d2, d3, d4] => { results := [.lit (.bool true)], args := [d1, d2, d3, d4] }
  | _ => none }
def headerMoreRow : OpenClaim := { program := "ytfpngilmdgeikaadoor", sum := "8eba01bb7fb7c191eb952902568d789b25f376accd579abde49a3de26e5547f7", func := "landbridge/landlaw6.HeaderMore", spec := "headerMore", inPlace := ["math/bits.Add64"], unfollowed := true, recurses := true, named := ["landbridge/sha.cubes", "math/bits.divideError", "math/bits.overflowError"], apart := false, laid := [("landbridge/sha.cubes", laid_landbridge_sha_cubes)] }
def HeaderMoreSaid : Prop := headerMoreRow.holds Tryd.pinned (OpenSpec.ofChange headerMoreSpec)

/-- ITS FALSE NEIGHBOUR: 'it returns false'. Refute it at one input. -/
def headerMoreWrong : ChangeSpec := { name := "headerMore", fn := fun _ => fun
  | [d1, d2, d3, d4] => { results := [.lit (.bool false)], args := [d1, d2, d3, d4] }
  | _ => none }
def HeaderMoreWrongFalsely : Prop := headerMoreRow.holds Tryd.pinned (OpenSpec.ofChange headerMoreWrong)

/-- 'landlaw6.HeaderUnlike': WHATEVER THE INPUT: true; the input reads as it did. -/
def headerUnlikeSpec : ChangeSpec := { name := "headerUnlike", fn := fun _ => fun
  | [d1, d2] => { results := [.lit (.bool true)], args := [d1, d2] }
  | _ => none }
def headerUnlikeRow : OpenClaim := { program := "ytfpngilmdgeikaadoor", sum := "8eba01bb7fb7c191eb952902568d789b25f376accd579abde49a3de26e5547f7", func := "landbridge/landlaw6.HeaderUnlike", spec := "headerUnlike", inPlace := ["math/bits.Add64"], unfollowed := true, recurses := true, named := ["landbridge/sha.cubes", "math/bits.divideError", "math/bits.overflowError"], apart := false, laid := [("landbridge/sha.cubes", laid_landbridge_sha_cubes)] }
def HeaderUnlikeSaid : Prop := headerUnlikeRow.holds Tryd.pinned (OpenSpec.ofChange headerUnlikeSpec)

/-- ITS FALSE NEIGHBOUR: 'it returns false'. Refute it at one input. -/
def headerUnlikeWrong : ChangeSpec := { name := "headerUnlike", fn := fun _ => fun
  | [d1, d2] => { results := [.lit (.bool false)], args := [d1, d2] }
  | _ => none }
def HeaderUnlikeWrongFalsely : Prop := headerUnlikeRow.holds Tryd.pinned (OpenSpec.ofChange headerUnlikeWrong)

/-- 'landlaw7.ClientShown': WHATEVER THE INPUT: true; the input reads as it did. -/
def clientShownSpec : ChangeSpec := { name := "clientShown", fn := fun _ => fun
  | [d1, d2, d3, d4, d5, d6, d7] => { results := [.lit (.bool true)], args := [d1, d2, d3, d4, d5, d6, d7] }
  | _ => none }
def clientShownRow : OpenClaim := { program := "ytfpngilmdgeikaadoor", sum := "8eba01bb7fb7c191eb952902568d789b25f376accd579abde49a3de26e5547f7", func := "landbridge/landlaw7.ClientShown", spec := "clientShown", inPlace := ["math/bits.Add64", "internal/bytealg.Compare"], unfollowed := true, recurses := true, named := ["landbridge/sha.cubes"], apart := false, laid := [("landbridge/sha.cubes", laid_landbridge_sha_cubes)] }
def ClientShownSaid : Prop := clientShownRow.holds Tryd.pinned (OpenSpec.ofChange clientShownSpec)

/-- ITS FALSE NEIGHBOUR: 'it returns false'. Refute it at one input. -/
def clientShownWrong : ChangeSpec := { name := "clientShown", fn := fun _ => fun
  | [d1, d2, d3, d4, d5, d6, d7] => { results := [.lit (.bool false)], args := [d1, d2, d3, d4, d5, d6, d7] }
  | _ => none }
def ClientShownWrongFalsely : Prop := clientShownRow.holds Tryd.pinned (OpenSpec.ofChange clientShownWrong)

/-- 'landlaw7.ClientKeeps': WHATEVER THE INPUT: true; the input reads as it did. -/
def clientKeepsSpec : ChangeSpec := { name := "clientKeeps", fn := fun _ => fun
  | [d1, d2, d3] => { results := [.lit (.bool true)], args := [d1, d2, d3] }
  | _ => none }
def clientKeepsRow : OpenClaim := { program := "ytfpngilmdgeikaadoor", sum := "8eba01bb7fb7c191eb952902568d789b25f376accd579abde49a3de26e5547f7", func := "landbridge/landlaw7.ClientKeeps", spec := "clientKeeps", inPlace := ["slices.overlaps[landbridge/api.Known]"], unfollowed := true, recurses := true, named := ["landbridge/sha.cubes", "math/bits.divideError", "math/bits.overflowError"], apart := false, laid := [("landbridge/sha.cubes", laid_landbridge_sha_cubes)] }
def ClientKeepsSaid : Prop := clientKeepsRow.holds Tryd.pinned (OpenSpec.ofChange clientKeepsSpec)

/-- ITS FALSE NEIGHBOUR: 'it returns false'. Refute it at one input. -/
def clientKeepsWrong : ChangeSpec := { name := "clientKeeps", fn := fun _ => fun
  | [d1, d2, d3] => { results := [.lit (.bool false)], args := [d1, d2, d3] }
  | _ => none }
def ClientKeepsWrongFalsely : Prop := clientKeepsRow.holds Tryd.pinned (OpenSpec.ofChange clientKeepsWrong)

/-- 'landlaw7.ClientTwice': WHATEVER THE INPUT: true; the input reads as it did. -/
def clientTwiceSpec : ChangeSpec := { name := "clientTwice", fn := fun _ => fun
  | [d1, d2, d3] => { results := [.lit (.bool true)], args := [d1, d2, d3] }
  | _ => none }
def clientTwiceRow : OpenClaim := { program := "ytfpngilmdgeikaadoor", sum := "8eba01bb7fb7c191eb952902568d789b25f376accd579abde49a3de26e5547f7", func := "landbridge/landlaw7.ClientTwice", spec := "clientTwice", inPlace := ["slices.overlaps[landbridge/api.Known]"], unfollowed := true, recurses := true, named := ["landbridge/sha.cubes", "math/bits.divideError", "math/bits.overflowError"], apart := false, laid := [("landbridge/sha.cubes", laid_landbridge_sha_cubes)] }
def ClientTwiceSaid : Prop := clientTwiceRow.holds Tryd.pinned (OpenSpec.ofChange clientTwiceSpec)

/-- ITS FALSE NEIGHBOUR: 'it returns false'. Refute it at one input. -/
def clientTwiceWrong : ChangeSpec := { name := "clientTwice", fn := fun _ => fun
  | [d1, d2, d3] => { results := [.lit (.bool false)], args := [d1, d2, d3] }
  | _ => none }
def ClientTwiceWrongFalsely : Prop := clientTwiceRow.holds Tryd.pinned (OpenSpec.ofChange clientTwiceWrong)

/-- 'landlaw7.ClientWays': WHATEVER THE INPUT: true; the input reads as it did. -/
def clientWaysSpec : ChangeSpec := { name := "clientWays", fn := fun _ => fun
  | [d1, d2, d3, d4] => { results := [.lit (.bool true)], args := [d1, d2, d3, d4] }
  | _ => none }
def clientWaysRow : OpenClaim := { program := "ytfpngilmdgeikaadoor", sum := "8eba01bb7fb7c191eb952902568d789b25f376accd579abde49a3de26e5547f7", func := "landbridge/landlaw7.ClientWays", spec := "clientWays", inPlace := ["slices.overlaps[landbridge/api.Known]"], unfollowed := true, recurses := true, named := ["landbridge/sha.cubes", "math/bits.divideError", "math/bits.overflowError"], apart := false, laid := [("landbridge/sha.cubes", laid_landbridge_sha_cubes)] }
def ClientWaysSaid : Prop := clientWaysRow.holds Tryd.pinned (OpenSpec.ofChange clientWaysSpec)

/-- ITS FALSE NEIGHBOUR: 'it returns false'. Refute it at one input. -/
def clientWaysWrong : ChangeSpec := { name := "clientWays", fn := fun _ => fun
  | [d1, d2, d3, d4] => { results := [.lit (.bool false)], args := [d1, d2, d3, d4] }
  | _ => none }
def ClientWaysWrongFalsely : Prop := clientWaysRow.holds Tryd.pinned (OpenSpec.ofChange clientWaysWrong)

/- THE SECOND FORM. 'bulk': how many values and letters a reading holds, each counted each time it is reached (what is shared counts as often as it is met; a slice's spare places count too). A statement '..UptoSaid' is the law's where the arguments, and the package variables that the reading takes, are together of bulk at most 1048576: NARROWER than '..Said'. Prove '..Said' where nothing that the law and all that it calls make is longer than what came in: it says more and counts as full. Else prove '..UptoSaid'. A law counts once. -/
mutual
def uptoBulk {H : Type} : DataW H → Nat
  | .lit (.string bytes) => bytes.length + 1
  | .lit _ => 1
  | .nil => 1
  | .ptr d => uptoBulk d + 1
  | .slice elems spare => uptoBulkAll elems + uptoBulkAll spare + 1
  | .agg parts => uptoBulkAll parts + 1
  | .iface _ d => uptoBulk d + 1
  | .map entries => uptoBulkEntries entries + 1
  | .held _ => 1
def uptoBulkAll {H : Type} : List (DataW H) → Nat
  | [] => 0
  | d :: r => uptoBulk d + uptoBulkAll r
def uptoBulkEntries {H : Type} : List (Lit × DataW H) → Nat
  | [] => 0
  | x :: r => uptoBulkEntry x + uptoBulkEntries r
def uptoBulkEntry {H : Type} : Lit × DataW H → Nat
  | (.string bytes, d) => bytes.length + uptoBulk d + 1
  | (_, d) => uptoBulk d + 1
 end
def uptoSmall : (H : Type) → List (DataW H) → Bool := fun _ ds => decide (uptoBulkAll ds ≤ 1048576)
def OpenSpec.upto (s : _root_.Go.ChangeSpec) : _root_.Go.OpenSpec := { _root_.Go.OpenSpec.ofChange s with cond := some uptoSmall }

/-- 'landlaw6.HeaderTells', WHERE WHAT IT READS IS OF BULK AT MOST 1048576: true; the input reads as it did. -/
def headerTellsUptoRow : OpenClaim := { program := "ytfpngilmdgeikaadoor", sum := "8eba01bb7fb7c191eb952902568d789b25f376accd579abde49a3de26e5547f7", func := "landbridge/landlaw6.HeaderTells", spec := "headerTells", inPlace := ["math/bits.Add64"], unfollowed := true, recurses := true, named := ["landbridge/sha.cubes", "math/bits.divideError", "math/bits.overflowError"], apart := false, laid := [("landbridge/sha.cubes", laid_landbridge_sha_cubes)], narrowed := true }
def HeaderTellsUptoSaid : Prop := headerTellsUptoRow.holds Tryd.pinned (OpenSpec.upto headerTellsSpec)

/-- 'landlaw6.HeaderVoted', WHERE WHAT IT READS IS OF BULK AT MOST 1048576: true; the input reads as it did. -/
def headerVotedUptoRow : OpenClaim := { program := "ytfpngilmdgeikaadoor", sum := "8eba01bb7fb7c191eb952902568d789b25f376accd579abde49a3de26e5547f7", func := "landbridge/landlaw6.HeaderVoted", spec := "headerVoted", inPlace := ["math/bits.Add64"], unfollowed := true, recurses := true, named := ["landbridge/sha.cubes", "math/bits.divideError", "math/bits.overflowError"], apart := false, laid := [("landbridge/sha.cubes", laid_landbridge_sha_cubes)], narrowed := true }
def HeaderVotedUptoSaid : Prop := headerVotedUptoRow.holds Tryd.pinned (OpenSpec.upto headerVotedSpec)

/-- 'landlaw6.HeaderEdited', WHERE WHAT IT READS IS OF BULK AT MOST 1048576: true; the input reads as it did. -/
def headerEditedUptoRow : OpenClaim := { program := "ytfpngilmdgeikaadoor", sum := "8eba01bb7fb7c191eb952902568d789b25f376accd579abde49a3de26e5547f7", func := "landbridge/landlaw6.HeaderEdited", spec := "headerEdited", inPlace := ["math/bits.Add64"], unfollowed := true, recurses := true, named := ["landbridge/sha.cubes", "math/bits.divideError", "math/bits.overflowError"], apart := false, laid := [("landbridge/sha.cubes", laid_landbridge_sha_cubes)], narrowed := true }
def HeaderEditedUptoSaid : Prop := headerEditedUptoRow.holds Tryd.pinned (OpenSpec.upto headerEditedSpec)

/-- 'landlaw6.HeaderMeet', WHERE WHAT IT READS IS OF BULK AT MOST 1048576: true; the input reads as it did. -/
def headerMeetUptoRow : OpenClaim := { program := "ytfpngilmdgeikaadoor", sum := "8eba01bb7fb7c191eb952902568d789b25f376accd579abde49a3de26e5547f7", func := "landbridge/landlaw6.HeaderMeet", spec := "headerMeet", inPlace := ["math/bits.Add64"], unfollowed := true, recurses := true, named := ["landbridge/sha.cubes", "math/bits.divideError", "math/bits.overflowError"], apart := false, laid := [("landbridge/sha.cubes", laid_landbridge_sha_cubes)], narrowed := true }
def HeaderMeetUptoSaid : Prop := headerMeetUptoRow.holds Tryd.pinned (OpenSpec.upto headerMeetSpec)

/-- 'landlaw6.HeaderMore', WHERE WHAT IT READS IS OF BULK AT MOST 1048576: true; the input reads as it did. -/
def headerMoreUptoRow : OpenClaim := { program := "ytfpngilmdgeikaadoor", sum := "8eba01bb7fb7c191eb952902568d789b25f376accd579abde49a3de26e5547f7", func := "landbridge/landlaw6.HeaderMore", spec := "headerMore", inPlace := ["math/bits.Add64"], unfollowed := true, recurses := true, named := ["landbridge/sha.cubes", "math/bits.divideError", "math/bits.overflowError"], apart := false, laid := [("landbridge/sha.cubes", laid_landbridge_sha_cubes)], narrowed := true }
def HeaderMoreUptoSaid : Prop := headerMoreUptoRow.holds Tryd.pinned (OpenSpec.upto headerMoreSpec)

/-- 'landlaw6.HeaderUnlike', WHERE WHAT IT READS IS OF BULK AT MOST 1048576: true; the input reads as it did. -/
def headerUnlikeUptoRow : OpenClaim := { program := "ytfpngilmdgeikaadoor", sum := "8eba01bb7fb7c191eb952902568d789b25f376accd579abde49a3de26e5547f7", func := "landbridge/landlaw6.HeaderUnlike", spec := "headerUnlike", inPlace := ["math/bits.Add64"], unfollowed := true, recurses := true, named := ["landbridge/sha.cubes", "math/bits.divideError", "math/bits.overflowError"], apart := false, laid := [("landbridge/sha.cubes", laid_landbridge_sha_cubes)], narrowed := true }
def HeaderUnlikeUptoSaid : Prop := headerUnlikeUptoRow.holds Tryd.pinned (OpenSpec.upto headerUnlikeSpec)

/-- 'landlaw7.ClientShown', WHERE WHAT IT READS IS OF BULK AT MOST 1048576: true; the input reads as it did. -/
def clientShownUptoRow : OpenClaim := { program := "ytfpngilmdgeikaadoor", sum := "8eba01bb7fb7c191eb952902568d789b25f376accd579abde49a3de26e5547f7", func := "landbridge/landlaw7.ClientShown", spec := "clientShown", inPlace := ["math/bits.Add64", "internal/bytealg.Compare"], unfollowed := true, recurses := true, named := ["landbridge/sha.cubes"], apart := false, laid := [("landbridge/sha.cubes", laid_landbridge_sha_cubes)], narrowed := true }
def ClientShownUptoSaid : Prop := clientShownUptoRow.holds Tryd.pinned (OpenSpec.upto clientShownSpec)

/-- 'landlaw7.ClientKeeps', WHERE WHAT IT READS IS OF BULK AT MOST 1048576: true; the input reads as it did. -/
def clientKeepsUptoRow : OpenClaim := { program := "ytfpngilmdgeikaadoor", sum := "8eba01bb7fb7c191eb952902568d789b25f376accd579abde49a3de26e5547f7", func := "landbridge/landlaw7.ClientKeeps", spec := "clientKeeps", inPlace := ["slices.overlaps[landbridge/api.Known]"], unfollowed := true, recurses := true, named := ["landbridge/sha.cubes", "math/bits.divideError", "math/bits.overflowError"], apart := false, laid := [("landbridge/sha.cubes", laid_landbridge_sha_cubes)], narrowed := true }
def ClientKeepsUptoSaid : Prop := clientKeepsUptoRow.holds Tryd.pinned (OpenSpec.upto clientKeepsSpec)

/-- 'landlaw7.ClientTwice', WHERE WHAT IT READS IS OF BULK AT MOST 1048576: true; the input reads as it did. -/
def clientTwiceUptoRow : OpenClaim := { program := "ytfpngilmdgeikaadoor", sum := "8eba01bb7fb7c191eb952902568d789b25f376accd579abde49a3de26e5547f7", func := "landbridge/landlaw7.ClientTwice", spec := "clientTwice", inPlace := ["slices.overlaps[landbridge/api.Known]"], unfollowed := true, recurses := true, named := ["landbridge/sha.cubes", "math/bits.divideError", "math/bits.overflowError"], apart := false, laid := [("landbridge/sha.cubes", laid_landbridge_sha_cubes)], narrowed := true }
def ClientTwiceUptoSaid : Prop := clientTwiceUptoRow.holds Tryd.pinned (OpenSpec.upto clientTwiceSpec)

/-- 'landlaw7.ClientWays', WHERE WHAT IT READS IS OF BULK AT MOST 1048576: true; the input reads as it did. -/
def clientWaysUptoRow : OpenClaim := { program := "ytfpngilmdgeikaadoor", sum := "8eba01bb7fb7c191eb952902568d789b25f376accd579abde49a3de26e5547f7", func := "landbridge/landlaw7.ClientWays", spec := "clientWays", inPlace := ["slices.overlaps[landbridge/api.Known]"], unfollowed := true, recurses := true, named := ["landbridge/sha.cubes", "math/bits.divideError", "math/bits.overflowError"], apart := false, laid := [("landbridge/sha.cubes", laid_landbridge_sha_cubes)], narrowed := true }
def ClientWaysUptoSaid : Prop := clientWaysUptoRow.holds Tryd.pinned (OpenSpec.upto clientWaysSpec)

end Rows
end Go.Proofs.YtfpngilmdgeikaaDoor
