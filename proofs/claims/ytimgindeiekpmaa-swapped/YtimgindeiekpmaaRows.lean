/-
  No cell of these rows narrows 'for every input' (looked for: loops, veiled, ifaces, maps, wideKeys, modest, calm, conditions, laid).
  DERIVED. THE GIVEN ROWS OF THIS SEAT. 11 by the template 'for every input the law returns true; each argument reads behind the call as it read before'; 0 by the template 'total and deterministic' (their statements: YtimgindeiekpmaaTotals.lean).
  GIVEN WITH THE SEED: the statements are not yours to turn. If you find one false, say at which input.
  Laid BY PROGRAM, IN A SANDBOX (cutbox-rows.mjs): the forced cells as the released guide's own fill.sh prints them over the translation 599b91878204582e… (all of the seat's roots in one cut). By AI agents, Wed Nov 11 2026. No macro, syntax, notation, axiom, sorry.
-/
import Derived.Test.YtimgindeiekpmaaChecked
import GoSem.Claim
import GoSem.ClaimJoined
import GoSem.ClaimMapViews
import Derived.JoinedTies
import Derived.KernelRfl
namespace Go.Proofs.Ytimgindeiekpmaa
/- THE CELL 'sum', in the pinned program and in every row, IS THE sha256 OF THE DUMP (.gsa) THAT YtimgindeiekpmaaProg.lean LOADS. Nothing in Lean hashes anything: it is a label: what it is worth is what the hold of that sum in a sandbox is worth. -/
noncomputable def Try.pinned : Pinned := { name := "ytimgindeiekpmaa", sum := "599b91878204582e5966289cff4109742791023967a98f54eba512825392bc92", checked := Try.checked }
namespace Rows
def none {H : Type} : Left H := { results := [], args := [] }

/-- 'weavelaw.Checks': WHATEVER THE INPUT: true; the input reads as it did. -/
def checksSpec : ChangeSpec := { name := "checks", fn := fun _ => fun
  | [d] => { results := [.lit (.bool true)], args := [d] }
  | _ => none }
def checksRow : OpenClaim := { program := "ytimgindeiekpmaa", sum := "599b91878204582e5966289cff4109742791023967a98f54eba512825392bc92", func := "weave/weavelaw.Checks", spec := "checks", unfollowed := true, recurses := true, plainKeys := false, apart := false }
def ChecksSaid : Prop := checksRow.holds Try.pinned (OpenSpec.ofChange checksSpec)

/-- ITS FALSE NEIGHBOUR: 'it returns false'. Refute it at one input. -/
def checksWrong : ChangeSpec := { name := "checks", fn := fun _ => fun
  | [d] => { results := [.lit (.bool false)], args := [d] }
  | _ => none }
def ChecksWrongFalsely : Prop := checksRow.holds Try.pinned (OpenSpec.ofChange checksWrong)

/-- 'weavelaw.Plays': WHATEVER THE INPUT: true; the input reads as it did. -/
def playsSpec : ChangeSpec := { name := "plays", fn := fun _ => fun
  | [d1, d2, d3] => { results := [.lit (.bool true)], args := [d1, d2, d3] }
  | _ => none }
def playsRow : OpenClaim := { program := "ytimgindeiekpmaa", sum := "599b91878204582e5966289cff4109742791023967a98f54eba512825392bc92", func := "weave/weavelaw.Plays", spec := "plays", inPlace := ["internal/abi.NoEscape"], unfollowed := true, recurses := true, plainKeys := false, apart := false }
def PlaysSaid : Prop := playsRow.holds Try.pinned (OpenSpec.ofChange playsSpec)

/-- ITS FALSE NEIGHBOUR: 'it returns false'. Refute it at one input. -/
def playsWrong : ChangeSpec := { name := "plays", fn := fun _ => fun
  | [d1, d2, d3] => { results := [.lit (.bool false)], args := [d1, d2, d3] }
  | _ => none }
def PlaysWrongFalsely : Prop := playsRow.holds Try.pinned (OpenSpec.ofChange playsWrong)

/-- 'weavelaw.Swapped': WHATEVER THE INPUT: true; the input reads as it did. -/
def swappedSpec : ChangeSpec := { name := "swapped", fn := fun _ => fun
  | [d1, d2, d3, d4] => { results := [.lit (.bool true)], args := [d1, d2, d3, d4] }
  | _ => none }
def swappedRow : OpenClaim := { program := "ytimgindeiekpmaa", sum := "599b91878204582e5966289cff4109742791023967a98f54eba512825392bc92", func := "weave/weavelaw.Swapped", spec := "swapped", inPlace := ["internal/abi.NoEscape"], unfollowed := true, recurses := true, plainKeys := false, apart := false }
def SwappedSaid : Prop := swappedRow.holds Try.pinned (OpenSpec.ofChange swappedSpec)

/-- ITS FALSE NEIGHBOUR: 'it returns false'. Refute it at one input. -/
def swappedWrong : ChangeSpec := { name := "swapped", fn := fun _ => fun
  | [d1, d2, d3, d4] => { results := [.lit (.bool false)], args := [d1, d2, d3, d4] }
  | _ => none }
def SwappedWrongFalsely : Prop := swappedRow.holds Try.pinned (OpenSpec.ofChange swappedWrong)

/-- 'weavelaw.Alls': WHATEVER THE INPUT: true; the input reads as it did. -/
def allsSpec : ChangeSpec := { name := "alls", fn := fun _ => fun
  | [d1, d2] => { results := [.lit (.bool true)], args := [d1, d2] }
  | _ => none }
def allsRow : OpenClaim := { program := "ytimgindeiekpmaa", sum := "599b91878204582e5966289cff4109742791023967a98f54eba512825392bc92", func := "weave/weavelaw.Alls", spec := "alls", inPlace := ["internal/abi.NoEscape"], unfollowed := true, recurses := true, plainKeys := false, apart := false }
def AllsSaid : Prop := allsRow.holds Try.pinned (OpenSpec.ofChange allsSpec)

/-- ITS FALSE NEIGHBOUR: 'it returns false'. Refute it at one input. -/
def allsWrong : ChangeSpec := { name := "alls", fn := fun _ => fun
  | [d1, d2] => { results := [.lit (.bool false)], args := [d1, d2] }
  | _ => none }
def AllsWrongFalsely : Prop := allsRow.holds Try.pinned (OpenSpec.ofChange allsWrong)

/-- 'weavelaw.Led': WHATEVER THE INPUT: true; the input reads as it did. -/
def ledSpec : ChangeSpec := { name := "led", fn := fun _ => fun
  | [d1, d2, d3] => { results := [.lit (.bool true)], args := [d1, d2, d3] }
  | _ => none }
def ledRow : OpenClaim := { program := "ytimgindeiekpmaa", sum := "599b91878204582e5966289cff4109742791023967a98f54eba512825392bc92", func := "weave/weavelaw.Led", spec := "led", inPlace := ["internal/abi.NoEscape"], unfollowed := true, recurses := true, plainKeys := false, apart := false }
def LedSaid : Prop := ledRow.holds Try.pinned (OpenSpec.ofChange ledSpec)

/-- ITS FALSE NEIGHBOUR: 'it returns false'. Refute it at one input. -/
def ledWrong : ChangeSpec := { name := "led", fn := fun _ => fun
  | [d1, d2, d3] => { results := [.lit (.bool false)], args := [d1, d2, d3] }
  | _ => none }
def LedWrongFalsely : Prop := ledRow.holds Try.pinned (OpenSpec.ofChange ledWrong)

/-- 'weavelaw.Fueled': WHATEVER THE INPUT: true; the input reads as it did. -/
def fueledSpec : ChangeSpec := { name := "fueled", fn := fun _ => fun
  | [d1, d2] => { results := [.lit (.bool true)], args := [d1, d2] }
  | _ => none }
def fueledRow : OpenClaim := { program := "ytimgindeiekpmaa", sum := "599b91878204582e5966289cff4109742791023967a98f54eba512825392bc92", func := "weave/weavelaw.Fueled", spec := "fueled", inPlace := ["internal/abi.NoEscape"], unfollowed := true, recurses := true, plainKeys := false, apart := false }
def FueledSaid : Prop := fueledRow.holds Try.pinned (OpenSpec.ofChange fueledSpec)

/-- ITS FALSE NEIGHBOUR: 'it returns false'. Refute it at one input. -/
def fueledWrong : ChangeSpec := { name := "fueled", fn := fun _ => fun
  | [d1, d2] => { results := [.lit (.bool false)], args := [d1, d2] }
  | _ => none }
def FueledWrongFalsely : Prop := fueledRow.holds Try.pinned (OpenSpec.ofChange fueledWrong)

/-- 'weavelaw.Shows': WHATEVER THE INPUT: true; the input reads as it did. -/
def showsSpec : ChangeSpec := { name := "shows", fn := fun _ => fun
  | [d1, d2, d3] => { results := [.lit (.bool true)], args := [d1, d2, d3] }
  | _ => none }
def showsRow : OpenClaim := { program := "ytimgindeiekpmaa", sum := "599b91878204582e5966289cff4109742791023967a98f54eba512825392bc92", func := "weave/weavelaw.Shows", spec := "shows", inPlace := ["internal/abi.NoEscape"], unfollowed := true, recurses := true, plainKeys := false, apart := false }
def ShowsSaid : Prop := showsRow.holds Try.pinned (OpenSpec.ofChange showsSpec)

/-- ITS FALSE NEIGHBOUR: 'it returns false'. Refute it at one input. -/
def showsWrong : ChangeSpec := { name := "shows", fn := fun _ => fun
  | [d1, d2, d3] => { results := [.lit (.bool false)], args := [d1, d2, d3] }
  | _ => none }
def ShowsWrongFalsely : Prop := showsRow.holds Try.pinned (OpenSpec.ofChange showsWrong)

/-- 'weavelaw.Shown': WHATEVER THE INPUT: true; the input reads as it did. -/
def shownSpec : ChangeSpec := { name := "shown", fn := fun _ => fun
  | [d1, d2, d3] => { results := [.lit (.bool true)], args := [d1, d2, d3] }
  | _ => none }
def shownRow : OpenClaim := { program := "ytimgindeiekpmaa", sum := "599b91878204582e5966289cff4109742791023967a98f54eba512825392bc92", func := "weave/weavelaw.Shown", spec := "shown", inPlace := ["internal/abi.NoEscape"], unfollowed := true, recurses := true, plainKeys := false, apart := false }
def ShownSaid : Prop := shownRow.holds Try.pinned (OpenSpec.ofChange shownSpec)

/-- ITS FALSE NEIGHBOUR: 'it returns false'. Refute it at one input. -/
def shownWrong : ChangeSpec := { name := "shown", fn := fun _ => fun
  | [d1, d2, d3] => { results := [.lit (.bool false)], args := [d1, d2, d3] }
  | _ => none }
def ShownWrongFalsely : Prop := shownRow.holds Try.pinned (OpenSpec.ofChange shownWrong)

/-- 'weavelaw.Counts': WHATEVER THE INPUT: true; the input reads as it did. -/
def countsSpec : ChangeSpec := { name := "counts", fn := fun _ => fun
  | [d1, d2] => { results := [.lit (.bool true)], args := [d1, d2] }
  | _ => none }
def countsRow : OpenClaim := { program := "ytimgindeiekpmaa", sum := "599b91878204582e5966289cff4109742791023967a98f54eba512825392bc92", func := "weave/weavelaw.Counts", spec := "counts", unfollowed := true, recurses := true, plainKeys := false, apart := false }
def CountsSaid : Prop := countsRow.holds Try.pinned (OpenSpec.ofChange countsSpec)

/-- ITS FALSE NEIGHBOUR: 'it returns false'. Refute it at one input. -/
def countsWrong : ChangeSpec := { name := "counts", fn := fun _ => fun
  | [d1, d2] => { results := [.lit (.bool false)], args := [d1, d2] }
  | _ => none }
def CountsWrongFalsely : Prop := countsRow.holds Try.pinned (OpenSpec.ofChange countsWrong)

/-- 'weavelaw.Fewer': WHATEVER THE INPUT: true; the input reads as it did. -/
def fewerSpec : ChangeSpec := { name := "fewer", fn := fun _ => fun
  | [d1, d2] => { results := [.lit (.bool true)], args := [d1, d2] }
  | _ => none }
def fewerRow : OpenClaim := { program := "ytimgindeiekpmaa", sum := "599b91878204582e5966289cff4109742791023967a98f54eba512825392bc92", func := "weave/weavelaw.Fewer", spec := "fewer", inPlace := ["internal/abi.NoEscape"], unfollowed := true, recurses := true, plainKeys := false, apart := false }
def FewerSaid : Prop := fewerRow.holds Try.pinned (OpenSpec.ofChange fewerSpec)

/-- ITS FALSE NEIGHBOUR: 'it returns false'. Refute it at one input. -/
def fewerWrong : ChangeSpec := { name := "fewer", fn := fun _ => fun
  | [d1, d2] => { results := [.lit (.bool false)], args := [d1, d2] }
  | _ => none }
def FewerWrongFalsely : Prop := fewerRow.holds Try.pinned (OpenSpec.ofChange fewerWrong)

/-- 'weavelaw.Turned': WHATEVER THE INPUT: true; the input reads as it did. -/
def turnedSpec : ChangeSpec := { name := "turned", fn := fun _ => fun
  | [d1, d2, d3] => { results := [.lit (.bool true)], args := [d1, d2, d3] }
  | _ => none }
def turnedRow : OpenClaim := { program := "ytimgindeiekpmaa", sum := "599b91878204582e5966289cff4109742791023967a98f54eba512825392bc92", func := "weave/weavelaw.Turned", spec := "turned", inPlace := ["internal/abi.NoEscape"], unfollowed := true, recurses := true, plainKeys := false, apart := false }
def TurnedSaid : Prop := turnedRow.holds Try.pinned (OpenSpec.ofChange turnedSpec)

/-- ITS FALSE NEIGHBOUR: 'it returns false'. Refute it at one input. -/
def turnedWrong : ChangeSpec := { name := "turned", fn := fun _ => fun
  | [d1, d2, d3] => { results := [.lit (.bool false)], args := [d1, d2, d3] }
  | _ => none }
def TurnedWrongFalsely : Prop := turnedRow.holds Try.pinned (OpenSpec.ofChange turnedWrong)

/- THE SECOND FORM. 'bulk': how many values and letters a reading holds, each counted each time it is reached (what is shared counts as often as it is met; a slice's spare places count too). A statement '..UptoSaid' is the law's where the arguments, and the package variables that the reading takes, are together of bulk at most 1048576: NARROWER than '..Said'. Prove '..Said' where nothing that the law and all that it calls make is longer than what came in: it says more and counts as full. Else prove '..UptoSaid'. A law counts once. -/
mutual
def uptoBulk {H : Type} : DataW H → Nat
  | .lit (.string bytes) => bytes.length + 1
  | .lit _ => 1
  | .nil => 1
  | .ptr d => uptoBulk d + 1
  | .slice elems spare => uptoBulkAll elems + uptoBulkAll spare + 1
  | .agg parts => uptoBulkAll parts + 1
  | .iface _ d => uptoBulk d + 1
  | .map entries => uptoBulkEntries entries + 1
  | .held _ => 1
def uptoBulkAll {H : Type} : List (DataW H) → Nat
  | [] => 0
  | d :: r => uptoBulk d + uptoBulkAll r
def uptoBulkEntries {H : Type} : List (Lit × DataW H) → Nat
  | [] => 0
  | x :: r => uptoBulkEntry x + uptoBulkEntries r
def uptoBulkEntry {H : Type} : Lit × DataW H → Nat
  | (.string bytes, d) => bytes.length + uptoBulk d + 1
  | (_, d) => uptoBulk d + 1
 end
def uptoSmall : (H : Type) → List (DataW H) → Bool := fun _ ds => decide (uptoBulkAll ds ≤ 1048576)
def OpenSpec.upto (s : _root_.Go.ChangeSpec) : _root_.Go.OpenSpec := { _root_.Go.OpenSpec.ofChange s with cond := some uptoSmall }

/-- 'weavelaw.Checks', WHERE WHAT IT READS IS OF BULK AT MOST 1048576: true; the input reads as it did. -/
def checksUptoRow : OpenClaim := { program := "ytimgindeiekpmaa", sum := "599b91878204582e5966289cff4109742791023967a98f54eba512825392bc92", func := "weave/weavelaw.Checks", spec := "checks", unfollowed := true, recurses := true, plainKeys := false, apart := false, narrowed := true }
def ChecksUptoSaid : Prop := checksUptoRow.holds Try.pinned (OpenSpec.upto checksSpec)

/-- 'weavelaw.Plays', WHERE WHAT IT READS IS OF BULK AT MOST 1048576: true; the input reads as it did. -/
def playsUptoRow : OpenClaim := { program := "ytimgindeiekpmaa", sum := "599b91878204582e5966289cff4109742791023967a98f54eba512825392bc92", func := "weave/weavelaw.Plays", spec := "plays", inPlace := ["internal/abi.NoEscape"], unfollowed := true, recurses := true, plainKeys := false, apart := false, narrowed := true }
def PlaysUptoSaid : Prop := playsUptoRow.holds Try.pinned (OpenSpec.upto playsSpec)

/-- 'weavelaw.Swapped', WHERE WHAT IT READS IS OF BULK AT MOST 1048576: true; the input reads as it did. -/
def swappedUptoRow : OpenClaim := { program := "ytimgindeiekpmaa", sum := "599b91878204582e5966289cff4109742791023967a98f54eba512825392bc92", func := "weave/weavelaw.Swapped", spec := "swapped", inPlace := ["internal/abi.NoEscape"], unfollowed := true, recurses := true, plainKeys := false, apart := false, narrowed := true }
def SwappedUptoSaid : Prop := swappedUptoRow.holds Try.pinned (OpenSpec.upto swappedSpec)

/-- 'weavelaw.Alls', WHERE WHAT IT READS IS OF BULK AT MOST 1048576: true; the input reads as it did. -/
def allsUptoRow : OpenClaim := { program := "ytimgindeiekpmaa", sum := "599b91878204582e5966289cff4109742791023967a98f54eba512825392bc92", func := "weave/weavelaw.Alls", spec := "alls", inPlace := ["internal/abi.NoEscape"], unfollowed := true, recurses := true, plainKeys := false, apart := false, narrowed := true }
def AllsUptoSaid : Prop := allsUptoRow.holds Try.pinned (OpenSpec.upto allsSpec)

/-- 'weavelaw.Led', WHERE WHAT IT READS IS OF BULK AT MOST 1048576: true; the input reads as it did. -/
def ledUptoRow : OpenClaim := { program := "ytimgindeiekpmaa", sum := "599b91878204582e5966289cff4109742791023967a98f54eba512825392bc92", func := "weave/weavelaw.Led", spec := "led", inPlace := ["internal/abi.NoEscape"], unfollowed := true, recurses := true, plainKeys := false, apart := false, narrowed := true }
def LedUptoSaid : Prop := ledUptoRow.holds Try.pinned (OpenSpec.upto ledSpec)

/-- 'weavelaw.Fueled', WHERE WHAT IT READS IS OF BULK AT MOST 1048576: true; the input reads as it did. -/
def fueledUptoRow : OpenClaim := { program := "ytimgindeiekpmaa", sum := "599b91878204582e5966289cff4109742791023967a98f54eba512825392bc92", func := "weave/weavelaw.Fueled", spec := "fueled", inPlace := ["internal/abi.NoEscape"], unfollowed := true, recurses := true, plainKeys := false, apart := false, narrowed := true }
def FueledUptoSaid : Prop := fueledUptoRow.holds Try.pinned (OpenSpec.upto fueledSpec)

/-- 'weavelaw.Shows', WHERE WHAT IT READS IS OF BULK AT MOST 1048576: true; the input reads as it did. -/
def showsUptoRow : OpenClaim := { program := "ytimgindeiekpmaa", sum := "599b91878204582e5966289cff4109742791023967a98f54eba512825392bc92", func := "weave/weavelaw.Shows", spec := "shows", inPlace := ["internal/abi.NoEscape"], unfollowed := true, recurses := true, plainKeys := false, apart := false, narrowed := true }
def ShowsUptoSaid : Prop := showsUptoRow.holds Try.pinned (OpenSpec.upto showsSpec)

/-- 'weavelaw.Shown', WHERE WHAT IT READS IS OF BULK AT MOST 1048576: true; the input reads as it did. -/
def shownUptoRow : OpenClaim := { program := "ytimgindeiekpmaa", sum := "599b91878204582e5966289cff4109742791023967a98f54eba512825392bc92", func := "weave/weavelaw.Shown", spec := "shown", inPlace := ["internal/abi.NoEscape"], unfollowed := true, recurses := true, plainKeys := false, apart := false, narrowed := true }
def ShownUptoSaid : Prop := shownUptoRow.holds Try.pinned (OpenSpec.upto shownSpec)

/-- 'weavelaw.Counts', WHERE WHAT IT READS IS OF BULK AT MOST 1048576: true; the input reads as it did. -/
def countsUptoRow : OpenClaim := { program := "ytimgindeiekpmaa", sum := "599b91878204582e5966289cff4109742791023967a98f54eba512825392bc92", func := "weave/weavelaw.Counts", spec := "counts", unfollowed := true, recurses := true, plainKeys := false, apart := false, narrowed := true }
def CountsUptoSaid : Prop := countsUptoRow.holds Try.pinned (OpenSpec.upto countsSpec)

/-- 'weavelaw.Fewer', WHERE WHAT IT READS IS OF BULK AT MOST 1048576: true; the input reads as it did. -/
def fewerUptoRow : OpenClaim := { program := "ytimgindeiekpmaa", sum := "599b91878204582e5966289cff4109742791023967a98f54eba512825392bc92", func := "weave/weavelaw.Fewer", spec := "fewer", inPlace := ["internal/abi.NoEscape"], unfollowed := true, recurses := true, plainKeys := false, apart := false, narrowed := true }
def FewerUptoSaid : Prop := fewerUptoRow.holds Try.pinned (OpenSpec.upto fewerSpec)

/-- 'weavelaw.Turned', WHERE WHAT IT READS IS OF BULK AT MOST 1048576: true; the input reads as it did. -/
def turnedUptoRow : OpenClaim := { program := "ytimgindeiekpmaa", sum := "599b91878204582e5966289cff4109742791023967a98f54eba512825392bc92", func := "weave/weavelaw.Turned", spec := "turned", inPlace := ["internal/abi.NoEscape"], unfollowed := true, recurses := true, plainKeys := false, apart := false, narrowed := true }
def TurnedUptoSaid : Prop := turnedUptoRow.holds Try.pinned (OpenSpec.upto turnedSpec)

end Rows
end Go.Proofs.Ytimgindeiekpmaa
