/-
  No cell of these rows narrows 'for every input' (looked for: loops, veiled, ifaces, maps, wideKeys, modest, calm, conditions, laid).
  DERIVED. THE GIVEN ROWS OF THIS SEAT. 5 by the template 'for every input the law returns true; each argument reads behind the call as it read before'; 0 by the template 'total and deterministic' (their statements: YtgahdjfkmpadoaaTotals.lean).
  GIVEN WITH THE SEED: the statements are not yours to turn. If you find one false, say at which input.
  Laid BY PROGRAM, IN A SANDBOX (cutbox-rows.mjs): the forced cells as the released guide's own fill.sh prints them over the translation 7d9666c9e90a91df… (all of the seat's roots in one cut). By AI agents, Wed Nov 11 2026. No macro, syntax, notation, axiom, sorry.
-/
import Derived.Test.YtgahdjfkmpadoaaChecked
import GoSem.Claim
import GoSem.ClaimJoined
import GoSem.ClaimMapViews
import Derived.JoinedTies
import Derived.KernelRfl
namespace Go.Proofs.Ytgahdjfkmpadoaa
/- THE CELL 'sum', in the pinned program and in every row, IS THE sha256 OF THE DUMP (.gsa) THAT YtgahdjfkmpadoaaProg.lean LOADS. Nothing in Lean hashes anything: it is a label: what it is worth is what the hold of that sum in a sandbox is worth. -/
noncomputable def Try.pinned : Pinned := { name := "ytgahdjfkmpadoaa", sum := "7d9666c9e90a91df554278e998890e3327bb260dbe5542c41a155b65747e795c", checked := Try.checked }
namespace Rows
def none {H : Type} : Left H := { results := [], args := [] }

/-- 'binnaclelaw08.SymNone': WHATEVER THE INPUT: true; the input reads as it did. -/
def symNoneSpec : ChangeSpec := { name := "symNone", fn := fun _ => fun
  | [d1, d2, d3] => { results := [.lit (.bool true)], args := [d1, d2, d3] }
  | _ => none }
def symNoneRow : OpenClaim := { program := "ytgahdjfkmpadoaa", sum := "7d9666c9e90a91df554278e998890e3327bb260dbe5542c41a155b65747e795c", func := "binnacle/binnaclelaw08.SymNone", spec := "symNone", inPlace := ["math/bits.Sub64", "math/bits.Add64"], unfollowed := true, recurses := true, apart := false }
def SymNoneSaid : Prop := symNoneRow.holds Try.pinned (OpenSpec.ofChange symNoneSpec)

/-- ITS FALSE NEIGHBOUR: 'it returns false'. Refute it at one input. -/
def symNoneWrong : ChangeSpec := { name := "symNone", fn := fun _ => fun
  | [d1, d2, d3] => { results := [.lit (.bool false)], args := [d1, d2, d3] }
  | _ => none }
def SymNoneWrongFalsely : Prop := symNoneRow.holds Try.pinned (OpenSpec.ofChange symNoneWrong)

/-- 'binnaclelaw08.SymKnown': WHATEVER THE INPUT: true; the input reads as it did. -/
def symKnownSpec : ChangeSpec := { name := "symKnown", fn := fun _ => fun
  | [] => { results := [.lit (.bool true)], args := [] }
  | _ => none }
def symKnownRow : OpenClaim := { program := "ytgahdjfkmpadoaa", sum := "7d9666c9e90a91df554278e998890e3327bb260dbe5542c41a155b65747e795c", func := "binnacle/binnaclelaw08.SymKnown", spec := "symKnown", inPlace := ["math/bits.Sub64", "math/bits.Add64"], unfollowed := true, recurses := true, apart := false }
def SymKnownSaid : Prop := symKnownRow.holds Try.pinned (OpenSpec.ofChange symKnownSpec)

/-- ITS FALSE NEIGHBOUR: 'it returns false'. Refute it at one input. -/
def symKnownWrong : ChangeSpec := { name := "symKnown", fn := fun _ => fun
  | [] => { results := [.lit (.bool false)], args := [] }
  | _ => none }
def SymKnownWrongFalsely : Prop := symKnownRow.holds Try.pinned (OpenSpec.ofChange symKnownWrong)

/-- 'binnaclelaw08.SymEven': WHATEVER THE INPUT: true; the input reads as it did. -/
def symEvenSpec : ChangeSpec := { name := "symEven", fn := fun _ => fun
  | [d1, d2] => { results := [.lit (.bool true)], args := [d1, d2] }
  | _ => none }
def symEvenRow : OpenClaim := { program := "ytgahdjfkmpadoaa", sum := "7d9666c9e90a91df554278e998890e3327bb260dbe5542c41a155b65747e795c", func := "binnacle/binnaclelaw08.SymEven", spec := "symEven", inPlace := ["math/bits.Sub64", "math/bits.Add64"], unfollowed := true, recurses := true, apart := false }
def SymEvenSaid : Prop := symEvenRow.holds Try.pinned (OpenSpec.ofChange symEvenSpec)

/-- ITS FALSE NEIGHBOUR: 'it returns false'. Refute it at one input. -/
def symEvenWrong : ChangeSpec := { name := "symEven", fn := fun _ => fun
  | [d1, d2] => { results := [.lit (.bool false)], args := [d1, d2] }
  | _ => none }
def SymEvenWrongFalsely : Prop := symEvenRow.holds Try.pinned (OpenSpec.ofChange symEvenWrong)

/-- 'binnaclelaw08.SymMoved': WHATEVER THE INPUT: true; the input reads as it did. -/
def symMovedSpec : ChangeSpec := { name := "symMoved", fn := fun _ => fun
  | [d1, d2, d3, d4, d5] => { results := [.lit (.bool true)], args := [d1, d2, d3, d4, d5] }
  | _ => none }
def symMovedRow : OpenClaim := { program := "ytgahdjfkmpadoaa", sum := "7d9666c9e90a91df554278e998890e3327bb260dbe5542c41a155b65747e795c", func := "binnacle/binnaclelaw08.SymMoved", spec := "symMoved", inPlace := ["math/bits.Sub64", "math/bits.Add64"], unfollowed := true, recurses := true, apart := false }
def SymMovedSaid : Prop := symMovedRow.holds Try.pinned (OpenSpec.ofChange symMovedSpec)

/-- ITS FALSE NEIGHBOUR: 'it returns false'. Refute it at one input. -/
def symMovedWrong : ChangeSpec := { name := "symMoved", fn := fun _ => fun
  | [d1, d2, d3, d4, d5] => { results := [.lit (.bool false)], args := [d1, d2, d3, d4, d5] }
  | _ => none }
def SymMovedWrongFalsely : Prop := symMovedRow.holds Try.pinned (OpenSpec.ofChange symMovedWrong)

/-- 'binnaclelaw08.SymBack': WHATEVER THE INPUT: true; the input reads as it did. -/
def symBackSpec : ChangeSpec := { name := "symBack", fn := fun _ => fun
  | [d1, d2, d3, d4] => { results := [.lit (.bool true)], args := [d1, d2, d3, d4] }
  | _ => none }
def symBackRow : OpenClaim := { program := "ytgahdjfkmpadoaa", sum := "7d9666c9e90a91df554278e998890e3327bb260dbe5542c41a155b65747e795c", func := "binnacle/binnaclelaw08.SymBack", spec := "symBack", inPlace := ["math/bits.Sub64", "math/bits.Add64"], unfollowed := true, recurses := true, apart := false }
def SymBackSaid : Prop := symBackRow.holds Try.pinned (OpenSpec.ofChange symBackSpec)

/-- ITS FALSE NEIGHBOUR: 'it returns false'. Refute it at one input. -/
def symBackWrong : ChangeSpec := { name := "symBack", fn := fun _ => fun
  | [d1, d2, d3, d4] => { results := [.lit (.bool false)], args := [d1, d2, d3, d4] }
  | _ => none }
def SymBackWrongFalsely : Prop := symBackRow.holds Try.pinned (OpenSpec.ofChange symBackWrong)

/- THE SECOND FORM. 'bulk': how many values and letters a reading holds, each counted each time it is reached (what is shared counts as often as it is met; a slice's spare places count too). A statement '..UptoSaid' is the law's where the arguments, and the package variables that the reading takes, are together of bulk at most 1048576: NARROWER than '..Said'. Prove '..Said' where nothing that the law and all that it calls make is longer than what came in: it says more and counts as full. Else prove '..UptoSaid'. A law counts once. -/
mutual
def uptoBulk {H : Type} : DataW H → Nat
  | .lit (.string bytes) => bytes.length + 1
  | .lit _ => 1
  | .nil => 1
  | .ptr d => uptoBulk d + 1
  | .slice elems spare => uptoBulkAll elems + uptoBulkAll spare + 1
  | .agg parts => uptoBulkAll parts + 1
  | .iface _ d => uptoBulk d + 1
  | .map entries => uptoBulkEntries entries + 1
  | .held _ => 1
def uptoBulkAll {H : Type} : List (DataW H) → Nat
  | [] => 0
  | d :: r => uptoBulk d + uptoBulkAll r
def uptoBulkEntries {H : Type} : List (Lit × DataW H) → Nat
  | [] => 0
  | x :: r => uptoBulkEntry x + uptoBulkEntries r
def uptoBulkEntry {H : Type} : Lit × DataW H → Nat
  | (.string bytes, d) => bytes.length + uptoBulk d + 1
  | (_, d) => uptoBulk d + 1
 end
def uptoSmall : (H : Type) → List (DataW H) → Bool := fun _ ds => decide (uptoBulkAll ds ≤ 1048576)
def OpenSpec.upto (s : _root_.Go.ChangeSpec) : _root_.Go.OpenSpec := { _root_.Go.OpenSpec.ofChange s with cond := some uptoSmall }

/-- 'binnaclelaw08.SymNone', WHERE WHAT IT READS IS OF BULK AT MOST 1048576: true; the input reads as it did. -/
def symNoneUptoRow : OpenClaim := { program := "ytgahdjfkmpadoaa", sum := "7d9666c9e90a91df554278e998890e3327bb260dbe5542c41a155b65747e795c", func := "binnacle/binnaclelaw08.SymNone", spec := "symNone", inPlace := ["math/bits.Sub64", "math/bits.Add64"], unfollowed := true, recurses := true, apart := false, narrowed := true }
def SymNoneUptoSaid : Prop := symNoneUptoRow.holds Try.pinned (OpenSpec.upto symNoneSpec)

/-- 'binnaclelaw08.SymKnown', WHERE WHAT IT READS IS OF BULK AT MOST 1048576: true; the input reads as it did. -/
def symKnownUptoRow : OpenClaim := { program := "ytgahdjfkmpadoaa", sum := "7d9666c9e90a91df554278e998890e3327bb260dbe5542c41a155b65747e795c", func := "binnacle/binnaclelaw08.SymKnown", spec := "symKnown", inPlace := ["math/bits.Sub64", "math/bits.Add64"], unfollowed := true, recurses := true, apart := false, narrowed := true }
def SymKnownUptoSaid : Prop := symKnownUptoRow.holds Try.pinned (OpenSpec.upto symKnownSpec)

/-- 'binnaclelaw08.SymEven', WHERE WHAT IT READS IS OF BULK AT MOST 1048576: true; the input reads as it did. -/
def symEvenUptoRow : OpenClaim := { program := "ytgahdjfkmpadoaa", sum := "7d9666c9e90a91df554278e998890e3327bb260dbe5542c41a155b65747e795c", func := "binnacle/binnaclelaw08.SymEven", spec := "symEven", inPlace := ["math/bits.Sub64", "math/bits.Add64"], unfollowed := true, recurses := true, apart := false, narrowed := true }
def SymEvenUptoSaid : Prop := symEvenUptoRow.holds Try.pinned (OpenSpec.upto symEvenSpec)

/-- 'binnaclelaw08.SymMoved', WHERE WHAT IT READS IS OF BULK AT MOST 1048576: true; the input reads as it did. -/
def symMovedUptoRow : OpenClaim := { program := "ytgahdjfkmpadoaa", sum := "7d9666c9e90a91df554278e998890e3327bb260dbe5542c41a155b65747e795c", func := "binnacle/binnaclelaw08.SymMoved", spec := "symMoved", inPlace := ["math/bits.Sub64", "math/bits.Add64"], unfollowed := true, recurses := true, apart := false, narrowed := true }
def SymMovedUptoSaid : Prop := symMovedUptoRow.holds Try.pinned (OpenSpec.upto symMovedSpec)

/-- 'binnaclelaw08.SymBack', WHERE WHAT IT READS IS OF BULK AT MOST 1048576: true; the input reads as it did. -/
def symBackUptoRow : OpenClaim := { program := "ytgahdjfkmpadoaa", sum := "7d9666c9e90a91df554278e998890e3327bb260dbe5542c41a155b65747e795c", func := "binnacle/binnaclelaw08.SymBack", spec := "symBack", inPlace := ["math/bits.Sub64", "math/bits.Add64"], unfollowed := true, recurses := true, apart := false, narrowed := true }
def SymBackUptoSaid : Prop := symBackUptoRow.holds Try.pinned (OpenSpec.upto symBackSpec)

end Rows
end Go.Proofs.Ytgahdjfkmpadoaa
