/-
  NARROWER THAN 'FOR EVERY INPUT', by the rows' own cells (each row's printed sentence says how): DaycountNames: laid · DaycountTells: laid · DaycountAdds: laid · DaycountSigns: laid · DaycountWhole: laid · DaycountOrder: laid.
  DERIVED. THE GIVEN ROWS OF THIS SEAT. 6 by the template 'for every input the law returns true; each argument reads behind the call as it read before'; 0 by the template 'total and deterministic' (their statements: YtpgfadkkfofhcaaGreatDoorTotals.lean).
  GIVEN WITH THE SEED: the statements are not yours to turn. If you find one false, say at which input.
  Laid BY PROGRAM, IN A SANDBOX (cutbox-rows.mjs): the forced cells as the released guide's own fill.sh prints them over the translation eae4a2a69c7df007… (all of the seat's roots in one cut). By AI agents, Wed Nov 11 2026. No macro, syntax, notation, axiom, sorry.
-/
import Derived.Test.YtpgfadkkfofhcaaGreatDoorChecked
import GoSem.Claim
import GoSem.ClaimJoined
import GoSem.ClaimMapViews
import Derived.JoinedTies
import Derived.KernelRfl
namespace Go.Proofs.YtpgfadkkfofhcaaGreatDoor
/- THE CELL 'sum', in the pinned program and in every row, IS THE sha256 OF THE DUMP (.gsa) THAT YtpgfadkkfofhcaaGreatDoorProg.lean LOADS. Nothing in Lean hashes anything: it is a label: what it is worth is what the hold of that sum in a sandbox is worth. -/
noncomputable def Tryz.pinned : Pinned := { name := "ytpgfadkkfofhcaagreatdoor", sum := "eae4a2a69c7df007eaa25e340b38d725afee879b166db0bb1ecab8fda2ddab74", checked := Tryz.checked }
namespace Rows
def none {H : Type} : Left H := { results := [], args := [] }

/- WHAT THE LISTED PACKAGE-LEVEL VARIABLES READ AS WHEN THE CALL BEGINS. Each datum BY PROGRAM (the guide's laid-datum.mjs) off the statement by which the dump's own 'gosem.cut.vars' lays the variable. In a bare row this is a premise. The card (YtpgfadkkfofhcaaGreatDoorCards.lean) ties it to the program's text. -/
def laid_math_bits_deBruijn32tab {H : Type} : DataW H := .agg [.lit (.int .u8 0), .lit (.int .u8 1), .lit (.int .u8 28), .lit (.int .u8 2), .lit (.int .u8 29), .lit (.int .u8 14), .lit (.int .u8 24), .lit (.int .u8 3), .lit (.int .u8 30), .lit (.int .u8 22), .lit (.int .u8 20), .lit (.int .u8 15), .lit (.int .u8 25), .lit (.int .u8 17), .lit (.int .u8 4), .lit (.int .u8 8), .lit (.int .u8 31), .lit (.int .u8 27), .lit (.int .u8 13), .lit (.int .u8 23), .lit (.int .u8 21), .lit (.int .u8 19), .lit (.int .u8 16), .lit (.int .u8 7), .lit (.int .u8 26), .lit (.int .u8 12), .lit (.int .u8 18), .lit (.int .u8 6), .lit (.int .u8 11), .lit (.int .u8 5), .lit (.int .u8 10), .lit (.int .u8 9)]
def laid_math_bits_deBruijn64tab {H : Type} : DataW H := .agg [.lit (.int .u8 0), .lit (.int .u8 1), .lit (.int .u8 56), .lit (.int .u8 2), .lit (.int .u8 57), .lit (.int .u8 49), .lit (.int .u8 28), .lit (.int .u8 3), .lit (.int .u8 61), .lit (.int .u8 58), .lit (.int .u8 42), .lit (.int .u8 50), .lit (.int .u8 38), .lit (.int .u8 29), .lit (.int .u8 17), .lit (.int .u8 4), .lit (.int .u8 62), .lit (.int .u8 47), .lit (.int .u8 59), .lit (.int .u8 36), .lit (.int .u8 45), .lit (.int .u8 43), .lit (.int .u8 51), .lit (.int .u8 22), .lit (.int .u8 53), .lit (.int .u8 39), .lit (.int .u8 33), .lit (.int .u8 30), .lit (.int .u8 24), .lit (.int .u8 18), .lit (.int .u8 12), .lit (.int .u8 5), .lit (.int .u8 63), .lit (.int .u8 55), .lit (.int .u8 48), .lit (.int .u8 27), .lit (.int .u8 60), .lit (.int .u8 41), .lit (.int .u8 37), .lit (.int .u8 16), .lit (.int .u8 46), .lit (.int .u8 35), .lit (.int .u8 44), .lit (.int .u8 21), .lit (.int .u8 52), .lit (.int .u8 32), .lit (.int .u8 23), .lit (.int .u8 11), .lit (.int .u8 54), .lit (.int .u8 26), .lit (.int .u8 40), .lit (.int .u8 15), .lit (.int .u8 34), .lit (.int .u8 20), .lit (.int .u8 31), .lit (.int .u8 10), .lit (.int .u8 25), .lit (.int .u8 14), .lit (.int .u8 19), .lit (.int .u8 9), .lit (.int .u8 13), .lit (.int .u8 8), .lit (.int .u8 7), .lit (.int .u8 6)]
def laid_internal_strconv_uint64pow10 {H : Type} : DataW H := .agg [.lit (.int .u64 1), .lit (.int .u64 10), .lit (.int .u64 100), .lit (.int .u64 1000), .lit (.int .u64 10000), .lit (.int .u64 100000), .lit (.int .u64 1000000), .lit (.int .u64 10000000), .lit (.int .u64 100000000), .lit (.int .u64 1000000000), .lit (.int .u64 10000000000), .lit (.int .u64 100000000000), .lit (.int .u64 1000000000000), .lit (.int .u64 10000000000000), .lit (.int .u64 100000000000000), .lit (.int .u64 1000000000000000), .lit (.int .u64 10000000000000000), .lit (.int .u64 100000000000000000), .lit (.int .u64 1000000000000000000), .lit (.int .u64 10000000000000000000)]
def laid_novation_date_lengths {H : Type} : DataW H := .agg [.lit (.int .i64 31), .lit (.int .i64 28), .lit (.int .i64 31), .lit (.int .i64 30), .lit (.int .i64 31), .lit (.int .i64 30), .lit (.int .i64 31), .lit (.int .i64 31), .lit (.int .i64 30), .lit (.int .i64 31), .lit (.int .i64 30), .lit (.int .i64 31)]

/-- 'novationlaw05.DaycountNames': WHATEVER THE INPUT: true; the input reads as it did. -/
def daycountNamesSpec : ChangeSpec := { name := "daycountNames", fn := fun _ => fun
  | [] => { results := [.lit (.bool true)], args := [] }
  | _ => none }
def daycountNamesRow : OpenClaim := { program := "ytpgfadkkfofhcaagreatdoor", sum := "eae4a2a69c7df007eaa25e340b38d725afee879b166db0bb1ecab8fda2ddab74", func := "novation/novationlaw05.DaycountNames", spec := "daycountNames", inPlace := ["math/bits.Add64", "internal/bytealg.IndexByteString", "internal/bytealg.IndexString"], unfollowed := true, recurses := true, named := ["novation/date.lengths", "internal/strconv.uint64pow10", "math/bits.deBruijn32tab", "math/bits.deBruijn64tab", "math/bits.divideError", "math/bits.overflowError", "internal/bytealg.MaxLen"], apart := false, laid := [("math/bits.deBruijn32tab", laid_math_bits_deBruijn32tab), ("math/bits.deBruijn64tab", laid_math_bits_deBruijn64tab), ("internal/strconv.uint64pow10", laid_internal_strconv_uint64pow10), ("novation/date.lengths", laid_novation_date_lengths)] }
def DaycountNamesSaid : Prop := daycountNamesRow.holds Tryz.pinned (OpenSpec.ofChange daycountNamesSpec)

/-- ITS FALSE NEIGHBOUR: 'it returns false'. Refute it at one input. -/
def daycountNamesWrong : ChangeSpec := { name := "daycountNames", fn := fun _ => fun
  | [] => { results := [.lit (.bool false)], args := [] }
  | _ => none }
def DaycountNamesWrongFalsely : Prop := daycountNamesRow.holds Tryz.pinned (OpenSpec.ofChange daycountNamesWrong)

/-- 'novationlaw05.DaycountTells': WHATEVER THE INPUT: true; the input reads as it did. -/
def daycountTellsSpec : ChangeSpec := { name := "daycountTells", fn := fun _ => fun
  | [d1, d2, d3] => { results := [.lit (.bool true)], args := [d1, d2, d3] }
  | _ => none }
def daycountTellsRow : OpenClaim := { program := "ytpgfadkkfofhcaagreatdoor", sum := "eae4a2a69c7df007eaa25e340b38d725afee879b166db0bb1ecab8fda2ddab74", func := "novation/novationlaw05.DaycountTells", spec := "daycountTells", inPlace := ["math/bits.Add64", "internal/bytealg.IndexByteString", "internal/bytealg.IndexString"], unfollowed := true, recurses := true, named := ["novation/date.lengths", "internal/strconv.uint64pow10", "math/bits.deBruijn32tab", "math/bits.deBruijn64tab", "math/bits.divideError", "math/bits.overflowError", "internal/bytealg.MaxLen"], apart := false, laid := [("math/bits.deBruijn32tab", laid_math_bits_deBruijn32tab), ("math/bits.deBruijn64tab", laid_math_bits_deBruijn64tab), ("internal/strconv.uint64pow10", laid_internal_strconv_uint64pow10), ("novation/date.lengths", laid_novation_date_lengths)] }
def DaycountTellsSaid : Prop := daycountTellsRow.holds Tryz.pinned (OpenSpec.ofChange daycountTellsSpec)

/-- ITS FALSE NEIGHBOUR: 'it returns false'. Refute it at one input. -/
def daycountTellsWrong : ChangeSpec := { name := "daycountTells", fn := fun _ => fun
  | [d1, d2, d3] => { results := [.lit (.bool false)], args := [d1, d2, d3] }
  | _ => none }
def DaycountTellsWrongFalsely : Prop := daycountTellsRow.holds Tryz.pinned (OpenSpec.ofChange daycountTellsWrong)

/-- 'novationlaw05.DaycountAdds': WHATEVER THE INPUT: true; the input reads as it did. -/
def daycountAddsSpec : ChangeSpec := { name := "daycountAdds", fn := fun _ => fun
  | [d1, d2, d3, d4] => { results := [.lit (.bool true)], args := [d1, d2, d3, d4] }
  | _ => none }
def daycountAddsRow : OpenClaim := { program := "ytpgfadkkfofhcaagreatdoor", sum := "eae4a2a69c7df007eaa25e340b38d725afee879b166db0bb1ecab8fda2ddab74", func := "novation/novationlaw05.DaycountAdds", spec := "daycountAdds", inPlace := ["math/bits.Add64", "internal/bytealg.IndexByteString", "internal/bytealg.IndexString"], unfollowed := true, recurses := true, named := ["novation/date.lengths", "internal/strconv.uint64pow10", "math/bits.deBruijn32tab", "math/bits.deBruijn64tab", "math/bits.divideError", "math/bits.overflowError", "internal/bytealg.MaxLen"], apart := false, laid := [("math/bits.deBruijn32tab", laid_math_bits_deBruijn32tab), ("math/bits.deBruijn64tab", laid_math_bits_deBruijn64tab), ("internal/strconv.uint64pow10", laid_internal_strconv_uint64pow10), ("novation/date.lengths", laid_novation_date_lengths)] }
def DaycountAddsSaid : Prop := daycountAddsRow.holds Tryz.pinned (OpenSpec.ofChange daycountAddsSpec)

/-- ITS FALSE NEIGHBOUR: 'it returns false'. Refute it at one input. -/
def daycountAddsWrong : ChangeSpec := { name := "daycountAdds", fn := fun _ => fun
  | [d1, d2, d3, d4] => { results := [.lit (.bool false)], args := [d1, d2, d3, d4] }
  | _ => none }
def DaycountAddsWrongFalsely : Prop := daycountAddsRow.holds Tryz.pinned (OpenSpec.ofChange daycountAddsWrong)

/-- 'novationlaw05.DaycountSigns': WHATEVER THE INPUT: true; the input reads as it did. -/
def daycountSignsSpec : ChangeSpec := { name := "daycountSigns", fn := fun _ => fun
  | [d1, d2, d3] => { results := [.lit (.bool true)], args := [d1, d2, d3] }
  | _ => none }
def daycountSignsRow : OpenClaim := { program := "ytpgfadkkfofhcaagreatdoor", sum := "eae4a2a69c7df007eaa25e340b38d725afee879b166db0bb1ecab8fda2ddab74", func := "novation/novationlaw05.DaycountSigns", spec := "daycountSigns", inPlace := ["math/bits.Add64", "internal/bytealg.IndexByteString", "internal/bytealg.IndexString"], unfollowed := true, recurses := true, named := ["novation/date.lengths", "internal/strconv.uint64pow10", "math/bits.deBruijn32tab", "math/bits.deBruijn64tab", "math/bits.divideError", "math/bits.overflowError", "internal/bytealg.MaxLen"], apart := false, laid := [("math/bits.deBruijn32tab", laid_math_bits_deBruijn32tab), ("math/bits.deBruijn64tab", laid_math_bits_deBruijn64tab), ("internal/strconv.uint64pow10", laid_internal_strconv_uint64pow10), ("novation/date.lengths", laid_novation_date_lengths)] }
def DaycountSignsSaid : Prop := daycountSignsRow.holds Tryz.pinned (OpenSpec.ofChange daycountSignsSpec)

/-- ITS FALSE NEIGHBOUR: 'it returns false'. Refute it at one input. -/
def daycountSignsWrong : ChangeSpec := { name := "daycountSigns", fn := fun _ => fun
  | [d1, d2, d3] => { results := [.lit (.bool false)], args := [d1, d2, d3] }
  | _ => none }
def DaycountSignsWrongFalsely : Prop := daycountSignsRow.holds Tryz.pinned (OpenSpec.ofChange daycountSignsWrong)

/-- 'novationlaw05.DaycountWhole': WHATEVER THE INPUT: true; the input reads as it did. -/
def daycountWholeSpec : ChangeSpec := { name := "daycountWhole", fn := fun _ => fun
  | [d1, d2, d3, d4] => { results := [.lit (.bool true)], args := [d1, d2, d3, d4] }
  | _ => none }
def daycountWholeRow : OpenClaim := { program := "ytpgfadkkfofhcaagreatdoor", sum := "eae4a2a69c7df007eaa25e340b38d725afee879b166db0bb1ecab8fda2ddab74", func := "novation/novationlaw05.DaycountWhole", spec := "daycountWhole", inPlace := ["math/bits.Add64", "internal/bytealg.IndexByteString", "internal/bytealg.IndexString"], unfollowed := true, recurses := true, named := ["novation/date.lengths", "internal/strconv.uint64pow10", "math/bits.deBruijn32tab", "math/bits.deBruijn64tab", "math/bits.divideError", "math/bits.overflowError", "internal/bytealg.MaxLen"], apart := false, laid := [("math/bits.deBruijn32tab", laid_math_bits_deBruijn32tab), ("math/bits.deBruijn64tab", laid_math_bits_deBruijn64tab), ("internal/strconv.uint64pow10", laid_internal_strconv_uint64pow10), ("novation/date.lengths", laid_novation_date_lengths)] }
def DaycountWholeSaid : Prop := daycountWholeRow.holds Tryz.pinned (OpenSpec.ofChange daycountWholeSpec)

/-- ITS FALSE NEIGHBOUR: 'it returns false'. Refute it at one input. -/
def daycountWholeWrong : ChangeSpec := { name := "daycountWhole", fn := fun _ => fun
  | [d1, d2, d3, d4] => { results := [.lit (.bool false)], args := [d1, d2, d3, d4] }
  | _ => none }
def DaycountWholeWrongFalsely : Prop := daycountWholeRow.holds Tryz.pinned (OpenSpec.ofChange daycountWholeWrong)

/-- 'novationlaw05.DaycountOrder': WHATEVER THE INPUT: true; the input reads as it did. -/
def daycountOrderSpec : ChangeSpec := { name := "daycountOrder", fn := fun _ => fun
  | [d1, d2, d3, d4] => { results := [.lit (.bool true)], args := [d1, d2, d3, d4] }
  | _ => none }
def daycountOrderRow : OpenClaim := { program := "ytpgfadkkfofhcaagreatdoor", sum := "eae4a2a69c7df007eaa25e340b38d725afee879b166db0bb1ecab8fda2ddab74", func := "novation/novationlaw05.DaycountOrder", spec := "daycountOrder", inPlace := ["math/bits.Add64", "internal/bytealg.IndexByteString", "internal/bytealg.IndexString"], unfollowed := true, recurses := true, named := ["novation/date.lengths", "internal/strconv.uint64pow10", "math/bits.deBruijn32tab", "math/bits.deBruijn64tab", "math/bits.divideError", "math/bits.overflowError", "internal/bytealg.MaxLen"], apart := false, laid := [("math/bits.deBruijn32tab", laid_math_bits_deBruijn32tab), ("math/bits.deBruijn64tab", laid_math_bits_deBruijn64tab), ("internal/strconv.uint64pow10", laid_internal_strconv_uint64pow10), ("novation/date.lengths", laid_novation_date_lengths)] }
def DaycountOrderSaid : Prop := daycountOrderRow.holds Tryz.pinned (OpenSpec.ofChange daycountOrderSpec)

/-- ITS FALSE NEIGHBOUR: 'it returns false'. Refute it at one input. -/
def daycountOrderWrong : ChangeSpec := { name := "daycountOrder", fn := fun _ => fun
  | [d1, d2, d3, d4] => { results := [.lit (.bool false)], args := [d1, d2, d3, d4] }
  | _ => none }
def DaycountOrderWrongFalsely : Prop := daycountOrderRow.holds Tryz.pinned (OpenSpec.ofChange daycountOrderWrong)

/- THE SECOND FORM. 'bulk': how many values and letters a reading holds, each counted each time it is reached (what is shared counts as often as it is met; a slice's spare places count too). A statement '..UptoSaid' is the law's where the arguments, and the package variables that the reading takes, are together of bulk at most 1048576: NARROWER than '..Said'. Prove '..Said' where nothing that the law and all that it calls make is longer than what came in: it says more and counts as full. Else prove '..UptoSaid'. A law counts once. -/
mutual
def uptoBulk {H : Type} : DataW H → Nat
  | .lit (.string bytes) => bytes.length + 1
  | .lit _ => 1
  | .nil => 1
  | .ptr d => uptoBulk d + 1
  | .slice elems spare => uptoBulkAll elems + uptoBulkAll spare + 1
  | .agg parts => uptoBulkAll parts + 1
  | .iface _ d => uptoBulk d + 1
  | .map entries => uptoBulkEntries entries + 1
  | .held _ => 1
def uptoBulkAll {H : Type} : List (DataW H) → Nat
  | [] => 0
  | d :: r => uptoBulk d + uptoBulkAll r
def uptoBulkEntries {H : Type} : List (Lit × DataW H) → Nat
  | [] => 0
  | x :: r => uptoBulkEntry x + uptoBulkEntries r
def uptoBulkEntry {H : Type} : Lit × DataW H → Nat
  | (.string bytes, d) => bytes.length + uptoBulk d + 1
  | (_, d) => uptoBulk d + 1
 end
def uptoSmall : (H : Type) → List (DataW H) → Bool := fun _ ds => decide (uptoBulkAll ds ≤ 1048576)
def OpenSpec.upto (s : _root_.Go.ChangeSpec) : _root_.Go.OpenSpec := { _root_.Go.OpenSpec.ofChange s with cond := some uptoSmall }

/-- 'novationlaw05.DaycountNames', WHERE WHAT IT READS IS OF BULK AT MOST 1048576: true; the input reads as it did. -/
def daycountNamesUptoRow : OpenClaim := { program := "ytpgfadkkfofhcaagreatdoor", sum := "eae4a2a69c7df007eaa25e340b38d725afee879b166db0bb1ecab8fda2ddab74", func := "novation/novationlaw05.DaycountNames", spec := "daycountNames", inPlace := ["math/bits.Add64", "internal/bytealg.IndexByteString", "internal/bytealg.IndexString"], unfollowed := true, recurses := true, named := ["novation/date.lengths", "internal/strconv.uint64pow10", "math/bits.deBruijn32tab", "math/bits.deBruijn64tab", "math/bits.divideError", "math/bits.overflowError", "internal/bytealg.MaxLen"], apart := false, laid := [("math/bits.deBruijn32tab", laid_math_bits_deBruijn32tab), ("math/bits.deBruijn64tab", laid_math_bits_deBruijn64tab), ("internal/strconv.uint64pow10", laid_internal_strconv_uint64pow10), ("novation/date.lengths", laid_novation_date_lengths)], narrowed := true }
def DaycountNamesUptoSaid : Prop := daycountNamesUptoRow.holds Tryz.pinned (OpenSpec.upto daycountNamesSpec)

/-- 'novationlaw05.DaycountTells', WHERE WHAT IT READS IS OF BULK AT MOST 1048576: true; the input reads as it did. -/
def daycountTellsUptoRow : OpenClaim := { program := "ytpgfadkkfofhcaagreatdoor", sum := "eae4a2a69c7df007eaa25e340b38d725afee879b166db0bb1ecab8fda2ddab74", func := "novation/novationlaw05.DaycountTells", spec := "daycountTells", inPlace := ["math/bits.Add64", "internal/bytealg.IndexByteString", "internal/bytealg.IndexString"], unfollowed := true, recurses := true, named := ["novation/date.lengths", "internal/strconv.uint64pow10", "math/bits.deBruijn32tab", "math/bits.deBruijn64tab", "math/bits.divideError", "math/bits.overflowError", "internal/bytealg.MaxLen"], apart := false, laid := [("math/bits.deBruijn32tab", laid_math_bits_deBruijn32tab), ("math/bits.deBruijn64tab", laid_math_bits_deBruijn64tab), ("internal/strconv.uint64pow10", laid_internal_strconv_uint64pow10), ("novation/date.lengths", laid_novation_date_lengths)], narrowed := true }
def DaycountTellsUptoSaid : Prop := daycountTellsUptoRow.holds Tryz.pinned (OpenSpec.upto daycountTellsSpec)

/-- 'novationlaw05.DaycountAdds', WHERE WHAT IT READS IS OF BULK AT MOST 1048576: true; the input reads as it did. -/
def daycountAddsUptoRow : OpenClaim := { program := "ytpgfadkkfofhcaagreatdoor", sum := "eae4a2a69c7df007eaa25e340b38d725afee879b166db0bb1ecab8fda2ddab74", func := "novation/novationlaw05.DaycountAdds", spec := "daycountAdds", inPlace := ["math/bits.Add64", "internal/bytealg.IndexByteString", "internal/bytealg.IndexString"], unfollowed := true, recurses := true, named := ["novation/date.lengths", "internal/strconv.uint64pow10", "math/bits.deBruijn32tab", "math/bits.deBruijn64tab", "math/bits.divideError", "math/bits.overflowError", "internal/bytealg.MaxLen"], apart := false, laid := [("math/bits.deBruijn32tab", laid_math_bits_deBruijn32tab), ("math/bits.deBruijn64tab", laid_math_bits_deBruijn64tab), ("internal/strconv.uint64pow10", laid_internal_strconv_uint64pow10), ("novation/date.lengths", laid_novation_date_lengths)], narrowed := true }
def DaycountAddsUptoSaid : Prop := daycountAddsUptoRow.holds Tryz.pinned (OpenSpec.upto daycountAddsSpec)

/-- 'novationlaw05.DaycountSigns', WHERE WHAT IT READS IS OF BULK AT MOST 1048576: true; the input reads as it did. -/
def daycountSignsUptoRow : OpenClaim := { program := "ytpgfadkkfofhcaagreatdoor", sum := "eae4a2a69c7df007eaa25e340b38d725afee879b166db0bb1ecab8fda2ddab74", func := "novation/novationlaw05.DaycountSigns", spec := "daycountSigns", inPlace := ["math/bits.Add64", "internal/bytealg.IndexByteString", "internal/bytealg.IndexString"], unfollowed := true, recurses := true, named := ["novation/date.lengths", "internal/strconv.uint64pow10", "math/bits.deBruijn32tab", "math/bits.deBruijn64tab", "math/bits.divideError", "math/bits.overflowError", "internal/bytealg.MaxLen"], apart := false, laid := [("math/bits.deBruijn32tab", laid_math_bits_deBruijn32tab), ("math/bits.deBruijn64tab", laid_math_bits_deBruijn64tab), ("internal/strconv.uint64pow10", laid_internal_strconv_uint64pow10), ("novation/date.lengths", laid_novation_date_lengths)], narrowed := true }
def DaycountSignsUptoSaid : Prop := daycountSignsUptoRow.holds Tryz.pinned (OpenSpec.upto daycountSignsSpec)

/-- 'novationlaw05.DaycountWhole', WHERE WHAT IT READS IS OF BULK AT MOST 1048576: true; the input reads as it did. -/
def daycountWholeUptoRow : OpenClaim := { program := "ytpgfadkkfofhcaagreatdoor", sum := "eae4a2a69c7df007eaa25e340b38d725afee879b166db0bb1ecab8fda2ddab74", func := "novation/novationlaw05.DaycountWhole", spec := "daycountWhole", inPlace := ["math/bits.Add64", "internal/bytealg.IndexByteString", "internal/bytealg.IndexString"], unfollowed := true, recurses := true, named := ["novation/date.lengths", "internal/strconv.uint64pow10", "math/bits.deBruijn32tab", "math/bits.deBruijn64tab", "math/bits.divideError", "math/bits.overflowError", "internal/bytealg.MaxLen"], apart := false, laid := [("math/bits.deBruijn32tab", laid_math_bits_deBruijn32tab), ("math/bits.deBruijn64tab", laid_math_bits_deBruijn64tab), ("internal/strconv.uint64pow10", laid_internal_strconv_uint64pow10), ("novation/date.lengths", laid_novation_date_lengths)], narrowed := true }
def DaycountWholeUptoSaid : Prop := daycountWholeUptoRow.holds Tryz.pinned (OpenSpec.upto daycountWholeSpec)

/-- 'novationlaw05.DaycountOrder', WHERE WHAT IT READS IS OF BULK AT MOST 1048576: true; the input reads as it did. -/
def daycountOrderUptoRow : OpenClaim := { program := "ytpgfadkkfofhcaagreatdoor", sum := "eae4a2a69c7df007eaa25e340b38d725afee879b166db0bb1ecab8fda2ddab74", func := "novation/novationlaw05.DaycountOrder", spec := "daycountOrder", inPlace := ["math/bits.Add64", "internal/bytealg.IndexByteString", "internal/bytealg.IndexString"], unfollowed := true, recurses := true, named := ["novation/date.lengths", "internal/strconv.uint64pow10", "math/bits.deBruijn32tab", "math/bits.deBruijn64tab", "math/bits.divideError", "math/bits.overflowError", "internal/bytealg.MaxLen"], apart := false, laid := [("math/bits.deBruijn32tab", laid_math_bits_deBruijn32tab), ("math/bits.deBruijn64tab", laid_math_bits_deBruijn64tab), ("internal/strconv.uint64pow10", laid_internal_strconv_uint64pow10), ("novation/date.lengths", laid_novation_date_lengths)], narrowed := true }
def DaycountOrderUptoSaid : Prop := daycountOrderUptoRow.holds Tryz.pinned (OpenSpec.upto daycountOrderSpec)

end Rows
end Go.Proofs.YtpgfadkkfofhcaaGreatDoor
