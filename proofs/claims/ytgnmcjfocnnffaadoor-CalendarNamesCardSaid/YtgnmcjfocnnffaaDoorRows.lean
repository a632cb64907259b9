/-
  NARROWER THAN 'FOR EVERY INPUT', by the rows' own cells (each row's printed sentence says how): CalendarNames: laid · CalendarRolls: laid · CalendarCounts: laid · CalendarNearest: laid · CalendarAdds: laid · CalendarSums: laid · CalendarJoins: laid.
  DERIVED. THE GIVEN ROWS OF THIS SEAT. 7 by the template 'for every input the law returns true; each argument reads behind the call as it read before'; 0 by the template 'total and deterministic' (their statements: YtgnmcjfocnnffaaDoorTotals.lean).
  GIVEN WITH THE SEED: the statements are not yours to turn. If you find one false, say at which input.
  Laid BY PROGRAM, IN A SANDBOX (cutbox-rows.mjs): the forced cells as the released guide's own fill.sh prints them over the translation 0f253ad9eb0ed2fb… (all of the seat's roots in one cut). By AI agents, Wed Nov 11 2026. No macro, syntax, notation, axiom, sorry.
-/
import Derived.Test.YtgnmcjfocnnffaaDoorChecked
import GoSem.Claim
import GoSem.ClaimJoined
import GoSem.ClaimMapViews
import Derived.JoinedTies
import Derived.KernelRfl
namespace Go.Proofs.YtgnmcjfocnnffaaDoor
/- THE CELL 'sum', in the pinned program and in every row, IS THE sha256 OF THE DUMP (.gsa) THAT YtgnmcjfocnnffaaDoorProg.lean LOADS. Nothing in Lean hashes anything: it is a label: what it is worth is what the hold of that sum in a sandbox is worth. -/
noncomputable def Tryd.pinned : Pinned := { name := "ytgnmcjfocnnffaadoor", sum := "0f253ad9eb0ed2fb7f12ec54aad3bb4c8a1bbe71df187a86a039a6b62410b159", checked := Tryd.checked }
namespace Rows
def none {H : Type} : Left H := { results := [], args := [] }

/- WHAT THE LISTED PACKAGE-LEVEL VARIABLES READ AS WHEN THE CALL BEGINS. Each datum BY PROGRAM (the guide's laid-datum.mjs) off the statement by which the dump's own 'gosem.cut.vars' lays the variable. In a bare row this is a premise. The card (YtgnmcjfocnnffaaDoorCards.lean) ties it to the program's text. -/
def laid_math_bits_deBruijn32tab {H : Type} : DataW H := .agg [.lit (.int .u8 0), .lit (.int .u8 1), .lit (.int .u8 28), .lit (.int .u8 2), .lit (.int .u8 29), .lit (.int .u8 14), .lit (.int .u8 24), .lit (.int .u8 3), .lit (.int .u8 30), .lit (.int .u8 22), .lit (.int .u8 20), .lit (.int .u8 15), .lit (.int .u8 25), .lit (.int .u8 17), .lit (.int .u8 4), .lit (.int .u8 8), .lit (.int .u8 31), .lit (.int .u8 27), .lit (.int .u8 13), .lit (.int .u8 23), .lit (.int .u8 21), .lit (.int .u8 19), .lit (.int .u8 16), .lit (.int .u8 7), .lit (.int .u8 26), .lit (.int .u8 12), .lit (.int .u8 18), .lit (.int .u8 6), .lit (.int .u8 11), .lit (.int .u8 5), .lit (.int .u8 10), .lit (.int .u8 9)]
def laid_math_bits_deBruijn64tab {H : Type} : DataW H := .agg [.lit (.int .u8 0), .lit (.int .u8 1), .lit (.int .u8 56), .lit (.int .u8 2), .lit (.int .u8 57), .lit (.int .u8 49), .lit (.int .u8 28), .lit (.int .u8 3), .lit (.int .u8 61), .lit (.int .u8 58), .lit (.int .u8 42), .lit (.int .u8 50), .lit (.int .u8 38), .lit (.int .u8 29), .lit (.int .u8 17), .lit (.int .u8 4), .lit (.int .u8 62), .lit (.int .u8 47), .lit (.int .u8 59), .lit (.int .u8 36), .lit (.int .u8 45), .lit (.int .u8 43), .lit (.int .u8 51), .lit (.int .u8 22), .lit (.int .u8 53), .lit (.int .u8 39), .lit (.int .u8 33), .lit (.int .u8 30), .lit (.int .u8 24), .lit (.int .u8 18), .lit (.int .u8 12), .lit (.int .u8 5), .lit (.int .u8 63), .lit (.int .u8 55), .lit (.int .u8 48), .lit (.int .u8 27), .lit (.int .u8 60), .lit (.int .u8 41), .lit (.int .u8 37), .lit (.int .u8 16), .lit (.int .u8 46), .lit (.int .u8 35), .lit (.int .u8 44), .lit (.int .u8 21), .lit (.int .u8 52), .lit (.int .u8 32), .lit (.int .u8 23), .lit (.int .u8 11), .lit (.int .u8 54), .lit (.int .u8 26), .lit (.int .u8 40), .lit (.int .u8 15), .lit (.int .u8 34), .lit (.int .u8 20), .lit (.int .u8 31), .lit (.int .u8 10), .lit (.int .u8 25), .lit (.int .u8 14), .lit (.int .u8 19), .lit (.int .u8 9), .lit (.int .u8 13), .lit (.int .u8 8), .lit (.int .u8 7), .lit (.int .u8 6)]
def laid_internal_strconv_uint64pow10 {H : Type} : DataW H := .agg [.lit (.int .u64 1), .lit (.int .u64 10), .lit (.int .u64 100), .lit (.int .u64 1000), .lit (.int .u64 10000), .lit (.int .u64 100000), .lit (.int .u64 1000000), .lit (.int .u64 10000000), .lit (.int .u64 100000000), .lit (.int .u64 1000000000), .lit (.int .u64 10000000000), .lit (.int .u64 100000000000), .lit (.int .u64 1000000000000), .lit (.int .u64 10000000000000), .lit (.int .u64 100000000000000), .lit (.int .u64 1000000000000000), .lit (.int .u64 10000000000000000), .lit (.int .u64 100000000000000000), .lit (.int .u64 1000000000000000000), .lit (.int .u64 10000000000000000000)]
def laid_novation_date_lengths {H : Type} : DataW H := .agg [.lit (.int .i64 31), .lit (.int .i64 28), .lit (.int .i64 31), .lit (.int .i64 30), .lit (.int .i64 31), .lit (.int .i64 30), .lit (.int .i64 31), .lit (.int .i64 31), .lit (.int .i64 30), .lit (.int .i64 31), .lit (.int .i64 30), .lit (.int .i64 31)]

/-- 'novationlaw04.CalendarNames': WHATEVER THE INPUT: true; the input reads as it did. -/
def calendarNamesSpec : ChangeSpec := { name := "calendarNames", fn := fun _ => fun
  | [] => { results := [.lit (.bool true)], args := [] }
  | _ => none }
def calendarNamesRow : OpenClaim := { program := "ytgnmcjfocnnffaadoor", sum := "0f253ad9eb0ed2fb7f12ec54aad3bb4c8a1bbe71df187a86a039a6b62410b159", func := "novation/novationlaw04.CalendarNames", spec := "calendarNames", unfollowed := true, recurses := true, named := ["novation/date.lengths", "internal/strconv.uint64pow10", "math/bits.deBruijn32tab", "math/bits.deBruijn64tab"], apart := false, laid := [("math/bits.deBruijn32tab", laid_math_bits_deBruijn32tab), ("math/bits.deBruijn64tab", laid_math_bits_deBruijn64tab), ("internal/strconv.uint64pow10", laid_internal_strconv_uint64pow10), ("novation/date.lengths", laid_novation_date_lengths)] }
def CalendarNamesSaid : Prop := calendarNamesRow.holds Tryd.pinned (OpenSpec.ofChange calendarNamesSpec)

/-- ITS FALSE NEIGHBOUR: 'it returns false'. Refute it at one input. -/
def calendarNamesWrong : ChangeSpec := { name := "calendarNames", fn := fun _ => fun
  | [] => { results := [.lit (.bool false)], args := [] }
  | _ => none }
def CalendarNamesWrongFalsely : Prop := calendarNamesRow.holds Tryd.pinned (OpenSpec.ofChange calendarNamesWrong)

/-- 'novationlaw04.CalendarRolls': WHATEVER THE INPUT: true; the input reads as it did. -/
def calendarRollsSpec : ChangeSpec := { name := "calendarRolls", fn := fun _ => fun
  | [d1, d2, d3] => { results := [.lit (.bool true)], args := [d1, d2, d3] }
  | _ => none }
def calendarRollsRow : OpenClaim := { program := "ytgnmcjfocnnffaadoor", sum := "0f253ad9eb0ed2fb7f12ec54aad3bb4c8a1bbe71df187a86a039a6b62410b159", func := "novation/novationlaw04.CalendarRolls", spec := "calendarRolls", unfollowed := true, recurses := true, named := ["novation/date.lengths"], apart := false, laid := [("novation/date.lengths", laid_novation_date_lengths)] }
def CalendarRollsSaid : Prop := calendarRollsRow.holds Tryd.pinned (OpenSpec.ofChange calendarRollsSpec)

/-- ITS FALSE NEIGHBOUR: 'it returns false'. Refute it at one input. -/
def calendarRollsWrong : ChangeSpec := { name := "calendarRolls", fn := fun _ => fun
  | [d1, d2, d3] => { results := [.lit (.bool false)], args := [d1, d2, d3] }
  | _ => none }
def CalendarRollsWrongFalsely : Prop := calendarRollsRow.holds Tryd.pinned (OpenSpec.ofChange calendarRollsWrong)

/-- 'novationlaw04.CalendarCounts': WHATEVER THE INPUT: true; the input reads as it did. -/
def calendarCountsSpec : ChangeSpec := { name := "calendarCounts", fn := fun _ => fun
  | [d1, d2, d3, d4] => { results := [.lit (.bool true)], args := [d1, d2, d3, d4] }
  | _ => none }
def calendarCountsRow : OpenClaim := { program := "ytgnmcjfocnnffaadoor", sum := "0f253ad9eb0ed2fb7f12ec54aad3bb4c8a1bbe71df187a86a039a6b62410b159", func := "novation/novationlaw04.CalendarCounts", spec := "calendarCounts", unfollowed := true, recurses := true, named := ["novation/date.lengths"], apart := false, laid := [("novation/date.lengths", laid_novation_date_lengths)] }
def CalendarCountsSaid : Prop := calendarCountsRow.holds Tryd.pinned (OpenSpec.ofChange calendarCountsSpec)

/-- ITS FALSE NEIGHBOUR: 'it returns false'. Refute it at one input. -/
def calendarCountsWrong : ChangeSpec := { name := "calendarCounts", fn := fun _ => fun
  | [d1, d2, d3, d4] => { results := [.lit (.bool false)], args := [d1, d2, d3, d4] }
  | _ => none }
def CalendarCountsWrongFalsely : Prop := calendarCountsRow.holds Tryd.pinned (OpenSpec.ofChange calendarCountsWrong)

/-- 'novationlaw04.CalendarNearest': WHATEVER THE INPUT: true; the input reads as it did. -/
def calendarNearestSpec : ChangeSpec := { name := "calendarNearest", fn := fun _ => fun
  | [d1, d2, d3] => { results := [.lit (.bool true)], args := [d1, d2, d3] }
  | _ => none }
def calendarNearestRow : OpenClaim := { program := "ytgnmcjfocnnffaadoor", sum := "0f253ad9eb0ed2fb7f12ec54aad3bb4c8a1bbe71df187a86a039a6b62410b159", func := "novation/novationlaw04.CalendarNearest", spec := "calendarNearest", unfollowed := true, recurses := true, named := ["novation/date.lengths", "internal/strconv.uint64pow10", "math/bits.deBruijn32tab", "math/bits.deBruijn64tab"], apart := false, laid := [("math/bits.deBruijn32tab", laid_math_bits_deBruijn32tab), ("math/bits.deBruijn64tab", laid_math_bits_deBruijn64tab), ("internal/strconv.uint64pow10", laid_internal_strconv_uint64pow10), ("novation/date.lengths", laid_novation_date_lengths)] }
def CalendarNearestSaid : Prop := calendarNearestRow.holds Tryd.pinned (OpenSpec.ofChange calendarNearestSpec)

/-- ITS FALSE NEIGHBOUR: 'it returns false'. Refute it at one input. -/
def calendarNearestWrong : ChangeSpec := { name := "calendarNearest", fn := fun _ => fun
  | [d1, d2, d3] => { results := [.lit (.bool false)], args := [d1, d2, d3] }
  | _ => none }
def CalendarNearestWrongFalsely : Prop := calendarNearestRow.holds Tryd.pinned (OpenSpec.ofChange calendarNearestWrong)

/-- 'novationlaw04.CalendarAdds': WHATEVER THE INPUT: true; the input reads as it did. -/
def calendarAddsSpec : ChangeSpec := { name := "calendarAdds", fn := fun _ => fun
  | [d1, d2, d3] => { results := [.lit (.bool true)], args := [d1, d2, d3] }
  | _ => none }
def calendarAddsRow : OpenClaim := { program := "ytgnmcjfocnnffaadoor", sum := "0f253ad9eb0ed2fb7f12ec54aad3bb4c8a1bbe71df187a86a039a6b62410b159", func := "novation/novationlaw04.CalendarAdds", spec := "calendarAdds", unfollowed := true, recurses := true, named := ["novation/date.lengths", "internal/strconv.uint64pow10", "math/bits.deBruijn32tab", "math/bits.deBruijn64tab"], apart := false, laid := [("math/bits.deBruijn32tab", laid_math_bits_deBruijn32tab), ("math/bits.deBruijn64tab", laid_math_bits_deBruijn64tab), ("internal/strconv.uint64pow10", laid_internal_strconv_uint64pow10), ("novation/date.lengths", laid_novation_date_lengths)] }
def CalendarAddsSaid : Prop := calendarAddsRow.holds Tryd.pinned (OpenSpec.ofChange calendarAddsSpec)

/-- ITS FALSE NEIGHBOUR: 'it returns false'. Refute it at one input. -/
def calendarAddsWrong : ChangeSpec := { name := "calendarAdds", fn := fun _ => fun
  | [d1, d2, d3] => { results := [.lit (.bool false)], args := [d1, d2, d3] }
  | _ => none }
def CalendarAddsWrongFalsely : Prop := calendarAddsRow.holds Tryd.pinned (OpenSpec.ofChange calendarAddsWrong)

/-- 'novationlaw04.CalendarSums': WHATEVER THE INPUT: true; the input reads as it did. -/
def calendarSumsSpec : ChangeSpec := { name := "calendarSums", fn := fun _ => fun
  | [d1, d2, d3, d4] => { results := [.lit (.bool true)], args := [d1, d2, d3, d4] }
  | _ => none }
def calendarSumsRow : OpenClaim := { program := "ytgnmcjfocnnffaadoor", sum := "0f253ad9eb0ed2fb7f12ec54aad3bb4c8a1bbe71df187a86a039a6b62410b159", func := "novation/novationlaw04.CalendarSums", spec := "calendarSums", unfollowed := true, recurses := true, named := ["novation/date.lengths", "internal/strconv.uint64pow10", "math/bits.deBruijn32tab", "math/bits.deBruijn64tab"], apart := false, laid := [("math/bits.deBruijn32tab", laid_math_bits_deBruijn32tab), ("math/bits.deBruijn64tab", laid_math_bits_deBruijn64tab), ("internal/strconv.uint64pow10", laid_internal_strconv_uint64pow10), ("novation/date.lengths", laid_novation_date_lengths)] }
def CalendarSumsSaid : Prop := calendarSumsRow.holds Tryd.pinned (OpenSpec.ofChange calendarSumsSpec)

/-- ITS FALSE NEIGHBOUR: 'it returns false'. Refute it at one input. -/
def calendarSumsWrong : ChangeSpec := { name := "calendarSums", fn := fun _ => fun
  | [d1, d2, d3, d4] => { results := [.lit (.bool false)], args := [d1, d2, d3, d4] }
  | _ => none }
def CalendarSumsWrongFalsely : Prop := calendarSumsRow.holds Tryd.pinned (OpenSpec.ofChange calendarSumsWrong)

/-- 'novationlaw04.CalendarJoins': WHATEVER THE INPUT: true; the input reads as it did. -/
def calendarJoinsSpec : ChangeSpec := { name := "calendarJoins", fn := fun _ => fun
  | [d1, d2, d3] => { results := [.lit (.bool true)], args := [d1, d2, d3] }
  | _ => none }
def calendarJoinsRow : OpenClaim := { program := "ytgnmcjfocnnffaadoor", sum := "0f253ad9eb0ed2fb7f12ec54aad3bb4c8a1bbe71df187a86a039a6b62410b159", func := "novation/novationlaw04.CalendarJoins", spec := "calendarJoins", unfollowed := true, recurses := true, named := ["novation/date.lengths", "internal/strconv.uint64pow10", "math/bits.deBruijn32tab", "math/bits.deBruijn64tab"], apart := false, laid := [("math/bits.deBruijn32tab", laid_math_bits_deBruijn32tab), ("math/bits.deBruijn64tab", laid_math_bits_deBruijn64tab), ("internal/strconv.uint64pow10", laid_internal_strconv_uint64pow10), ("novation/date.lengths", laid_novation_date_lengths)] }
def CalendarJoinsSaid : Prop := calendarJoinsRow.holds Tryd.pinned (OpenSpec.ofChange calendarJoinsSpec)

/-- ITS FALSE NEIGHBOUR: 'it returns false'. Refute it at one input. -/
def calendarJoinsWrong : ChangeSpec := { name := "calendarJoins", fn := fun _ => fun
  | [d1, d2, d3] => { results := [.lit (.bool false)], args := [d1, d2, d3] }
  | _ => none }
def CalendarJoinsWrongFalsely : Prop := calendarJoinsRow.holds Tryd.pinned (OpenSpec.ofChange calendarJoinsWrong)

/- THE SECOND FORM. 'bulk': how many values and letters a reading holds, each counted each time it is reached (what is shared counts as often as it is met; a slice's spare places count too). A statement '..UptoSaid' is the law's where the arguments, and the package variables that the reading takes, are together of bulk at most 1048576: NARROWER than '..Said'. Prove '..Said' where nothing that the law and all that it calls make is longer than what came in: it says more and counts as full. Else prove '..UptoSaid'. A law counts once. -/
mutual
def uptoBulk {H : Type} : DataW H → Nat
  | .lit (.string bytes) => bytes.length + 1
  | .lit _ => 1
  | .nil => 1
  | .ptr d => uptoBulk d + 1
  | .slice elems spare => uptoBulkAll elems + uptoBulkAll spare + 1
  | .agg parts => uptoBulkAll parts + 1
  | .iface _ d => uptoBulk d + 1
  | .map entries => uptoBulkEntries entries + 1
  | .held _ => 1
def uptoBulkAll {H : Type} : List (DataW H) → Nat
  | [] => 0
  | d :: r => uptoBulk d + uptoBulkAll r
def uptoBulkEntries {H : Type} : List (Lit × DataW H) → Nat
  | [] => 0
  | x :: r => uptoBulkEntry x + uptoBulkEntries r
def uptoBulkEntry {H : Type} : Lit × DataW H → Nat
  | (.string bytes, d) => bytes.length + uptoBulk d + 1
  | (_, d) => uptoBulk d + 1
 end
def uptoSmall : (H : Type) → List (DataW H) → Bool := fun _ ds => decide (uptoBulkAll ds ≤ 1048576)
def OpenSpec.upto (s : _root_.Go.ChangeSpec) : _root_.Go.OpenSpec := { _root_.Go.OpenSpec.ofChange s with cond := some uptoSmall }

/-- 'novationlaw04.CalendarNames', WHERE WHAT IT READS IS OF BULK AT MOST 1048576: true; the input reads as it did. -/
def calendarNamesUptoRow : OpenClaim := { program := "ytgnmcjfocnnffaadoor", sum := "0f253ad9eb0ed2fb7f12ec54aad3bb4c8a1bbe71df187a86a039a6b62410b159", func := "novation/novationlaw04.CalendarNames", spec := "calendarNames", unfollowed := true, recurses := true, named := ["novation/date.lengths", "internal/strconv.uint64pow10", "math/bits.deBruijn32tab", "math/bits.deBruijn64tab"], apart := false, laid := [("math/bits.deBruijn32tab", laid_math_bits_deBruijn32tab), ("math/bits.deBruijn64tab", laid_math_bits_deBruijn64tab), ("internal/strconv.uint64pow10", laid_internal_strconv_uint64pow10), ("novation/date.lengths", laid_novation_date_lengths)], narrowed := true }
def CalendarNamesUptoSaid : Prop := calendarNamesUptoRow.holds Tryd.pinned (OpenSpec.upto calendarNamesSpec)

/-- 'novationlaw04.CalendarRolls', WHERE WHAT IT READS IS OF BULK AT MOST 1048576: true; the input reads as it did. -/
def calendarRollsUptoRow : OpenClaim := { program := "ytgnmcjfocnnffaadoor", sum := "0f253ad9eb0ed2fb7f12ec54aad3bb4c8a1bbe71df187a86a039a6b62410b159", func := "novation/novationlaw04.CalendarRolls", spec := "calendarRolls", unfollowed := true, recurses := true, named := ["novation/date.lengths"], apart := false, laid := [("novation/date.lengths", laid_novation_date_lengths)], narrowed := true }
def CalendarRollsUptoSaid : Prop := calendarRollsUptoRow.holds Tryd.pinned (OpenSpec.upto calendarRollsSpec)

/-- 'novationlaw04.CalendarCounts', WHERE WHAT IT READS IS OF BULK AT MOST 1048576: true; the input reads as it did. -/
def calendarCountsUptoRow : OpenClaim := { program := "ytgnmcjfocnnffaadoor", sum := "0f253ad9eb0ed2fb7f12ec54aad3bb4c8a1bbe71df187a86a039a6b62410b159", func := "novation/novationlaw04.CalendarCounts", spec := "calendarCounts", unfollowed := true, recurses := true, named := ["novation/date.lengths"], apart := false, laid := [("novation/date.lengths", laid_novation_date_lengths)], narrowed := true }
def CalendarCountsUptoSaid : Prop := calendarCountsUptoRow.holds Tryd.pinned (OpenSpec.upto calendarCountsSpec)

/-- 'novationlaw04.CalendarNearest', WHERE WHAT IT READS IS OF BULK AT MOST 1048576: true; the input reads as it did. -/
def calendarNearestUptoRow : OpenClaim := { program := "ytgnmcjfocnnffaadoor", sum := "0f253ad9eb0ed2fb7f12ec54aad3bb4c8a1bbe71df187a86a039a6b62410b159", func := "novation/novationlaw04.CalendarNearest", spec := "calendarNearest", unfollowed := true, recurses := true, named := ["novation/date.lengths", "internal/strconv.uint64pow10", "math/bits.deBruijn32tab", "math/bits.deBruijn64tab"], apart := false, laid := [("math/bits.deBruijn32tab", laid_math_bits_deBruijn32tab), ("math/bits.deBruijn64tab", laid_math_bits_deBruijn64tab), ("internal/strconv.uint64pow10", laid_internal_strconv_uint64pow10), ("novation/date.lengths", laid_novation_date_lengths)], narrowed := true }
def CalendarNearestUptoSaid : Prop := calendarNearestUptoRow.holds Tryd.pinned (OpenSpec.upto calendarNearestSpec)

/-- 'novationlaw04.CalendarAdds', WHERE WHAT IT READS IS OF BULK AT MOST 1048576: true; the input reads as it did. -/
def calendarAddsUptoRow : OpenClaim := { program := "ytgnmcjfocnnffaadoor", sum := "0f253ad9eb0ed2fb7f12ec54aad3bb4c8a1bbe71df187a86a039a6b62410b159", func := "novation/novationlaw04.CalendarAdds", spec := "calendarAdds", unfollowed := true, recurses := true, named := ["novation/date.lengths", "internal/strconv.uint64pow10", "math/bits.deBruijn32tab", "math/bits.deBruijn64tab"], apart := false, laid := [("math/bits.deBruijn32tab", laid_math_bits_deBruijn32tab), ("math/bits.deBruijn64tab", laid_math_bits_deBruijn64tab), ("internal/strconv.uint64pow10", laid_internal_strconv_uint64pow10), ("novation/date.lengths", laid_novation_date_lengths)], narrowed := true }
def CalendarAddsUptoSaid : Prop := calendarAddsUptoRow.holds Tryd.pinned (OpenSpec.upto calendarAddsSpec)

/-- 'novationlaw04.CalendarSums', WHERE WHAT IT READS IS OF BULK AT MOST 1048576: true; the input reads as it did. -/
def calendarSumsUptoRow : OpenClaim := { program := "ytgnmcjfocnnffaadoor", sum := "0f253ad9eb0ed2fb7f12ec54aad3bb4c8a1bbe71df187a86a039a6b62410b159", func := "novation/novationlaw04.CalendarSums", spec := "calendarSums", unfollowed := true, recurses := true, named := ["novation/date.lengths", "internal/strconv.uint64pow10", "math/bits.deBruijn32tab", "math/bits.deBruijn64tab"], apart := false, laid := [("math/bits.deBruijn32tab", laid_math_bits_deBruijn32tab), ("math/bits.deBruijn64tab", laid_math_bits_deBruijn64tab), ("internal/strconv.uint64pow10", laid_internal_strconv_uint64pow10), ("novation/date.lengths", laid_novation_date_lengths)], narrowed := true }
def CalendarSumsUptoSaid : Prop := calendarSumsUptoRow.holds Tryd.pinned (OpenSpec.upto calendarSumsSpec)

/-- 'novationlaw04.CalendarJoins', WHERE WHAT IT READS IS OF BULK AT MOST 1048576: true; the input reads as it did. -/
def calendarJoinsUptoRow : OpenClaim := { program := "ytgnmcjfocnnffaadoor", sum := "0f253ad9eb0ed2fb7f12ec54aad3bb4c8a1bbe71df187a86a039a6b62410b159", func := "novation/novationlaw04.CalendarJoins", spec := "calendarJoins", unfollowed := true, recurses := true, named := ["novation/date.lengths", "internal/strconv.uint64pow10", "math/bits.deBruijn32tab", "math/bits.deBruijn64tab"], apart := false, laid := [("math/bits.deBruijn32tab", laid_math_bits_deBruijn32tab), ("math/bits.deBruijn64tab", laid_math_bits_deBruijn64tab), ("internal/strconv.uint64pow10", laid_internal_strconv_uint64pow10), ("novation/date.lengths", laid_novation_date_lengths)], narrowed := true }
def CalendarJoinsUptoSaid : Prop := calendarJoinsUptoRow.holds Tryd.pinned (OpenSpec.upto calendarJoinsSpec)

end Rows
end Go.Proofs.YtgnmcjfocnnffaaDoor
