/- Layer 7: what the rows' conditions on the library's variables give the walks. -/
import Derived.Test.YtalnfbgaiegicaaGreatDoorMoK
import Derived.Test.YtalnfbgaiegicaaGreatDoorIntV2
import Derived.Test.YtalnfbgaiegicaaGreatDoorRatV
namespace Go.Proofs.YtalnfbgaiegicaaGreatDoor
open Go Go.ChangeShapes Go.WideShapes Go.ChangeAt Go.RowKit

theorem mvar_Names {W : World} (h : laidMetH Tryz.prog Rows.moneyNamesRow.laid W) (hs : W.ShapedOpen Tryz.prog) : VarM W := by -- 3
  rw [MakeChecks.laidMetH_plain _ _ _ (by kernel_rfl)] at h
  have h1 : laidMet Tryz.prog _ W := h.tail
  have t1 : Lib.TabIs Tryz.prog W "math/bits.deBruijn64tab" .u8 db64 := Lib.tabIs_of_head gDb64 (t := 250) (by kernel_rfl) Tryz.underlying250 Tryz.underlying5 (by kernel_rfl) (by kernel_rfl) h1
  have c1 := t1.cell gDb64 0 (by decide)
  have h2 : laidMet Tryz.prog _ W := h1.tail
  have t2 : Lib.TabIs Tryz.prog W "internal/strconv.uint64pow10" .u64 Lib.pow10Tab := Lib.tabIs_of_head gTab (t := 241) (by kernel_rfl) Tryz.underlying241 Tryz.underlying197 (by kernel_rfl) (by kernel_rfl) h2
  have h25 : laidMet Tryz.prog _ W := h2.tail
  have h3 : laidMet Tryz.prog _ W := h25.tail
  obtain ⟨a3, s3, hv3, _, _, _⟩ := laid_sentinel h3 gErr (by kernel_rfl : (Tryz.prog.globals[4]?).map (·.type) = some 149) Tryz.underlying149 row_errorString Tryz.underlying245 Tryz.underlying247 rfl rfl Tryz.underlying9 (by kernel_rfl) (by kernel_rfl)
  exact ⟨⟨by have := lt_of_cell c1; omega, t2, _, _, hv3⟩, Tryz.laysM145.s1_3 W hs⟩
theorem mvar_Units {W : World} (h : laidMetH Tryz.prog Rows.moneyUnitsRow.laid W) (hs : W.ShapedOpen Tryz.prog) : VarM W := by -- 4
  rw [MakeChecks.laidMetH_plain _ _ _ (by kernel_rfl)] at h
  have h1 : laidMet Tryz.prog _ W := h.tail
  have t1 : Lib.TabIs Tryz.prog W "math/bits.deBruijn64tab" .u8 db64 := Lib.tabIs_of_head gDb64 (t := 250) (by kernel_rfl) Tryz.underlying250 Tryz.underlying5 (by kernel_rfl) (by kernel_rfl) h1
  have c1 := t1.cell gDb64 0 (by decide)
  have h2 : laidMet Tryz.prog _ W := h1.tail
  have t2 : Lib.TabIs Tryz.prog W "internal/strconv.uint64pow10" .u64 Lib.pow10Tab := Lib.tabIs_of_head gTab (t := 241) (by kernel_rfl) Tryz.underlying241 Tryz.underlying197 (by kernel_rfl) (by kernel_rfl) h2
  have h3 : laidMet Tryz.prog _ W := h2.tail
  obtain ⟨a3, s3, hv3, _, _, _⟩ := laid_sentinel h3 gErr (by kernel_rfl : (Tryz.prog.globals[4]?).map (·.type) = some 149) Tryz.underlying149 row_errorString Tryz.underlying245 Tryz.underlying247 rfl rfl Tryz.underlying9 (by kernel_rfl) (by kernel_rfl)
  exact ⟨⟨by have := lt_of_cell c1; omega, t2, _, _, hv3⟩, Tryz.laysM145.s1_3 W hs⟩
theorem mvar_Texts {W : World} (h : laidMetH Tryz.prog Rows.moneyTextsRow.laid W) (hs : W.ShapedOpen Tryz.prog) : VarM W := by -- 5
  rw [MakeChecks.laidMetH_plain _ _ _ (by kernel_rfl)] at h
  have h1 : laidMet Tryz.prog _ W := h.tail
  have t1 : Lib.TabIs Tryz.prog W "math/bits.deBruijn64tab" .u8 db64 := Lib.tabIs_of_head gDb64 (t := 250) (by kernel_rfl) Tryz.underlying250 Tryz.underlying5 (by kernel_rfl) (by kernel_rfl) h1
  have c1 := t1.cell gDb64 0 (by decide)
  have h2 : laidMet Tryz.prog _ W := h1.tail
  have t2 : Lib.TabIs Tryz.prog W "internal/strconv.uint64pow10" .u64 Lib.pow10Tab := Lib.tabIs_of_head gTab (t := 241) (by kernel_rfl) Tryz.underlying241 Tryz.underlying197 (by kernel_rfl) (by kernel_rfl) h2
  have h25 : laidMet Tryz.prog _ W := h2.tail
  have h3 : laidMet Tryz.prog _ W := h25.tail
  obtain ⟨a3, s3, hv3, _, _, _⟩ := laid_sentinel h3 gErr (by kernel_rfl : (Tryz.prog.globals[4]?).map (·.type) = some 149) Tryz.underlying149 row_errorString Tryz.underlying245 Tryz.underlying247 rfl rfl Tryz.underlying9 (by kernel_rfl) (by kernel_rfl)
  exact ⟨⟨by have := lt_of_cell c1; omega, t2, _, _, hv3⟩, Tryz.laysM145.s1_3 W hs⟩
theorem mvar_Shares {W : World} (h : laidMetH Tryz.prog Rows.moneySharesRow.laid W) (hs : W.ShapedOpen Tryz.prog) : VarM W := by -- 6
  rw [MakeChecks.laidMetH_plain _ _ _ (by kernel_rfl)] at h
  have h1 : laidMet Tryz.prog _ W := h.tail
  have t1 : Lib.TabIs Tryz.prog W "math/bits.deBruijn64tab" .u8 db64 := Lib.tabIs_of_head gDb64 (t := 250) (by kernel_rfl) Tryz.underlying250 Tryz.underlying5 (by kernel_rfl) (by kernel_rfl) h1
  have c1 := t1.cell gDb64 0 (by decide)
  have h2 : laidMet Tryz.prog _ W := h1.tail
  have t2 : Lib.TabIs Tryz.prog W "internal/strconv.uint64pow10" .u64 Lib.pow10Tab := Lib.tabIs_of_head gTab (t := 241) (by kernel_rfl) Tryz.underlying241 Tryz.underlying197 (by kernel_rfl) (by kernel_rfl) h2
  have h25 : laidMet Tryz.prog _ W := h2.tail
  have h3 : laidMet Tryz.prog _ W := h25.tail
  obtain ⟨a3, s3, hv3, _, _, _⟩ := laid_sentinel h3 gErr (by kernel_rfl : (Tryz.prog.globals[4]?).map (·.type) = some 149) Tryz.underlying149 row_errorString Tryz.underlying245 Tryz.underlying247 rfl rfl Tryz.underlying9 (by kernel_rfl) (by kernel_rfl)
  exact ⟨⟨by have := lt_of_cell c1; omega, t2, _, _, hv3⟩, Tryz.laysM145.s1_3 W hs⟩
theorem mvar_Back {W : World} (h : laidMetH Tryz.prog Rows.moneyBackRow.laid W) (hs : W.ShapedOpen Tryz.prog) : VarM W := by -- 7
  rw [MakeChecks.laidMetH_plain _ _ _ (by kernel_rfl)] at h
  have h1 : laidMet Tryz.prog _ W := h.tail
  have t1 : Lib.TabIs Tryz.prog W "math/bits.deBruijn64tab" .u8 db64 := Lib.tabIs_of_head gDb64 (t := 250) (by kernel_rfl) Tryz.underlying250 Tryz.underlying5 (by kernel_rfl) (by kernel_rfl) h1
  have c1 := t1.cell gDb64 0 (by decide)
  have h2 : laidMet Tryz.prog _ W := h1.tail
  have t2 : Lib.TabIs Tryz.prog W "internal/strconv.uint64pow10" .u64 Lib.pow10Tab := Lib.tabIs_of_head gTab (t := 241) (by kernel_rfl) Tryz.underlying241 Tryz.underlying197 (by kernel_rfl) (by kernel_rfl) h2
  have h25 : laidMet Tryz.prog _ W := h2.tail
  have h3 : laidMet Tryz.prog _ W := h25.tail
  obtain ⟨a3, s3, hv3, _, _, _⟩ := laid_sentinel h3 gErr (by kernel_rfl : (Tryz.prog.globals[4]?).map (·.type) = some 149) Tryz.underlying149 row_errorString Tryz.underlying245 Tryz.underlying247 rfl rfl Tryz.underlying9 (by kernel_rfl) (by kernel_rfl)
  exact ⟨⟨by have := lt_of_cell c1; omega, t2, _, _, hv3⟩, Tryz.laysM145.s1_3 W hs⟩
theorem mvar_Rounds {W : World} (h : laidMetH Tryz.prog Rows.moneyRoundsRow.laid W) (hs : W.ShapedOpen Tryz.prog) : VarM W := by -- 8
  rw [MakeChecks.laidMetH_plain _ _ _ (by kernel_rfl)] at h
  have h1 : laidMet Tryz.prog _ W := h.tail
  have t1 : Lib.TabIs Tryz.prog W "math/bits.deBruijn64tab" .u8 db64 := Lib.tabIs_of_head gDb64 (t := 250) (by kernel_rfl) Tryz.underlying250 Tryz.underlying5 (by kernel_rfl) (by kernel_rfl) h1
  have c1 := t1.cell gDb64 0 (by decide)
  have h2 : laidMet Tryz.prog _ W := h1.tail
  have t2 : Lib.TabIs Tryz.prog W "internal/strconv.uint64pow10" .u64 Lib.pow10Tab := Lib.tabIs_of_head gTab (t := 241) (by kernel_rfl) Tryz.underlying241 Tryz.underlying197 (by kernel_rfl) (by kernel_rfl) h2
  have h25 : laidMet Tryz.prog _ W := h2.tail
  have h3 : laidMet Tryz.prog _ W := h25.tail
  obtain ⟨a3, s3, hv3, _, _, _⟩ := laid_sentinel h3 gErr (by kernel_rfl : (Tryz.prog.globals[4]?).map (·.type) = some 149) Tryz.underlying149 row_errorString Tryz.underlying245 Tryz.underlying247 rfl rfl Tryz.underlying9 (by kernel_rfl) (by kernel_rfl)
  exact ⟨⟨by have := lt_of_cell c1; omega, t2, _, _, hv3⟩, Tryz.laysM145.s1_3 W hs⟩
theorem mvar_Words {W : World} (h : laidMetH Tryz.prog Rows.moneyWordsRow.laid W) (hs : W.ShapedOpen Tryz.prog) : VarM W := by -- 9
  rw [MakeChecks.laidMetH_plain _ _ _ (by kernel_rfl)] at h
  have h1 : laidMet Tryz.prog _ W := h.tail
  have t1 : Lib.TabIs Tryz.prog W "math/bits.deBruijn64tab" .u8 db64 := Lib.tabIs_of_head gDb64 (t := 250) (by kernel_rfl) Tryz.underlying250 Tryz.underlying5 (by kernel_rfl) (by kernel_rfl) h1
  have c1 := t1.cell gDb64 0 (by decide)
  have h2 : laidMet Tryz.prog _ W := h1.tail
  have t2 : Lib.TabIs Tryz.prog W "internal/strconv.uint64pow10" .u64 Lib.pow10Tab := Lib.tabIs_of_head gTab (t := 241) (by kernel_rfl) Tryz.underlying241 Tryz.underlying197 (by kernel_rfl) (by kernel_rfl) h2
  have h25 : laidMet Tryz.prog _ W := h2.tail
  have h3 : laidMet Tryz.prog _ W := h25.tail
  obtain ⟨a3, s3, hv3, _, _, _⟩ := laid_sentinel h3 gErr (by kernel_rfl : (Tryz.prog.globals[4]?).map (·.type) = some 149) Tryz.underlying149 row_errorString Tryz.underlying245 Tryz.underlying247 rfl rfl Tryz.underlying9 (by kernel_rfl) (by kernel_rfl)
  exact ⟨⟨by have := lt_of_cell c1; omega, t2, _, _, hv3⟩, Tryz.laysM145.s1_3 W hs⟩
end Go.Proofs.YtalnfbgaiegicaaGreatDoor
