/- The walk of the law IntegerRing. -/
import Derived.Test.YtlipjedofegciaaDoorIntF3
namespace Go.Proofs.YtlipjedofegciaaDoor
open Go Go.RowKit

theorem fits_three (n : Nat) (hn : n ≤ 1000000) (s t u : ByteArray) (b : Bool) (hb : fitB n [s, t, u] = b) (w : World) (ty : TypeId) :
    Calls Tryd.prog 33 #[.int .i64 n, .slice (some ⟨w.heap.size, 0, none⟩) 3 3] (w.alloc (.cells #[.string s, .string t, .string u] ty)) fun e w' => e = .returned (.bool b) ∧ Below (w.alloc (.cells #[.string s, .string t, .string u] ty)).heap.size (w.alloc (.cells #[.string s, .string t, .string u] ty)) w' := by
  subst hb
  exact fits_any n hn (some ⟨w.heap.size, 0, none⟩) 3 [s, t, u] (w.alloc (.cells #[.string s, .string t, .string u] ty)) (SlA.of_cells (heap_alloc_new w _) rfl) (by simp)
theorem fits_two (n : Nat) (hn : n ≤ 1000000) (s t : ByteArray) (b : Bool) (hb : fitB n [s, t] = b) (w : World) (ty : TypeId) :
    Calls Tryd.prog 33 #[.int .i64 n, .slice (some ⟨w.heap.size, 0, none⟩) 2 2] (w.alloc (.cells #[.string s, .string t] ty)) fun e w' => e = .returned (.bool b) ∧ Below (w.alloc (.cells #[.string s, .string t] ty)).heap.size (w.alloc (.cells #[.string s, .string t] ty)) w' := by
  subst hb
  exact fits_any n hn (some ⟨w.heap.size, 0, none⟩) 2 [s, t] (w.alloc (.cells #[.string s, .string t] ty)) (SlA.of_cells (heap_alloc_new w _) rfl) (by simp)
theorem fit_three {n : Nat} {s t u : ByteArray} (h : fitB n [s, t, u] = true) : (s.size ≤ n ∧ chk s.data.toList = 0) ∧ (t.size ≤ n ∧ chk t.data.toList = 0) ∧ (u.size ≤ n ∧ chk u.data.toList = 0) := by
  simpa [fitB, and_assoc] using h
theorem fit_two {n : Nat} {s t : ByteArray} (h : fitB n [s, t] = true) : (s.size ≤ n ∧ chk s.data.toList = 0) ∧ (t.size ≤ n ∧ chk t.data.toList = 0) := by
  simpa [fitB, and_assoc] using h
theorem rep_ne (z : Int) (s : ByteArray) (h : rep z = s) : (s.toList == []) = false := by
  rw [← h, Lib.toList_data, beq_eq_false_iff_ne]; exact itoa_ne z
theorem dg_one : Dg 1 1 := by unfold Dg; decide

set_option maxRecDepth 100000 in
set_option maxHeartbeats 3200000 in
theorem ring_law (sa sb sc : ByteArray) (w : World) (hv : VarT w) :
    Calls Tryd.prog 7 #[.string sa, .string sb, .string sc] w fun e w' => e = .returned (.bool true) ∧ Below w.heap.size w w' := by
  have HAL := Lib.hid alive_any
  have HV := Lib.hid hv
  clear hv
  by_cases hf : fitB 300 [sa, sb, sc] = true
  · have HF := Lib.hid (fits_three 300 (by omega) sa sb sc true hf)
    obtain ⟨⟨i1, j1⟩, ⟨i2, j2⟩, ⟨i3, j3⟩⟩ := fit_three hf
    have h1 := dg_of j1 i1
    have h2 := dg_of j2 i2
    have h3 := dg_of j3 i3
    have h1one := dg_one
    have ra := (rep_num sa j1).symm
    have rb := (rep_num sb j2).symm
    have rc := (rep_num sc j3).symm
    clear hf i1 i2 i3 j1 j2 j3
    generalize num sa.data.toList = x at *
    generalize num sb.data.toList = y at *
    generalize num sc.data.toList = z at *
    obtain ⟨ss, rss⟩ : ∃ r, rep (x + y) = r := ⟨_, rfl⟩
    obtain ⟨sp, rsp⟩ : ∃ r, rep (x * y) = r := ⟨_, rfl⟩
    obtain ⟨st, rst⟩ : ∃ r, rep (x + y + z) = r := ⟨_, rfl⟩
    obtain ⟨sq, rsq⟩ : ∃ r, rep (x * y * z) = r := ⟨_, rfl⟩
    obtain ⟨sbc, rsbc⟩ : ∃ r, rep (y + z) = r := ⟨_, rfl⟩
    obtain ⟨sl, rsl⟩ : ∃ r, rep (x * (y + z)) = r := ⟨_, rfl⟩
    obtain ⟨sac, rsac⟩ : ∃ r, rep (x * z) = r := ⟨_, rfl⟩
    obtain ⟨sbm, rsbm⟩ : ∃ r, rep (y * z) = r := ⟨_, rfl⟩
    have Lsa : (x : Int).natAbs < lim := Dg.lim h1 (by omega)
    have Lsb : (y : Int).natAbs < lim := Dg.lim h2 (by omega)
    have Lsc : (z : Int).natAbs < lim := Dg.lim h3 (by omega)
    have Lss : (x + y : Int).natAbs < lim := Dg.lim (h1.add h2) (by omega)
    have Lsp : (x * y : Int).natAbs < lim := Dg.lim (h1.mul h2) (by omega)
    have Lst : (x + y + z : Int).natAbs < lim := Dg.lim ((h1.add h2).add (h3.mono (by omega))) (by omega)
    have Lsq : (x * y * z : Int).natAbs < lim := Dg.lim ((h1.mul h2).mul h3) (by omega)
    have Lsbc : (y + z : Int).natAbs < lim := Dg.lim (h2.add h3) (by omega)
    have Lsl : (x * (y + z) : Int).natAbs < lim := Dg.lim (h1.mul (h2.add h3)) (by omega)
    have Lsac : (x * z : Int).natAbs < lim := Dg.lim (h1.mul h3) (by omega)
    have Lsbm : (y * z : Int).natAbs < lim := Dg.lim (h2.mul h3) (by omega)
    have Lz0 : (0 : Int).natAbs < lim := Dg.lim (Dg.zero 0) (by omega)
    have Lz1 : (1 : Int).natAbs < lim := Dg.lim h1one (by omega)
    have C1 := Lib.hid (opadd_rep Lsa Lsb (rfl) Lss _ _ _ ra rb rss)
    have C2 := Lib.hid (opmul_rep Lsa Lsb (rfl) Lsp _ _ _ ra rb rsp)
    have C3 := Lib.hid (opadd_rep Lsb Lsa (Int.add_comm y x) Lss _ _ _ rb ra rss)
    have C4 := Lib.hid (opmul_rep Lsb Lsa (Int.mul_comm y x) Lsp _ _ _ rb ra rsp)
    have C5 := Lib.hid (opsub_rep Lss Lsb (Int.add_sub_cancel x y) Lsa _ _ _ rss rb ra)
    have C6 := Lib.hid (opsub_rep Lsa Lsa (Int.sub_self x) Lz0 _ _ _ ra ra rep_zero)
    have C7 := Lib.hid (opadd_rep Lsa Lz0 (Int.add_zero x) Lsa _ _ _ ra rep_zero ra)
    have C8 := Lib.hid (opmul_rep Lsa Lz1 (Int.mul_one x) Lsa _ _ _ ra rep_one ra)
    have C9 := Lib.hid (opmul_rep Lsa Lz0 (Int.mul_zero x) Lz0 _ _ _ ra rep_zero rep_zero)
    have C10 := Lib.hid (opadd_rep Lss Lsc (rfl) Lst _ _ _ rss rc rst)
    have C11 := Lib.hid (opmul_rep Lsp Lsc (rfl) Lsq _ _ _ rsp rc rsq)
    have C12 := Lib.hid (opadd_rep Lsb Lsc (rfl) Lsbc _ _ _ rb rc rsbc)
    have C13 := Lib.hid (opmul_rep Lsa Lsbc (rfl) Lsl _ _ _ ra rsbc rsl)
    have C14 := Lib.hid (opmul_rep Lsa Lsc (rfl) Lsac _ _ _ ra rc rsac)
    have C15 := Lib.hid (opadd_rep Lsp Lsac ((Int.mul_add x y z).symm) Lsl _ _ _ rsp rsac rsl)
    have C16 := Lib.hid (opadd_rep Lsb Lsc (rfl) Lsbc _ _ _ rb rc rsbc)
    have C17 := Lib.hid (opadd_rep Lsa Lsbc ((Int.add_assoc x y z).symm) Lst _ _ _ ra rsbc rst)
    have C18 := Lib.hid (opmul_rep Lsb Lsc (rfl) Lsbm _ _ _ rb rc rsbm)
    have C19 := Lib.hid (opmul_rep Lsa Lsbm ((Int.mul_assoc x y z).symm) Lsq _ _ _ ra rsbm rsq)
    have nss := rep_ne _ _ rss
    have nsp := rep_ne _ _ rsp
    have nst := rep_ne _ _ rst
    have nsq := rep_ne _ _ rsq
    have nsl := rep_ne _ _ rsl
    clear Lsa Lsb Lsc Lss Lsp Lst Lsq Lsbc Lsl Lsac Lsbm Lz0 Lz1 h1 h2 h3 h1one ra rb rc rss rsp rst rsq rsbc rsl rsac rsbm
    clear x y z
    go_enter Tryd.func7, Tryd.ntmps7
    go_wp2_with (first
      | (go_at_call 21; refine (HAL.out _ HV.out).mono ?_; rintro e w0 ⟨rfl, b0⟩; have B0 := Lib.hid b0; clear b0)
      | (go_at_call 33; refine (HF.out _ _).mono ?_; rintro e u0 ⟨rfl, b⟩; have D0 := Lib.hid (bt (bt B0.out ((Below.refl _ w0).alloc (Nat.le_refl _) _)) b); clear b)
      | (go_at_call 34; (with_reducible refine (C1.out _ (HV.out.below D0.out)).mono ?_); rintro e u1 ⟨rfl, b⟩; have D1 := Lib.hid (bt D0.out b); clear b)
      | (go_at_call 34; (with_reducible refine (C2.out _ (HV.out.below D1.out)).mono ?_); rintro e u2 ⟨rfl, b⟩; have D2 := Lib.hid (bt D1.out b); clear b)
      | (go_at_call 34; (with_reducible refine (C3.out _ (HV.out.below D2.out)).mono ?_); rintro e u3 ⟨rfl, b⟩; have D3 := Lib.hid (bt D2.out b); clear b)
      | (go_at_call 34; (with_reducible refine (C4.out _ (HV.out.below D3.out)).mono ?_); rintro e u4 ⟨rfl, b⟩; have D4 := Lib.hid (bt D3.out b); clear b)
      | (go_at_call 34; (with_reducible refine (C5.out _ (HV.out.below D4.out)).mono ?_); rintro e u5 ⟨rfl, b⟩; have D5 := Lib.hid (bt D4.out b); clear b)
      | (go_at_call 34; (with_reducible refine (C6.out _ (HV.out.below D5.out)).mono ?_); rintro e u6 ⟨rfl, b⟩; have D6 := Lib.hid (bt D5.out b); clear b)
      | (go_at_call 34; (with_reducible refine (C7.out _ (HV.out.below D6.out)).mono ?_); rintro e u7 ⟨rfl, b⟩; have D7 := Lib.hid (bt D6.out b); clear b)
      | (go_at_call 34; (with_reducible refine (C8.out _ (HV.out.below D7.out)).mono ?_); rintro e u8 ⟨rfl, b⟩; have D8 := Lib.hid (bt D7.out b); clear b)
      | (go_at_call 34; (with_reducible refine (C9.out _ (HV.out.below D8.out)).mono ?_); rintro e u9 ⟨rfl, b⟩; have D9 := Lib.hid (bt D8.out b); clear b)
      | (go_at_call 34; (with_reducible refine (C10.out _ (HV.out.below D9.out)).mono ?_); rintro e u10 ⟨rfl, b⟩; have D10 := Lib.hid (bt D9.out b); clear b)
      | (go_at_call 34; (with_reducible refine (C11.out _ (HV.out.below D10.out)).mono ?_); rintro e u11 ⟨rfl, b⟩; have D11 := Lib.hid (bt D10.out b); clear b)
      | (go_at_call 34; (with_reducible refine (C12.out _ (HV.out.below D11.out)).mono ?_); rintro e u12 ⟨rfl, b⟩; have D12 := Lib.hid (bt D11.out b); clear b)
      | (go_at_call 34; (with_reducible refine (C13.out _ (HV.out.below D12.out)).mono ?_); rintro e u13 ⟨rfl, b⟩; have D13 := Lib.hid (bt D12.out b); clear b)
      | (go_at_call 34; (with_reducible refine (C14.out _ (HV.out.below D13.out)).mono ?_); rintro e u14 ⟨rfl, b⟩; have D14 := Lib.hid (bt D13.out b); clear b)
      | (go_at_call 34; (with_reducible refine (C15.out _ (HV.out.below D14.out)).mono ?_); rintro e u15 ⟨rfl, b⟩; have D15 := Lib.hid (bt D14.out b); clear b)
      | (go_at_call 34; (with_reducible refine (C16.out _ (HV.out.below D15.out)).mono ?_); rintro e u16 ⟨rfl, b⟩; have D16 := Lib.hid (bt D15.out b); clear b)
      | (go_at_call 34; (with_reducible refine (C17.out _ (HV.out.below D16.out)).mono ?_); rintro e u17 ⟨rfl, b⟩; have D17 := Lib.hid (bt D16.out b); clear b)
      | (go_at_call 34; (with_reducible refine (C18.out _ (HV.out.below D17.out)).mono ?_); rintro e u18 ⟨rfl, b⟩; have D18 := Lib.hid (bt D17.out b); clear b)
      | (go_at_call 34; (with_reducible refine (C19.out _ (HV.out.below D18.out)).mono ?_); rintro e u19 ⟨rfl, b⟩; have D19 := Lib.hid (bt D18.out b); clear b))
    go_ret
    exact ⟨rfl, D19.out⟩
  · have HF := Lib.hid (fits_three 300 (by omega) sa sb sc false (by simpa using hf))
    clear hf
    go_enter Tryd.func7, Tryd.ntmps7
    go_wp2_with (first
      | (go_at_call 21; refine (HAL.out _ HV.out).mono ?_; rintro e w0 ⟨rfl, b0⟩; have B0 := Lib.hid b0; clear b0)
      | (go_at_call 33; refine (HF.out _ _).mono ?_; rintro e u0 ⟨rfl, b⟩; have D0 := Lib.hid (bt (bt B0.out ((Below.refl _ w0).alloc (Nat.le_refl _) _)) b); clear b))
    go_ret
    exact ⟨rfl, D0.out⟩
end Go.Proofs.YtlipjedofegciaaDoor
