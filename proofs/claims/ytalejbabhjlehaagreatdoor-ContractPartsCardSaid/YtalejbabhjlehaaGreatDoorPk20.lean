/- Joined: ObH, ObI, ObJ, CnC, ObM, ObW, ObN, ObO, CnV. -/
import Derived.Test.YtalejbabhjlehaaGreatDoorPk7
import Derived.Test.YtalejbabhjlehaaGreatDoorPk8
import Derived.Test.YtalejbabhjlehaaGreatDoorPk19
import Derived.Test.YtalejbabhjlehaaGreatDoorPk2
import Derived.Test.YtalejbabhjlehaaGreatDoorPk1
import Derived.Test.YtalejbabhjlehaaGreatDoorPk17
import Derived.Test.YtalejbabhjlehaaGreatDoorPk18
import Derived.Deep.RegionHeld3
/- Layer 8: sorts: plain; a region of calls that leave what is old; sortOf, hasFields, partsOf. -/
namespace Go.Proofs.YtalejbabhjlehaaGreatDoor
open Go Go.RowKit
def Bel (w : World) : Type := { w' : World // Below w.heap.size w w' }
instance (w : World) : Nonempty (Bel w) := ⟨⟨w, Below.refl _ _⟩⟩
theorem wp_region_bel {P : Program} {id : Nat} {Q : Exit → Act → World → Prop} {a : Act} {w : World} {l : List Oper} (hm : P.follows .mixedOrders = true) (hB : Region.lexB .any l.toArray = true)
    (h : wpQuiet P l.toArray (fun w' => ∃ z : Bel w, w' = z.1) (fun a' => ∀ w', (∃ z : Bel w, w' = z.1) → Q .normal a' w') l a) : (Code.region id l.toArray true).wp P Q a w :=
  wp_region_quiet (C := fun w' => ∃ z : Bel w, w' = z.1) hm hB ⟨⟨w.drew, Below.drew (Below.refl _ _)⟩, rfl⟩ (by simpa using h)
theorem Bel.cell {w : World} {p : Addr} {v : Value} (h : w.cell? p = some v) (z : Bel w) : z.1.cell? p = some v := cellO z.2 h
theorem Bel.calls {P : Program} {f : FuncId} {args : Array Value} {w : World} {v : Value} (h : ∀ W, Below w.heap.size w W → Calls P f args W fun e w' => e = .returned v ∧ Below W.heap.size W w') (z : Bel w) :
    Calls P f args z.1 fun e w'' => e = .returned v ∧ ∃ z' : Bel w, w'' = z'.1 :=
  (h z.1 z.2).mono fun _ w' ⟨he, hb⟩ => ⟨he, ⟨w', btO z.2 hb⟩, rfl⟩
def srtB (k : Int) : Int := if 1 ≤ k ∧ k ≤ 9 then 1 else if 11 ≤ k ∧ k ≤ 15 then 2 else 0
def emB (s : ByteArray) : Bool := s.data.toList == []
def fldB (k : Int) (r n : ByteArray) (d : Int) : Bool :=
  if k = 1 then decide (chkR r.data.toList = 0) && emB n && decide (d = 0)
  else if k = 2 then emB r && nameO n.data.toList && dayO d
  else if k = 3 then emB r && nameO n.data.toList && decide (d = 0)
  else emB r && emB n && decide (d = 0)
def prtL (k : Int) : List Int :=
  if k = 4 ∨ k = 5 ∨ k = 6 ∨ k = 7 ∨ k = 8 ∨ k = 11 ∨ k = 12 then [1, 1] else if k = 9 then [2, 1, 1] else if k = 13 ∨ k = 14 then [2, 2] else if k = 15 then [2] else []
def srtF (k : Int) (r n : ByteArray) (d : Int) (l : List Int) : Int := if srtB k ≠ 0 ∧ fldB k r n d = true ∧ l = prtL k then srtB k else 0
def Ex.srt (t : Ex) : Int := Ex.fold srtF t
theorem Ex.srt_mk (k : Int) (r n : ByteArray) (d : Int) (A : Option Addr) (c : Nat) (s : List Ex) : Ex.srt (.mk k r n d A c s) = srtF k r n d (s.map Ex.srt) := by unfold Ex.srt; rw [Ex.fold_mk]
theorem em_cases (s : ByteArray) : (s = ⟨#[]⟩ ∧ emB s = true) ∨ ((s.toList == ([] : List UInt8)) = false ∧ emB s = false) := by
  unfold emB
  rw [Lib.toList_data]
  cases h : s.data.toList == ([] : List UInt8)
  · exact .inr ⟨rfl, rfl⟩
  · refine .inl ⟨?_, rfl⟩
    rw [beq_iff_eq] at h
    cases s with
    | mk d => exact congrArg ByteArray.mk (Array.toList_inj.1 h)
theorem prtL_12 (k : Int) : ∀ x ∈ prtL k, x = 1 ∨ x = 2 := by
  intro x hx
  unfold prtL at hx
  split at hx
  · simp at hx; omega
  · split at hx
    · simp at hx; omega
    · split at hx
      · simp at hx; omega
      · split at hx
        · simp at hx; omega
        · simp at hx
theorem prtL_len (k : Int) : (prtL k).length ≤ 3 := by
  unfold prtL
  split
  · simp
  · split
    · simp
    · split
      · simp
      · split <;> simp
theorem Ex.srt_iff (t : Ex) (x : Int) (hx : x = 1 ∨ x = 2) : t.srt = x ↔ srtB t.k = x ∧ t.srt ≠ 0 := by
  obtain ⟨k, r, n, d, A, c, s⟩ := t
  rw [Ex.srt_mk]
  unfold srtF
  show _ ↔ srtB k = x ∧ _
  split
  · next h => exact ⟨fun e => ⟨e, by rw [e]; omega⟩, fun e => e.1⟩
  · next h => exact ⟨fun e => by omega, fun e => absurd rfl e.2⟩
set_option maxRecDepth 100000 in
set_option maxHeartbeats 1600000 in
theorem sortOf_any (k : Int) (r n : ByteArray) (d : Int) (A : Option Addr) (l c : Nat) (w : World) :
    Calls Tryz.prog 69 #[.agg #[.int .u8 k, .string r, .string n, .int .i64 d, .slice A l c]] w fun e w' => e = .returned (.int .u8 (srtB k)) ∧ Below w.heap.size w w' := by
  have HB1 := Lib.hid (belO w (.cells #[.int .u8 k, .string r, .string n, .int .i64 d, .slice A l c] 29))
  have hC : (w.alloc (.cells #[.int .u8 k, .string r, .string n, .int .i64 d, .slice A l c] 29)).cell? ⟨w.heap.size, 0, none⟩ = some (.int .u8 k) := by rw [World.cell?_alloc_at _ _ _ _ rfl]; rfl
  unfold srtB
  have hc : (1 ≤ k ∧ k ≤ 9) ∨ (k < 1) ∨ (9 < k ∧ k < 11) ∨ (11 ≤ k ∧ k ≤ 15) ∨ 15 < k := by omega
  rcases hc with ⟨h1, h2⟩ | h1 | ⟨h1, h2⟩ | ⟨h1, h2⟩ | h1
  · rw [if_pos ⟨h1, h2⟩]
    go_enter Tryz.func69, Tryz.ntmps69
    go_wp2_with (fail)
    go_ret
    exact ⟨rfl, HB1.out⟩
  · rw [if_neg (by omega), if_neg (by omega)]
    go_enter Tryz.func69, Tryz.ntmps69
    go_wp2_with (fail)
    go_ret
    exact ⟨rfl, HB1.out⟩
  · rw [if_neg (by omega), if_neg (by omega)]
    go_enter Tryz.func69, Tryz.ntmps69
    go_wp2_with (fail)
    go_ret
    exact ⟨rfl, HB1.out⟩
  · rw [if_neg (by omega), if_pos ⟨h1, h2⟩]
    go_enter Tryz.func69, Tryz.ntmps69
    go_wp2_with (fail)
    go_ret
    exact ⟨rfl, HB1.out⟩
  · rw [if_neg (by omega), if_neg (by omega)]
    go_enter Tryz.func69, Tryz.ntmps69
    go_wp2_with (fail)
    go_ret
    exact ⟨rfl, HB1.out⟩
set_option maxRecDepth 100000 in
set_option maxHeartbeats 6400000 in
theorem hasFields_any (k : Int) (r n : ByteArray) (d : Int) (A : Option Addr) (l c : Nat) (w : World) (hv : VarR w) (hr : k = 1 → r.size ≤ 1048576) :
    Calls Tryz.prog 94 #[.agg #[.int .u8 k, .string r, .string n, .int .i64 d, .slice A l c]] w fun e w' => e = .returned (.bool (fldB k r n d)) ∧ Below w.heap.size w w' := by
  have HB1 := Lib.hid (belO w (.cells #[.int .u8 k, .string r, .string n, .int .i64 d, .slice A l c] 29))
  have hC0 : (w.alloc (.cells #[.int .u8 k, .string r, .string n, .int .i64 d, .slice A l c] 29)).cell? ⟨w.heap.size, 0, none⟩ = some (.int .u8 k) := by rw [World.cell?_alloc_at _ _ _ _ rfl]; rfl
  have hC1 : (w.alloc (.cells #[.int .u8 k, .string r, .string n, .int .i64 d, .slice A l c] 29)).cell? ⟨w.heap.size, 1, none⟩ = some (.string r) := by rw [World.cell?_alloc_at _ _ _ _ rfl]; rfl
  have hC2 : (w.alloc (.cells #[.int .u8 k, .string r, .string n, .int .i64 d, .slice A l c] 29)).cell? ⟨w.heap.size, 2, none⟩ = some (.string n) := by rw [World.cell?_alloc_at _ _ _ _ rfl]; rfl
  have hC3 : (w.alloc (.cells #[.int .u8 k, .string r, .string n, .int .i64 d, .slice A l c] 29)).cell? ⟨w.heap.size, 3, none⟩ = some (.int .i64 d) := by rw [World.cell?_alloc_at _ _ _ _ rfl]; rfl
  have HN := Lib.hid (fun W => pname8_any n _ rfl W)
  have HD := Lib.hid (fun W => pday_any d W)
  have hvw := hv.below HB1.out
  have HK := Lib.hid (fun (h : k = 1) => rcheck_any r (hr h) _ hvw)
  clear hv hvw hr
  by_cases h1 : k = 1
  · subst h1
    have HK1 := Lib.hid (HK.out rfl)
    clear HK
    obtain ⟨cc, hcc⟩ : ∃ cc, chkR r.data.toList = cc := ⟨_, rfl⟩
    rw [hcc] at HK1
    by_cases hc : cc = 0
    · subst hc
      rcases em_cases n with ⟨rfl, en⟩ | ⟨g, en⟩
      · by_cases hd : d = 0
        · subst hd
          have hval : fldB 1 r ⟨#[]⟩ 0 = true := by unfold fldB; simp [hcc, en]
          rw [hval]
          clear hval
          go_enter Tryz.func94, Tryz.ntmps94
          go_wp2_with (first
            | (go_at_call 109; ((with_reducible refine HK1.out.mono ?_); rintro x w2 ⟨rfl, hb⟩; have HW := Lib.hid (btO HB1.out hb); have e2 := cellO hb hC2; have e3 := cellO hb hC3; clear hb))
            | (go_at_call 35; ((with_reducible refine (HN.out _).mono ?_); rintro x w2 ⟨rfl, rfl⟩))
            | (go_at_call 110; ((with_reducible refine (HD.out _).mono ?_); rintro x w2 ⟨rfl, rfl⟩)))
          go_ret
          exact ⟨rfl, HW.out⟩
        · have hz : (d == 0) = false := by rw [beq_eq_false_iff_ne]; exact hd
          have hval : fldB 1 r ⟨#[]⟩ d = false := by unfold fldB; simp [hcc, en, hd]
          rw [hval]
          clear hval
          clear hd
          go_enter Tryz.func94, Tryz.ntmps94
          go_wp2_with (first
            | (go_at_call 109; ((with_reducible refine HK1.out.mono ?_); rintro x w2 ⟨rfl, hb⟩; have HW := Lib.hid (btO HB1.out hb); have e2 := cellO hb hC2; have e3 := cellO hb hC3; clear hb))
            | (go_at_call 35; ((with_reducible refine (HN.out _).mono ?_); rintro x w2 ⟨rfl, rfl⟩))
            | (go_at_call 110; ((with_reducible refine (HD.out _).mono ?_); rintro x w2 ⟨rfl, rfl⟩)))
          go_ret
          exact ⟨rfl, HW.out⟩
      ·
        have hval : fldB 1 r n d = false := by unfold fldB; simp [hcc, en]
        rw [hval]
        clear hval
        go_enter Tryz.func94, Tryz.ntmps94
        go_wp2_with (first
          | (go_at_call 109; ((with_reducible refine HK1.out.mono ?_); rintro x w2 ⟨rfl, hb⟩; have HW := Lib.hid (btO HB1.out hb); have e2 := cellO hb hC2; have e3 := cellO hb hC3; clear hb))
          | (go_at_call 35; ((with_reducible refine (HN.out _).mono ?_); rintro x w2 ⟨rfl, rfl⟩))
          | (go_at_call 110; ((with_reducible refine (HD.out _).mono ?_); rintro x w2 ⟨rfl, rfl⟩)))
        go_ret
        exact ⟨rfl, HW.out⟩
    · have hz : (cc == 0) = false := by rw [beq_eq_false_iff_ne]; exact hc
      have hval : fldB 1 r n d = false := by unfold fldB; simp [hcc, hc]
      rw [hval]
      clear hval
      clear hc
      go_enter Tryz.func94, Tryz.ntmps94
      go_wp2_with (first
        | (go_at_call 109; ((with_reducible refine HK1.out.mono ?_); rintro x w2 ⟨rfl, hb⟩; have HW := Lib.hid (btO HB1.out hb); have e2 := cellO hb hC2; have e3 := cellO hb hC3; clear hb))
        | (go_at_call 35; ((with_reducible refine (HN.out _).mono ?_); rintro x w2 ⟨rfl, rfl⟩))
        | (go_at_call 110; ((with_reducible refine (HD.out _).mono ?_); rintro x w2 ⟨rfl, rfl⟩)))
      go_ret
      exact ⟨rfl, HW.out⟩
  have g1 : (k == 1) = false := by rw [beq_eq_false_iff_ne]; exact h1
  have HK1 : Hid True := trivial
  clear HK
  by_cases h2 : k = 2
  · subst h2
    rcases em_cases r with ⟨rfl, er⟩ | ⟨g, er⟩
    · cases hn : nameO n.data.toList
      · rw [hn] at HN
        have hval : fldB 2 ⟨#[]⟩ n d = false := by unfold fldB; simp [er, hn]
        rw [hval]
        clear hval
        go_enter Tryz.func94, Tryz.ntmps94
        go_wp2_with (first
          | (go_at_call 109; ((with_reducible refine HK1.out.mono ?_); rintro x w2 ⟨rfl, hb⟩; have HW := Lib.hid (btO HB1.out hb); have e2 := cellO hb hC2; have e3 := cellO hb hC3; clear hb))
          | (go_at_call 35; ((with_reducible refine (HN.out _).mono ?_); rintro x w2 ⟨rfl, rfl⟩))
          | (go_at_call 110; ((with_reducible refine (HD.out _).mono ?_); rintro x w2 ⟨rfl, rfl⟩)))
        go_ret
        exact ⟨rfl, HB1.out⟩
      · rw [hn] at HN
        cases hd : dayO d
        · rw [hd] at HD
          have hval : fldB 2 ⟨#[]⟩ n d = false := by unfold fldB; simp [er, hn, hd]
          rw [hval]
          clear hval
          go_enter Tryz.func94, Tryz.ntmps94
          go_wp2_with (first
            | (go_at_call 109; ((with_reducible refine HK1.out.mono ?_); rintro x w2 ⟨rfl, hb⟩; have HW := Lib.hid (btO HB1.out hb); have e2 := cellO hb hC2; have e3 := cellO hb hC3; clear hb))
            | (go_at_call 35; ((with_reducible refine (HN.out _).mono ?_); rintro x w2 ⟨rfl, rfl⟩))
            | (go_at_call 110; ((with_reducible refine (HD.out _).mono ?_); rintro x w2 ⟨rfl, rfl⟩)))
          go_ret
          exact ⟨rfl, HB1.out⟩
        · rw [hd] at HD
          have hval : fldB 2 ⟨#[]⟩ n d = true := by unfold fldB; simp [er, hn, hd]
          rw [hval]
          clear hval
          go_enter Tryz.func94, Tryz.ntmps94
          go_wp2_with (first
            | (go_at_call 109; ((with_reducible refine HK1.out.mono ?_); rintro x w2 ⟨rfl, hb⟩; have HW := Lib.hid (btO HB1.out hb); have e2 := cellO hb hC2; have e3 := cellO hb hC3; clear hb))
            | (go_at_call 35; ((with_reducible refine (HN.out _).mono ?_); rintro x w2 ⟨rfl, rfl⟩))
            | (go_at_call 110; ((with_reducible refine (HD.out _).mono ?_); rintro x w2 ⟨rfl, rfl⟩)))
          go_ret
          exact ⟨rfl, HB1.out⟩
    ·
      have hval : fldB 2 r n d = false := by unfold fldB; simp [er]
      rw [hval]
      clear hval
      go_enter Tryz.func94, Tryz.ntmps94
      go_wp2_with (first
        | (go_at_call 109; ((with_reducible refine HK1.out.mono ?_); rintro x w2 ⟨rfl, hb⟩; have HW := Lib.hid (btO HB1.out hb); have e2 := cellO hb hC2; have e3 := cellO hb hC3; clear hb))
        | (go_at_call 35; ((with_reducible refine (HN.out _).mono ?_); rintro x w2 ⟨rfl, rfl⟩))
        | (go_at_call 110; ((with_reducible refine (HD.out _).mono ?_); rintro x w2 ⟨rfl, rfl⟩)))
      go_ret
      exact ⟨rfl, HB1.out⟩
  have g2 : (k == 2) = false := by rw [beq_eq_false_iff_ne]; exact h2
  by_cases h3 : k = 3
  · subst h3
    rcases em_cases r with ⟨rfl, er⟩ | ⟨g, er⟩
    · cases hn : nameO n.data.toList
      · rw [hn] at HN
        have hval : fldB 3 ⟨#[]⟩ n d = false := by unfold fldB; simp [er, hn]
        rw [hval]
        clear hval
        go_enter Tryz.func94, Tryz.ntmps94
        go_wp2_with (first
          | (go_at_call 109; ((with_reducible refine HK1.out.mono ?_); rintro x w2 ⟨rfl, hb⟩; have HW := Lib.hid (btO HB1.out hb); have e2 := cellO hb hC2; have e3 := cellO hb hC3; clear hb))
          | (go_at_call 35; ((with_reducible refine (HN.out _).mono ?_); rintro x w2 ⟨rfl, rfl⟩))
          | (go_at_call 110; ((with_reducible refine (HD.out _).mono ?_); rintro x w2 ⟨rfl, rfl⟩)))
        go_ret
        exact ⟨rfl, HB1.out⟩
      · rw [hn] at HN
        by_cases hd : d = 0
        · subst hd
          have hval : fldB 3 ⟨#[]⟩ n 0 = true := by unfold fldB; simp [er, hn]
          rw [hval]
          clear hval
          go_enter Tryz.func94, Tryz.ntmps94
          go_wp2_with (first
            | (go_at_call 109; ((with_reducible refine HK1.out.mono ?_); rintro x w2 ⟨rfl, hb⟩; have HW := Lib.hid (btO HB1.out hb); have e2 := cellO hb hC2; have e3 := cellO hb hC3; clear hb))
            | (go_at_call 35; ((with_reducible refine (HN.out _).mono ?_); rintro x w2 ⟨rfl, rfl⟩))
            | (go_at_call 110; ((with_reducible refine (HD.out _).mono ?_); rintro x w2 ⟨rfl, rfl⟩)))
          go_ret
          exact ⟨rfl, HB1.out⟩
        · have hz : (d == 0) = false := by rw [beq_eq_false_iff_ne]; exact hd
          have hval : fldB 3 ⟨#[]⟩ n d = false := by unfold fldB; simp [er, hn, hd]
          rw [hval]
          clear hval
          clear hd
          go_enter Tryz.func94, Tryz.ntmps94
          go_wp2_with (first
            | (go_at_call 109; ((with_reducible refine HK1.out.mono ?_); rintro x w2 ⟨rfl, hb⟩; have HW := Lib.hid (btO HB1.out hb); have e2 := cellO hb hC2; have e3 := cellO hb hC3; clear hb))
            | (go_at_call 35; ((with_reducible refine (HN.out _).mono ?_); rintro x w2 ⟨rfl, rfl⟩))
            | (go_at_call 110; ((with_reducible refine (HD.out _).mono ?_); rintro x w2 ⟨rfl, rfl⟩)))
          go_ret
          exact ⟨rfl, HB1.out⟩
    ·
      have hval : fldB 3 r n d = false := by unfold fldB; simp [er]
      rw [hval]
      clear hval
      go_enter Tryz.func94, Tryz.ntmps94
      go_wp2_with (first
        | (go_at_call 109; ((with_reducible refine HK1.out.mono ?_); rintro x w2 ⟨rfl, hb⟩; have HW := Lib.hid (btO HB1.out hb); have e2 := cellO hb hC2; have e3 := cellO hb hC3; clear hb))
        | (go_at_call 35; ((with_reducible refine (HN.out _).mono ?_); rintro x w2 ⟨rfl, rfl⟩))
        | (go_at_call 110; ((with_reducible refine (HD.out _).mono ?_); rintro x w2 ⟨rfl, rfl⟩)))
      go_ret
      exact ⟨rfl, HB1.out⟩
  have g3 : (k == 3) = false := by rw [beq_eq_false_iff_ne]; exact h3
  rcases em_cases r with ⟨rfl, er⟩ | ⟨g, er⟩
  · rcases em_cases n with ⟨rfl, en⟩ | ⟨g, en⟩
    · by_cases hd : d = 0
      · subst hd
        have hval : fldB k ⟨#[]⟩ ⟨#[]⟩ 0 = true := by unfold fldB; simp [er, en, h1, h2, h3]
        rw [hval]
        clear hval
        clear h1 h2 h3
        go_enter Tryz.func94, Tryz.ntmps94
        go_wp2_with (first
          | (go_at_call 109; ((with_reducible refine HK1.out.mono ?_); rintro x w2 ⟨rfl, hb⟩; have HW := Lib.hid (btO HB1.out hb); have e2 := cellO hb hC2; have e3 := cellO hb hC3; clear hb))
          | (go_at_call 35; ((with_reducible refine (HN.out _).mono ?_); rintro x w2 ⟨rfl, rfl⟩))
          | (go_at_call 110; ((with_reducible refine (HD.out _).mono ?_); rintro x w2 ⟨rfl, rfl⟩)))
        go_ret
        exact ⟨rfl, HB1.out⟩
      · have hz : (d == 0) = false := by rw [beq_eq_false_iff_ne]; exact hd
        have hval : fldB k ⟨#[]⟩ ⟨#[]⟩ d = false := by unfold fldB; simp [er, en, hd, h1, h2, h3]
        rw [hval]
        clear hval
        clear hd h1 h2 h3
        go_enter Tryz.func94, Tryz.ntmps94
        go_wp2_with (first
          | (go_at_call 109; ((with_reducible refine HK1.out.mono ?_); rintro x w2 ⟨rfl, hb⟩; have HW := Lib.hid (btO HB1.out hb); have e2 := cellO hb hC2; have e3 := cellO hb hC3; clear hb))
          | (go_at_call 35; ((with_reducible refine (HN.out _).mono ?_); rintro x w2 ⟨rfl, rfl⟩))
          | (go_at_call 110; ((with_reducible refine (HD.out _).mono ?_); rintro x w2 ⟨rfl, rfl⟩)))
        go_ret
        exact ⟨rfl, HB1.out⟩
    ·
      have hval : fldB k ⟨#[]⟩ n d = false := by unfold fldB; simp [er, en, h1, h2, h3]
      rw [hval]
      clear hval
      clear h1 h2 h3
      go_enter Tryz.func94, Tryz.ntmps94
      go_wp2_with (first
        | (go_at_call 109; ((with_reducible refine HK1.out.mono ?_); rintro x w2 ⟨rfl, hb⟩; have HW := Lib.hid (btO HB1.out hb); have e2 := cellO hb hC2; have e3 := cellO hb hC3; clear hb))
        | (go_at_call 35; ((with_reducible refine (HN.out _).mono ?_); rintro x w2 ⟨rfl, rfl⟩))
        | (go_at_call 110; ((with_reducible refine (HD.out _).mono ?_); rintro x w2 ⟨rfl, rfl⟩)))
      go_ret
      exact ⟨rfl, HB1.out⟩
  ·
    have hval : fldB k r n d = false := by unfold fldB; simp [er, h1, h2, h3]
    rw [hval]
    clear hval
    clear h1 h2 h3
    go_enter Tryz.func94, Tryz.ntmps94
    go_wp2_with (first
      | (go_at_call 109; ((with_reducible refine HK1.out.mono ?_); rintro x w2 ⟨rfl, hb⟩; have HW := Lib.hid (btO HB1.out hb); have e2 := cellO hb hC2; have e3 := cellO hb hC3; clear hb))
      | (go_at_call 35; ((with_reducible refine (HN.out _).mono ?_); rintro x w2 ⟨rfl, rfl⟩))
      | (go_at_call 110; ((with_reducible refine (HD.out _).mono ?_); rintro x w2 ⟨rfl, rfl⟩)))
    go_ret
    exact ⟨rfl, HB1.out⟩
end Go.Proofs.YtalejbabhjlehaaGreatDoor
/- Layer 8: partsOf, hasParts, wellFormed, Check, Number, Truth of the program. -/
namespace Go.Proofs.YtalejbabhjlehaaGreatDoor
open Go Go.RowKit Go.BigFrame
def u8V (x : Int) : Value := .int .u8 x
def PrtR (l : List Int) (w : World) (e : Ending) (w' : World) : Prop := ∃ A c, e = .returned (.slice A l.length c) ∧ SlA u8V w' A l ∧ Below w.heap.size w w'
set_option maxRecDepth 100000 in
set_option maxHeartbeats 3200000 in
theorem partsOf_any (k : Int) (w : World) : Calls Tryz.prog 96 #[.int .u8 k] w (PrtR (prtL k) w) := by
  have hN : ∀ (cs : Array Value) (l : List Int) (t : TypeId), cs.toList = l.map u8V → SlA u8V (w.alloc (.cells cs t)) (some ⟨w.heap.size, 0, none⟩) l := fun cs l t h => SlA.of_cells (heap_alloc_new w (.cells cs t)) h
  have HN := Lib.hid hN
  have HB := Lib.hid (belO w)
  clear hN
  by_cases h : k = 4 ∨ k = 5 ∨ k = 6 ∨ k = 7 ∨ k = 8 ∨ k = 11 ∨ k = 12
  · have hp : prtL k = [1, 1] := by unfold prtL; rw [if_pos h]
    rw [hp]
    clear hp
    rcases h with rfl | rfl | rfl | rfl | rfl | rfl | rfl
    all_goals
      go_enter Tryz.func96, Tryz.ntmps96
      go_wp2_with (fail)
      go_ret
      exact ⟨_, _, rfl, HN.out _ _ _ rfl, HB.out _⟩
  by_cases h9 : k = 9
  · subst h9
    have hp : prtL 9 = [2, 1, 1] := by decide
    rw [hp]
    clear hp h
    go_enter Tryz.func96, Tryz.ntmps96
    go_wp2_with (fail)
    go_ret
    exact ⟨_, _, rfl, HN.out _ _ _ rfl, HB.out _⟩
  by_cases h13 : k = 13 ∨ k = 14
  · have hp : prtL k = [2, 2] := by unfold prtL; rw [if_neg h, if_neg h9, if_pos h13]
    rw [hp]
    clear hp h h9
    rcases h13 with rfl | rfl
    all_goals
      go_enter Tryz.func96, Tryz.ntmps96
      go_wp2_with (fail)
      go_ret
      exact ⟨_, _, rfl, HN.out _ _ _ rfl, HB.out _⟩
  by_cases h15 : k = 15
  · subst h15
    have hp : prtL 15 = [2] := by decide
    rw [hp]
    clear hp h h9 h13
    go_enter Tryz.func96, Tryz.ntmps96
    go_wp2_with (fail)
    go_ret
    exact ⟨_, _, rfl, HN.out _ _ _ rfl, HB.out _⟩
  · have hp : prtL k = [] := by unfold prtL; rw [if_neg h, if_neg h9, if_neg h13, if_neg h15]
    rw [hp]
    have e (x : Int) (hx : k ≠ x) : (k == x) = false := by rw [beq_eq_false_iff_ne]; exact hx
    have e4 := e 4 (by omega)
    have e5 := e 5 (by omega)
    have e6 := e 6 (by omega)
    have e7 := e 7 (by omega)
    have e8 := e 8 (by omega)
    have e9 := e 9 (by omega)
    have e11 := e 11 (by omega)
    have e12 := e 12 (by omega)
    have e13 := e 13 (by omega)
    have e14 := e 14 (by omega)
    have e15 := e 15 (by omega)
    clear hp h h9 h13 h15 e
    go_enter Tryz.func96, Tryz.ntmps96
    go_wp2_with (fail)
    go_ret
    exact ⟨_, _, rfl, SlA.nil, Below.refl _ _⟩
theorem map_srt_iff (s : List Ex) (l : List Int) (hlen : s.length = l.length) : s.map Ex.srt = l ↔ ∀ j (h : j < s.length) (h' : j < l.length), s[j].srt = l[j] := by
  constructor
  · rintro rfl j h h'
    simp
  · intro h
    refine List.ext_getElem (by simp [hlen]) fun j h1 h2 => ?_
    rw [List.getElem_map]
    exact h j (by simpa using h1) h2
set_option maxRecDepth 100000 in
set_option maxHeartbeats 6400000 in
theorem hasParts_any (k : Int) (r n : ByteArray) (d : Int) (A : Option Addr) (c : Nat) (s : List Ex) (l : List Int) (B : Option Addr) (cb : Nat) (w : World)
    (hin : Ex.In w (.mk k r n d A c s)) (hB : SlA u8V w B l) (hl : ∀ x ∈ l, x = 1 ∨ x = 2) (hl3 : l.length ≤ 3) (hv : VarR w)
    (ih : ∀ t ∈ s, ∀ W, t.In W → VarR W → Calls Tryz.prog 74 #[t.val] W (BoolRO (decide (t.srt ≠ 0)) W)) :
    Calls Tryz.prog 95 #[.slice A s.length c, .slice B l.length cb] w (BoolRO (decide (s.map Ex.srt = l)) w) := by
  have mixed : Tryz.prog.follows Departure.mixedOrders = true := by kernel_rfl
  have hbd := hin.bd
  have hl63 : s.length ≤ 9223372036854775807 := by have : s.length ≤ 140737488351232 := hbd.c1; omega
  by_cases hlen : s.length = l.length
  · obtain ⟨b, hb⟩ : ∃ b, decide (s.map Ex.srt = l) = b := ⟨_, rfl⟩
    have HE : Hid (b = true ↔ ∀ j (h : j < s.length) (h' : j < l.length), s[j].srt = l[j]) := by
      show _ ↔ _
      rw [← hb, decide_eq_true_iff]
      exact map_srt_iff s l hlen
    rw [hb]
    have HA := Lib.hid hin
    have HB := Lib.hid hB
    have HV := Lib.hid hv
    have IH := Lib.hid ih
    have HL := Lib.hid hl
    have HN := Lib.hid hlen
    rw [← hlen]
    clear hin hB hv ih hl hb hlen hbd hl3
    go_enter Tryz.func95, Tryz.ntmps95
    go_wp2_with (fail)
    go_loopw [14] (fun i wr => ∃ k : Nat, k ≤ s.length ∧ i = .int .i64 k ∧ Hid (∀ j (h : j < s.length) (h' : j < l.length), j < k → s[j].srt = l[j]) ∧ Hid (Below w.heap.size w wr)) (fun i _ => s.length - (intOf i).toNat)
    case atStart => exact ⟨0, by omega, rfl, fun j h h' g => by omega, Below.refl _ _⟩
    case round =>
      obtain ⟨j, hj, rfl, HI, HW⟩ := hrel
      by_cases hlt : j < s.length
      · have HAW := Lib.hid (HA.out.below HW.out)
        obtain ⟨b1, o1, rfl, -, hpi, d0, d1, d2, d3, d4⟩ := HAW.out.part hlt
        have hlt2 : j < l.length := by have := HN.out; omega
        obtain ⟨b2, o2, rfl, -, g0⟩ := (HB.out.below HW.out).get hlt2
        have hm : s[j] ∈ s := List.getElem_mem hlt
        have HP := Lib.hid hpi
        have HJ := Lib.hid (IH.out s[j] hm)
        have HX : Hid (s[j].srt = l[j] → ∀ i (h : i < s.length) (h' : i < l.length), i < j + 1 → s[i].srt = l[i]) := fun g i hi hi' hij => by
          rcases Nat.lt_or_ge i j with q | q
          · exact HI.out i hi hi' q
          · obtain rfl : i = j := by omega
            exact g
        have HY : Hid (s[j].srt ≠ l[j] → b = false) := fun g => by
          cases b
          · rfl
          · exact absurd (HE.out.1 rfl j hlt hlt2) g
        have HZ := Lib.hid (Ex.srt_iff s[j] l[j] (HL.out _ (List.getElem_mem hlt2)))
        have hj1 : (j : Int) < (s.length : Int) := by omega
        generalize s[j] = t at *
        generalize l[j] = x at *
        have d5 : wr.cell? ⟨b2, o2 + j, none⟩ = some (.int .u8 x) := g0
        have HBt := Lib.hid (belO wr (.cells #[.int .u8 t.k, .string t.r, .string t.n, .int .i64 t.d, .slice t.A t.sub.length t.c] 29))
        have HV2 := Lib.hid ((HV.out.below HW.out).below HBt.out)
        have HP2 := Lib.hid (HP.out.below HBt.out)
        have HS := Lib.hid (fun W => sortOf_any t.k t.r t.n t.d t.A t.sub.length t.c W)
        clear hpi hm HI IH HA HAW HP HE g0
        have c0 : (wr.alloc (.cells #[.int .u8 t.k, .string t.r, .string t.n, .int .i64 t.d, .slice t.A t.sub.length t.c] 29)).cell? ⟨wr.heap.size, 0, none⟩ = some (.int .u8 t.k) := by rw [World.cell?_alloc_at _ _ _ _ rfl]; rfl
        have c1 : (wr.alloc (.cells #[.int .u8 t.k, .string t.r, .string t.n, .int .i64 t.d, .slice t.A t.sub.length t.c] 29)).cell? ⟨wr.heap.size, 1, none⟩ = some (.string t.r) := by rw [World.cell?_alloc_at _ _ _ _ rfl]; rfl
        have c2 : (wr.alloc (.cells #[.int .u8 t.k, .string t.r, .string t.n, .int .i64 t.d, .slice t.A t.sub.length t.c] 29)).cell? ⟨wr.heap.size, 2, none⟩ = some (.string t.n) := by rw [World.cell?_alloc_at _ _ _ _ rfl]; rfl
        have c3 : (wr.alloc (.cells #[.int .u8 t.k, .string t.r, .string t.n, .int .i64 t.d, .slice t.A t.sub.length t.c] 29)).cell? ⟨wr.heap.size, 3, none⟩ = some (.int .i64 t.d) := by rw [World.cell?_alloc_at _ _ _ _ rfl]; rfl
        have c4 : (wr.alloc (.cells #[.int .u8 t.k, .string t.r, .string t.n, .int .i64 t.d, .slice t.A t.sub.length t.c] 29)).cell? ⟨wr.heap.size, 4, none⟩ = some (.slice t.A t.sub.length t.c) := by rw [World.cell?_alloc_at _ _ _ _ rfl]; rfl
        have c5 := cellO HBt.out d5
        have HW5 := Lib.hid (btO HW.out HBt.out)
        have HCs := Lib.hid (And.intro c0 (And.intro c1 (And.intro c2 (And.intro c3 (And.intro c4 c5)))))
        have q1 : (0 : Int) ≤ (j : Int) := by omega
        clear c0 c1 c2 c3 c4 c5
        by_cases hs : srtB t.k = x
        · have hne : (srtB t.k != x) = false := by rw [bne_eq_false_iff_eq]; exact hs
          by_cases hz : t.srt = 0
          · have hd : decide (t.srt ≠ 0) = false := by rw [decide_eq_false_iff_not]; exact fun h => h hz
            rw [hd] at HJ
            obtain rfl := HY.out (fun e => (HZ.out.1 e).2 hz)
            clear HX HY HZ hs hz hd
            go_wp2_with (fail)
            generalize wr.alloc (.cells #[.int .u8 t.k, .string t.r, .string t.n, .int .i64 t.d, .slice t.A t.sub.length t.c] 29) = w5 at *
            obtain ⟨c0, c1, c2, c3, c4, c5⟩ := HCs.out
            have z0 := fun z : Bel w5 => z.cell c0
            have z1 := fun z : Bel w5 => z.cell c1
            have z2 := fun z : Bel w5 => z.cell c2
            have z3 := fun z : Bel w5 => z.cell c3
            have z4 := fun z : Bel w5 => z.cell c4
            have z5 := fun z : Bel w5 => z.cell c5
            have HSz : Hid (∀ W, Below w5.heap.size w5 W → Calls Tryz.prog 69 #[.agg #[.int .u8 t.k, .string t.r, .string t.n, .int .i64 t.d, .slice t.A t.sub.length t.c]] W fun e w' => e = .returned (.int .u8 (srtB t.k)) ∧ Below W.heap.size W w') := fun W _ => HS.out W
            have HJz : Hid (∀ W, Below w5.heap.size w5 W → Calls Tryz.prog 74 #[.agg #[.int .u8 t.k, .string t.r, .string t.n, .int .i64 t.d, .slice t.A t.sub.length t.c]] W fun e w' => e = .returned (.bool false) ∧ Below W.heap.size W w') := fun W hW => HJ.out W (HP2.out.below hW) (HV2.out.below hW)
            clear c0 c1 c2 c3 c4 c5 d0 d1 d2 d3 d4 d5
            refine wp_region_bel (by kernel_rfl) (by kernel_rfl) ?_
            repeat (go_big_quiet_step (first
              | (go_at_call 69; with_reducible exact Bel.calls HSz.out _)
              | (go_at_call 74; with_reducible exact Bel.calls HJz.out _)))
            refine wpQuiet_nil ?_
            rintro _ ⟨zz, rfl⟩
            have HZW := Lib.hid (btO HW5.out zz.2)
            generalize zz.1 = w6 at *
            go_wp2_with (fail)
            go_ret
            exact ⟨rfl, HZW.out⟩
          · have hd : decide (t.srt ≠ 0) = true := by rw [decide_eq_true_iff]; exact hz
            rw [hd] at HJ
            have HX2 := Lib.hid (HX.out (HZ.out.2 ⟨hs, hz⟩))
            clear HX HY HZ hs hz hd
            go_wp2_with (fail)
            generalize wr.alloc (.cells #[.int .u8 t.k, .string t.r, .string t.n, .int .i64 t.d, .slice t.A t.sub.length t.c] 29) = w5 at *
            obtain ⟨c0, c1, c2, c3, c4, c5⟩ := HCs.out
            have z0 := fun z : Bel w5 => z.cell c0
            have z1 := fun z : Bel w5 => z.cell c1
            have z2 := fun z : Bel w5 => z.cell c2
            have z3 := fun z : Bel w5 => z.cell c3
            have z4 := fun z : Bel w5 => z.cell c4
            have z5 := fun z : Bel w5 => z.cell c5
            have HSz : Hid (∀ W, Below w5.heap.size w5 W → Calls Tryz.prog 69 #[.agg #[.int .u8 t.k, .string t.r, .string t.n, .int .i64 t.d, .slice t.A t.sub.length t.c]] W fun e w' => e = .returned (.int .u8 (srtB t.k)) ∧ Below W.heap.size W w') := fun W _ => HS.out W
            have HJz : Hid (∀ W, Below w5.heap.size w5 W → Calls Tryz.prog 74 #[.agg #[.int .u8 t.k, .string t.r, .string t.n, .int .i64 t.d, .slice t.A t.sub.length t.c]] W fun e w' => e = .returned (.bool true) ∧ Below W.heap.size W w') := fun W hW => HJ.out W (HP2.out.below hW) (HV2.out.below hW)
            clear c0 c1 c2 c3 c4 c5 d0 d1 d2 d3 d4 d5
            refine wp_region_bel (by kernel_rfl) (by kernel_rfl) ?_
            repeat (go_big_quiet_step (first
              | (go_at_call 69; with_reducible exact Bel.calls HSz.out _)
              | (go_at_call 74; with_reducible exact Bel.calls HJz.out _)))
            refine wpQuiet_nil ?_
            rintro _ ⟨zz, rfl⟩
            have HZW := Lib.hid (btO HW5.out zz.2)
            generalize zz.1 = w6 at *
            go_wp2_with (fail)
            go_roundw
            case rel => exact ⟨j + 1, by omega, by go_num, HX2, HZW⟩
            case measure => simp [intOf]; omega
        · have hne : (srtB t.k != x) = true := by rw [bne_iff_ne]; exact hs
          obtain rfl := HY.out (fun e => hs (HZ.out.1 e).1)
          have hd : decide (t.srt ≠ 0) = decide (t.srt ≠ 0) := rfl
          clear HX HY HZ hs hd
          go_wp2_with (fail)
          generalize wr.alloc (.cells #[.int .u8 t.k, .string t.r, .string t.n, .int .i64 t.d, .slice t.A t.sub.length t.c] 29) = w5 at *
          obtain ⟨c0, c1, c2, c3, c4, c5⟩ := HCs.out
          have z0 := fun z : Bel w5 => z.cell c0
          have z1 := fun z : Bel w5 => z.cell c1
          have z2 := fun z : Bel w5 => z.cell c2
          have z3 := fun z : Bel w5 => z.cell c3
          have z4 := fun z : Bel w5 => z.cell c4
          have z5 := fun z : Bel w5 => z.cell c5
          have HSz : Hid (∀ W, Below w5.heap.size w5 W → Calls Tryz.prog 69 #[.agg #[.int .u8 t.k, .string t.r, .string t.n, .int .i64 t.d, .slice t.A t.sub.length t.c]] W fun e w' => e = .returned (.int .u8 (srtB t.k)) ∧ Below W.heap.size W w') := fun W _ => HS.out W
          have HJz : Hid (∀ W, Below w5.heap.size w5 W → Calls Tryz.prog 74 #[.agg #[.int .u8 t.k, .string t.r, .string t.n, .int .i64 t.d, .slice t.A t.sub.length t.c]] W fun e w' => e = .returned (.bool (decide (t.srt ≠ 0))) ∧ Below W.heap.size W w') := fun W hW => HJ.out W (HP2.out.below hW) (HV2.out.below hW)
          clear c0 c1 c2 c3 c4 c5 d0 d1 d2 d3 d4 d5
          refine wp_region_bel (by kernel_rfl) (by kernel_rfl) ?_
          repeat (go_big_quiet_step (first
            | (go_at_call 69; with_reducible exact Bel.calls HSz.out _)
            | (go_at_call 74; with_reducible exact Bel.calls HJz.out _)))
          refine wpQuiet_nil ?_
          rintro _ ⟨zz, rfl⟩
          have HZW := Lib.hid (btO HW5.out zz.2)
          generalize zz.1 = w6 at *
          go_wp2_with (fail)
          go_ret
          exact ⟨rfl, HZW.out⟩
      · obtain rfl : j = s.length := by omega
        obtain rfl : b = true := HE.out.2 (fun i hi hi' => HI.out i hi hi' hi)
        clear HI HE
        go_wp2_with (fail)
        go_ret
        exact ⟨rfl, HW.out⟩
  · have hf : decide (s.map Ex.srt = l) = false := by
      rw [decide_eq_false_iff_not]
      rintro rfl
      simp at hlen
    have hn : ((s.length : Int) != (l.length : Int)) = true := by rw [bne_iff_ne]; omega
    rw [hf]
    clear hin hB hv ih hl hf hlen hbd
    go_enter Tryz.func95, Tryz.ntmps95
    go_wp2_with (fail)
    go_ret
    exact ⟨rfl, Below.refl _ _⟩
set_option maxRecDepth 100000 in
set_option maxHeartbeats 6400000 in
theorem wellFormed_any (T : Ex) : ∀ (w : World), T.In w → T.byt ≤ 12000 → VarR w → Calls Tryz.prog 74 #[T.val] w (BoolRO (decide (T.srt ≠ 0)) w) := by
  have mixed : Tryz.prog.follows Departure.mixedOrders = true := by kernel_rfl
  induction T using Ex.ind with
  | h kk rr nn dd A c s ih =>
  intro w hin hby hv
  have HB1 := Lib.hid (belO w (.cells #[.int .u8 kk, .string rr, .string nn, .int .i64 dd, .slice A s.length c] 29))
  have hI1 := hin.below HB1.out
  have hV1 := hv.below HB1.out
  have hrr : rr.size ≤ 1048576 := by rw [Ex.byt_mk] at hby; omega
  have hC : Ex.Box (w.alloc (.cells #[.int .u8 kk, .string rr, .string nn, .int .i64 dd, .slice A s.length c] 29)) w.heap.size (.mk kk rr nn dd A c s) := Ex.Box.new w (.mk kk rr nn dd A c s) 29
  have hIH : ∀ t ∈ s, ∀ W, t.In W → VarR W → Calls Tryz.prog 74 #[t.val] W (BoolRO (decide (t.srt ≠ 0)) W) := fun t ht W h1 h2 => ih t ht W h1 (Nat.le_trans (Ex.byt_sub (k := kk) (r := rr) (n := nn) (d := dd) (A := A) (c := c) ht) hby) h2
  have hsrt : Ex.srt (.mk kk rr nn dd A c s) = srtF kk rr nn dd (s.map Ex.srt) := Ex.srt_mk ..
  show Calls Tryz.prog 74 #[.agg #[.int .u8 kk, .string rr, .string nn, .int .i64 dd, .slice A s.length c]] w (BoolRO (decide (Ex.srt (.mk kk rr nn dd A c s) ≠ 0)) w)
  rw [hsrt]
  obtain ⟨w1, hw1⟩ : ∃ w1, w.alloc (.cells #[.int .u8 kk, .string rr, .string nn, .int .i64 dd, .slice A s.length c] 29) = w1 := ⟨_, rfl⟩
  have HCs := Lib.hid hC
  have HS1 : Hid (∀ W, Below w1.heap.size w1 W → Calls Tryz.prog 69 #[.agg #[.int .u8 kk, .string rr, .string nn, .int .i64 dd, .slice A s.length c]] W fun e w' => e = .returned (.int .u8 (srtB kk)) ∧ Below W.heap.size W w') := fun W _ => sortOf_any kk rr nn dd A s.length c W
  have HF1 : Hid (∀ W, Below w1.heap.size w1 W → Calls Tryz.prog 94 #[.agg #[.int .u8 kk, .string rr, .string nn, .int .i64 dd, .slice A s.length c]] W fun e w' => e = .returned (.bool (fldB kk rr nn dd)) ∧ Below W.heap.size W w') := fun W hW => hasFields_any kk rr nn dd A s.length c W ((hw1 ▸ hV1).below hW) (fun _ => hrr)
  by_cases h0 : srtB kk = 0
  · have hd : decide (srtF kk rr nn dd (s.map Ex.srt) ≠ 0) = false := by unfold srtF; rw [if_neg (fun h => h.1 h0)]; rfl
    have hne : (srtB kk != 0) = false := by rw [bne_eq_false_iff_eq]; exact h0
    rw [hd]
    clear hd h0 hin hby hv ih hIH hsrt hrr hI1 hV1 hC
    go_enter Tryz.func74, Tryz.ntmps74
    go_wp2_with (fail)
    rw [hw1] at HCs HB1
    clear hw1
    have z0 := fun z : Bel w1 => z.cell HCs.out.c0
    have z1 := fun z : Bel w1 => z.cell HCs.out.c1
    have z2 := fun z : Bel w1 => z.cell HCs.out.c2
    have z3 := fun z : Bel w1 => z.cell HCs.out.c3
    have z4 := fun z : Bel w1 => z.cell HCs.out.c4
    simp only [Ex.k, Ex.r, Ex.n, Ex.d, Ex.A, Ex.c, Ex.sub] at z0 z1 z2 z3 z4
    refine wp_region_bel (by kernel_rfl) (by kernel_rfl) ?_
    repeat (go_big_quiet_step (first
      | (go_at_call 69; with_reducible exact Bel.calls HS1.out _)))
    refine wpQuiet_nil ?_
    rintro _ ⟨zz, rfl⟩
    have HZW := Lib.hid (btO HB1.out zz.2)
    generalize zz.1 = w6 at *
    go_wp2_with (fail)
    go_ret
    exact ⟨rfl, HZW.out⟩
  have hne : (srtB kk != 0) = true := by rw [bne_iff_ne]; exact h0
  cases hf : fldB kk rr nn dd
  · have hd : decide (srtF kk rr nn dd (s.map Ex.srt) ≠ 0) = false := by unfold srtF; rw [if_neg (fun h => by rw [hf] at h; exact Bool.false_ne_true h.2.1)]; rfl
    rw [hd]
    rw [hf] at HF1
    clear hd h0 hin hby hv ih hIH hsrt hrr hI1 hV1 hC hf
    go_enter Tryz.func74, Tryz.ntmps74
    go_wp2_with (fail)
    rw [hw1] at HCs HB1
    clear hw1
    have z0 := fun z : Bel w1 => z.cell HCs.out.c0
    have z1 := fun z : Bel w1 => z.cell HCs.out.c1
    have z2 := fun z : Bel w1 => z.cell HCs.out.c2
    have z3 := fun z : Bel w1 => z.cell HCs.out.c3
    have z4 := fun z : Bel w1 => z.cell HCs.out.c4
    simp only [Ex.k, Ex.r, Ex.n, Ex.d, Ex.A, Ex.c, Ex.sub] at z0 z1 z2 z3 z4
    refine wp_region_bel (by kernel_rfl) (by kernel_rfl) ?_
    repeat (go_big_quiet_step (first
      | (go_at_call 69; with_reducible exact Bel.calls HS1.out _)
      | (go_at_call 94; with_reducible exact Bel.calls HF1.out _)))
    refine wpQuiet_nil ?_
    rintro _ ⟨zz, rfl⟩
    have HZW := Lib.hid (btO HB1.out zz.2)
    generalize zz.1 = w6 at *
    go_wp2_with (fail)
    go_ret
    exact ⟨rfl, HZW.out⟩
  · have hd : decide (srtF kk rr nn dd (s.map Ex.srt) ≠ 0) = decide (s.map Ex.srt = prtL kk) := by
      unfold srtF
      by_cases g : s.map Ex.srt = prtL kk
      · rw [if_pos ⟨h0, hf, g⟩]; simp [g, h0]
      · rw [if_neg (fun h => g h.2.2)]; simp [g]
    rw [hd]
    rw [hf] at HF1
    rw [hw1] at hI1 hV1 HB1 HCs
    have HP1 := Lib.hid (fun W (_ : Below w1.heap.size w1 W) => partsOf_any kk W)
    have HX1 : Hid (∀ (W : World) (B : Option Addr) (cb : Nat), Below w1.heap.size w1 W → SlA u8V W B (prtL kk) → Calls Tryz.prog 95 #[.slice A s.length c, .slice B (prtL kk).length cb] W (BoolRO (decide (s.map Ex.srt = prtL kk)) W)) := fun W B cb hW hB => hasParts_any kk rr nn dd A c s (prtL kk) B cb W (hI1.below hW) hB (prtL_12 kk) (prtL_len kk) (hV1.below hW) hIH
    clear hd h0 hin hby hv ih hIH hsrt hrr hI1 hV1 hC hf
    generalize decide (s.map Ex.srt = prtL kk) = rb at *
    generalize prtL kk = pl at *
    go_enter Tryz.func74, Tryz.ntmps74
    go_wp2_with (fail)
    clear hw1
    have k0 : w1.cell? ⟨w.heap.size, 0, none⟩ = some (.int .u8 kk) := HCs.out.c0
    have k1 : w1.cell? ⟨w.heap.size, 1, none⟩ = some (.string rr) := HCs.out.c1
    have k2 : w1.cell? ⟨w.heap.size, 2, none⟩ = some (.string nn) := HCs.out.c2
    have k3 : w1.cell? ⟨w.heap.size, 3, none⟩ = some (.int .i64 dd) := HCs.out.c3
    have k4 : w1.cell? ⟨w.heap.size, 4, none⟩ = some (.slice A s.length c) := HCs.out.c4
    go_region_held3 (fun w' => w'.cell? ⟨w.heap.size, 0, none⟩ = some (.int .u8 kk) ∧ w'.cell? ⟨w.heap.size, 1, none⟩ = some (.string rr) ∧ w'.cell? ⟨w.heap.size, 2, none⟩ = some (.string nn) ∧ w'.cell? ⟨w.heap.size, 3, none⟩ = some (.int .i64 dd) ∧ w'.cell? ⟨w.heap.size, 4, none⟩ = some (.slice A s.length c) ∧ Below w1.heap.size w1 w')
      (((try go_split_ands); (and_intros) <;> first
        | assumption | exact (Below.refl _ _).drew | exact Below.drew (by assumption) | (go_keep; done)))
      (first
        | (go_split_ands; go_at_call 69; refine (HS1.out _ (by assumption)).mono ?_; rintro e w6 ⟨rfl, hb6⟩
           have hB6 : Below w1.heap.size w1 w6 := btO (by assumption) hb6
           have i0 := cellO hB6 k0
           have i1 := cellO hB6 k1
           have i2 := cellO hB6 k2
           have i3 := cellO hB6 k3
           have i4 := cellO hB6 k4)
        | (go_split_ands; go_at_call 94; refine (HF1.out _ (by assumption)).mono ?_; rintro e w7 ⟨rfl, hb7⟩
           have hB7 : Below w1.heap.size w1 w7 := btO (by assumption) hb7
           have i0 := cellO hB7 k0
           have i1 := cellO hB7 k1
           have i2 := cellO hB7 k2
           have i3 := cellO hB7 k3
           have i4 := cellO hB7 k4)
        | (go_split_ands; go_at_call 96; refine (HP1.out _ (by assumption)).mono ?_; rintro e w8 ⟨B8, c8, rfl, hs8, hb8⟩
           have hB8 : Below w1.heap.size w1 w8 := btO (by assumption) hb8
           have HS8 := Lib.hid hs8
           clear hs8
           have i0 := cellO hB8 k0
           have i1 := cellO hB8 k1
           have i2 := cellO hB8 k2
           have i3 := cellO hB8 k3
           have i4 := cellO hB8 k4)
        | (go_split_ands; go_at_call 95; refine (HX1.out _ _ _ (by assumption) HS8.out).mono ?_; rintro e w9 ⟨rfl, hb9⟩
           have hB9 : Below w1.heap.size w1 w9 := btO (by assumption) hb9
           have i0 := cellO hB9 k0
           have i1 := cellO hB9 k1
           have i2 := cellO hB9 k2
           have i3 := cellO hB9 k3
           have i4 := cellO hB9 k4))
    have HZ := Lib.hid (btO HB1.out hB9)
    go_wp2_with (fail)
    go_ret
    exact ⟨rfl, HZ.out⟩
def Ex.chk (t : Ex) : Int := if t.many then 4 else if t.srt = 0 then 8 else 0
set_option maxRecDepth 100000 in
set_option maxHeartbeats 3200000 in
theorem pcheck_anyO (T : Ex) (w : World) (hin : T.In w) (hby : T.byt ≤ 12000) (hv : VarR w) : Calls Tryz.prog 38 #[T.val] w (IntRO T.chk w) := by
  have HB1 := belO w (.cells #[.int .u8 T.k, .string T.r, .string T.n, .int .i64 T.d, .slice T.A T.sub.length T.c] 29)
  have hC : Ex.Box (w.alloc (.cells #[.int .u8 T.k, .string T.r, .string T.n, .int .i64 T.d, .slice T.A T.sub.length T.c] 29)) w.heap.size T := Ex.Box.new w T 29
  obtain ⟨w1, hw1⟩ : ∃ w1, w.alloc (.cells #[.int .u8 T.k, .string T.r, .string T.n, .int .i64 T.d, .slice T.A T.sub.length T.c] 29) = w1 := ⟨_, rfl⟩
  have hs1 : w1.heap.size = w.heap.size + 1 := by rw [← hw1, World.size_alloc]
  rw [hw1] at HB1 hC
  have HB2 := belO w1 (.cells #[.int .i64 500] 3)
  obtain ⟨w2, hw2⟩ : ∃ w2, w1.alloc (.cells #[.int .i64 500] 3) = w2 := ⟨_, rfl⟩
  have hr0 : w2.cell? ⟨w1.heap.size, 0, none⟩ = some (.int .i64 500) := by rw [← hw2, World.cell?_alloc_at _ _ _ _ rfl]; rfl
  have hf0 : w2.frozen? ⟨w1.heap.size, 0, none⟩ = false := by rw [← hw2, World.frozen?_alloc_at _ _ _ _ rfl]
  rw [hw2] at HB2
  have hI1 := hin.below HB1
  have hI2 := hI1.below HB2
  have HQ : Hid (Calls Tryz.prog 73 #[T.val, .int .i64 60, .pointer (some ⟨w1.heap.size, 0, none⟩)] w2 (FitR w1.heap.size (T.fit 60 500).1 (T.fit 60 500).2 w2)) := pfits8_any T 60 w1.heap.size 500 w2 hI2 hI1.lo (by omega) (by omega) (by omega) hr0 hf0
  rw [Ex.fit_many] at HQ
  have HW := Lib.hid (fun W (hW : Below w1.heap.size w2 W) => wellFormed_any T W (hI1.below (HB2.trans hW)) hby ((hv.below HB1).below (HB2.trans hW)))
  have HB := Lib.hid (fun W (hW : Below w1.heap.size w2 W) => btO HB1 (HB2.trans hW))
  have HC2 := Lib.hid (hC.below HB2)
  have HC := Lib.hid (fun W (hW : Below w1.heap.size w2 W) => hC.below (HB2.trans hW))
  rw [hs1] at HQ HW HB HC
  clear hin hby hv HB1 HB2 hr0 hf0 hI1 hI2 hC
  obtain ⟨c0, c1, c2, c3, c4⟩ := HC2.out
  unfold Ex.chk
  cases hm : T.many
  · rw [hm] at HQ
    have hif : (if (false : Bool) = true then (4 : Int) else if T.srt = 0 then 8 else 0) = if T.srt = 0 then 8 else 0 := rfl
    rw [hif]
    by_cases hz : T.srt = 0
    · have hd : decide (T.srt ≠ 0) = false := by rw [decide_eq_false_iff_not]; exact fun h => h hz
      rw [hd] at HW
      rw [if_pos hz]
      clear hm hif hz hd
      go_enter Tryz.func38, Tryz.ntmps38
      go_wp2_with (first
        | (go_at_call 73; ((with_reducible refine HQ.out.mono ?_); rintro x w3 ⟨rfl, hb, -, -⟩; have HY := Lib.hid hb; have HC3 := HC.out _ hb; obtain ⟨e0, e1, e2, e3, e4⟩ := HC3; clear hb))
        | (go_at_call 74; ((with_reducible refine (HW.out _ HY.out).mono ?_); rintro x w4 ⟨rfl, hb⟩; have HZ := Lib.hid (btO (HB.out _ HY.out) hb); clear hb)))
      go_ret
      exact ⟨rfl, HZ.out⟩
    · have hd : decide (T.srt ≠ 0) = true := by rw [decide_eq_true_iff]; exact hz
      rw [hd] at HW
      rw [if_neg hz]
      clear hm hif hz hd
      go_enter Tryz.func38, Tryz.ntmps38
      go_wp2_with (first
        | (go_at_call 73; ((with_reducible refine HQ.out.mono ?_); rintro x w3 ⟨rfl, hb, -, -⟩; have HY := Lib.hid hb; have HC3 := HC.out _ hb; obtain ⟨e0, e1, e2, e3, e4⟩ := HC3; clear hb))
        | (go_at_call 74; ((with_reducible refine (HW.out _ HY.out).mono ?_); rintro x w4 ⟨rfl, hb⟩; have HZ := Lib.hid (btO (HB.out _ HY.out) hb); clear hb)))
      go_ret
      exact ⟨rfl, HZ.out⟩
  · rw [hm] at HQ
    have hif : (if (true : Bool) = true then (4 : Int) else if T.srt = 0 then 8 else 0) = 4 := rfl
    rw [hif]
    clear hm hif
    go_enter Tryz.func38, Tryz.ntmps38
    go_wp2_with (first
      | (go_at_call 73; ((with_reducible refine HQ.out.mono ?_); rintro x w3 ⟨rfl, hb, -, -⟩; have HY := Lib.hid (HB.out _ hb); clear hb)))
    go_ret
    exact ⟨rfl, HY.out⟩
end Go.Proofs.YtalejbabhjlehaaGreatDoor
/- Layer 8: Number, Truth of the program; Size of both; Depth of the reference. -/
namespace Go.Proofs.YtalejbabhjlehaaGreatDoor
open Go Go.RowKit Go.BigFrame
def Ex.isB (t : Ex) (x : Int) : Bool := decide (t.chk = 0 ∧ t.srt = x)
theorem Ex.chk_zero (t : Ex) : t.chk = 0 ↔ t.many = false ∧ t.srt ≠ 0 := by
  unfold Ex.chk
  cases t.many
  · by_cases h : t.srt = 0
    · simp [h]
    · simp [h]
  · simp
theorem Ex.isB_eq (t : Ex) (x : Int) (hx : x = 1 ∨ x = 2) (h : t.chk = 0) : t.isB x = (srtB t.k == x) := by
  unfold Ex.isB
  have h2 := Ex.srt_iff t x hx
  have h3 := ((Ex.chk_zero t).1 h).2
  cases h4 : (srtB t.k == x)
  · rw [beq_eq_false_iff_ne] at h4
    rw [decide_eq_false_iff_not]
    exact fun g => h4 (h2.1 g.2).1
  · rw [beq_iff_eq] at h4
    rw [decide_eq_true_iff]
    exact ⟨h, h2.2 ⟨h4, h3⟩⟩
set_option maxRecDepth 100000 in
set_option maxHeartbeats 3200000 in
theorem pnumber_any (T : Ex) (w : World) (hin : T.In w) (hby : T.byt ≤ 12000) (hv : VarR w) : Calls Tryz.prog 33 #[T.val] w (BoolRO (T.isB 1) w) := by
  obtain ⟨kk, rr, nn, dd, A, c, s⟩ := T
  have HB1 := belO w (.cells #[.int .u8 kk, .string rr, .string nn, .int .i64 dd, .slice A s.length c] 29)
  have hC : Ex.Box (w.alloc (.cells #[.int .u8 kk, .string rr, .string nn, .int .i64 dd, .slice A s.length c] 29)) w.heap.size (.mk kk rr nn dd A c s) := Ex.Box.new w (.mk kk rr nn dd A c s) 29
  obtain ⟨w1, hw1⟩ : ∃ w1, w.alloc (.cells #[.int .u8 kk, .string rr, .string nn, .int .i64 dd, .slice A s.length c] 29) = w1 := ⟨_, rfl⟩
  rw [hw1] at HB1 hC
  have HQ : Hid (Calls Tryz.prog 38 #[.agg #[.int .u8 kk, .string rr, .string nn, .int .i64 dd, .slice A s.length c]] w1 (IntRO (Ex.chk (.mk kk rr nn dd A c s)) w1)) := pcheck_anyO (.mk kk rr nn dd A c s) w1 (hin.below HB1) hby (hv.below HB1)
  have HS := Lib.hid (fun W => sortOf_any kk rr nn dd A s.length c W)
  have HB := Lib.hid HB1
  have HC := Lib.hid hC
  show Calls Tryz.prog 33 #[.agg #[.int .u8 kk, .string rr, .string nn, .int .i64 dd, .slice A s.length c]] w _
  by_cases h0 : Ex.chk (.mk kk rr nn dd A c s) = 0
  · rw [Ex.isB_eq _ 1 (by simp) h0]
    rw [h0] at HQ
    have k0 : w1.cell? ⟨w.heap.size, 0, none⟩ = some (.int .u8 kk) := hC.c0
    have k1 : w1.cell? ⟨w.heap.size, 1, none⟩ = some (.string rr) := hC.c1
    have k2 : w1.cell? ⟨w.heap.size, 2, none⟩ = some (.string nn) := hC.c2
    have k3 : w1.cell? ⟨w.heap.size, 3, none⟩ = some (.int .i64 dd) := hC.c3
    have k4 : w1.cell? ⟨w.heap.size, 4, none⟩ = some (.slice A s.length c) := hC.c4
    show Calls Tryz.prog 33 #[.agg #[.int .u8 kk, .string rr, .string nn, .int .i64 dd, .slice A s.length c]] w (BoolRO (srtB kk == 1) w)
    clear hin hby hv HB1 h0 hC
    go_enter Tryz.func33, Tryz.ntmps33
    go_wp2_with (first
      | (go_at_call 38; ((with_reducible refine HQ.out.mono ?_); rintro x w3 ⟨rfl, hb⟩; have e0 := cellO hb k0; have e1 := cellO hb k1; have e2 := cellO hb k2; have e3 := cellO hb k3; have e4 := cellO hb k4; have HY := Lib.hid (btO HB.out hb); clear hb))
      | (go_at_call 69; ((with_reducible refine (HS.out _).mono ?_); rintro x w4 ⟨rfl, hb⟩; have HZ := Lib.hid (btO HY.out hb); clear hb)))
    go_ret
    exact ⟨rfl, HZ.out⟩
  · have hd : Ex.isB (.mk kk rr nn dd A c s) 1 = false := by unfold Ex.isB; rw [decide_eq_false_iff_not]; exact fun g => h0 g.1
    rw [hd]
    have k0 : w1.cell? ⟨w.heap.size, 0, none⟩ = some (.int .u8 kk) := hC.c0
    have k1 : w1.cell? ⟨w.heap.size, 1, none⟩ = some (.string rr) := hC.c1
    have k2 : w1.cell? ⟨w.heap.size, 2, none⟩ = some (.string nn) := hC.c2
    have k3 : w1.cell? ⟨w.heap.size, 3, none⟩ = some (.int .i64 dd) := hC.c3
    have k4 : w1.cell? ⟨w.heap.size, 4, none⟩ = some (.slice A s.length c) := hC.c4
    generalize Ex.chk (.mk kk rr nn dd A c s) = n at *
    have hz : (n == 0) = false := by rw [beq_eq_false_iff_ne]; exact h0
    clear hin hby hv HB1 h0 hd hC
    go_enter Tryz.func33, Tryz.ntmps33
    go_wp2_with (first
      | (go_at_call 38; ((with_reducible refine HQ.out.mono ?_); rintro x w3 ⟨rfl, hb⟩; have HY := Lib.hid (btO HB.out hb); clear hb)))
    go_ret
    exact ⟨rfl, HY.out⟩
set_option maxRecDepth 100000 in
set_option maxHeartbeats 3200000 in
theorem ptruth_any (T : Ex) (w : World) (hin : T.In w) (hby : T.byt ≤ 12000) (hv : VarR w) : Calls Tryz.prog 34 #[T.val] w (BoolRO (T.isB 2) w) := by
  obtain ⟨kk, rr, nn, dd, A, c, s⟩ := T
  have HB1 := belO w (.cells #[.int .u8 kk, .string rr, .string nn, .int .i64 dd, .slice A s.length c] 29)
  have hC : Ex.Box (w.alloc (.cells #[.int .u8 kk, .string rr, .string nn, .int .i64 dd, .slice A s.length c] 29)) w.heap.size (.mk kk rr nn dd A c s) := Ex.Box.new w (.mk kk rr nn dd A c s) 29
  obtain ⟨w1, hw1⟩ : ∃ w1, w.alloc (.cells #[.int .u8 kk, .string rr, .string nn, .int .i64 dd, .slice A s.length c] 29) = w1 := ⟨_, rfl⟩
  rw [hw1] at HB1 hC
  have HQ : Hid (Calls Tryz.prog 38 #[.agg #[.int .u8 kk, .string rr, .string nn, .int .i64 dd, .slice A s.length c]] w1 (IntRO (Ex.chk (.mk kk rr nn dd A c s)) w1)) := pcheck_anyO (.mk kk rr nn dd A c s) w1 (hin.below HB1) hby (hv.below HB1)
  have HS := Lib.hid (fun W => sortOf_any kk rr nn dd A s.length c W)
  have HB := Lib.hid HB1
  have HC := Lib.hid hC
  show Calls Tryz.prog 34 #[.agg #[.int .u8 kk, .string rr, .string nn, .int .i64 dd, .slice A s.length c]] w _
  by_cases h0 : Ex.chk (.mk kk rr nn dd A c s) = 0
  · rw [Ex.isB_eq _ 2 (by simp) h0]
    rw [h0] at HQ
    have k0 : w1.cell? ⟨w.heap.size, 0, none⟩ = some (.int .u8 kk) := hC.c0
    have k1 : w1.cell? ⟨w.heap.size, 1, none⟩ = some (.string rr) := hC.c1
    have k2 : w1.cell? ⟨w.heap.size, 2, none⟩ = some (.string nn) := hC.c2
    have k3 : w1.cell? ⟨w.heap.size, 3, none⟩ = some (.int .i64 dd) := hC.c3
    have k4 : w1.cell? ⟨w.heap.size, 4, none⟩ = some (.slice A s.length c) := hC.c4
    show Calls Tryz.prog 34 #[.agg #[.int .u8 kk, .string rr, .string nn, .int .i64 dd, .slice A s.length c]] w (BoolRO (srtB kk == 2) w)
    clear hin hby hv HB1 h0 hC
    go_enter Tryz.func34, Tryz.ntmps34
    go_wp2_with (first
      | (go_at_call 38; ((with_reducible refine HQ.out.mono ?_); rintro x w3 ⟨rfl, hb⟩; have e0 := cellO hb k0; have e1 := cellO hb k1; have e2 := cellO hb k2; have e3 := cellO hb k3; have e4 := cellO hb k4; have HY := Lib.hid (btO HB.out hb); clear hb))
      | (go_at_call 69; ((with_reducible refine (HS.out _).mono ?_); rintro x w4 ⟨rfl, hb⟩; have HZ := Lib.hid (btO HY.out hb); clear hb)))
    go_ret
    exact ⟨rfl, HZ.out⟩
  · have hd : Ex.isB (.mk kk rr nn dd A c s) 2 = false := by unfold Ex.isB; rw [decide_eq_false_iff_not]; exact fun g => h0 g.1
    rw [hd]
    have k0 : w1.cell? ⟨w.heap.size, 0, none⟩ = some (.int .u8 kk) := hC.c0
    have k1 : w1.cell? ⟨w.heap.size, 1, none⟩ = some (.string rr) := hC.c1
    have k2 : w1.cell? ⟨w.heap.size, 2, none⟩ = some (.string nn) := hC.c2
    have k3 : w1.cell? ⟨w.heap.size, 3, none⟩ = some (.int .i64 dd) := hC.c3
    have k4 : w1.cell? ⟨w.heap.size, 4, none⟩ = some (.slice A s.length c) := hC.c4
    generalize Ex.chk (.mk kk rr nn dd A c s) = n at *
    have hz : (n == 0) = false := by rw [beq_eq_false_iff_ne]; exact h0
    clear hin hby hv HB1 h0 hd hC
    go_enter Tryz.func34, Tryz.ntmps34
    go_wp2_with (first
      | (go_at_call 38; ((with_reducible refine HQ.out.mono ?_); rintro x w3 ⟨rfl, hb⟩; have HY := Lib.hid (btO HB.out hb); clear hb)))
    go_ret
    exact ⟨rfl, HY.out⟩
theorem Ex.dep_le_siz (t : Ex) : t.dep ≤ t.siz := by
  induction t using Ex.ind with
  | h k r n d A c s ih =>
    have hp : 1 ≤ Ex.siz (.mk k r n d A c s) := Ex.siz_pos _
    obtain ⟨b, hb⟩ : ∃ b, Ex.siz (.mk k r n d A c s) = b + 1 := ⟨_, (Nat.sub_add_cancel hp).symm⟩
    rw [hb, Ex.dep_le]
    intro t ht
    have h1 := Ex.siz_sub (k := k) (r := r) (n := n) (d := d) (A := A) (c := c) ht
    have h2 := ih t ht
    omega
set_option maxRecDepth 100000 in
set_option maxHeartbeats 3200000 in
theorem rsize8_any (T : Ex) : ∀ (w : World), T.In w → T.siz ≤ 600 → Calls Tryz.prog 55 #[T.val] w (IntRO T.siz w) := by
  induction T using Ex.ind with
  | h kk rr nn dd A c s ih =>
  intro w hin hz
  have HB1 := Lib.hid (belO w (.cells #[.int .u8 kk, .string rr, .string nn, .int .i64 dd, .slice A s.length c] 29))
  have HI := Lib.hid (hin.below HB1.out)
  have HC : Hid (Ex.Box (w.alloc (.cells #[.int .u8 kk, .string rr, .string nn, .int .i64 dd, .slice A s.length c] 29)) w.heap.size (.mk kk rr nn dd A c s)) := Ex.Box.new w (.mk kk rr nn dd A c s) 29
  have IH := Lib.hid ih
  have HZ := Lib.hid hz
  have hbd := hin.bd
  obtain ⟨-, -, -, -, -, -, hl1, hc1, -⟩ := hbd
  have hl63 : s.length ≤ 9223372036854775807 := by have : s.length ≤ 140737488351232 := hc1; omega
  have hE := Ex.siz_mk kk rr nn dd A c s
  obtain ⟨Y, hY⟩ : ∃ Y, (Ex.mk kk rr nn dd A c s).siz = Y := ⟨_, rfl⟩
  have hYz : Y ≤ 600 := by rw [← hY]; exact hz
  rw [hY] at hE ⊢
  have HE := Lib.hid hE
  have c4 : (w.alloc (.cells #[.int .u8 kk, .string rr, .string nn, .int .i64 dd, .slice A s.length c] 29)).cell? ⟨w.heap.size, 4, none⟩ = some (.slice A s.length c) := HC.out.c4
  clear hE hin ih hz hl1 hc1 hY
  show Calls Tryz.prog 55 #[.agg #[.int .u8 kk, .string rr, .string nn, .int .i64 dd, .slice A s.length c]] w _
  go_enter Tryz.func55, Tryz.ntmps55
  go_wp2_with (fail)
  clear c4
  generalize w.alloc (.cells #[.int .u8 kk, .string rr, .string nn, .int .i64 dd, .slice A s.length c] 29) = w1 at *
  go_loopw [3, 4] (fun v i wr => ∃ (n k : Nat), k ≤ s.length ∧ v = .int .i64 n ∧ i = .int .i64 k ∧ n ≤ 600 ∧ Hid (n = 1 + ((s.take k).map Ex.siz).sum) ∧ Hid (Below w1.heap.size w1 wr)) (fun _ i _ => s.length - (intOf i).toNat)
  case atStart => exact ⟨1, 0, by omega, rfl, rfl, by have := HE.out; omega, rfl, Below.refl _ _⟩
  case round =>
    obtain ⟨n, k, hk, rfl, rfl, hnY, HR, HW⟩ := hrel
    have b4 : wr.cell? ⟨w.heap.size, 4, none⟩ = some (.slice A s.length c) := (HC.out.below HW.out).c4
    by_cases hlt : k < s.length
    · have HIW := Lib.hid (HI.out.below HW.out)
      obtain ⟨b, o, rfl, -, hpi, d0, d1, d2, d3, d4⟩ := HIW.out.part hlt
      have hm : s[k] ∈ s := List.getElem_mem hlt
      have hsz : s[k].siz ≤ 600 := by have := Ex.siz_sub (k := kk) (r := rr) (n := nn) (d := dd) (A := none) (c := c) hm; have := HZ.out; rw [Ex.siz_mk] at *; omega
      have HQ := Lib.hid (IH.out s[k] hm _ hpi hsz)
      have HWW := HW
      have hs := sum_take Ex.siz s k hlt
      have hs2 := sum_take_le Ex.siz s (k + 1)
      have HR2 : Hid (n + s[k].siz = 1 + ((s.take (k + 1)).map Ex.siz).sum) := by show _ = _; rw [hs]; have := HR.out; omega
      have hnY2 : n + s[k].siz ≤ 600 := by have := HR2.out; have := HE.out; omega
      generalize s[k] = t at *
      clear hpi hm HI IH hs hs2 HR hsz
      generalize t.siz = m at *
      go_wp2_with (go_at_call 55; ((with_reducible refine HQ.out.mono ?_); rintro x w2 ⟨rfl, hb⟩; have HW2 := Lib.hid (btO HWW.out hb); clear hb))
      go_roundw
      case rel => exact ⟨n + m, k + 1, by omega, by go_num, by go_num, by omega, HR2, HW2⟩
      case measure => simp [intOf]; omega
    · obtain rfl : k = s.length := by omega
      obtain rfl : n = Y := by have h1 := HR.out; have h2 := HE.out; rw [List.take_length] at h1; omega
      clear HR HE
      go_wp2_with (fail)
      go_ret
      exact ⟨rfl, btO HB1.out HW.out⟩
set_option maxRecDepth 100000 in
set_option maxHeartbeats 3200000 in
theorem psize8_any (T : Ex) : ∀ (w : World), T.In w → T.siz ≤ 600 → Calls Tryz.prog 39 #[T.val] w (IntRO T.siz w) := by
  induction T using Ex.ind with
  | h kk rr nn dd A c s ih =>
  intro w hin hz
  have HB1 := Lib.hid (belO w (.cells #[.int .u8 kk, .string rr, .string nn, .int .i64 dd, .slice A s.length c] 29))
  have HI := Lib.hid (hin.below HB1.out)
  have HC : Hid (Ex.Box (w.alloc (.cells #[.int .u8 kk, .string rr, .string nn, .int .i64 dd, .slice A s.length c] 29)) w.heap.size (.mk kk rr nn dd A c s)) := Ex.Box.new w (.mk kk rr nn dd A c s) 29
  have IH := Lib.hid ih
  have HZ := Lib.hid hz
  have hbd := hin.bd
  obtain ⟨-, -, -, -, -, -, hl1, hc1, -⟩ := hbd
  have hl63 : s.length ≤ 9223372036854775807 := by have : s.length ≤ 140737488351232 := hc1; omega
  have hE := Ex.siz_mk kk rr nn dd A c s
  obtain ⟨Y, hY⟩ : ∃ Y, (Ex.mk kk rr nn dd A c s).siz = Y := ⟨_, rfl⟩
  have hYz : Y ≤ 600 := by rw [← hY]; exact hz
  rw [hY] at hE ⊢
  have HE := Lib.hid hE
  have c4 : (w.alloc (.cells #[.int .u8 kk, .string rr, .string nn, .int .i64 dd, .slice A s.length c] 29)).cell? ⟨w.heap.size, 4, none⟩ = some (.slice A s.length c) := HC.out.c4
  clear hE hin ih hz hl1 hc1 hY
  show Calls Tryz.prog 39 #[.agg #[.int .u8 kk, .string rr, .string nn, .int .i64 dd, .slice A s.length c]] w _
  go_enter Tryz.func39, Tryz.ntmps39
  go_wp2_with (fail)
  clear c4
  generalize w.alloc (.cells #[.int .u8 kk, .string rr, .string nn, .int .i64 dd, .slice A s.length c] 29) = w1 at *
  go_loopw [3, 9] (fun v i wr => ∃ (n k : Nat), k ≤ s.length ∧ v = .int .i64 n ∧ i = .int .i64 k ∧ n ≤ 600 ∧ Hid (n = 1 + ((s.take k).map Ex.siz).sum) ∧ Hid (Below w1.heap.size w1 wr)) (fun _ i _ => s.length - (intOf i).toNat)
  case atStart => exact ⟨1, 0, by omega, rfl, rfl, by have := HE.out; omega, rfl, Below.refl _ _⟩
  case round =>
    obtain ⟨n, k, hk, rfl, rfl, hnY, HR, HW⟩ := hrel
    by_cases hlt : k < s.length
    · have HIW := Lib.hid (HI.out.below HW.out)
      obtain ⟨b, o, rfl, -, hpi, d0, d1, d2, d3, d4⟩ := HIW.out.part hlt
      have hm : s[k] ∈ s := List.getElem_mem hlt
      have hsz : s[k].siz ≤ 600 := by have := Ex.siz_sub (k := kk) (r := rr) (n := nn) (d := dd) (A := none) (c := c) hm; have := HZ.out; rw [Ex.siz_mk] at *; omega
      have HBt := Lib.hid (belO wr (.cells #[.int .u8 s[k].k, .string s[k].r, .string s[k].n, .int .i64 s[k].d, .slice s[k].A s[k].sub.length s[k].c] 29))
      have HQ := Lib.hid (IH.out s[k] hm _ (hpi.below HBt.out) hsz)
      have HWW := Lib.hid (btO HW.out HBt.out)
      have hs := sum_take Ex.siz s k hlt
      have hs2 := sum_take_le Ex.siz s (k + 1)
      have HR2 : Hid (n + s[k].siz = 1 + ((s.take (k + 1)).map Ex.siz).sum) := by show _ = _; rw [hs]; have := HR.out; omega
      have hnY2 : n + s[k].siz ≤ 600 := by have := HR2.out; have := HE.out; omega
      generalize s[k] = t at *
      clear hpi hm HI IH hs hs2 HR hsz
      generalize t.siz = m at *
      go_wp2_with (go_at_call 39; ((with_reducible refine HQ.out.mono ?_); rintro x w2 ⟨rfl, hb⟩; have HW2 := Lib.hid (btO HWW.out hb); clear hb))
      go_roundw
      case rel => exact ⟨n + m, k + 1, by omega, by go_num, by go_num, by omega, HR2, HW2⟩
      case measure => simp [intOf]; omega
    · obtain rfl : k = s.length := by omega
      obtain rfl : n = Y := by have h1 := HR.out; have h2 := HE.out; rw [List.take_length] at h1; omega
      clear HR HE
      go_wp2_with (fail)
      go_ret
      exact ⟨rfl, btO HB1.out HW.out⟩
set_option maxRecDepth 100000 in
set_option maxHeartbeats 3200000 in
theorem rdepth8_any (T : Ex) : ∀ (w : World), T.In w → T.siz ≤ 600 → Calls Tryz.prog 40 #[T.val] w (IntRO T.dep w) := by
  induction T using Ex.ind with
  | h kk rr nn dd A c s ih =>
  intro w hin hz
  have HB1 := Lib.hid (belO w (.cells #[.int .u8 kk, .string rr, .string nn, .int .i64 dd, .slice A s.length c] 29))
  have HI := Lib.hid (hin.below HB1.out)
  have HC : Hid (Ex.Box (w.alloc (.cells #[.int .u8 kk, .string rr, .string nn, .int .i64 dd, .slice A s.length c] 29)) w.heap.size (.mk kk rr nn dd A c s)) := Ex.Box.new w (.mk kk rr nn dd A c s) 29
  have IH := Lib.hid ih
  have HZ := Lib.hid hz
  have hbd := hin.bd
  obtain ⟨-, -, -, -, -, -, hl1, hc1, -⟩ := hbd
  have hl63 : s.length ≤ 9223372036854775807 := by have : s.length ≤ 140737488351232 := hc1; omega
  have hE := Ex.dep_mk kk rr nn dd A c s
  obtain ⟨Y, hY⟩ : ∃ Y, (Ex.mk kk rr nn dd A c s).dep = Y := ⟨_, rfl⟩
  have hYz : Y ≤ 600 := by rw [← hY]; exact Nat.le_trans (Ex.dep_le_siz _) hz
  rw [hY] at hE ⊢
  have HE := Lib.hid hE
  have c4 : (w.alloc (.cells #[.int .u8 kk, .string rr, .string nn, .int .i64 dd, .slice A s.length c] 29)).cell? ⟨w.heap.size, 4, none⟩ = some (.slice A s.length c) := HC.out.c4
  clear hE hin ih hz hl1 hc1 hY
  show Calls Tryz.prog 40 #[.agg #[.int .u8 kk, .string rr, .string nn, .int .i64 dd, .slice A s.length c]] w _
  go_enter Tryz.func40, Tryz.ntmps40
  go_wp2_with (fail)
  clear c4
  generalize w.alloc (.cells #[.int .u8 kk, .string rr, .string nn, .int .i64 dd, .slice A s.length c] 29) = w1 at *
  go_loopw [3, 4] (fun v i wr => ∃ (n k : Nat), k ≤ s.length ∧ v = .int .i64 n ∧ i = .int .i64 k ∧ n ≤ 600 ∧ Hid (n = ((s.take k).map Ex.dep).foldl max 0) ∧ Hid (Below w1.heap.size w1 wr)) (fun _ i _ => s.length - (intOf i).toNat)
  case atStart => exact ⟨0, 0, by omega, rfl, rfl, by omega, rfl, Below.refl _ _⟩
  case round =>
    obtain ⟨n, k, hk, rfl, rfl, hnY, HR, HW⟩ := hrel
    have b4 : wr.cell? ⟨w.heap.size, 4, none⟩ = some (.slice A s.length c) := (HC.out.below HW.out).c4
    by_cases hlt : k < s.length
    · have HIW := Lib.hid (HI.out.below HW.out)
      obtain ⟨b, o, rfl, -, hpi, d0, d1, d2, d3, d4⟩ := HIW.out.part hlt
      have hm : s[k] ∈ s := List.getElem_mem hlt
      have hsz : s[k].siz ≤ 600 := by have := Ex.siz_sub (k := kk) (r := rr) (n := nn) (d := dd) (A := none) (c := c) hm; have := HZ.out; rw [Ex.siz_mk] at *; omega
      have HQ := Lib.hid (IH.out s[k] hm _ hpi hsz)
      have HWW := HW
      have hs := max_take Ex.dep s k hlt
      have HR2 : Hid (max n s[k].dep = ((s.take (k + 1)).map Ex.dep).foldl max 0) := by show _ = _; rw [hs, HR.out]
      have hsd : s[k].dep ≤ 600 := Nat.le_trans (Ex.dep_le_siz _) hsz
      generalize s[k] = t at *
      clear hpi hm HI IH hs HR hsz
      generalize t.dep = m at *
      go_wp2_with (go_at_call 40; ((with_reducible refine HQ.out.mono ?_); rintro x w2 ⟨rfl, hb⟩; have HW2 := Lib.hid (btO HWW.out hb); clear hb))
      go_roundw
      case rel => exact ⟨max n m, k + 1, by omega, by go_num, by go_num, by omega, HR2, HW2⟩
      case measure => simp [intOf]; omega
    · obtain rfl : k = s.length := by omega
      obtain rfl : Y = n + 1 := by have h1 := HR.out; have h2 := HE.out; rw [List.take_length] at h1; omega
      clear HR HE
      go_wp2_with (fail)
      go_ret
      exact ⟨by go_num, btO HB1.out HW.out⟩
end Go.Proofs.YtalejbabhjlehaaGreatDoor
/- Layer 9: the statements' guard of contracts: count, weight, Great. -/
namespace Go.Proofs.YtalejbabhjlehaaGreatDoor
open Go Go.RowKit
set_option maxRecDepth 100000 in
set_option maxHeartbeats 3200000 in
theorem rcount9_any (T : Ct) : ∀ (L : Int) (D : Nat) (w : World), T.In w → 0 ≤ L → L ≤ 1000 → D ≤ 1000 →
    Calls Tryz.prog 49 #[T.val, .int .i64 L, .int .i64 D] w (CntR (T.cnt L D).1 (T.cnt L D).2 w) := by
  induction T using Ct.ind with
  | h kk ff tt nn X dd DA dl dc A c s ih =>
  intro L D w hin hL0 hL1 hD
  have HB := Lib.hid (belO w)
  have hl : s.length ≤ 140737488351232 := hin.bd.c1
  rcases Nat.eq_zero_or_pos D with rfl | hD0
  · show Calls Tryz.prog 49 #[.agg #[.int .u8 kk, .string ff, .string tt, .string nn, .int .u8 X.k, .string X.r, .string X.n, .int .i64 X.d, .slice X.A X.sub.length X.c, .int .i64 dd, .slice DA dl.length dc, .slice A s.length c], .int .i64 L, .int .i64 (0 : Nat)] w _
    rw [Ct.cnt_mk, if_pos rfl]
    clear hin ih
    go_enter Tryz.func49, Tryz.ntmps49
    go_wp2_with (fail)
    go_ret2
    exact ⟨rfl, HB.out _⟩
  · show Calls Tryz.prog 49 #[.agg #[.int .u8 kk, .string ff, .string tt, .string nn, .int .u8 X.k, .string X.r, .string X.n, .int .i64 X.d, .slice X.A X.sub.length X.c, .int .i64 dd, .slice DA dl.length dc, .slice A s.length c], .int .i64 L, .int .i64 D] w _
    rw [Ct.cnt_mk, if_neg (by omega)]
    have HB1 := Lib.hid (HB.out (.cells #[.int .u8 kk, .string ff, .string tt, .string nn, .int .u8 X.k, .string X.r, .string X.n, .int .i64 X.d, .slice X.A X.sub.length X.c, .int .i64 dd, .slice DA dl.length dc, .slice A s.length c] 32))
    have HI := Lib.hid (hin.below HB1.out)
    have HC : Hid (Ct.Box (w.alloc (.cells #[.int .u8 kk, .string ff, .string tt, .string nn, .int .u8 X.k, .string X.r, .string X.n, .int .i64 X.d, .slice X.A X.sub.length X.c, .int .i64 dd, .slice DA dl.length dc, .slice A s.length c] 32)) w.heap.size (.mk kk ff tt nn X dd DA dl dc A c s)) := Ct.Box.new w (.mk kk ff tt nn X dd DA dl dc A c s) 32
    have IH := Lib.hid ih
    obtain ⟨Dz, rfl⟩ : ∃ Dz, D = Dz + 1 := ⟨D - 1, by omega⟩
    simp only [Nat.add_sub_cancel]
    rw [show ((Dz + 1 : Nat) : Int) = (Dz : Int) + 1 from rfl]
    obtain ⟨R1, hR1⟩ : ∃ x, (Ct.cnts s L Dz 1).1 = x := ⟨_, rfl⟩
    obtain ⟨R2, hR2⟩ : ∃ x, (Ct.cnts s L Dz 1).2 = x := ⟨_, rfl⟩
    have HR0 : Hid (Ct.cnts s L Dz 1 = (R1, R2)) := by show _ = _; rw [← hR1, ← hR2]
    rw [hR1, hR2]
    have hz : ((Dz : Int) + 1 == 0) = false := by rw [beq_eq_false_iff_ne]; omega
    clear hin ih hR1 hR2 HB
    go_enter Tryz.func49, Tryz.ntmps49
    go_wp2_with (fail)
    have hl63 : s.length ≤ 9223372036854775807 := by omega
    clear hl
    generalize w.alloc (.cells #[.int .u8 kk, .string ff, .string tt, .string nn, .int .u8 X.k, .string X.r, .string X.n, .int .i64 X.d, .slice X.A X.sub.length X.c, .int .i64 dd, .slice DA dl.length dc, .slice A s.length c] 32) = w1 at *
    go_loopw [8, 9] (fun v i wr => ∃ (n : Int) (k : Nat), k ≤ s.length ∧ v = .int .i64 n ∧ i = .int .i64 k ∧ 1 ≤ n ∧ n ≤ L + 1 ∧ Hid (Ct.cnts (s.drop k) L Dz n = (R1, R2)) ∧ Hid (Below w1.heap.size w1 wr)) (fun _ i _ => s.length - (intOf i).toNat)
    case atStart => exact ⟨1, 0, by omega, rfl, rfl, by omega, by omega, by rw [List.drop_zero]; exact HR0, Below.refl _ _⟩
    case round =>
      obtain ⟨n, k, hk, rfl, rfl, hn1, hn2, HR, HW⟩ := hrel
      have b4 : wr.cell? ⟨w.heap.size, 11, none⟩ = some (.slice A s.length c) := (HC.out.below HW.out).c11
      by_cases hlt : k < s.length
      · by_cases hnL : n ≤ L
        · have HIW := Lib.hid (HI.out.below HW.out)
          obtain ⟨b, o, rfl, -, hpi, d0, d1, d2, d3, d4, d5, d6, d7, d8, d9, d10, d11⟩ := HIW.out.part hlt
          have HP := Lib.hid (show Ct.In wr s[k] from hpi)
          have hm : s[k] ∈ s := List.getElem_mem hlt
          have HJ := Lib.hid (IH.out s[k] hm)
          have hdr : s.drop k = s[k] :: s.drop (k + 1) := List.drop_eq_getElem_cons hlt
          rw [hdr] at HR
          generalize s[k] = t at *
          clear hdr hpi hm HI IH
          obtain ⟨m1, m2, -⟩ := Ct.cnt_facts t (L - n) Dz (by omega)
          have HRR := Lib.hid (HR.out.symm.trans (Ct.cnts_cons t _ L Dz n))
          clear HR
          obtain ⟨m, hm⟩ : ∃ m, (t.cnt (L - n) Dz).1 = m := ⟨_, rfl⟩
          have HQ := Lib.hid (HJ.out (L - n) Dz _ HP.out (by omega) (by omega) (by omega))
          cases hb2 : (t.cnt (L - n) Dz).2
          all_goals
            rw [hm, hb2] at HQ
            rw [hm] at m1 m2
            rw [if_pos hnL, hb2, hm] at HRR
            clear HJ hm hb2
          · have hRR : (R1, R2) = (n, false) := HRR.out
            injection hRR with e1 e2
            subst e1 e2
            clear HRR
            go_wp2_with (go_at_call 49; ((with_reducible refine HQ.out.mono ?_); rintro x w2 ⟨rfl, hb⟩; have HW2 := Lib.hid (btO HW.out hb); clear hb))
            go_ret2
            exact ⟨rfl, btO HB1.out HW2.out⟩
          · have HR2 : Hid (Ct.cnts (List.drop (k + 1) s) L Dz (n + m) = (R1, R2)) := HRR.out.symm
            clear HRR
            go_wp2_with (go_at_call 49; ((with_reducible refine HQ.out.mono ?_); rintro x w2 ⟨rfl, hb⟩; have HW2 := Lib.hid (btO HW.out hb); clear hb))
            go_roundw
            case rel => exact ⟨n + m, k + 1, by omega, by go_num, by go_num, by omega, by omega, HR2, HW2⟩
            case measure => simp [intOf]; omega
        · have hRR := HR.out.symm.trans (Ct.cnts_past _ _ _ _ (by omega))
          injection hRR with e1 e2
          subst e1 e2
          clear HR
          go_wp2_with (fail)
          go_ret2
          exact ⟨rfl, btO HB1.out HW.out⟩
      · obtain rfl : k = s.length := by omega
        have hRR : (R1, R2) = (n, true) := by have := HR.out; rw [List.drop_length, Ct.cnts_nil] at this; exact this.symm
        injection hRR with e1 e2
        subst e1 e2
        clear HR HR0
        go_wp2_with (fail)
        go_ret2
        exact ⟨rfl, btO HB1.out HW.out⟩
theorem Ct.wgts_le (s : List Ct) (C : Int) (ih : ∀ t ∈ s, t.wgt ≤ t.num * C) : ∀ n : Int, 0 ≤ C → Ct.wgts s n ≤ n + ((s.map Ct.num).sum : Nat) * C := by
  induction s with
  | nil => intro n h; rw [Ct.wgts_nil]; simp
  | cons t l ih2 =>
    intro n h
    rw [Ct.wgts_cons, List.map_cons, List.sum_cons]
    have h1 := ih t (List.mem_cons_self ..)
    have h3 : 0 ≤ ((l.map Ct.num).sum : Nat) * C := Int.mul_nonneg (Int.natCast_nonneg _) h
    have h4 : 0 ≤ (t.num : Int) * C := Int.mul_nonneg (Int.natCast_nonneg _) h
    rw [Int.natCast_add, Int.add_mul]
    split
    · have := ih2 (fun u hu => ih u (List.mem_cons_of_mem _ hu)) (n + t.wgt) h
      omega
    · omega
theorem Ct.In.wgt_le {w : World} {T : Ct} (h : T.In w) : T.wgt ≤ T.num * 703687441960000 := by
  induction T using Ct.ind with
  | h kk ff tt nn X dd DA dl dc A c s ih =>
    rw [Ct.wgt_mk, Ct.num_mk]
    split
    · have : 0 ≤ ((s.map Ct.num).sum : Nat) := Nat.zero_le _
      omega
    · next hg =>
      have hg : X.grt = false := by simpa using hg
      have hz := (Ex.grt_not hg).1
      have hb := h.bd
      have h1 : ff.size ≤ 140737488351232 := hb.f1
      have h2 : tt.size ≤ 140737488351232 := hb.t1
      have h3 : nn.size ≤ 140737488351232 := hb.n1
      have h4 : dl.length ≤ 140737488351232 := hb.a2
      have h5 := Ct.wgts_le s 703687441960000 (fun t ht => by
        obtain ⟨j, hj, rfl⟩ := List.getElem_of_mem ht
        exact ih _ ht (((Ct.in_mk ..).1 h).2.2.2 j hj).2) (Ct.own ff tt nn X dl) (by omega)
      have h6 : Ct.own ff tt nn X dl = (ff.size : Int) + tt.size + nn.size + dl.length + 4 * X.siz := rfl
      omega
set_option maxRecDepth 100000 in
set_option maxHeartbeats 3200000 in
theorem rweight9_any (T : Ct) : ∀ (w : World), T.In w → T.num ≤ 600 → Calls Tryz.prog 50 #[T.val] w (IntRO T.wgt w) := by
  induction T using Ct.ind with
  | h kk ff tt nn X dd DA dl dc A c s ih =>
  intro w hin hz
  have HB1 := Lib.hid (belO w (.cells #[.int .u8 kk, .string ff, .string tt, .string nn, .int .u8 X.k, .string X.r, .string X.n, .int .i64 X.d, .slice X.A X.sub.length X.c, .int .i64 dd, .slice DA dl.length dc, .slice A s.length c] 32))
  have HI := Lib.hid (hin.below HB1.out)
  have HC : Hid (Ct.Box (w.alloc (.cells #[.int .u8 kk, .string ff, .string tt, .string nn, .int .u8 X.k, .string X.r, .string X.n, .int .i64 X.d, .slice X.A X.sub.length X.c, .int .i64 dd, .slice DA dl.length dc, .slice A s.length c] 32)) w.heap.size (.mk kk ff tt nn X dd DA dl dc A c s)) := Ct.Box.new w (.mk kk ff tt nn X dd DA dl dc A c s) 32
  have IH := Lib.hid ih
  have HZ := Lib.hid hz
  have HG := Lib.hid (fun W hW => great_anyO X W (hin.ex.below hW))
  have HS := Lib.hid (fun W hW (hs : X.siz ≤ 600) => rsize8_any X W (hin.ex.below hW) hs)
  have hbd := hin.bd
  have hl63 : s.length ≤ 9223372036854775807 := by have : s.length ≤ 140737488351232 := hbd.c1; omega
  have hf : (ff.size : Int) ≤ 140737488351232 := by have : ff.size ≤ 140737488351232 := hbd.f1; omega
  have ht : (tt.size : Int) ≤ 140737488351232 := by have : tt.size ≤ 140737488351232 := hbd.t1; omega
  have hn : (nn.size : Int) ≤ 140737488351232 := by have : nn.size ≤ 140737488351232 := hbd.n1; omega
  have hd : (dl.length : Int) ≤ 140737488351232 := by have : dl.length ≤ 140737488351232 := hbd.a2; omega
  obtain ⟨Y, hY⟩ : ∃ Y, Ct.wgt (.mk kk ff tt nn X dd DA dl dc A c s) = Y := ⟨_, rfl⟩
  rw [hY]
  rw [Ct.wgt_mk] at hY
  have HU : Hid (∀ t ∈ s, 0 ≤ t.wgt ∧ t.wgt ≤ 600 * 703687441960000) := fun t ht => ⟨(Ct.wgt_facts t).1, by
    obtain ⟨j, hj, rfl⟩ := List.getElem_of_mem ht
    have h1 := (((Ct.in_mk ..).1 hin).2.2.2 j hj).2.wgt_le
    have h2 := Ct.num_sub (k := kk) (f := ff) (t := tt) (n := nn) (x := X) (d := dd) (DA := DA) (dl := dl) (dc := dc) (A := A) (c := c) ht
    omega⟩
  have HX := Lib.hid (show X.grt = false → X.siz ≤ 600 from fun h => (Ex.grt_not h).1)
  have HO : Hid (Ct.own ff tt nn X dl = (ff.size : Int) + tt.size + nn.size + dl.length + 4 * X.siz) := rfl
  generalize X.grt = gx at *
  generalize X.siz = xz at *
  have c0 : (w.alloc (.cells #[.int .u8 kk, .string ff, .string tt, .string nn, .int .u8 X.k, .string X.r, .string X.n, .int .i64 X.d, .slice X.A X.sub.length X.c, .int .i64 dd, .slice DA dl.length dc, .slice A s.length c] 32)).cell? ⟨w.heap.size, 0, none⟩ = some (.int .u8 kk) := HC.out.c0
  have c1 : (w.alloc (.cells #[.int .u8 kk, .string ff, .string tt, .string nn, .int .u8 X.k, .string X.r, .string X.n, .int .i64 X.d, .slice X.A X.sub.length X.c, .int .i64 dd, .slice DA dl.length dc, .slice A s.length c] 32)).cell? ⟨w.heap.size, 1, none⟩ = some (.string ff) := HC.out.c1
  have c2 : (w.alloc (.cells #[.int .u8 kk, .string ff, .string tt, .string nn, .int .u8 X.k, .string X.r, .string X.n, .int .i64 X.d, .slice X.A X.sub.length X.c, .int .i64 dd, .slice DA dl.length dc, .slice A s.length c] 32)).cell? ⟨w.heap.size, 2, none⟩ = some (.string tt) := HC.out.c2
  have c3 : (w.alloc (.cells #[.int .u8 kk, .string ff, .string tt, .string nn, .int .u8 X.k, .string X.r, .string X.n, .int .i64 X.d, .slice X.A X.sub.length X.c, .int .i64 dd, .slice DA dl.length dc, .slice A s.length c] 32)).cell? ⟨w.heap.size, 3, none⟩ = some (.string nn) := HC.out.c3
  have c4 : (w.alloc (.cells #[.int .u8 kk, .string ff, .string tt, .string nn, .int .u8 X.k, .string X.r, .string X.n, .int .i64 X.d, .slice X.A X.sub.length X.c, .int .i64 dd, .slice DA dl.length dc, .slice A s.length c] 32)).cell? ⟨w.heap.size, 4, none⟩ = some (.int .u8 X.k) := HC.out.c4
  have c5 : (w.alloc (.cells #[.int .u8 kk, .string ff, .string tt, .string nn, .int .u8 X.k, .string X.r, .string X.n, .int .i64 X.d, .slice X.A X.sub.length X.c, .int .i64 dd, .slice DA dl.length dc, .slice A s.length c] 32)).cell? ⟨w.heap.size, 5, none⟩ = some (.string X.r) := HC.out.c5
  have c6 : (w.alloc (.cells #[.int .u8 kk, .string ff, .string tt, .string nn, .int .u8 X.k, .string X.r, .string X.n, .int .i64 X.d, .slice X.A X.sub.length X.c, .int .i64 dd, .slice DA dl.length dc, .slice A s.length c] 32)).cell? ⟨w.heap.size, 6, none⟩ = some (.string X.n) := HC.out.c6
  have c7 : (w.alloc (.cells #[.int .u8 kk, .string ff, .string tt, .string nn, .int .u8 X.k, .string X.r, .string X.n, .int .i64 X.d, .slice X.A X.sub.length X.c, .int .i64 dd, .slice DA dl.length dc, .slice A s.length c] 32)).cell? ⟨w.heap.size, 7, none⟩ = some (.int .i64 X.d) := HC.out.c7
  have c8 : (w.alloc (.cells #[.int .u8 kk, .string ff, .string tt, .string nn, .int .u8 X.k, .string X.r, .string X.n, .int .i64 X.d, .slice X.A X.sub.length X.c, .int .i64 dd, .slice DA dl.length dc, .slice A s.length c] 32)).cell? ⟨w.heap.size, 8, none⟩ = some (.slice X.A X.sub.length X.c) := HC.out.c8
  have c9 : (w.alloc (.cells #[.int .u8 kk, .string ff, .string tt, .string nn, .int .u8 X.k, .string X.r, .string X.n, .int .i64 X.d, .slice X.A X.sub.length X.c, .int .i64 dd, .slice DA dl.length dc, .slice A s.length c] 32)).cell? ⟨w.heap.size, 9, none⟩ = some (.int .i64 dd) := HC.out.c9
  have c10 : (w.alloc (.cells #[.int .u8 kk, .string ff, .string tt, .string nn, .int .u8 X.k, .string X.r, .string X.n, .int .i64 X.d, .slice X.A X.sub.length X.c, .int .i64 dd, .slice DA dl.length dc, .slice A s.length c] 32)).cell? ⟨w.heap.size, 10, none⟩ = some (.slice DA dl.length dc) := HC.out.c10
  have c11 : (w.alloc (.cells #[.int .u8 kk, .string ff, .string tt, .string nn, .int .u8 X.k, .string X.r, .string X.n, .int .i64 X.d, .slice X.A X.sub.length X.c, .int .i64 dd, .slice DA dl.length dc, .slice A s.length c] 32)).cell? ⟨w.heap.size, 11, none⟩ = some (.slice A s.length c) := HC.out.c11
  clear hin ih hz hbd
  show Calls Tryz.prog 50 #[.agg #[.int .u8 kk, .string ff, .string tt, .string nn, .int .u8 X.k, .string X.r, .string X.n, .int .i64 X.d, .slice X.A X.sub.length X.c, .int .i64 dd, .slice DA dl.length dc, .slice A s.length c]] w _
  cases gx
  · have hxz := HX.out rfl
    rw [if_neg Bool.false_ne_true] at hY
    obtain ⟨q1, h1⟩ : ∃ q1 : Int, (ff.size : Int) + tt.size = q1 := ⟨_, rfl⟩
    obtain ⟨q2, h2⟩ : ∃ q2 : Int, q1 + nn.size = q2 := ⟨_, rfl⟩
    obtain ⟨q3, h3⟩ : ∃ q3 : Int, q2 + dl.length = q3 := ⟨_, rfl⟩
    obtain ⟨q4, h4⟩ : ∃ q4 : Int, 4 * (xz : Int) = q4 := ⟨_, rfl⟩
    obtain ⟨q5, h5⟩ : ∃ q5 : Int, q3 + q4 = q5 := ⟨_, rfl⟩
    have a1 : IntKind.i64.wrap ((ff.size : Int) + (tt.size : Int)) = q1 := by rw [IntKind.wrap_i64]; omega
    have a2 : IntKind.i64.wrap (q1 + (nn.size : Int)) = q2 := by rw [IntKind.wrap_i64]; omega
    have a3 : IntKind.i64.wrap (q2 + (dl.length : Int)) = q3 := by rw [IntKind.wrap_i64]; omega
    have a4 : IntKind.i64.wrap (4 * (xz : Int)) = q4 := by rw [IntKind.wrap_i64]; omega
    have a5 : IntKind.i64.wrap (q3 + q4) = q5 := by rw [IntKind.wrap_i64]; omega
    have HQ5 := Lib.hid (show 0 ≤ q5 ∧ q5 ≤ 600000000000000000 by omega)
    have HY : Hid (Ct.wgts s q5 = Y) := by rw [show q5 = Ct.own ff tt nn X dl by rw [HO.out]; omega]; exact hY
    have HS2 : Hid (∀ W, Below w.heap.size w W → Calls Tryz.prog 55 #[X.val] W (IntRO xz W)) := fun W hW => HS.out W hW hxz
    have hl63b := hl63
    clear hY h1 h2 h3 h4 h5 hxz HX HO hf ht hn hd HS
    go_enter Tryz.func50, Tryz.ntmps50
    go_wp2_with (go_at_call 32; ((with_reducible refine (HG.out _ (by exact HB1.out)).mono ?_); rintro x w2 ⟨rfl, hb⟩; have e0 := cellO hb c0; have e1 := cellO hb c1; have e2 := cellO hb c2; have e3 := cellO hb c3; have e4 := cellO hb c4; have e5 := cellO hb c5; have e6 := cellO hb c6; have e7 := cellO hb c7; have e8 := cellO hb c8; have e9 := cellO hb c9; have e10 := cellO hb c10; have e11 := cellO hb c11; have HW2 := Lib.hid (btO HB1.out hb); have HC2 := Lib.hid (HC.out.below hb); have HI2 := Lib.hid (HI.out.below hb); clear hb))
    have HSz := Lib.hid (fun W (hW : Below w2.heap.size w2 W) => HS2.out W (btO HW2.out hW))
    have z0 := fun z : Bel w2 => z.cell e0
    have z1 := fun z : Bel w2 => z.cell e1
    have z2 := fun z : Bel w2 => z.cell e2
    have z3 := fun z : Bel w2 => z.cell e3
    have z4 := fun z : Bel w2 => z.cell e4
    have z5 := fun z : Bel w2 => z.cell e5
    have z6 := fun z : Bel w2 => z.cell e6
    have z7 := fun z : Bel w2 => z.cell e7
    have z8 := fun z : Bel w2 => z.cell e8
    have z9 := fun z : Bel w2 => z.cell e9
    have z10 := fun z : Bel w2 => z.cell e10
    have z11 := fun z : Bel w2 => z.cell e11
    refine wp_region_bel (by kernel_rfl) (by kernel_rfl) ?_
    repeat (go_big_quiet_step (first | (go_at_call 55; with_reducible exact Bel.calls HSz.out _)))
    refine wpQuiet_nil ?_
    rintro _ ⟨zz, rfl⟩
    have HW3 := Lib.hid (btO HW2.out zz.2)
    have HC3 := Lib.hid (HC2.out.below zz.2)
    have HI3 := Lib.hid (HI2.out.below zz.2)
    generalize zz.1 = w3 at *
    clear c0 c1 c2 c3 c4 c5 c6 c7 c8 c9 c10 c11 e0 e1 e2 e3 e4 e5 e6 e7 e8 e9 e10 e11 z0 z1 z2 z3 z4 z5 z6 z7 z8 z9 z10 z11 a1 a2 a3 a4 a5 HB1 HC2 HI2 HSz HS2 HC HI HG
    go_wp2_with (fail)
    go_loopw [3, 4] (fun v i wr => ∃ (n : Int) (k : Nat), k ≤ s.length ∧ v = .int .i64 n ∧ i = .int .i64 k ∧ 0 ≤ n ∧ n ≤ 600000000000000000 ∧ Hid (Ct.wgts (s.drop k) n = Y) ∧ Hid (Below w3.heap.size w3 wr)) (fun _ i _ => s.length - (intOf i).toNat)
    case atStart => exact ⟨q5, 0, by omega, rfl, rfl, HQ5.out.1, HQ5.out.2, by rw [List.drop_zero]; exact HY, Below.refl _ _⟩
    case round =>
      obtain ⟨n, k, hk, rfl, rfl, hn1, hn2, HR, HW⟩ := hrel
      have b4 : wr.cell? ⟨w.heap.size, 11, none⟩ = some (.slice A s.length c) := (HC3.out.below HW.out).c11
      by_cases hlt : k < s.length
      · by_cases hnL : n < 100000
        · have HIW := Lib.hid (HI3.out.below HW.out)
          obtain ⟨b, o, rfl, -, hpi, d0, d1, d2, d3, d4, d5, d6, d7, d8, d9, d10, d11⟩ := HIW.out.part hlt
          have hm : s[k] ∈ s := List.getElem_mem hlt
          have hnum : s[k].num ≤ 600 := by have h1 := Ct.num_sub (k := kk) (f := ff) (t := tt) (n := nn) (x := X) (d := dd) (DA := DA) (dl := dl) (dc := dc) (A := none) (c := c) hm; have h2 := HZ.out; rw [Ct.num_mk] at h1 h2; omega
          have HQ := Lib.hid (IH.out s[k] hm wr hpi hnum)
          obtain ⟨u1, u2⟩ := HU.out s[k] hm
          have hdr : s.drop k = s[k] :: s.drop (k + 1) := List.drop_eq_getElem_cons hlt
          rw [hdr] at HR
          generalize s[k] = t at *
          have HRR := Lib.hid (HR.out.symm.trans (Ct.wgts_cons t _ n))
          rw [if_pos hnL] at HRR
          clear HR hdr hpi hm IH hnum HIW
          generalize t.wgt = m at *
          have HR2 : Hid (Ct.wgts (List.drop (k + 1) s) (n + m) = Y) := HRR.out.symm
          clear HRR
          go_wp2_with (go_at_call 50; ((with_reducible refine HQ.out.mono ?_); rintro x w5 ⟨rfl, hb⟩; have HW5 := Lib.hid (btO HW.out hb); clear hb))
          go_roundw
          case rel => exact ⟨n + m, k + 1, by omega, by go_num, by go_num, by omega, by omega, HR2, HW5⟩
          case measure => simp [intOf]; omega
        · have hRR := HR.out.symm.trans (Ct.wgts_past _ _ (by omega))
          subst hRR
          clear HR
          go_wp2_with (fail)
          go_ret
          exact ⟨rfl, btO HW3.out HW.out⟩
      · obtain rfl : k = s.length := by omega
        have hRR : Y = n := by have := HR.out; rw [List.drop_length, Ct.wgts_nil] at this; exact this.symm
        subst hRR
        clear HR
        go_wp2_with (fail)
        go_ret
        exact ⟨rfl, btO HW3.out HW.out⟩
  · rw [if_pos rfl] at hY
    subst hY
    go_enter Tryz.func50, Tryz.ntmps50
    go_wp2_with (go_at_call 32; ((with_reducible refine (HG.out _ (by exact HB1.out)).mono ?_); rintro x w2 ⟨rfl, hb⟩; have HW2 := Lib.hid (btO HB1.out hb); clear hb))
    go_ret
    exact ⟨rfl, HW2.out⟩
set_option maxRecDepth 100000 in
set_option maxHeartbeats 3200000 in
theorem great9_any (T : Ct) (w : World) (hin : T.In w) : Calls Tryz.prog 17 #[T.val] w (BoolRO T.grt w) := by
  have HB1 := Lib.hid (belO w (.cells #[.int .u8 T.k, .string T.f, .string T.t, .string T.n, .int .u8 T.x.k, .string T.x.r, .string T.x.n, .int .i64 T.x.d, .slice T.x.A T.x.sub.length T.x.c, .int .i64 T.d, .slice T.DA T.dl.length T.dc, .slice T.A T.sub.length T.c] 32))
  have HI := Lib.hid (hin.below HB1.out)
  have HC : Hid (Ct.Box (w.alloc (.cells #[.int .u8 T.k, .string T.f, .string T.t, .string T.n, .int .u8 T.x.k, .string T.x.r, .string T.x.n, .int .i64 T.x.d, .slice T.x.A T.x.sub.length T.x.c, .int .i64 T.d, .slice T.DA T.dl.length T.dc, .slice T.A T.sub.length T.c] 32)) w.heap.size T) := Ct.Box.new w T 32
  have HQ : Hid (∀ W, T.In W → Calls Tryz.prog 49 #[T.val, .int .i64 600, .int .i64 100] W (CntR (T.cnt 600 100).1 (T.cnt 600 100).2 W)) := fun W h => rcount9_any T 600 100 W h (by omega) (by omega) (by omega)
  obtain ⟨m1, m2, m3⟩ := Ct.cnt_facts T 600 100 (by omega)
  have HP := Lib.hid (fun W (h : T.In W) (h2 : T.num ≤ 600) => rweight9_any T W h h2)
  have hg : T.grt = (!(T.cnt 600 100).2 || decide (600 < (T.cnt 600 100).1) || decide (12000 < T.wgt)) := rfl
  have hY : ((T.cnt 600 100).2 = true → (T.cnt 600 100).1 ≤ 600 → T.num ≤ 600) := fun h1 h2 => by have := (m3 h1 h2).1; omega
  rw [hg]
  clear hg m3 hin
  generalize (T.cnt 600 100).1 = n at *
  generalize (T.cnt 600 100).2 = b at *
  generalize T.wgt = m at *
  have HY := Lib.hid hY
  clear hY
  cases b
  · go_enter Tryz.func17, Tryz.ntmps17
    obtain ⟨c0, c1, c2, c3, c4, c5, c6, c7, c8, c9, c10, c11⟩ := HC.out
    go_wp2_with (go_at_call 49; ((with_reducible refine (HQ.out _ HI.out).mono ?_); rintro x w2 ⟨rfl, hb⟩; have HW2 := Lib.hid (btO HB1.out hb); clear hb))
    go_ret
    exact ⟨rfl, HW2.out⟩
  · by_cases h : 600 < n
    · go_enter Tryz.func17, Tryz.ntmps17
      obtain ⟨c0, c1, c2, c3, c4, c5, c6, c7, c8, c9, c10, c11⟩ := HC.out
      go_wp2_with (go_at_call 49; ((with_reducible refine (HQ.out _ HI.out).mono ?_); rintro x w2 ⟨rfl, hb⟩; have HW2 := Lib.hid (btO HB1.out hb); clear hb))
      go_ret
      exact ⟨by simp [h], HW2.out⟩
    · have HS := HY.out rfl (by omega)
      go_enter Tryz.func17, Tryz.ntmps17
      obtain ⟨c0, c1, c2, c3, c4, c5, c6, c7, c8, c9, c10, c11⟩ := HC.out
      go_wp2_with (first
        | (go_at_call 49; ((with_reducible refine (HQ.out _ HI.out).mono ?_); rintro x w2 ⟨rfl, hb⟩; have HW2 := Lib.hid (btO HB1.out hb); have HI2 := Lib.hid (HI.out.below hb); have HC2 := HC.out.below hb; obtain ⟨e0, e1, e2, e3, e4, e5, e6, e7, e8, e9, e10, e11⟩ := HC2; clear hb))
        | (go_at_call 50; ((with_reducible refine (HP.out _ HI2.out HS).mono ?_); rintro x w3 ⟨rfl, hb⟩; have HW3 := Lib.hid (btO HW2.out hb); clear hb)))
      go_ret
      exact ⟨by simp, HW3.out⟩
end Go.Proofs.YtalejbabhjlehaaGreatDoor
/- Layer 8, plain: what is known: its order; a thing put in its place. -/
namespace Go.Proofs.YtalejbabhjlehaaGreatDoor
open Go Go.RowKit
abbrev bl (x y : List UInt8) : Bool := Op.bytesLess x y
abbrev Key := List UInt8 × List UInt8 × Int
end Go.Proofs.YtalejbabhjlehaaGreatDoor
/- Layer 8, plain: a thing put in its place. -/
namespace Go.Proofs.YtalejbabhjlehaaGreatDoor
open Go Go.RowKit
section
variable {α : Type} (key : α → Key) (x : α)
end
section
variable {α : Type} {key : α → Key} {x : α}
end
end Go.Proofs.YtalejbabhjlehaaGreatDoor
/- Layer 8: what is known, in memory; the statements' guard of it. -/
namespace Go.Proofs.YtalejbabhjlehaaGreatDoor
open Go Go.RowKit Go.BigFrame
end Go.Proofs.YtalejbabhjlehaaGreatDoor
/- Layer 8: SameEnv. -/
namespace Go.Proofs.YtalejbabhjlehaaGreatDoor
open Go Go.RowKit Go.BigFrame
theorem str_cases (a b : ByteArray) : a = b ∨ (a.toList == b.toList) = false := by
  rw [Lib.toList_data, Lib.toList_data]
  by_cases h : a.data.toList = b.data.toList
  · refine .inl ?_
    cases a; cases b
    exact congrArg ByteArray.mk (Array.toList_inj.1 h)
  · exact .inr (by rw [beq_eq_false_iff_ne]; exact h)
end Go.Proofs.YtalejbabhjlehaaGreatDoor
/- Layer 9: a contract among a law's arguments, opened; the variables that the rows lay. -/
namespace Go.Proofs.YtalejbabhjlehaaGreatDoor
open Go Go.ChangeShapes Go.WideShapes Go.ChangeAt Go.RowKit
theorem hwt_of {H : Type} {P : Program} {ts : List TypeId} {ds : List (DataW H)} (hsz : (DataW.weightsEach P ts ds).all (· ≤ reachBytes) = true) {j : Nat} {t : TypeId} {d : DataW H} (hj : ts[j]? = some t) (hd : ds[j]? = some d) : ∀ n ∈ DataW.weights P t d, n ≤ reachBytes := fun n hn =>
  of_decide_eq_true (List.all_eq_true.1 hsz _ (DataW.weights_mem_each hj hd n hn))
section
variable {H : Type} {enc : TypeId × Value → H} {W : World} {v : Value} {d : DataW H} {p : List MemPlace} {r : Reach} {b0 : Nat} {ts : List TypeId} {ds : List (DataW H)} (hsz : (DataW.weightsEach Tryz.prog ts ds).all (· ≤ reachBytes) = true) {j : Nat} (hd : ds[j]? = some d)
include hsz hd
set_option maxRecDepth 100000 in
theorem open_con (hv : Value.okWide Tryz.prog W r b0 32 v) (h : DataW.Trod enc Tryz.prog W 0 (fun _ => true) true 32 v d p) (hj : ts[j]? = some 32) : ∃ T : Ct, v = T.val ∧ T.In W := by
  obtain ⟨cs, rfl, -⟩ := okWide_struct Tryz.underlying32 hv
  obtain ⟨fuel, hf⟩ := h
  obtain ⟨T, e, hT⟩ := open_ctF fuel _ _ hf (hwt_of hsz hj hd)
  refine ⟨T, ?_, hT⟩
  have e : cs.toList = T.cel := e
  rw [show cs = T.cel.toArray by rw [← e]]
  rfl
end
theorem convar_Parts {W : World} (h : laidMetH Tryz.prog Rows.contractPartsRow.laid W) (hs : W.ShapedOpen Tryz.prog) : VarR W := by -- 7
  rw [MakeChecks.laidMetH_plain _ _ _ (by kernel_rfl)] at h
  have h1 : laidMet Tryz.prog _ W := h.tail
  have t1 : Lib.TabIs Tryz.prog W "math/bits.deBruijn64tab" .u8 db64 := Lib.tabIs_of_head gDb64 (t := 198) (by kernel_rfl) Tryz.underlying198 Tryz.underlying5 (by kernel_rfl) (by kernel_rfl) h1
  have c1 := t1.cell gDb64 0 (by decide)
  have h2 := h1.tail
  have t2 : Lib.TabIs Tryz.prog W "internal/strconv.uint64pow10" .u64 Lib.pow10Tab := Lib.tabIs_of_head gTab (t := 195) (by kernel_rfl) Tryz.underlying195 Tryz.underlying119 (by kernel_rfl) (by kernel_rfl) h2
  exact varr_of ⟨by have := lt_of_cell c1; omega, t2⟩ hs
end Go.Proofs.YtalejbabhjlehaaGreatDoor
