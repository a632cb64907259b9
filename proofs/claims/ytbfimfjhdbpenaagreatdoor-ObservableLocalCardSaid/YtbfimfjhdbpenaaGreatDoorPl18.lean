/- Joined: ObH, ObM, ObN, ObO, ObI, ObJ, ObW, ObW2. -/
import Derived.Test.YtbfimfjhdbpenaaGreatDoorPl4
import Derived.Test.YtbfimfjhdbpenaaGreatDoorPl5
import Derived.Test.YtbfimfjhdbpenaaGreatDoorPl17
import Derived.Deep.RegionHeld3
/- Layer 8: sorts: plain; a region of calls that leave what is old; sortOf, hasFields, partsOf. -/
namespace Go.Proofs.YtbfimfjhdbpenaaGreatDoor
open Go Go.RowKit
def Bel (w : World) : Type := { w' : World // Below w.heap.size w w' }
instance (w : World) : Nonempty (Bel w) := ⟨⟨w, Below.refl _ _⟩⟩
theorem wp_region_bel {P : Program} {id : Nat} {Q : Exit → Act → World → Prop} {a : Act} {w : World} {l : List Oper} (hm : P.follows .mixedOrders = true) (hB : Region.lexB .any l.toArray = true)
    (h : wpQuiet P l.toArray (fun w' => ∃ z : Bel w, w' = z.1) (fun a' => ∀ w', (∃ z : Bel w, w' = z.1) → Q .normal a' w') l a) : (Code.region id l.toArray true).wp P Q a w :=
  wp_region_quiet (C := fun w' => ∃ z : Bel w, w' = z.1) hm hB ⟨⟨w.drew, Below.drew (Below.refl _ _)⟩, rfl⟩ (by simpa using h)
theorem Bel.cell {w : World} {p : Addr} {v : Value} (h : w.cell? p = some v) (z : Bel w) : z.1.cell? p = some v := cellO z.2 h
theorem Bel.calls {P : Program} {f : FuncId} {args : Array Value} {w : World} {v : Value} (h : ∀ W, Below w.heap.size w W → Calls P f args W fun e w' => e = .returned v ∧ Below W.heap.size W w') (z : Bel w) :
    Calls P f args z.1 fun e w'' => e = .returned v ∧ ∃ z' : Bel w, w'' = z'.1 :=
  (h z.1 z.2).mono fun _ w' ⟨he, hb⟩ => ⟨he, ⟨w', btO z.2 hb⟩, rfl⟩
def srtB (k : Int) : Int := if 1 ≤ k ∧ k ≤ 9 then 1 else if 11 ≤ k ∧ k ≤ 15 then 2 else 0
def emB (s : ByteArray) : Bool := s.data.toList == []
def fldB (k : Int) (r n : ByteArray) (d : Int) : Bool :=
  if k = 1 then decide (chkR r.data.toList = 0) && emB n && decide (d = 0)
  else if k = 2 then emB r && nameO n.data.toList && dayO d
  else if k = 3 then emB r && nameO n.data.toList && decide (d = 0)
  else emB r && emB n && decide (d = 0)
def prtL (k : Int) : List Int :=
  if k = 4 ∨ k = 5 ∨ k = 6 ∨ k = 7 ∨ k = 8 ∨ k = 11 ∨ k = 12 then [1, 1] else if k = 9 then [2, 1, 1] else if k = 13 ∨ k = 14 then [2, 2] else if k = 15 then [2] else []
def srtF (k : Int) (r n : ByteArray) (d : Int) (l : List Int) : Int := if srtB k ≠ 0 ∧ fldB k r n d = true ∧ l = prtL k then srtB k else 0
def Ex.srt (t : Ex) : Int := Ex.fold srtF t
theorem Ex.srt_mk (k : Int) (r n : ByteArray) (d : Int) (A : Option Addr) (c : Nat) (s : List Ex) : Ex.srt (.mk k r n d A c s) = srtF k r n d (s.map Ex.srt) := by unfold Ex.srt; rw [Ex.fold_mk]
theorem em_cases (s : ByteArray) : (s = ⟨#[]⟩ ∧ emB s = true) ∨ ((s.toList == ([] : List UInt8)) = false ∧ emB s = false) := by
  unfold emB
  rw [Lib.toList_data]
  cases h : s.data.toList == ([] : List UInt8)
  · exact .inr ⟨rfl, rfl⟩
  · refine .inl ⟨?_, rfl⟩
    rw [beq_iff_eq] at h
    cases s with
    | mk d => exact congrArg ByteArray.mk (Array.toList_inj.1 h)
theorem srtB_01 (k : Int) : srtB k = 0 ∨ srtB k = 1 ∨ srtB k = 2 := by unfold srtB; split <;> (try split) <;> simp
theorem prtL_12 (k : Int) : ∀ x ∈ prtL k, x = 1 ∨ x = 2 := by
  intro x hx
  unfold prtL at hx
  split at hx
  · simp at hx; omega
  · split at hx
    · simp at hx; omega
    · split at hx
      · simp at hx; omega
      · split at hx
        · simp at hx; omega
        · simp at hx
theorem prtL_len (k : Int) : (prtL k).length ≤ 3 := by
  unfold prtL
  split
  · simp
  · split
    · simp
    · split
      · simp
      · split <;> simp
theorem Ex.srt_iff (t : Ex) (x : Int) (hx : x = 1 ∨ x = 2) : t.srt = x ↔ srtB t.k = x ∧ t.srt ≠ 0 := by
  obtain ⟨k, r, n, d, A, c, s⟩ := t
  rw [Ex.srt_mk]
  unfold srtF
  show _ ↔ srtB k = x ∧ _
  split
  · next h => exact ⟨fun e => ⟨e, by rw [e]; omega⟩, fun e => e.1⟩
  · next h => exact ⟨fun e => by omega, fun e => absurd rfl e.2⟩
set_option maxRecDepth 100000 in
set_option maxHeartbeats 1600000 in
theorem sortOf_any (k : Int) (r n : ByteArray) (d : Int) (A : Option Addr) (l c : Nat) (w : World) :
    Calls Tryz.prog 49 #[.agg #[.int .u8 k, .string r, .string n, .int .i64 d, .slice A l c]] w fun e w' => e = .returned (.int .u8 (srtB k)) ∧ Below w.heap.size w w' := by
  have HB1 := Lib.hid (belO w (.cells #[.int .u8 k, .string r, .string n, .int .i64 d, .slice A l c] 26))
  have hC : (w.alloc (.cells #[.int .u8 k, .string r, .string n, .int .i64 d, .slice A l c] 26)).cell? ⟨w.heap.size, 0, none⟩ = some (.int .u8 k) := by rw [World.cell?_alloc_at _ _ _ _ rfl]; rfl
  unfold srtB
  have hc : (1 ≤ k ∧ k ≤ 9) ∨ (k < 1) ∨ (9 < k ∧ k < 11) ∨ (11 ≤ k ∧ k ≤ 15) ∨ 15 < k := by omega
  rcases hc with ⟨h1, h2⟩ | h1 | ⟨h1, h2⟩ | ⟨h1, h2⟩ | h1
  · rw [if_pos ⟨h1, h2⟩]
    go_enter Tryz.func49, Tryz.ntmps49
    go_wp2_with (fail)
    go_ret
    exact ⟨rfl, HB1.out⟩
  · rw [if_neg (by omega), if_neg (by omega)]
    go_enter Tryz.func49, Tryz.ntmps49
    go_wp2_with (fail)
    go_ret
    exact ⟨rfl, HB1.out⟩
  · rw [if_neg (by omega), if_neg (by omega)]
    go_enter Tryz.func49, Tryz.ntmps49
    go_wp2_with (fail)
    go_ret
    exact ⟨rfl, HB1.out⟩
  · rw [if_neg (by omega), if_pos ⟨h1, h2⟩]
    go_enter Tryz.func49, Tryz.ntmps49
    go_wp2_with (fail)
    go_ret
    exact ⟨rfl, HB1.out⟩
  · rw [if_neg (by omega), if_neg (by omega)]
    go_enter Tryz.func49, Tryz.ntmps49
    go_wp2_with (fail)
    go_ret
    exact ⟨rfl, HB1.out⟩
set_option maxRecDepth 100000 in
set_option maxHeartbeats 6400000 in
theorem hasFields_any (k : Int) (r n : ByteArray) (d : Int) (A : Option Addr) (l c : Nat) (w : World) (hv : VarR w) (hr : k = 1 → r.size ≤ 1048576) :
    Calls Tryz.prog 84 #[.agg #[.int .u8 k, .string r, .string n, .int .i64 d, .slice A l c]] w fun e w' => e = .returned (.bool (fldB k r n d)) ∧ Below w.heap.size w w' := by
  have HB1 := Lib.hid (belO w (.cells #[.int .u8 k, .string r, .string n, .int .i64 d, .slice A l c] 26))
  have hC0 : (w.alloc (.cells #[.int .u8 k, .string r, .string n, .int .i64 d, .slice A l c] 26)).cell? ⟨w.heap.size, 0, none⟩ = some (.int .u8 k) := by rw [World.cell?_alloc_at _ _ _ _ rfl]; rfl
  have hC1 : (w.alloc (.cells #[.int .u8 k, .string r, .string n, .int .i64 d, .slice A l c] 26)).cell? ⟨w.heap.size, 1, none⟩ = some (.string r) := by rw [World.cell?_alloc_at _ _ _ _ rfl]; rfl
  have hC2 : (w.alloc (.cells #[.int .u8 k, .string r, .string n, .int .i64 d, .slice A l c] 26)).cell? ⟨w.heap.size, 2, none⟩ = some (.string n) := by rw [World.cell?_alloc_at _ _ _ _ rfl]; rfl
  have hC3 : (w.alloc (.cells #[.int .u8 k, .string r, .string n, .int .i64 d, .slice A l c] 26)).cell? ⟨w.heap.size, 3, none⟩ = some (.int .i64 d) := by rw [World.cell?_alloc_at _ _ _ _ rfl]; rfl
  have HN := Lib.hid (fun W => pname8_any n _ rfl W)
  have HD := Lib.hid (fun W => pday_any d W)
  have hvw := hv.below HB1.out
  have HK := Lib.hid (fun (h : k = 1) => rcheck_any r (hr h) _ hvw)
  clear hv hvw hr
  by_cases h1 : k = 1
  · subst h1
    have HK1 := Lib.hid (HK.out rfl)
    clear HK
    obtain ⟨cc, hcc⟩ : ∃ cc, chkR r.data.toList = cc := ⟨_, rfl⟩
    rw [hcc] at HK1
    by_cases hc : cc = 0
    · subst hc
      rcases em_cases n with ⟨rfl, en⟩ | ⟨g, en⟩
      · by_cases hd : d = 0
        · subst hd
          have hval : fldB 1 r ⟨#[]⟩ 0 = true := by unfold fldB; simp [hcc, en]
          rw [hval]
          clear hval
          go_enter Tryz.func84, Tryz.ntmps84
          go_wp2_with (first
            | (go_at_call 54; ((with_reducible refine HK1.out.mono ?_); rintro x w2 ⟨rfl, hb⟩; have HW := Lib.hid (btO HB1.out hb); have e2 := cellO hb hC2; have e3 := cellO hb hC3; clear hb))
            | (go_at_call 10; ((with_reducible refine (HN.out _).mono ?_); rintro x w2 ⟨rfl, rfl⟩))
            | (go_at_call 87; ((with_reducible refine (HD.out _).mono ?_); rintro x w2 ⟨rfl, rfl⟩)))
          go_ret
          exact ⟨rfl, HW.out⟩
        · have hz : (d == 0) = false := by rw [beq_eq_false_iff_ne]; exact hd
          have hval : fldB 1 r ⟨#[]⟩ d = false := by unfold fldB; simp [hcc, en, hd]
          rw [hval]
          clear hval
          clear hd
          go_enter Tryz.func84, Tryz.ntmps84
          go_wp2_with (first
            | (go_at_call 54; ((with_reducible refine HK1.out.mono ?_); rintro x w2 ⟨rfl, hb⟩; have HW := Lib.hid (btO HB1.out hb); have e2 := cellO hb hC2; have e3 := cellO hb hC3; clear hb))
            | (go_at_call 10; ((with_reducible refine (HN.out _).mono ?_); rintro x w2 ⟨rfl, rfl⟩))
            | (go_at_call 87; ((with_reducible refine (HD.out _).mono ?_); rintro x w2 ⟨rfl, rfl⟩)))
          go_ret
          exact ⟨rfl, HW.out⟩
      ·
        have hval : fldB 1 r n d = false := by unfold fldB; simp [hcc, en]
        rw [hval]
        clear hval
        go_enter Tryz.func84, Tryz.ntmps84
        go_wp2_with (first
          | (go_at_call 54; ((with_reducible refine HK1.out.mono ?_); rintro x w2 ⟨rfl, hb⟩; have HW := Lib.hid (btO HB1.out hb); have e2 := cellO hb hC2; have e3 := cellO hb hC3; clear hb))
          | (go_at_call 10; ((with_reducible refine (HN.out _).mono ?_); rintro x w2 ⟨rfl, rfl⟩))
          | (go_at_call 87; ((with_reducible refine (HD.out _).mono ?_); rintro x w2 ⟨rfl, rfl⟩)))
        go_ret
        exact ⟨rfl, HW.out⟩
    · have hz : (cc == 0) = false := by rw [beq_eq_false_iff_ne]; exact hc
      have hval : fldB 1 r n d = false := by unfold fldB; simp [hcc, hc]
      rw [hval]
      clear hval
      clear hc
      go_enter Tryz.func84, Tryz.ntmps84
      go_wp2_with (first
        | (go_at_call 54; ((with_reducible refine HK1.out.mono ?_); rintro x w2 ⟨rfl, hb⟩; have HW := Lib.hid (btO HB1.out hb); have e2 := cellO hb hC2; have e3 := cellO hb hC3; clear hb))
        | (go_at_call 10; ((with_reducible refine (HN.out _).mono ?_); rintro x w2 ⟨rfl, rfl⟩))
        | (go_at_call 87; ((with_reducible refine (HD.out _).mono ?_); rintro x w2 ⟨rfl, rfl⟩)))
      go_ret
      exact ⟨rfl, HW.out⟩
  have g1 : (k == 1) = false := by rw [beq_eq_false_iff_ne]; exact h1
  have HK1 : Hid True := trivial
  clear HK
  by_cases h2 : k = 2
  · subst h2
    rcases em_cases r with ⟨rfl, er⟩ | ⟨g, er⟩
    · cases hn : nameO n.data.toList
      · rw [hn] at HN
        have hval : fldB 2 ⟨#[]⟩ n d = false := by unfold fldB; simp [er, hn]
        rw [hval]
        clear hval
        go_enter Tryz.func84, Tryz.ntmps84
        go_wp2_with (first
          | (go_at_call 54; ((with_reducible refine HK1.out.mono ?_); rintro x w2 ⟨rfl, hb⟩; have HW := Lib.hid (btO HB1.out hb); have e2 := cellO hb hC2; have e3 := cellO hb hC3; clear hb))
          | (go_at_call 10; ((with_reducible refine (HN.out _).mono ?_); rintro x w2 ⟨rfl, rfl⟩))
          | (go_at_call 87; ((with_reducible refine (HD.out _).mono ?_); rintro x w2 ⟨rfl, rfl⟩)))
        go_ret
        exact ⟨rfl, HB1.out⟩
      · rw [hn] at HN
        cases hd : dayO d
        · rw [hd] at HD
          have hval : fldB 2 ⟨#[]⟩ n d = false := by unfold fldB; simp [er, hn, hd]
          rw [hval]
          clear hval
          go_enter Tryz.func84, Tryz.ntmps84
          go_wp2_with (first
            | (go_at_call 54; ((with_reducible refine HK1.out.mono ?_); rintro x w2 ⟨rfl, hb⟩; have HW := Lib.hid (btO HB1.out hb); have e2 := cellO hb hC2; have e3 := cellO hb hC3; clear hb))
            | (go_at_call 10; ((with_reducible refine (HN.out _).mono ?_); rintro x w2 ⟨rfl, rfl⟩))
            | (go_at_call 87; ((with_reducible refine (HD.out _).mono ?_); rintro x w2 ⟨rfl, rfl⟩)))
          go_ret
          exact ⟨rfl, HB1.out⟩
        · rw [hd] at HD
          have hval : fldB 2 ⟨#[]⟩ n d = true := by unfold fldB; simp [er, hn, hd]
          rw [hval]
          clear hval
          go_enter Tryz.func84, Tryz.ntmps84
          go_wp2_with (first
            | (go_at_call 54; ((with_reducible refine HK1.out.mono ?_); rintro x w2 ⟨rfl, hb⟩; have HW := Lib.hid (btO HB1.out hb); have e2 := cellO hb hC2; have e3 := cellO hb hC3; clear hb))
            | (go_at_call 10; ((with_reducible refine (HN.out _).mono ?_); rintro x w2 ⟨rfl, rfl⟩))
            | (go_at_call 87; ((with_reducible refine (HD.out _).mono ?_); rintro x w2 ⟨rfl, rfl⟩)))
          go_ret
          exact ⟨rfl, HB1.out⟩
    ·
      have hval : fldB 2 r n d = false := by unfold fldB; simp [er]
      rw [hval]
      clear hval
      go_enter Tryz.func84, Tryz.ntmps84
      go_wp2_with (first
        | (go_at_call 54; ((with_reducible refine HK1.out.mono ?_); rintro x w2 ⟨rfl, hb⟩; have HW := Lib.hid (btO HB1.out hb); have e2 := cellO hb hC2; have e3 := cellO hb hC3; clear hb))
        | (go_at_call 10; ((with_reducible refine (HN.out _).mono ?_); rintro x w2 ⟨rfl, rfl⟩))
        | (go_at_call 87; ((with_reducible refine (HD.out _).mono ?_); rintro x w2 ⟨rfl, rfl⟩)))
      go_ret
      exact ⟨rfl, HB1.out⟩
  have g2 : (k == 2) = false := by rw [beq_eq_false_iff_ne]; exact h2
  by_cases h3 : k = 3
  · subst h3
    rcases em_cases r with ⟨rfl, er⟩ | ⟨g, er⟩
    · cases hn : nameO n.data.toList
      · rw [hn] at HN
        have hval : fldB 3 ⟨#[]⟩ n d = false := by unfold fldB; simp [er, hn]
        rw [hval]
        clear hval
        go_enter Tryz.func84, Tryz.ntmps84
        go_wp2_with (first
          | (go_at_call 54; ((with_reducible refine HK1.out.mono ?_); rintro x w2 ⟨rfl, hb⟩; have HW := Lib.hid (btO HB1.out hb); have e2 := cellO hb hC2; have e3 := cellO hb hC3; clear hb))
          | (go_at_call 10; ((with_reducible refine (HN.out _).mono ?_); rintro x w2 ⟨rfl, rfl⟩))
          | (go_at_call 87; ((with_reducible refine (HD.out _).mono ?_); rintro x w2 ⟨rfl, rfl⟩)))
        go_ret
        exact ⟨rfl, HB1.out⟩
      · rw [hn] at HN
        by_cases hd : d = 0
        · subst hd
          have hval : fldB 3 ⟨#[]⟩ n 0 = true := by unfold fldB; simp [er, hn]
          rw [hval]
          clear hval
          go_enter Tryz.func84, Tryz.ntmps84
          go_wp2_with (first
            | (go_at_call 54; ((with_reducible refine HK1.out.mono ?_); rintro x w2 ⟨rfl, hb⟩; have HW := Lib.hid (btO HB1.out hb); have e2 := cellO hb hC2; have e3 := cellO hb hC3; clear hb))
            | (go_at_call 10; ((with_reducible refine (HN.out _).mono ?_); rintro x w2 ⟨rfl, rfl⟩))
            | (go_at_call 87; ((with_reducible refine (HD.out _).mono ?_); rintro x w2 ⟨rfl, rfl⟩)))
          go_ret
          exact ⟨rfl, HB1.out⟩
        · have hz : (d == 0) = false := by rw [beq_eq_false_iff_ne]; exact hd
          have hval : fldB 3 ⟨#[]⟩ n d = false := by unfold fldB; simp [er, hn, hd]
          rw [hval]
          clear hval
          clear hd
          go_enter Tryz.func84, Tryz.ntmps84
          go_wp2_with (first
            | (go_at_call 54; ((with_reducible refine HK1.out.mono ?_); rintro x w2 ⟨rfl, hb⟩; have HW := Lib.hid (btO HB1.out hb); have e2 := cellO hb hC2; have e3 := cellO hb hC3; clear hb))
            | (go_at_call 10; ((with_reducible refine (HN.out _).mono ?_); rintro x w2 ⟨rfl, rfl⟩))
            | (go_at_call 87; ((with_reducible refine (HD.out _).mono ?_); rintro x w2 ⟨rfl, rfl⟩)))
          go_ret
          exact ⟨rfl, HB1.out⟩
    ·
      have hval : fldB 3 r n d = false := by unfold fldB; simp [er]
      rw [hval]
      clear hval
      go_enter Tryz.func84, Tryz.ntmps84
      go_wp2_with (first
        | (go_at_call 54; ((with_reducible refine HK1.out.mono ?_); rintro x w2 ⟨rfl, hb⟩; have HW := Lib.hid (btO HB1.out hb); have e2 := cellO hb hC2; have e3 := cellO hb hC3; clear hb))
        | (go_at_call 10; ((with_reducible refine (HN.out _).mono ?_); rintro x w2 ⟨rfl, rfl⟩))
        | (go_at_call 87; ((with_reducible refine (HD.out _).mono ?_); rintro x w2 ⟨rfl, rfl⟩)))
      go_ret
      exact ⟨rfl, HB1.out⟩
  have g3 : (k == 3) = false := by rw [beq_eq_false_iff_ne]; exact h3
  rcases em_cases r with ⟨rfl, er⟩ | ⟨g, er⟩
  · rcases em_cases n with ⟨rfl, en⟩ | ⟨g, en⟩
    · by_cases hd : d = 0
      · subst hd
        have hval : fldB k ⟨#[]⟩ ⟨#[]⟩ 0 = true := by unfold fldB; simp [er, en, h1, h2, h3]
        rw [hval]
        clear hval
        clear h1 h2 h3
        go_enter Tryz.func84, Tryz.ntmps84
        go_wp2_with (first
          | (go_at_call 54; ((with_reducible refine HK1.out.mono ?_); rintro x w2 ⟨rfl, hb⟩; have HW := Lib.hid (btO HB1.out hb); have e2 := cellO hb hC2; have e3 := cellO hb hC3; clear hb))
          | (go_at_call 10; ((with_reducible refine (HN.out _).mono ?_); rintro x w2 ⟨rfl, rfl⟩))
          | (go_at_call 87; ((with_reducible refine (HD.out _).mono ?_); rintro x w2 ⟨rfl, rfl⟩)))
        go_ret
        exact ⟨rfl, HB1.out⟩
      · have hz : (d == 0) = false := by rw [beq_eq_false_iff_ne]; exact hd
        have hval : fldB k ⟨#[]⟩ ⟨#[]⟩ d = false := by unfold fldB; simp [er, en, hd, h1, h2, h3]
        rw [hval]
        clear hval
        clear hd h1 h2 h3
        go_enter Tryz.func84, Tryz.ntmps84
        go_wp2_with (first
          | (go_at_call 54; ((with_reducible refine HK1.out.mono ?_); rintro x w2 ⟨rfl, hb⟩; have HW := Lib.hid (btO HB1.out hb); have e2 := cellO hb hC2; have e3 := cellO hb hC3; clear hb))
          | (go_at_call 10; ((with_reducible refine (HN.out _).mono ?_); rintro x w2 ⟨rfl, rfl⟩))
          | (go_at_call 87; ((with_reducible refine (HD.out _).mono ?_); rintro x w2 ⟨rfl, rfl⟩)))
        go_ret
        exact ⟨rfl, HB1.out⟩
    ·
      have hval : fldB k ⟨#[]⟩ n d = false := by unfold fldB; simp [er, en, h1, h2, h3]
      rw [hval]
      clear hval
      clear h1 h2 h3
      go_enter Tryz.func84, Tryz.ntmps84
      go_wp2_with (first
        | (go_at_call 54; ((with_reducible refine HK1.out.mono ?_); rintro x w2 ⟨rfl, hb⟩; have HW := Lib.hid (btO HB1.out hb); have e2 := cellO hb hC2; have e3 := cellO hb hC3; clear hb))
        | (go_at_call 10; ((with_reducible refine (HN.out _).mono ?_); rintro x w2 ⟨rfl, rfl⟩))
        | (go_at_call 87; ((with_reducible refine (HD.out _).mono ?_); rintro x w2 ⟨rfl, rfl⟩)))
      go_ret
      exact ⟨rfl, HB1.out⟩
  ·
    have hval : fldB k r n d = false := by unfold fldB; simp [er, h1, h2, h3]
    rw [hval]
    clear hval
    clear h1 h2 h3
    go_enter Tryz.func84, Tryz.ntmps84
    go_wp2_with (first
      | (go_at_call 54; ((with_reducible refine HK1.out.mono ?_); rintro x w2 ⟨rfl, hb⟩; have HW := Lib.hid (btO HB1.out hb); have e2 := cellO hb hC2; have e3 := cellO hb hC3; clear hb))
      | (go_at_call 10; ((with_reducible refine (HN.out _).mono ?_); rintro x w2 ⟨rfl, rfl⟩))
      | (go_at_call 87; ((with_reducible refine (HD.out _).mono ?_); rintro x w2 ⟨rfl, rfl⟩)))
    go_ret
    exact ⟨rfl, HB1.out⟩
end Go.Proofs.YtbfimfjhdbpenaaGreatDoor
/- Layer 8, plain: what is known: its order; a thing put in its place. -/
namespace Go.Proofs.YtbfimfjhdbpenaaGreatDoor
open Go Go.RowKit
abbrev bl (x y : List UInt8) : Bool := Op.bytesLess x y
theorem bl_cc (a b : UInt8) (x y : List UInt8) : bl (a :: x) (b :: y) = true ↔ a.toNat < b.toNat ∨ (a = b ∧ bl x y = true) := by
  unfold bl
  rw [Op.bytesLess, Bool.or_eq_true, Bool.and_eq_true, decide_eq_true_eq, beq_iff_eq, UInt8.lt_iff_toNat_lt]
theorem bl_nil (x : List UInt8) : bl x [] = false := by cases x <;> rfl
theorem bl_irrefl (x : List UInt8) : bl x x = false := by
  induction x with
  | nil => rfl
  | cons a x ih =>
    rw [Bool.eq_false_iff]
    intro h
    rcases (bl_cc a a x x).1 h with h | ⟨-, h⟩
    · omega
    · rw [ih] at h; cases h
theorem bl_trans {x y z : List UInt8} (h1 : bl x y = true) (h2 : bl y z = true) : bl x z = true := by
  induction x generalizing y z with
  | nil =>
    cases y with
    | nil => rw [bl_nil] at h1; cases h1
    | cons b y =>
      cases z with
      | nil => rw [bl_nil] at h2; cases h2
      | cons c z => rfl
  | cons a x ih =>
    cases y with
    | nil => rw [bl_nil] at h1; cases h1
    | cons b y =>
      cases z with
      | nil => rw [bl_nil] at h2; cases h2
      | cons c z =>
        rw [bl_cc] at h1 h2 ⊢
        rcases h1 with h1 | ⟨rfl, h1⟩
        · rcases h2 with h2 | ⟨rfl, h2⟩
          · exact .inl (by omega)
          · exact .inl h1
        · rcases h2 with h2 | ⟨rfl, h2⟩
          · exact .inl h2
          · exact .inr ⟨rfl, ih h1 h2⟩
theorem bl_total {x y : List UInt8} (h1 : bl x y = false) (h2 : bl y x = false) : x = y := by
  induction x generalizing y with
  | nil =>
    cases y with
    | nil => rfl
    | cons b y => cases h1
  | cons a x ih =>
    cases y with
    | nil => cases h2
    | cons b y =>
      have g1 : ¬ (a.toNat < b.toNat ∨ (a = b ∧ bl x y = true)) := fun h => by rw [(bl_cc a b x y).2 h] at h1; cases h1
      have g2 : ¬ (b.toNat < a.toNat ∨ (b = a ∧ bl y x = true)) := fun h => by rw [(bl_cc b a y x).2 h] at h2; cases h2
      have e : a = b := UInt8.toNat_inj.1 (by omega)
      subst e
      rw [ih (y := y) (by rw [Bool.eq_false_iff]; exact fun h => g1 (.inr ⟨rfl, h⟩)) (by rw [Bool.eq_false_iff]; exact fun h => g2 (.inr ⟨rfl, h⟩))]
abbrev Key := List UInt8 × List UInt8 × Int
def ltK (a b : Key) : Bool := bl a.1 b.1 || (a.1 == b.1 && (bl a.2.1 b.2.1 || (a.2.1 == b.2.1 && decide (a.2.2 < b.2.2))))
theorem ltK_iff (a b : Key) : ltK a b = true ↔ bl a.1 b.1 = true ∨ (a.1 = b.1 ∧ (bl a.2.1 b.2.1 = true ∨ (a.2.1 = b.2.1 ∧ a.2.2 < b.2.2))) := by
  unfold ltK
  simp only [Bool.or_eq_true, Bool.and_eq_true, beq_iff_eq, decide_eq_true_eq]
theorem ltK_irrefl (a : Key) : ltK a a = false := by
  rw [Bool.eq_false_iff]
  intro h
  rcases (ltK_iff a a).1 h with h | ⟨-, h | ⟨-, h⟩⟩
  · rw [bl_irrefl] at h; cases h
  · rw [bl_irrefl] at h; cases h
  · omega
theorem ltK_trans {a b c : Key} (h1 : ltK a b = true) (h2 : ltK b c = true) : ltK a c = true := by
  rw [ltK_iff] at h1 h2 ⊢
  rcases h1 with h1 | ⟨e1, h1⟩
  · rcases h2 with h2 | ⟨e2, -⟩
    · exact .inl (bl_trans h1 h2)
    · rw [← e2]; exact .inl h1
  · rw [e1]
    rcases h2 with h2 | ⟨e2, h2⟩
    · exact .inl h2
    · refine .inr ⟨e2, ?_⟩
      rcases h1 with h1 | ⟨e3, h1⟩
      · rcases h2 with h2 | ⟨e4, -⟩
        · exact .inl (bl_trans h1 h2)
        · rw [← e4]; exact .inl h1
      · rw [e3]
        rcases h2 with h2 | ⟨e4, h2⟩
        · exact .inl h2
        · exact .inr ⟨e4, by omega⟩
theorem ltK_total {a b : Key} (h1 : ltK a b = false) (h2 : ltK b a = false) : a = b := by
  have g1 : ¬ _ := fun h => by rw [(ltK_iff a b).2 h] at h1; cases h1
  have g2 : ¬ _ := fun h => by rw [(ltK_iff b a).2 h] at h2; cases h2
  obtain ⟨a1, a2, a3⟩ := a
  obtain ⟨b1, b2, b3⟩ := b
  simp only at g1 g2
  have e1 : a1 = b1 := bl_total (by rw [Bool.eq_false_iff]; exact fun h => g1 (.inl h)) (by rw [Bool.eq_false_iff]; exact fun h => g2 (.inl h))
  subst e1
  have e2 : a2 = b2 := bl_total (by rw [Bool.eq_false_iff]; exact fun h => g1 (.inr ⟨rfl, .inl h⟩)) (by rw [Bool.eq_false_iff]; exact fun h => g2 (.inr ⟨rfl, .inl h⟩))
  subst e2
  have e3 : ¬ a3 < b3 := fun h => g1 (.inr ⟨rfl, .inr ⟨rfl, h⟩⟩)
  have e4 : ¬ b3 < a3 := fun h => g2 (.inr ⟨rfl, .inr ⟨rfl, h⟩⟩)
  rw [show a3 = b3 by omega]
theorem ltK_asymm {a b : Key} (h : ltK a b = true) : ltK b a = false := by
  rw [Bool.eq_false_iff]
  intro g
  have := ltK_trans h g
  rw [ltK_irrefl] at this; cases this
def cmS (x y : List UInt8) : Int := if bl x y then -1 else if bl y x then 1 else 0
def cmI (x y : Int) : Int := if x < y then -1 else if y < x then 1 else 0
def cmK (a b : Key) : Int := if ltK a b then -1 else if ltK b a then 1 else 0
def orI (x y : Int) : Int := if x = 0 then y else x
theorem cmS_cases (x y : List UInt8) : (bl x y = true ∧ cmS x y = -1) ∨ (x = y ∧ cmS x y = 0) ∨ (bl y x = true ∧ cmS x y = 1) := by
  unfold cmS
  cases h1 : bl x y
  · cases h2 : bl y x
    · exact .inr (.inl ⟨bl_total h1 h2, by simp⟩)
    · exact .inr (.inr ⟨rfl, by simp⟩)
  · exact .inl ⟨rfl, by simp⟩
theorem cmI_cases (x y : Int) : (x < y ∧ cmI x y = -1) ∨ (x = y ∧ cmI x y = 0) ∨ (y < x ∧ cmI x y = 1) := by
  unfold cmI
  by_cases h1 : x < y
  · exact .inl ⟨h1, if_pos h1⟩
  · by_cases h2 : y < x
    · exact .inr (.inr ⟨h2, by rw [if_neg h1, if_pos h2]⟩)
    · exact .inr (.inl ⟨by omega, by rw [if_neg h1, if_neg h2]⟩)
theorem cmK_lt {a b : Key} (h : ltK a b = true) : cmK a b = -1 := by unfold cmK; rw [h]; rfl
theorem cmK_gt {a b : Key} (h : ltK b a = true) : cmK a b = 1 := by unfold cmK; rw [ltK_asymm h, h]; rfl
theorem cmK_eq (a : Key) : cmK a a = 0 := by unfold cmK; rw [ltK_irrefl]; rfl
theorem cmK_neg (a b : Key) : cmK a b < 0 ↔ ltK a b = true := by
  unfold cmK
  cases h1 : ltK a b
  · cases h2 : ltK b a <;> simp
  · simp
theorem cmK_zero (a b : Key) : cmK a b = 0 ↔ a = b := by
  constructor
  · intro h
    unfold cmK at h
    cases h1 : ltK a b
    · cases h2 : ltK b a
      · exact ltK_total h1 h2
      · rw [h1, h2] at h; simp at h
    · rw [h1] at h; simp at h
  · rintro rfl; exact cmK_eq a
theorem cmK_fix (n n' : List UInt8) (d d' : Int) : orI (cmS n n') (cmI d d') = cmK ([], n, d) ([], n', d') := by
  rcases cmS_cases n n' with ⟨h, e⟩ | ⟨rfl, e⟩ | ⟨h, e⟩
  · rw [e, cmK_lt (a := ([], n, d)) (b := ([], n', d')) ((ltK_iff _ _).2 (.inr ⟨rfl, .inl h⟩))]; rfl
  · rw [e]
    rcases cmI_cases d d' with ⟨h, e2⟩ | ⟨rfl, e2⟩ | ⟨h, e2⟩
    · rw [e2, cmK_lt (a := ([], n, d)) (b := ([], n, d')) ((ltK_iff _ _).2 (.inr ⟨rfl, .inr ⟨rfl, h⟩⟩))]; rfl
    · rw [e2, cmK_eq]; rfl
    · rw [e2, cmK_gt (a := ([], n, d)) (b := ([], n, d')) ((ltK_iff _ _).2 (.inr ⟨rfl, .inr ⟨rfl, h⟩⟩))]; rfl
  · rw [e, cmK_gt (a := ([], n, d)) (b := ([], n', d')) ((ltK_iff _ _).2 (.inr ⟨rfl, .inl h⟩))]; rfl
theorem cmK_cho (p p' n n' : List UInt8) (d d' : Int) : orI (cmS p p') (orI (cmS n n') (cmI d d')) = cmK (p, n, d) (p', n', d') := by
  rcases cmS_cases p p' with ⟨h, e⟩ | ⟨rfl, e⟩ | ⟨h, e⟩
  · rw [e, cmK_lt (a := (p, n, d)) (b := (p', n', d')) ((ltK_iff _ _).2 (.inl h))]; rfl
  · rw [e]
    rcases cmS_cases n n' with ⟨h, e3⟩ | ⟨rfl, e3⟩ | ⟨h, e3⟩
    · rw [e3, cmK_lt (a := (p, n, d)) (b := (p, n', d')) ((ltK_iff _ _).2 (.inr ⟨rfl, .inl h⟩))]; rfl
    · rw [e3]
      rcases cmI_cases d d' with ⟨h, e2⟩ | ⟨rfl, e2⟩ | ⟨h, e2⟩
      · rw [e2, cmK_lt (a := (p, n, d)) (b := (p, n, d')) ((ltK_iff _ _).2 (.inr ⟨rfl, .inr ⟨rfl, h⟩⟩))]; rfl
      · rw [e2, cmK_eq]; rfl
      · rw [e2, cmK_gt (a := (p, n, d)) (b := (p, n, d')) ((ltK_iff _ _).2 (.inr ⟨rfl, .inr ⟨rfl, h⟩⟩))]; rfl
    · rw [e3, cmK_gt (a := (p, n, d)) (b := (p, n', d')) ((ltK_iff _ _).2 (.inr ⟨rfl, .inl h⟩))]; rfl
  · rw [e, cmK_gt (a := (p, n, d)) (b := (p', n', d')) ((ltK_iff _ _).2 (.inl h))]; rfl
abbrev Fx := ByteArray × Int × ByteArray
abbrev Cx := ByteArray × ByteArray × Int × Bool
def Fx.key (f : Fx) : Key := ([], f.1.data.toList, f.2.1)
def Cx.key (c : Cx) : Key := (c.1.data.toList, c.2.1.data.toList, c.2.2.1)
def Fx.ok (f : Fx) : Bool := nameO f.1.data.toList && dayO f.2.1 && decide (chkR f.2.2.data.toList = 0)
def Cx.ok (c : Cx) : Bool := nameO c.1.data.toList && nameO c.2.1.data.toList && dayO c.2.2.1
def okJ {α : Type} (key : α → Key) (ok : α → Bool) (l : List α) (j : Nat) : Bool :=
  match l[j]? with
  | none => true
  | some x => ok x && (match j with | 0 => true | i + 1 => match l[i]? with | none => true | some y => ltK (key y) (key x))
def ordB {α : Type} (key : α → Key) (ok : α → Bool) (l : List α) : Bool := (List.range l.length).all (okJ key ok l)
theorem ordB_iff {α : Type} (key : α → Key) (ok : α → Bool) (l : List α) : ordB key ok l = true ↔ ∀ j, j < l.length → okJ key ok l j = true := by
  unfold ordB
  rw [List.all_eq_true]
  simp only [List.mem_range]
theorem okJ_zero {α : Type} (key : α → Key) (ok : α → Bool) (l : List α) (h : 0 < l.length) : okJ key ok l 0 = ok l[0] := by
  unfold okJ
  rw [List.getElem?_eq_getElem h]
  simp
theorem okJ_succ {α : Type} (key : α → Key) (ok : α → Bool) (l : List α) (j : Nat) (h : j + 1 < l.length) : okJ key ok l (j + 1) = (ok l[j + 1] && ltK (key l[j]) (key l[j + 1])) := by
  unfold okJ
  simp only [List.getElem?_eq_getElem h, List.getElem?_eq_getElem (show j < l.length by omega)]
def Inc {α : Type} (key : α → Key) (l : List α) : Prop := ∀ i j (hi : i < j) (hj : j < l.length), ltK (key (l[i]'(by omega))) (key l[j]) = true
theorem inc_of {α : Type} {key : α → Key} {ok : α → Bool} {l : List α} (h : ordB key ok l = true) : Inc key l ∧ ∀ j (hj : j < l.length), ok l[j] = true := by
  rw [ordB_iff] at h
  have h1 : ∀ j (hj : j + 1 < l.length), ltK (key l[j]) (key l[j + 1]) = true := fun j hj => by
    have := h (j + 1) hj
    rw [okJ_succ key ok l j hj, Bool.and_eq_true] at this
    exact this.2
  constructor
  · intro i j hi hj
    induction j with
    | zero => omega
    | succ j ih =>
      rcases Nat.lt_or_ge i j with g | g
      · exact ltK_trans (ih g (by omega)) (h1 j hj)
      · obtain rfl : i = j := by omega
        exact h1 i hj
  · intro j hj
    have := h j hj
    cases j with
    | zero => rwa [okJ_zero key ok l hj] at this
    | succ j =>
      rw [okJ_succ key ok l j hj, Bool.and_eq_true] at this
      exact this.1
end Go.Proofs.YtbfimfjhdbpenaaGreatDoor
/- Layer 8: what is known, in memory; the statements' guard of it. -/
namespace Go.Proofs.YtbfimfjhdbpenaaGreatDoor
open Go Go.RowKit Go.BigFrame
theorem below_dnO {B : Nat} {a w : World} (h : Below B a w) (n : Nat) : Below B a (w.drewN n) := ⟨h.os, h.tape, h.output, h.size, h.block⟩
def fxC (f : Fx) : List Value := [.string f.1, .int .i64 f.2.1, .string f.2.2]
def cxC (c : Cx) : List Value := [.string c.1, .string c.2.1, .int .i64 c.2.2.1, .bool c.2.2.2]
def RowsR {α : Type} (w : World) (A : Option Addr) (k : Nat) (enc : α → List Value) (l : List α) : Prop := ∀ j (h : j < l.length), RowC w A k j (enc l[j])
theorem RowsR.below {α : Type} {w w' : World} {A : Option Addr} {k : Nat} {enc : α → List Value} {l : List α} (h : RowsR w A k enc l) (hb : Below w.heap.size w w') : RowsR w' A k enc l := fun j hj => (h j hj).below hb
theorem RowsR.nil {α : Type} {w : World} {A : Option Addr} {k : Nat} {enc : α → List Value} : RowsR w A k enc ([] : List α) := fun j hj => by simp at hj
theorem RowsR.fx {w : World} {A : Option Addr} {l : List Fx} (h : RowsR w A 3 fxC l) {j : Nat} (hj : j < l.length) : ∃ b o, A = some ⟨b, o, none⟩ ∧ b < w.heap.size ∧
    w.cell? ⟨b, o + j * 3, none⟩ = some (.string l[j].1) ∧ w.cell? ⟨b, o + j * 3 + 1, none⟩ = some (.int .i64 l[j].2.1) ∧ w.cell? ⟨b, o + j * 3 + 2, none⟩ = some (.string l[j].2.2) := by
  obtain ⟨b, o, h1, h2, h3⟩ := h j hj
  exact ⟨b, o, h1, h2, h3 0 _ rfl, h3 1 _ rfl, h3 2 _ rfl⟩
theorem RowsR.cx {w : World} {A : Option Addr} {l : List Cx} (h : RowsR w A 4 cxC l) {j : Nat} (hj : j < l.length) : ∃ b o, A = some ⟨b, o, none⟩ ∧ b < w.heap.size ∧
    w.cell? ⟨b, o + j * 4, none⟩ = some (.string l[j].1) ∧ w.cell? ⟨b, o + j * 4 + 1, none⟩ = some (.string l[j].2.1) ∧ w.cell? ⟨b, o + j * 4 + 2, none⟩ = some (.int .i64 l[j].2.2.1) ∧ w.cell? ⟨b, o + j * 4 + 3, none⟩ = some (.bool l[j].2.2.2) := by
  obtain ⟨b, o, h1, h2, h3⟩ := h j hj
  exact ⟨b, o, h1, h2, h3 0 _ rfl, h3 1 _ rfl, h3 2 _ rfl, h3 3 _ rfl⟩
structure Ev where
  fA : Option Addr
  fs : List Fx
  fc : Nat
  cA : Option Addr
  cs : List Cx
  cc : Nat
abbrev Ev.val (e : Ev) : Value := .agg #[.slice e.fA e.fs.length e.fc, .slice e.cA e.cs.length e.cc]
structure Ev.In (w : World) (e : Ev) : Prop where
  f : RowsR w e.fA 3 fxC e.fs
  c : RowsR w e.cA 4 cxC e.cs
  fl : e.fs.length ≤ 140737488351232
  cl : e.cs.length ≤ 140737488351232
  fb : ∀ f ∈ e.fs, f.1.size ≤ 140737488351232 ∧ f.2.2.size ≤ 140737488351232
  cb : ∀ c ∈ e.cs, c.1.size ≤ 140737488351232 ∧ c.2.1.size ≤ 140737488351232
theorem Ev.In.below {w w' : World} {e : Ev} (h : e.In w) (hb : Below w.heap.size w w') : e.In w' := ⟨h.f.below hb, h.c.below hb, h.fl, h.cl, h.fb, h.cb⟩
structure Ev.Box (w : World) (b : Nat) (e : Ev) : Prop where
  c0 : w.cell? ⟨b, 0, none⟩ = some (.slice e.fA e.fs.length e.fc)
  c1 : w.cell? ⟨b, 1, none⟩ = some (.slice e.cA e.cs.length e.cc)
theorem Ev.Box.below {w w' : World} {b : Nat} {e : Ev} (h : Ev.Box w b e) (hb : Below w.heap.size w w') : Ev.Box w' b e := ⟨cellO hb h.c0, cellO hb h.c1⟩
theorem Ev.Box.new (w : World) (e : Ev) (ty : TypeId) : Ev.Box (w.alloc (.cells #[.slice e.fA e.fs.length e.fc, .slice e.cA e.cs.length e.cc] ty)) w.heap.size e := by
  refine ⟨?_, ?_⟩
  all_goals (rw [World.cell?_alloc_at _ _ _ _ rfl]; rfl)
def fxN (f : Fx) : Nat := f.1.size + f.2.2.size
def cxN (c : Cx) : Nat := c.1.size + c.2.1.size
def Ev.grt (e : Ev) : Bool := decide (1100 < e.fs.length) || decide (1100 < e.cs.length) || decide (20000 < (e.fs.map fxN).sum + (e.cs.map cxN).sum)
theorem Ev.grt_not {e : Ev} (h : e.grt = false) : e.fs.length ≤ 1100 ∧ e.cs.length ≤ 1100 ∧ (∀ f ∈ e.fs, f.1.size ≤ 20000 ∧ f.2.2.size ≤ 20000) ∧ (∀ c ∈ e.cs, c.1.size ≤ 20000 ∧ c.2.1.size ≤ 20000) := by
  unfold Ev.grt at h
  simp only [Bool.or_eq_false_iff, decide_eq_false_iff_not] at h
  obtain ⟨⟨h1, h2⟩, h3⟩ := h
  refine ⟨by omega, by omega, fun f hf => ?_, fun c hc => ?_⟩
  · have := sum_mem fxN e.fs hf; unfold fxN at this h3; omega
  · have := sum_mem cxN e.cs hc; unfold cxN at this h3; omega
theorem sum_bd {α : Type} (f : α → Nat) (B : Nat) (l : List α) (h : ∀ a ∈ l, f a ≤ B) : (l.map f).sum ≤ l.length * B := by
  induction l with
  | nil => simp
  | cons a l ih =>
    have h1 := h a (List.mem_cons_self ..)
    have h2 := ih (fun b hb => h b (List.mem_cons_of_mem _ hb))
    rw [List.map_cons, List.sum_cons, List.length_cons, Nat.add_mul]
    omega
set_option maxRecDepth 100000 in
set_option maxHeartbeats 3200000 in
theorem greatEnv_any (E : Ev) (w : World) (hin : E.In w) : Calls Tryz.prog 24 #[E.val] w (BoolRO E.grt w) := by
  have mixed : Tryz.prog.follows Departure.mixedOrders = true := by kernel_rfl
  obtain ⟨fA, fs, fc, cA, cs, cc⟩ := E
  have HB1 := belO w (.cells #[.slice fA fs.length fc, .slice cA cs.length cc] 38)
  have hC : Ev.Box (w.alloc (.cells #[.slice fA fs.length fc, .slice cA cs.length cc] 38)) w.heap.size ⟨fA, fs, fc, cA, cs, cc⟩ := Ev.Box.new w ⟨fA, fs, fc, cA, cs, cc⟩ 38
  have hI1 := hin.below HB1
  obtain ⟨w1, hw1⟩ : ∃ w1, w.alloc (.cells #[.slice fA fs.length fc, .slice cA cs.length cc] 38) = w1 := ⟨_, rfl⟩
  rw [hw1] at HB1 hC hI1
  have HB := Lib.hid HB1
  have HI := Lib.hid hI1
  have HC := Lib.hid hC
  have hfl : fs.length ≤ 140737488351232 := hin.fl
  have hcl : cs.length ≤ 140737488351232 := hin.cl
  have HFb : Hid (∀ f ∈ fs, f.1.size ≤ 140737488351232 ∧ f.2.2.size ≤ 140737488351232) := hin.fb
  have HCb : Hid (∀ c ∈ cs, c.1.size ≤ 140737488351232 ∧ c.2.1.size ≤ 140737488351232) := hin.cb
  have c0 : w1.cell? ⟨w.heap.size, 0, none⟩ = some (.slice fA fs.length fc) := hC.c0
  have c1 : w1.cell? ⟨w.heap.size, 1, none⟩ = some (.slice cA cs.length cc) := hC.c1
  show Calls Tryz.prog 24 #[.agg #[.slice fA fs.length fc, .slice cA cs.length cc]] w _
  have hg : Ev.grt ⟨fA, fs, fc, cA, cs, cc⟩ = (decide (1100 < fs.length) || decide (1100 < cs.length) || decide (20000 < (fs.map fxN).sum + (cs.map cxN).sum)) := rfl
  rw [hg]
  clear hin HB1 hI1 hC hg
  by_cases h1 : 1100 < (fs.length : Int)
  · rw [show (decide (1100 < fs.length) || decide (1100 < cs.length) || decide (20000 < (fs.map fxN).sum + (cs.map cxN).sum)) = true by rw [decide_eq_true (show 1100 < fs.length by omega)]; rfl]
    go_enter Tryz.func24, Tryz.ntmps24
    go_wp2_with (fail)
    go_ret
    exact ⟨rfl, HB.out⟩
  · by_cases h2 : 1100 < (cs.length : Int)
    · rw [show (decide (1100 < fs.length) || decide (1100 < cs.length) || decide (20000 < (fs.map fxN).sum + (cs.map cxN).sum)) = true by rw [decide_eq_true (show 1100 < cs.length by omega), Bool.or_true]; rfl]
      go_enter Tryz.func24, Tryz.ntmps24
      go_wp2_with (fail)
      go_ret
      exact ⟨rfl, HB.out⟩
    · rw [show (decide (1100 < fs.length) || decide (1100 < cs.length) || decide (20000 < (fs.map fxN).sum + (cs.map cxN).sum)) = decide (20000 < (((fs.map fxN).sum + (cs.map cxN).sum : Nat) : Int)) by
        rw [decide_eq_false (show ¬ 1100 < fs.length by omega), decide_eq_false (show ¬ 1100 < cs.length by omega)]
        simp only [Bool.false_or]
        by_cases g : 20000 < (fs.map fxN).sum + (cs.map cxN).sum
        · rw [decide_eq_true g, decide_eq_true (show 20000 < (((fs.map fxN).sum + (cs.map cxN).sum : Nat) : Int) by omega)]
        · rw [decide_eq_false g, decide_eq_false (show ¬ 20000 < (((fs.map fxN).sum + (cs.map cxN).sum : Nat) : Int) by omega)]]
      obtain ⟨SF, hSF⟩ : ∃ n, (fs.map fxN).sum = n := ⟨_, rfl⟩
      obtain ⟨SC, hSC⟩ : ∃ n, (cs.map cxN).sum = n := ⟨_, rfl⟩
      have hSF1 : SF ≤ 309622474372710400 := by
        have := sum_bd fxN 281474976702464 fs (fun f hf => by have := HFb.out f hf; unfold fxN; omega)
        rw [hSF] at this
        omega
      have hSC1 : SC ≤ 309622474372710400 := by
        have := sum_bd cxN 281474976702464 cs (fun f hf => by have := HCb.out f hf; unfold cxN; omega)
        rw [hSC] at this
        omega
      have HSF := Lib.hid hSF
      have HSC := Lib.hid hSC
      rw [hSF, hSC]
      clear hSF hSC
      go_enter Tryz.func24, Tryz.ntmps24
      go_wp2_with (fail)
      clear hw1 c0 c1
      go_loopw [3, 4] (fun v i wr => ∃ (n k : Nat), k ≤ fs.length ∧ v = .int .i64 n ∧ i = .int .i64 k ∧ n ≤ SF ∧ Hid (n = ((fs.take k).map fxN).sum) ∧ Hid (Below w1.heap.size w1 wr)) (fun _ i _ => fs.length - (intOf i).toNat)
      case atStart => exact ⟨0, 0, by omega, rfl, rfl, by omega, rfl, Below.refl _ _⟩
      case round =>
        obtain ⟨n, k, hk, rfl, rfl, hnY, HR, HW⟩ := hrel
        obtain ⟨b0, b1⟩ := HC.out.below HW.out
        simp only at b0 b1
        by_cases hlt : k < fs.length
        · obtain ⟨b, o, rfl, -, d0, d1, d2⟩ := (HI.out.below HW.out).f.fx hlt
          simp only at d0 d1 d2
          have hs := sum_take fxN fs k hlt
          have hs2 := sum_take_le fxN fs (k + 1)
          have hx : fxN fs[k] = fs[k].1.size + fs[k].2.2.size := rfl
          have HR2 : Hid (n + fs[k].1.size + fs[k].2.2.size = ((fs.take (k + 1)).map fxN).sum) := by show _ = _; rw [hs]; have := HR.out; omega
          have hnY2 : n + fs[k].1.size + fs[k].2.2.size ≤ SF := by have := HR2.out; have := HSF.out; omega
          generalize fs[k] = t at *
          obtain ⟨tn, td, tv⟩ := t
          simp only at d0 d1 d2 HR2 hnY2
          generalize hA1 : tn.size = a1 at *
          generalize hA2 : tv.size = a2 at *
          have e1 : IntKind.i64.wrap ((n : Int) + (a1 : Int)) = ((n + a1 : Nat) : Int) := by rw [IntKind.wrap_i64]; omega
          have e2 : IntKind.i64.wrap (((n + a1 : Nat) : Int) + (a2 : Int)) = ((n + a1 + a2 : Nat) : Int) := by rw [IntKind.wrap_i64]; omega
          have hk0 : (0 : Int) ≤ (k : Int) := by omega
          have hk1 : (k : Int) < (fs.length : Int) := by omega
          clear HI hs hs2 HR hx
          go_wp2_with (fail)
          go_quiet (fail)
          have HW2 := Lib.hid (below_dnO HW.out nq)
          go_wp2_with (fail)
          go_roundw
          case rel => exact ⟨n + a1 + a2, k + 1, by omega, by go_num, by go_num, by omega, HR2, HW2⟩
          case measure => simp [intOf]; omega
        · obtain rfl : k = fs.length := by omega
          obtain rfl : n = SF := by have h1 := HR.out; have h2 := HSF.out; rw [List.take_length] at h1; omega
          clear HR HSF hlt
          go_wp2_with (fail)
          go_loopw [3, 5] (fun v i wr => ∃ (m k : Nat), k ≤ cs.length ∧ v = .int .i64 (n + m : Nat) ∧ i = .int .i64 k ∧ m ≤ SC ∧ Hid (m = ((cs.take k).map cxN).sum) ∧ Hid (Below w1.heap.size w1 wr)) (fun _ i _ => cs.length - (intOf i).toNat)
          case atStart => exact ⟨0, 0, by omega, rfl, rfl, by omega, rfl, HW.out⟩
          case round =>
            clear b0 b1 HW
            obtain ⟨m, k, hk, rfl, rfl, hmY, HR, HW⟩ := hrel
            obtain ⟨b0, b1⟩ := HC.out.below HW.out
            simp only at b0 b1
            by_cases hlt : k < cs.length
            · obtain ⟨b, o, rfl, -, d0, d1, d2, d3⟩ := (HI.out.below HW.out).c.cx hlt
              simp only at d0 d1 d2 d3
              have hs := sum_take cxN cs k hlt
              have hs2 := sum_take_le cxN cs (k + 1)
              have hx : cxN cs[k] = cs[k].1.size + cs[k].2.1.size := rfl
              have HR2 : Hid (m + cs[k].1.size + cs[k].2.1.size = ((cs.take (k + 1)).map cxN).sum) := by show _ = _; rw [hs]; have := HR.out; omega
              have hmY2 : m + cs[k].1.size + cs[k].2.1.size ≤ SC := by have := HR2.out; have := HSC.out; omega
              generalize cs[k] = t at *
              obtain ⟨tp, tn, td, tb⟩ := t
              simp only at d0 d1 d2 d3 HR2 hmY2
              generalize hA1 : tp.size = a1 at *
              generalize hA2 : tn.size = a2 at *
              obtain ⟨N, hN⟩ : ∃ N : Int, ((n + m : Nat) : Int) = N := ⟨_, rfl⟩
              have hN1 : N ≤ 619244948745420800 := by omega
              have hN0 : 0 ≤ N := by omega
              have e1 : IntKind.i64.wrap (N + (a1 : Int)) = N + a1 := by rw [IntKind.wrap_i64]; omega
              have e2 : IntKind.i64.wrap (N + (a1 : Int) + (a2 : Int)) = N + a1 + a2 := by rw [IntKind.wrap_i64]; omega
              have hk0 : (0 : Int) ≤ (k : Int) := by omega
              have hk1 : (k : Int) < (cs.length : Int) := by omega
              have HN := Lib.hid hN
              rw [hN]
              clear HI hs hs2 HR hx hN
              go_wp2_with (fail)
              go_quiet (fail)
              have HW2 := Lib.hid (below_dnO HW.out nq)
              go_wp2_with (fail)
              go_roundw
              case rel => exact ⟨m + a1 + a2, k + 1, by omega, by have := HN.out; rw [← this]; congr 1; omega, by go_num, by omega, HR2, HW2⟩
              case measure => simp [intOf]; omega
            · obtain rfl : k = cs.length := by omega
              obtain rfl : m = SC := by have h1 := HR.out; have h2 := HSC.out; rw [List.take_length] at h1; omega
              clear HR HSC hlt
              go_wp2_with (fail)
              go_ret
              exact ⟨rfl, btO HB.out HW.out⟩
end Go.Proofs.YtbfimfjhdbpenaaGreatDoor
/- Layer 8: SameEnv. -/
namespace Go.Proofs.YtbfimfjhdbpenaaGreatDoor
open Go Go.RowKit Go.BigFrame
theorem str_cases (a b : ByteArray) : a = b ∨ (a.toList == b.toList) = false := by
  rw [Lib.toList_data, Lib.toList_data]
  by_cases h : a.data.toList = b.data.toList
  · refine .inl ?_
    cases a; cases b
    exact congrArg ByteArray.mk (Array.toList_inj.1 h)
  · exact .inr (by rw [beq_eq_false_iff_ne]; exact h)
theorem str_ne {a b : ByteArray} (h : (a.toList == b.toList) = false) : a ≠ b := by
  rintro rfl
  rw [beq_eq_false_iff_ne] at h
  exact h rfl
end Go.Proofs.YtbfimfjhdbpenaaGreatDoor
/- Layer 8: partsOf, hasParts, wellFormed, Check, Number, Truth of the program. -/
namespace Go.Proofs.YtbfimfjhdbpenaaGreatDoor
open Go Go.RowKit Go.BigFrame
def u8V (x : Int) : Value := .int .u8 x
def PrtR (l : List Int) (w : World) (e : Ending) (w' : World) : Prop := ∃ A c, e = .returned (.slice A l.length c) ∧ SlA u8V w' A l ∧ Below w.heap.size w w'
set_option maxRecDepth 100000 in
set_option maxHeartbeats 3200000 in
theorem partsOf_any (k : Int) (w : World) : Calls Tryz.prog 86 #[.int .u8 k] w (PrtR (prtL k) w) := by
  have hN : ∀ (cs : Array Value) (l : List Int) (t : TypeId), cs.toList = l.map u8V → SlA u8V (w.alloc (.cells cs t)) (some ⟨w.heap.size, 0, none⟩) l := fun cs l t h => SlA.of_cells (heap_alloc_new w (.cells cs t)) h
  have HN := Lib.hid hN
  have HB := Lib.hid (belO w)
  clear hN
  by_cases h : k = 4 ∨ k = 5 ∨ k = 6 ∨ k = 7 ∨ k = 8 ∨ k = 11 ∨ k = 12
  · have hp : prtL k = [1, 1] := by unfold prtL; rw [if_pos h]
    rw [hp]
    clear hp
    rcases h with rfl | rfl | rfl | rfl | rfl | rfl | rfl
    all_goals
      go_enter Tryz.func86, Tryz.ntmps86
      go_wp2_with (fail)
      go_ret
      exact ⟨_, _, rfl, HN.out _ _ _ rfl, HB.out _⟩
  by_cases h9 : k = 9
  · subst h9
    have hp : prtL 9 = [2, 1, 1] := by decide
    rw [hp]
    clear hp h
    go_enter Tryz.func86, Tryz.ntmps86
    go_wp2_with (fail)
    go_ret
    exact ⟨_, _, rfl, HN.out _ _ _ rfl, HB.out _⟩
  by_cases h13 : k = 13 ∨ k = 14
  · have hp : prtL k = [2, 2] := by unfold prtL; rw [if_neg h, if_neg h9, if_pos h13]
    rw [hp]
    clear hp h h9
    rcases h13 with rfl | rfl
    all_goals
      go_enter Tryz.func86, Tryz.ntmps86
      go_wp2_with (fail)
      go_ret
      exact ⟨_, _, rfl, HN.out _ _ _ rfl, HB.out _⟩
  by_cases h15 : k = 15
  · subst h15
    have hp : prtL 15 = [2] := by decide
    rw [hp]
    clear hp h h9 h13
    go_enter Tryz.func86, Tryz.ntmps86
    go_wp2_with (fail)
    go_ret
    exact ⟨_, _, rfl, HN.out _ _ _ rfl, HB.out _⟩
  · have hp : prtL k = [] := by unfold prtL; rw [if_neg h, if_neg h9, if_neg h13, if_neg h15]
    rw [hp]
    have e (x : Int) (hx : k ≠ x) : (k == x) = false := by rw [beq_eq_false_iff_ne]; exact hx
    have e4 := e 4 (by omega)
    have e5 := e 5 (by omega)
    have e6 := e 6 (by omega)
    have e7 := e 7 (by omega)
    have e8 := e 8 (by omega)
    have e9 := e 9 (by omega)
    have e11 := e 11 (by omega)
    have e12 := e 12 (by omega)
    have e13 := e 13 (by omega)
    have e14 := e 14 (by omega)
    have e15 := e 15 (by omega)
    clear hp h h9 h13 h15 e
    go_enter Tryz.func86, Tryz.ntmps86
    go_wp2_with (fail)
    go_ret
    exact ⟨_, _, rfl, SlA.nil, Below.refl _ _⟩
theorem map_srt_iff (s : List Ex) (l : List Int) (hlen : s.length = l.length) : s.map Ex.srt = l ↔ ∀ j (h : j < s.length) (h' : j < l.length), s[j].srt = l[j] := by
  constructor
  · rintro rfl j h h'
    simp
  · intro h
    refine List.ext_getElem (by simp [hlen]) fun j h1 h2 => ?_
    rw [List.getElem_map]
    exact h j (by simpa using h1) h2
set_option maxRecDepth 100000 in
set_option maxHeartbeats 6400000 in
theorem hasParts_any (k : Int) (r n : ByteArray) (d : Int) (A : Option Addr) (c : Nat) (s : List Ex) (l : List Int) (B : Option Addr) (cb : Nat) (w : World)
    (hin : Ex.In w (.mk k r n d A c s)) (hB : SlA u8V w B l) (hl : ∀ x ∈ l, x = 1 ∨ x = 2) (hl3 : l.length ≤ 3) (hv : VarR w)
    (ih : ∀ t ∈ s, ∀ W, t.In W → VarR W → Calls Tryz.prog 48 #[t.val] W (BoolRO (decide (t.srt ≠ 0)) W)) :
    Calls Tryz.prog 85 #[.slice A s.length c, .slice B l.length cb] w (BoolRO (decide (s.map Ex.srt = l)) w) := by
  have mixed : Tryz.prog.follows Departure.mixedOrders = true := by kernel_rfl
  have hbd := hin.bd
  have hl63 : s.length ≤ 9223372036854775807 := by have : s.length ≤ 140737488351232 := hbd.c1; omega
  by_cases hlen : s.length = l.length
  · obtain ⟨b, hb⟩ : ∃ b, decide (s.map Ex.srt = l) = b := ⟨_, rfl⟩
    have HE : Hid (b = true ↔ ∀ j (h : j < s.length) (h' : j < l.length), s[j].srt = l[j]) := by
      show _ ↔ _
      rw [← hb, decide_eq_true_iff]
      exact map_srt_iff s l hlen
    rw [hb]
    have HA := Lib.hid hin
    have HB := Lib.hid hB
    have HV := Lib.hid hv
    have IH := Lib.hid ih
    have HL := Lib.hid hl
    have HN := Lib.hid hlen
    rw [← hlen]
    clear hin hB hv ih hl hb hlen hbd hl3
    go_enter Tryz.func85, Tryz.ntmps85
    go_wp2_with (fail)
    go_loopw [14] (fun i wr => ∃ k : Nat, k ≤ s.length ∧ i = .int .i64 k ∧ Hid (∀ j (h : j < s.length) (h' : j < l.length), j < k → s[j].srt = l[j]) ∧ Hid (Below w.heap.size w wr)) (fun i _ => s.length - (intOf i).toNat)
    case atStart => exact ⟨0, by omega, rfl, fun j h h' g => by omega, Below.refl _ _⟩
    case round =>
      obtain ⟨j, hj, rfl, HI, HW⟩ := hrel
      by_cases hlt : j < s.length
      · have HAW := Lib.hid (HA.out.below HW.out)
        obtain ⟨b1, o1, rfl, -, hpi, d0, d1, d2, d3, d4⟩ := HAW.out.part hlt
        have hlt2 : j < l.length := by have := HN.out; omega
        obtain ⟨b2, o2, rfl, -, g0⟩ := (HB.out.below HW.out).get hlt2
        have hm : s[j] ∈ s := List.getElem_mem hlt
        have HP := Lib.hid hpi
        have HJ := Lib.hid (IH.out s[j] hm)
        have HX : Hid (s[j].srt = l[j] → ∀ i (h : i < s.length) (h' : i < l.length), i < j + 1 → s[i].srt = l[i]) := fun g i hi hi' hij => by
          rcases Nat.lt_or_ge i j with q | q
          · exact HI.out i hi hi' q
          · obtain rfl : i = j := by omega
            exact g
        have HY : Hid (s[j].srt ≠ l[j] → b = false) := fun g => by
          cases b
          · rfl
          · exact absurd (HE.out.1 rfl j hlt hlt2) g
        have HZ := Lib.hid (Ex.srt_iff s[j] l[j] (HL.out _ (List.getElem_mem hlt2)))
        have hj1 : (j : Int) < (s.length : Int) := by omega
        generalize s[j] = t at *
        generalize l[j] = x at *
        have d5 : wr.cell? ⟨b2, o2 + j, none⟩ = some (.int .u8 x) := g0
        have HBt := Lib.hid (belO wr (.cells #[.int .u8 t.k, .string t.r, .string t.n, .int .i64 t.d, .slice t.A t.sub.length t.c] 26))
        have HV2 := Lib.hid ((HV.out.below HW.out).below HBt.out)
        have HP2 := Lib.hid (HP.out.below HBt.out)
        have HS := Lib.hid (fun W => sortOf_any t.k t.r t.n t.d t.A t.sub.length t.c W)
        clear hpi hm HI IH HA HAW HP HE g0
        have c0 : (wr.alloc (.cells #[.int .u8 t.k, .string t.r, .string t.n, .int .i64 t.d, .slice t.A t.sub.length t.c] 26)).cell? ⟨wr.heap.size, 0, none⟩ = some (.int .u8 t.k) := by rw [World.cell?_alloc_at _ _ _ _ rfl]; rfl
        have c1 : (wr.alloc (.cells #[.int .u8 t.k, .string t.r, .string t.n, .int .i64 t.d, .slice t.A t.sub.length t.c] 26)).cell? ⟨wr.heap.size, 1, none⟩ = some (.string t.r) := by rw [World.cell?_alloc_at _ _ _ _ rfl]; rfl
        have c2 : (wr.alloc (.cells #[.int .u8 t.k, .string t.r, .string t.n, .int .i64 t.d, .slice t.A t.sub.length t.c] 26)).cell? ⟨wr.heap.size, 2, none⟩ = some (.string t.n) := by rw [World.cell?_alloc_at _ _ _ _ rfl]; rfl
        have c3 : (wr.alloc (.cells #[.int .u8 t.k, .string t.r, .string t.n, .int .i64 t.d, .slice t.A t.sub.length t.c] 26)).cell? ⟨wr.heap.size, 3, none⟩ = some (.int .i64 t.d) := by rw [World.cell?_alloc_at _ _ _ _ rfl]; rfl
        have c4 : (wr.alloc (.cells #[.int .u8 t.k, .string t.r, .string t.n, .int .i64 t.d, .slice t.A t.sub.length t.c] 26)).cell? ⟨wr.heap.size, 4, none⟩ = some (.slice t.A t.sub.length t.c) := by rw [World.cell?_alloc_at _ _ _ _ rfl]; rfl
        have c5 := cellO HBt.out d5
        have HW5 := Lib.hid (btO HW.out HBt.out)
        have HCs := Lib.hid (And.intro c0 (And.intro c1 (And.intro c2 (And.intro c3 (And.intro c4 c5)))))
        have q1 : (0 : Int) ≤ (j : Int) := by omega
        clear c0 c1 c2 c3 c4 c5
        by_cases hs : srtB t.k = x
        · have hne : (srtB t.k != x) = false := by rw [bne_eq_false_iff_eq]; exact hs
          by_cases hz : t.srt = 0
          · have hd : decide (t.srt ≠ 0) = false := by rw [decide_eq_false_iff_not]; exact fun h => h hz
            rw [hd] at HJ
            obtain rfl := HY.out (fun e => (HZ.out.1 e).2 hz)
            clear HX HY HZ hs hz hd
            go_wp2_with (fail)
            generalize wr.alloc (.cells #[.int .u8 t.k, .string t.r, .string t.n, .int .i64 t.d, .slice t.A t.sub.length t.c] 26) = w5 at *
            obtain ⟨c0, c1, c2, c3, c4, c5⟩ := HCs.out
            have z0 := fun z : Bel w5 => z.cell c0
            have z1 := fun z : Bel w5 => z.cell c1
            have z2 := fun z : Bel w5 => z.cell c2
            have z3 := fun z : Bel w5 => z.cell c3
            have z4 := fun z : Bel w5 => z.cell c4
            have z5 := fun z : Bel w5 => z.cell c5
            have HSz : Hid (∀ W, Below w5.heap.size w5 W → Calls Tryz.prog 49 #[.agg #[.int .u8 t.k, .string t.r, .string t.n, .int .i64 t.d, .slice t.A t.sub.length t.c]] W fun e w' => e = .returned (.int .u8 (srtB t.k)) ∧ Below W.heap.size W w') := fun W _ => HS.out W
            have HJz : Hid (∀ W, Below w5.heap.size w5 W → Calls Tryz.prog 48 #[.agg #[.int .u8 t.k, .string t.r, .string t.n, .int .i64 t.d, .slice t.A t.sub.length t.c]] W fun e w' => e = .returned (.bool false) ∧ Below W.heap.size W w') := fun W hW => HJ.out W (HP2.out.below hW) (HV2.out.below hW)
            clear c0 c1 c2 c3 c4 c5 d0 d1 d2 d3 d4 d5
            refine wp_region_bel (by kernel_rfl) (by kernel_rfl) ?_
            repeat (go_big_quiet_step (first
              | (go_at_call 49; with_reducible exact Bel.calls HSz.out _)
              | (go_at_call 48; with_reducible exact Bel.calls HJz.out _)))
            refine wpQuiet_nil ?_
            rintro _ ⟨zz, rfl⟩
            have HZW := Lib.hid (btO HW5.out zz.2)
            generalize zz.1 = w6 at *
            go_wp2_with (fail)
            go_ret
            exact ⟨rfl, HZW.out⟩
          · have hd : decide (t.srt ≠ 0) = true := by rw [decide_eq_true_iff]; exact hz
            rw [hd] at HJ
            have HX2 := Lib.hid (HX.out (HZ.out.2 ⟨hs, hz⟩))
            clear HX HY HZ hs hz hd
            go_wp2_with (fail)
            generalize wr.alloc (.cells #[.int .u8 t.k, .string t.r, .string t.n, .int .i64 t.d, .slice t.A t.sub.length t.c] 26) = w5 at *
            obtain ⟨c0, c1, c2, c3, c4, c5⟩ := HCs.out
            have z0 := fun z : Bel w5 => z.cell c0
            have z1 := fun z : Bel w5 => z.cell c1
            have z2 := fun z : Bel w5 => z.cell c2
            have z3 := fun z : Bel w5 => z.cell c3
            have z4 := fun z : Bel w5 => z.cell c4
            have z5 := fun z : Bel w5 => z.cell c5
            have HSz : Hid (∀ W, Below w5.heap.size w5 W → Calls Tryz.prog 49 #[.agg #[.int .u8 t.k, .string t.r, .string t.n, .int .i64 t.d, .slice t.A t.sub.length t.c]] W fun e w' => e = .returned (.int .u8 (srtB t.k)) ∧ Below W.heap.size W w') := fun W _ => HS.out W
            have HJz : Hid (∀ W, Below w5.heap.size w5 W → Calls Tryz.prog 48 #[.agg #[.int .u8 t.k, .string t.r, .string t.n, .int .i64 t.d, .slice t.A t.sub.length t.c]] W fun e w' => e = .returned (.bool true) ∧ Below W.heap.size W w') := fun W hW => HJ.out W (HP2.out.below hW) (HV2.out.below hW)
            clear c0 c1 c2 c3 c4 c5 d0 d1 d2 d3 d4 d5
            refine wp_region_bel (by kernel_rfl) (by kernel_rfl) ?_
            repeat (go_big_quiet_step (first
              | (go_at_call 49; with_reducible exact Bel.calls HSz.out _)
              | (go_at_call 48; with_reducible exact Bel.calls HJz.out _)))
            refine wpQuiet_nil ?_
            rintro _ ⟨zz, rfl⟩
            have HZW := Lib.hid (btO HW5.out zz.2)
            generalize zz.1 = w6 at *
            go_wp2_with (fail)
            go_roundw
            case rel => exact ⟨j + 1, by omega, by go_num, HX2, HZW⟩
            case measure => simp [intOf]; omega
        · have hne : (srtB t.k != x) = true := by rw [bne_iff_ne]; exact hs
          obtain rfl := HY.out (fun e => hs (HZ.out.1 e).1)
          have hd : decide (t.srt ≠ 0) = decide (t.srt ≠ 0) := rfl
          clear HX HY HZ hs hd
          go_wp2_with (fail)
          generalize wr.alloc (.cells #[.int .u8 t.k, .string t.r, .string t.n, .int .i64 t.d, .slice t.A t.sub.length t.c] 26) = w5 at *
          obtain ⟨c0, c1, c2, c3, c4, c5⟩ := HCs.out
          have z0 := fun z : Bel w5 => z.cell c0
          have z1 := fun z : Bel w5 => z.cell c1
          have z2 := fun z : Bel w5 => z.cell c2
          have z3 := fun z : Bel w5 => z.cell c3
          have z4 := fun z : Bel w5 => z.cell c4
          have z5 := fun z : Bel w5 => z.cell c5
          have HSz : Hid (∀ W, Below w5.heap.size w5 W → Calls Tryz.prog 49 #[.agg #[.int .u8 t.k, .string t.r, .string t.n, .int .i64 t.d, .slice t.A t.sub.length t.c]] W fun e w' => e = .returned (.int .u8 (srtB t.k)) ∧ Below W.heap.size W w') := fun W _ => HS.out W
          have HJz : Hid (∀ W, Below w5.heap.size w5 W → Calls Tryz.prog 48 #[.agg #[.int .u8 t.k, .string t.r, .string t.n, .int .i64 t.d, .slice t.A t.sub.length t.c]] W fun e w' => e = .returned (.bool (decide (t.srt ≠ 0))) ∧ Below W.heap.size W w') := fun W hW => HJ.out W (HP2.out.below hW) (HV2.out.below hW)
          clear c0 c1 c2 c3 c4 c5 d0 d1 d2 d3 d4 d5
          refine wp_region_bel (by kernel_rfl) (by kernel_rfl) ?_
          repeat (go_big_quiet_step (first
            | (go_at_call 49; with_reducible exact Bel.calls HSz.out _)
            | (go_at_call 48; with_reducible exact Bel.calls HJz.out _)))
          refine wpQuiet_nil ?_
          rintro _ ⟨zz, rfl⟩
          have HZW := Lib.hid (btO HW5.out zz.2)
          generalize zz.1 = w6 at *
          go_wp2_with (fail)
          go_ret
          exact ⟨rfl, HZW.out⟩
      · obtain rfl : j = s.length := by omega
        obtain rfl : b = true := HE.out.2 (fun i hi hi' => HI.out i hi hi' hi)
        clear HI HE
        go_wp2_with (fail)
        go_ret
        exact ⟨rfl, HW.out⟩
  · have hf : decide (s.map Ex.srt = l) = false := by
      rw [decide_eq_false_iff_not]
      rintro rfl
      simp at hlen
    have hn : ((s.length : Int) != (l.length : Int)) = true := by rw [bne_iff_ne]; omega
    rw [hf]
    clear hin hB hv ih hl hf hlen hbd
    go_enter Tryz.func85, Tryz.ntmps85
    go_wp2_with (fail)
    go_ret
    exact ⟨rfl, Below.refl _ _⟩
set_option maxRecDepth 100000 in
set_option maxHeartbeats 6400000 in
theorem wellFormed_any (T : Ex) : ∀ (w : World), T.In w → T.byt ≤ 12000 → VarR w → Calls Tryz.prog 48 #[T.val] w (BoolRO (decide (T.srt ≠ 0)) w) := by
  have mixed : Tryz.prog.follows Departure.mixedOrders = true := by kernel_rfl
  induction T using Ex.ind with
  | h kk rr nn dd A c s ih =>
  intro w hin hby hv
  have HB1 := Lib.hid (belO w (.cells #[.int .u8 kk, .string rr, .string nn, .int .i64 dd, .slice A s.length c] 26))
  have hI1 := hin.below HB1.out
  have hV1 := hv.below HB1.out
  have hrr : rr.size ≤ 1048576 := by rw [Ex.byt_mk] at hby; omega
  have hC : Ex.Box (w.alloc (.cells #[.int .u8 kk, .string rr, .string nn, .int .i64 dd, .slice A s.length c] 26)) w.heap.size (.mk kk rr nn dd A c s) := Ex.Box.new w (.mk kk rr nn dd A c s) 26
  have hIH : ∀ t ∈ s, ∀ W, t.In W → VarR W → Calls Tryz.prog 48 #[t.val] W (BoolRO (decide (t.srt ≠ 0)) W) := fun t ht W h1 h2 => ih t ht W h1 (Nat.le_trans (Ex.byt_sub (k := kk) (r := rr) (n := nn) (d := dd) (A := A) (c := c) ht) hby) h2
  have hsrt : Ex.srt (.mk kk rr nn dd A c s) = srtF kk rr nn dd (s.map Ex.srt) := Ex.srt_mk ..
  show Calls Tryz.prog 48 #[.agg #[.int .u8 kk, .string rr, .string nn, .int .i64 dd, .slice A s.length c]] w (BoolRO (decide (Ex.srt (.mk kk rr nn dd A c s) ≠ 0)) w)
  rw [hsrt]
  obtain ⟨w1, hw1⟩ : ∃ w1, w.alloc (.cells #[.int .u8 kk, .string rr, .string nn, .int .i64 dd, .slice A s.length c] 26) = w1 := ⟨_, rfl⟩
  have HCs := Lib.hid hC
  have HS1 : Hid (∀ W, Below w1.heap.size w1 W → Calls Tryz.prog 49 #[.agg #[.int .u8 kk, .string rr, .string nn, .int .i64 dd, .slice A s.length c]] W fun e w' => e = .returned (.int .u8 (srtB kk)) ∧ Below W.heap.size W w') := fun W _ => sortOf_any kk rr nn dd A s.length c W
  have HF1 : Hid (∀ W, Below w1.heap.size w1 W → Calls Tryz.prog 84 #[.agg #[.int .u8 kk, .string rr, .string nn, .int .i64 dd, .slice A s.length c]] W fun e w' => e = .returned (.bool (fldB kk rr nn dd)) ∧ Below W.heap.size W w') := fun W hW => hasFields_any kk rr nn dd A s.length c W ((hw1 ▸ hV1).below hW) (fun _ => hrr)
  by_cases h0 : srtB kk = 0
  · have hd : decide (srtF kk rr nn dd (s.map Ex.srt) ≠ 0) = false := by unfold srtF; rw [if_neg (fun h => h.1 h0)]; rfl
    have hne : (srtB kk != 0) = false := by rw [bne_eq_false_iff_eq]; exact h0
    rw [hd]
    clear hd h0 hin hby hv ih hIH hsrt hrr hI1 hV1 hC
    go_enter Tryz.func48, Tryz.ntmps48
    go_wp2_with (fail)
    rw [hw1] at HCs HB1
    clear hw1
    have z0 := fun z : Bel w1 => z.cell HCs.out.c0
    have z1 := fun z : Bel w1 => z.cell HCs.out.c1
    have z2 := fun z : Bel w1 => z.cell HCs.out.c2
    have z3 := fun z : Bel w1 => z.cell HCs.out.c3
    have z4 := fun z : Bel w1 => z.cell HCs.out.c4
    simp only [Ex.k, Ex.r, Ex.n, Ex.d, Ex.A, Ex.c, Ex.sub] at z0 z1 z2 z3 z4
    refine wp_region_bel (by kernel_rfl) (by kernel_rfl) ?_
    repeat (go_big_quiet_step (first
      | (go_at_call 49; with_reducible exact Bel.calls HS1.out _)))
    refine wpQuiet_nil ?_
    rintro _ ⟨zz, rfl⟩
    have HZW := Lib.hid (btO HB1.out zz.2)
    generalize zz.1 = w6 at *
    go_wp2_with (fail)
    go_ret
    exact ⟨rfl, HZW.out⟩
  have hne : (srtB kk != 0) = true := by rw [bne_iff_ne]; exact h0
  cases hf : fldB kk rr nn dd
  · have hd : decide (srtF kk rr nn dd (s.map Ex.srt) ≠ 0) = false := by unfold srtF; rw [if_neg (fun h => by rw [hf] at h; exact Bool.false_ne_true h.2.1)]; rfl
    rw [hd]
    rw [hf] at HF1
    clear hd h0 hin hby hv ih hIH hsrt hrr hI1 hV1 hC hf
    go_enter Tryz.func48, Tryz.ntmps48
    go_wp2_with (fail)
    rw [hw1] at HCs HB1
    clear hw1
    have z0 := fun z : Bel w1 => z.cell HCs.out.c0
    have z1 := fun z : Bel w1 => z.cell HCs.out.c1
    have z2 := fun z : Bel w1 => z.cell HCs.out.c2
    have z3 := fun z : Bel w1 => z.cell HCs.out.c3
    have z4 := fun z : Bel w1 => z.cell HCs.out.c4
    simp only [Ex.k, Ex.r, Ex.n, Ex.d, Ex.A, Ex.c, Ex.sub] at z0 z1 z2 z3 z4
    refine wp_region_bel (by kernel_rfl) (by kernel_rfl) ?_
    repeat (go_big_quiet_step (first
      | (go_at_call 49; with_reducible exact Bel.calls HS1.out _)
      | (go_at_call 84; with_reducible exact Bel.calls HF1.out _)))
    refine wpQuiet_nil ?_
    rintro _ ⟨zz, rfl⟩
    have HZW := Lib.hid (btO HB1.out zz.2)
    generalize zz.1 = w6 at *
    go_wp2_with (fail)
    go_ret
    exact ⟨rfl, HZW.out⟩
  · have hd : decide (srtF kk rr nn dd (s.map Ex.srt) ≠ 0) = decide (s.map Ex.srt = prtL kk) := by
      unfold srtF
      by_cases g : s.map Ex.srt = prtL kk
      · rw [if_pos ⟨h0, hf, g⟩]; simp [g, h0]
      · rw [if_neg (fun h => g h.2.2)]; simp [g]
    rw [hd]
    rw [hf] at HF1
    rw [hw1] at hI1 hV1 HB1 HCs
    have HP1 := Lib.hid (fun W (_ : Below w1.heap.size w1 W) => partsOf_any kk W)
    have HX1 : Hid (∀ (W : World) (B : Option Addr) (cb : Nat), Below w1.heap.size w1 W → SlA u8V W B (prtL kk) → Calls Tryz.prog 85 #[.slice A s.length c, .slice B (prtL kk).length cb] W (BoolRO (decide (s.map Ex.srt = prtL kk)) W)) := fun W B cb hW hB => hasParts_any kk rr nn dd A c s (prtL kk) B cb W (hI1.below hW) hB (prtL_12 kk) (prtL_len kk) (hV1.below hW) hIH
    clear hd h0 hin hby hv ih hIH hsrt hrr hI1 hV1 hC hf
    generalize decide (s.map Ex.srt = prtL kk) = rb at *
    generalize prtL kk = pl at *
    go_enter Tryz.func48, Tryz.ntmps48
    go_wp2_with (fail)
    clear hw1
    have k0 : w1.cell? ⟨w.heap.size, 0, none⟩ = some (.int .u8 kk) := HCs.out.c0
    have k1 : w1.cell? ⟨w.heap.size, 1, none⟩ = some (.string rr) := HCs.out.c1
    have k2 : w1.cell? ⟨w.heap.size, 2, none⟩ = some (.string nn) := HCs.out.c2
    have k3 : w1.cell? ⟨w.heap.size, 3, none⟩ = some (.int .i64 dd) := HCs.out.c3
    have k4 : w1.cell? ⟨w.heap.size, 4, none⟩ = some (.slice A s.length c) := HCs.out.c4
    go_region_held3 (fun w' => w'.cell? ⟨w.heap.size, 0, none⟩ = some (.int .u8 kk) ∧ w'.cell? ⟨w.heap.size, 1, none⟩ = some (.string rr) ∧ w'.cell? ⟨w.heap.size, 2, none⟩ = some (.string nn) ∧ w'.cell? ⟨w.heap.size, 3, none⟩ = some (.int .i64 dd) ∧ w'.cell? ⟨w.heap.size, 4, none⟩ = some (.slice A s.length c) ∧ Below w1.heap.size w1 w')
      (((try go_split_ands); (and_intros) <;> first
        | assumption | exact (Below.refl _ _).drew | exact Below.drew (by assumption) | (go_keep; done)))
      (first
        | (go_split_ands; go_at_call 49; refine (HS1.out _ (by assumption)).mono ?_; rintro e w6 ⟨rfl, hb6⟩
           have hB6 : Below w1.heap.size w1 w6 := btO (by assumption) hb6
           have i0 := cellO hB6 k0
           have i1 := cellO hB6 k1
           have i2 := cellO hB6 k2
           have i3 := cellO hB6 k3
           have i4 := cellO hB6 k4)
        | (go_split_ands; go_at_call 84; refine (HF1.out _ (by assumption)).mono ?_; rintro e w7 ⟨rfl, hb7⟩
           have hB7 : Below w1.heap.size w1 w7 := btO (by assumption) hb7
           have i0 := cellO hB7 k0
           have i1 := cellO hB7 k1
           have i2 := cellO hB7 k2
           have i3 := cellO hB7 k3
           have i4 := cellO hB7 k4)
        | (go_split_ands; go_at_call 86; refine (HP1.out _ (by assumption)).mono ?_; rintro e w8 ⟨B8, c8, rfl, hs8, hb8⟩
           have hB8 : Below w1.heap.size w1 w8 := btO (by assumption) hb8
           have HS8 := Lib.hid hs8
           clear hs8
           have i0 := cellO hB8 k0
           have i1 := cellO hB8 k1
           have i2 := cellO hB8 k2
           have i3 := cellO hB8 k3
           have i4 := cellO hB8 k4)
        | (go_split_ands; go_at_call 85; refine (HX1.out _ _ _ (by assumption) HS8.out).mono ?_; rintro e w9 ⟨rfl, hb9⟩
           have hB9 : Below w1.heap.size w1 w9 := btO (by assumption) hb9
           have i0 := cellO hB9 k0
           have i1 := cellO hB9 k1
           have i2 := cellO hB9 k2
           have i3 := cellO hB9 k3
           have i4 := cellO hB9 k4))
    have HZ := Lib.hid (btO HB1.out hB9)
    go_wp2_with (fail)
    go_ret
    exact ⟨rfl, HZ.out⟩
def Ex.chk (t : Ex) : Int := if t.many then 4 else if t.srt = 0 then 8 else 0
set_option maxRecDepth 100000 in
set_option maxHeartbeats 3200000 in
theorem pcheck_anyO (T : Ex) (w : World) (hin : T.In w) (hby : T.byt ≤ 12000) (hv : VarR w) : Calls Tryz.prog 13 #[T.val] w (IntRO T.chk w) := by
  have HB1 := belO w (.cells #[.int .u8 T.k, .string T.r, .string T.n, .int .i64 T.d, .slice T.A T.sub.length T.c] 26)
  have hC : Ex.Box (w.alloc (.cells #[.int .u8 T.k, .string T.r, .string T.n, .int .i64 T.d, .slice T.A T.sub.length T.c] 26)) w.heap.size T := Ex.Box.new w T 26
  obtain ⟨w1, hw1⟩ : ∃ w1, w.alloc (.cells #[.int .u8 T.k, .string T.r, .string T.n, .int .i64 T.d, .slice T.A T.sub.length T.c] 26) = w1 := ⟨_, rfl⟩
  have hs1 : w1.heap.size = w.heap.size + 1 := by rw [← hw1, World.size_alloc]
  rw [hw1] at HB1 hC
  have HB2 := belO w1 (.cells #[.int .i64 500] 3)
  obtain ⟨w2, hw2⟩ : ∃ w2, w1.alloc (.cells #[.int .i64 500] 3) = w2 := ⟨_, rfl⟩
  have hr0 : w2.cell? ⟨w1.heap.size, 0, none⟩ = some (.int .i64 500) := by rw [← hw2, World.cell?_alloc_at _ _ _ _ rfl]; rfl
  have hf0 : w2.frozen? ⟨w1.heap.size, 0, none⟩ = false := by rw [← hw2, World.frozen?_alloc_at _ _ _ _ rfl]
  rw [hw2] at HB2
  have hI1 := hin.below HB1
  have hI2 := hI1.below HB2
  have HQ : Hid (Calls Tryz.prog 47 #[T.val, .int .i64 60, .pointer (some ⟨w1.heap.size, 0, none⟩)] w2 (FitR w1.heap.size (T.fit 60 500).1 (T.fit 60 500).2 w2)) := pfits8_any T 60 w1.heap.size 500 w2 hI2 hI1.lo (by omega) (by omega) (by omega) hr0 hf0
  rw [Ex.fit_many] at HQ
  have HW := Lib.hid (fun W (hW : Below w1.heap.size w2 W) => wellFormed_any T W (hI1.below (HB2.trans hW)) hby ((hv.below HB1).below (HB2.trans hW)))
  have HB := Lib.hid (fun W (hW : Below w1.heap.size w2 W) => btO HB1 (HB2.trans hW))
  have HC2 := Lib.hid (hC.below HB2)
  have HC := Lib.hid (fun W (hW : Below w1.heap.size w2 W) => hC.below (HB2.trans hW))
  rw [hs1] at HQ HW HB HC
  clear hin hby hv HB1 HB2 hr0 hf0 hI1 hI2 hC
  obtain ⟨c0, c1, c2, c3, c4⟩ := HC2.out
  unfold Ex.chk
  cases hm : T.many
  · rw [hm] at HQ
    have hif : (if (false : Bool) = true then (4 : Int) else if T.srt = 0 then 8 else 0) = if T.srt = 0 then 8 else 0 := rfl
    rw [hif]
    by_cases hz : T.srt = 0
    · have hd : decide (T.srt ≠ 0) = false := by rw [decide_eq_false_iff_not]; exact fun h => h hz
      rw [hd] at HW
      rw [if_pos hz]
      clear hm hif hz hd
      go_enter Tryz.func13, Tryz.ntmps13
      go_wp2_with (first
        | (go_at_call 47; ((with_reducible refine HQ.out.mono ?_); rintro x w3 ⟨rfl, hb, -, -⟩; have HY := Lib.hid hb; have HC3 := HC.out _ hb; obtain ⟨e0, e1, e2, e3, e4⟩ := HC3; clear hb))
        | (go_at_call 48; ((with_reducible refine (HW.out _ HY.out).mono ?_); rintro x w4 ⟨rfl, hb⟩; have HZ := Lib.hid (btO (HB.out _ HY.out) hb); clear hb)))
      go_ret
      exact ⟨rfl, HZ.out⟩
    · have hd : decide (T.srt ≠ 0) = true := by rw [decide_eq_true_iff]; exact hz
      rw [hd] at HW
      rw [if_neg hz]
      clear hm hif hz hd
      go_enter Tryz.func13, Tryz.ntmps13
      go_wp2_with (first
        | (go_at_call 47; ((with_reducible refine HQ.out.mono ?_); rintro x w3 ⟨rfl, hb, -, -⟩; have HY := Lib.hid hb; have HC3 := HC.out _ hb; obtain ⟨e0, e1, e2, e3, e4⟩ := HC3; clear hb))
        | (go_at_call 48; ((with_reducible refine (HW.out _ HY.out).mono ?_); rintro x w4 ⟨rfl, hb⟩; have HZ := Lib.hid (btO (HB.out _ HY.out) hb); clear hb)))
      go_ret
      exact ⟨rfl, HZ.out⟩
  · rw [hm] at HQ
    have hif : (if (true : Bool) = true then (4 : Int) else if T.srt = 0 then 8 else 0) = 4 := rfl
    rw [hif]
    clear hm hif
    go_enter Tryz.func13, Tryz.ntmps13
    go_wp2_with (first
      | (go_at_call 47; ((with_reducible refine HQ.out.mono ?_); rintro x w3 ⟨rfl, hb, -, -⟩; have HY := Lib.hid (HB.out _ hb); clear hb)))
    go_ret
    exact ⟨rfl, HY.out⟩
end Go.Proofs.YtbfimfjhdbpenaaGreatDoor
/- Layer 8: Number, Truth of the program; Size of both; Depth of the reference. -/
namespace Go.Proofs.YtbfimfjhdbpenaaGreatDoor
open Go Go.RowKit Go.BigFrame
def Ex.isB (t : Ex) (x : Int) : Bool := decide (t.chk = 0 ∧ t.srt = x)
theorem Ex.chk_zero (t : Ex) : t.chk = 0 ↔ t.many = false ∧ t.srt ≠ 0 := by
  unfold Ex.chk
  cases t.many
  · by_cases h : t.srt = 0
    · simp [h]
    · simp [h]
  · simp
theorem Ex.isB_eq (t : Ex) (x : Int) (hx : x = 1 ∨ x = 2) (h : t.chk = 0) : t.isB x = (srtB t.k == x) := by
  unfold Ex.isB
  have h2 := Ex.srt_iff t x hx
  have h3 := ((Ex.chk_zero t).1 h).2
  cases h4 : (srtB t.k == x)
  · rw [beq_eq_false_iff_ne] at h4
    rw [decide_eq_false_iff_not]
    exact fun g => h4 (h2.1 g.2).1
  · rw [beq_iff_eq] at h4
    rw [decide_eq_true_iff]
    exact ⟨h, h2.2 ⟨h4, h3⟩⟩
set_option maxRecDepth 100000 in
set_option maxHeartbeats 3200000 in
theorem pnumber_any (T : Ex) (w : World) (hin : T.In w) (hby : T.byt ≤ 12000) (hv : VarR w) : Calls Tryz.prog 14 #[T.val] w (BoolRO (T.isB 1) w) := by
  obtain ⟨kk, rr, nn, dd, A, c, s⟩ := T
  have HB1 := belO w (.cells #[.int .u8 kk, .string rr, .string nn, .int .i64 dd, .slice A s.length c] 26)
  have hC : Ex.Box (w.alloc (.cells #[.int .u8 kk, .string rr, .string nn, .int .i64 dd, .slice A s.length c] 26)) w.heap.size (.mk kk rr nn dd A c s) := Ex.Box.new w (.mk kk rr nn dd A c s) 26
  obtain ⟨w1, hw1⟩ : ∃ w1, w.alloc (.cells #[.int .u8 kk, .string rr, .string nn, .int .i64 dd, .slice A s.length c] 26) = w1 := ⟨_, rfl⟩
  rw [hw1] at HB1 hC
  have HQ : Hid (Calls Tryz.prog 13 #[.agg #[.int .u8 kk, .string rr, .string nn, .int .i64 dd, .slice A s.length c]] w1 (IntRO (Ex.chk (.mk kk rr nn dd A c s)) w1)) := pcheck_anyO (.mk kk rr nn dd A c s) w1 (hin.below HB1) hby (hv.below HB1)
  have HS := Lib.hid (fun W => sortOf_any kk rr nn dd A s.length c W)
  have HB := Lib.hid HB1
  have HC := Lib.hid hC
  show Calls Tryz.prog 14 #[.agg #[.int .u8 kk, .string rr, .string nn, .int .i64 dd, .slice A s.length c]] w _
  by_cases h0 : Ex.chk (.mk kk rr nn dd A c s) = 0
  · rw [Ex.isB_eq _ 1 (by simp) h0]
    rw [h0] at HQ
    have k0 : w1.cell? ⟨w.heap.size, 0, none⟩ = some (.int .u8 kk) := hC.c0
    have k1 : w1.cell? ⟨w.heap.size, 1, none⟩ = some (.string rr) := hC.c1
    have k2 : w1.cell? ⟨w.heap.size, 2, none⟩ = some (.string nn) := hC.c2
    have k3 : w1.cell? ⟨w.heap.size, 3, none⟩ = some (.int .i64 dd) := hC.c3
    have k4 : w1.cell? ⟨w.heap.size, 4, none⟩ = some (.slice A s.length c) := hC.c4
    show Calls Tryz.prog 14 #[.agg #[.int .u8 kk, .string rr, .string nn, .int .i64 dd, .slice A s.length c]] w (BoolRO (srtB kk == 1) w)
    clear hin hby hv HB1 h0 hC
    go_enter Tryz.func14, Tryz.ntmps14
    go_wp2_with (first
      | (go_at_call 13; ((with_reducible refine HQ.out.mono ?_); rintro x w3 ⟨rfl, hb⟩; have e0 := cellO hb k0; have e1 := cellO hb k1; have e2 := cellO hb k2; have e3 := cellO hb k3; have e4 := cellO hb k4; have HY := Lib.hid (btO HB.out hb); clear hb))
      | (go_at_call 49; ((with_reducible refine (HS.out _).mono ?_); rintro x w4 ⟨rfl, hb⟩; have HZ := Lib.hid (btO HY.out hb); clear hb)))
    go_ret
    exact ⟨rfl, HZ.out⟩
  · have hd : Ex.isB (.mk kk rr nn dd A c s) 1 = false := by unfold Ex.isB; rw [decide_eq_false_iff_not]; exact fun g => h0 g.1
    rw [hd]
    have k0 : w1.cell? ⟨w.heap.size, 0, none⟩ = some (.int .u8 kk) := hC.c0
    have k1 : w1.cell? ⟨w.heap.size, 1, none⟩ = some (.string rr) := hC.c1
    have k2 : w1.cell? ⟨w.heap.size, 2, none⟩ = some (.string nn) := hC.c2
    have k3 : w1.cell? ⟨w.heap.size, 3, none⟩ = some (.int .i64 dd) := hC.c3
    have k4 : w1.cell? ⟨w.heap.size, 4, none⟩ = some (.slice A s.length c) := hC.c4
    generalize Ex.chk (.mk kk rr nn dd A c s) = n at *
    have hz : (n == 0) = false := by rw [beq_eq_false_iff_ne]; exact h0
    clear hin hby hv HB1 h0 hd hC
    go_enter Tryz.func14, Tryz.ntmps14
    go_wp2_with (first
      | (go_at_call 13; ((with_reducible refine HQ.out.mono ?_); rintro x w3 ⟨rfl, hb⟩; have HY := Lib.hid (btO HB.out hb); clear hb)))
    go_ret
    exact ⟨rfl, HY.out⟩
end Go.Proofs.YtbfimfjhdbpenaaGreatDoor
/- Layer 8, plain: a thing put in its place. -/
namespace Go.Proofs.YtbfimfjhdbpenaaGreatDoor
open Go Go.RowKit
section
variable {α : Type} (key : α → Key) (x : α)
def posL (l : List α) : Nat := (l.takeWhile fun y => ltK (key y) (key x)).length
def eqAt (l : List α) (i : Nat) : Bool := match l[i]? with | some y => decide (key y = key x) | none => false
def insL (l : List α) : List α := l.take (posL key x l) ++ x :: l.drop (if eqAt key x l (posL key x l) then posL key x l + 1 else posL key x l)
def rfL : Bool → List α → List α
  | put, [] => if put then [] else [x]
  | put, y :: l => (if !put && !ltK (key y) (key x) then [x] else []) ++ ((if key y = key x then [] else [y]) ++ rfL (put || !ltK (key y) (key x)) l)
end
section
variable {α : Type} {key : α → Key} {x : α}
theorem Inc.tail {y : α} {l : List α} (h : Inc key (y :: l)) : Inc key l := fun i j hi hj => by
  have := h (i + 1) (j + 1) (by omega) (by simpa using hj)
  simpa using this
theorem Inc.head {y : α} {l : List α} (h : Inc key (y :: l)) : ∀ z ∈ l, ltK (key y) (key z) = true := fun z hz => by
  obtain ⟨j, hj, rfl⟩ := List.getElem_of_mem hz
  have := h 0 (j + 1) (by omega) (by simpa using hj)
  simpa using this
theorem posL_cons (y : α) (l : List α) : posL key x (y :: l) = if ltK (key y) (key x) then posL key x l + 1 else 0 := by
  unfold posL
  rw [List.takeWhile_cons]
  split <;> rfl
theorem posL_le (l : List α) : posL key x l ≤ l.length := by
  induction l with
  | nil => exact Nat.le_refl _
  | cons y l ih => rw [posL_cons]; split <;> simp <;> omega
theorem posL_iff (l : List α) (h : Inc key l) : ∀ j (hj : j < l.length), ltK (key l[j]) (key x) = true ↔ j < posL key x l := by
  induction l with
  | nil => intro j hj; simp at hj
  | cons y l ih =>
    intro j hj
    rw [posL_cons]
    cases hy : ltK (key y) (key x)
    · simp only [Bool.false_eq_true, if_false]
      constructor
      · intro g
        exfalso
        cases j with
        | zero => simp only [List.getElem_cons_zero] at g; rw [hy] at g; cases g
        | succ j =>
          have h1 := h 0 (j + 1) (by omega) hj
          have := ltK_trans h1 g
          simp only [List.getElem_cons_zero] at this
          rw [hy] at this; cases this
      · omega
    · simp only [if_true]
      cases j with
      | zero => simp [hy]
      | succ j =>
        have := ih h.tail j (by simpa using hj)
        simp only [List.getElem_cons_succ]
        rw [this]; omega
theorem rfL_true (l : List α) (h : ∀ z ∈ l, key z ≠ key x) : rfL key x true l = l := by
  induction l with
  | nil => rfl
  | cons y l ih =>
    rw [rfL]
    simp only [Bool.not_true, Bool.false_and, Bool.false_eq_true, if_false, List.nil_append, Bool.true_or]
    rw [if_neg (h y (List.mem_cons_self ..)), ih (fun z hz => h z (List.mem_cons_of_mem _ hz))]
    rfl
theorem rfL_eq (l : List α) (h : Inc key l) : rfL key x false l = insL key x l := by
  induction l with
  | nil => rfl
  | cons y l ih =>
    rw [rfL]
    unfold insL
    rw [posL_cons]
    cases hy : ltK (key y) (key x)
    · simp only [Bool.not_false, Bool.and_self, if_true, Bool.or_true, Bool.false_eq_true, if_false, List.take_zero, List.nil_append]
      have hz : ∀ z ∈ l, key z ≠ key x := fun z hz e => by
        have := h.head z hz
        rw [e, hy] at this; cases this
      rw [rfL_true l hz]
      by_cases he : key y = key x
      · rw [if_pos he]
        have : eqAt key x (y :: l) 0 = true := by unfold eqAt; simp [he]
        rw [this]; rfl
      · rw [if_neg he]
        have : eqAt key x (y :: l) 0 = false := by unfold eqAt; simp [he]
        rw [this]; rfl
    · have he : key y ≠ key x := fun e => by rw [e, ltK_irrefl] at hy; cases hy
      simp only [Bool.not_true, Bool.and_false, Bool.false_eq_true, if_false, List.nil_append, Bool.false_or, if_true]
      rw [if_neg he, ih h.tail]
      unfold insL
      have : eqAt key x (y :: l) (posL key x l + 1) = eqAt key x l (posL key x l) := by unfold eqAt; simp
      rw [this]
      split
      · rw [List.take_succ_cons, List.drop_succ_cons]; rfl
      · rw [List.take_succ_cons, List.drop_succ_cons]; rfl
theorem insL_len (l : List α) : (insL key x l).length = posL key x l + 1 + (l.drop (if eqAt key x l (posL key x l) then posL key x l + 1 else posL key x l)).length := by
  unfold insL
  rw [List.length_append, List.length_cons, List.length_take, Nat.min_eq_left (posL_le l)]
  omega
theorem eqAt_lt {l : List α} {i : Nat} (h : eqAt key x l i = true) : i < l.length := by
  unfold eqAt at h
  rcases Nat.lt_or_ge i l.length with g | g
  · exact g
  · rw [List.getElem?_eq_none g] at h; cases h
end
def putFE (fs : List Fx) (cs : List Cx) (f : Fx) : Int :=
  if envE' fs cs ≠ 0 then envE' fs cs else if (nameO f.1.data.toList && dayO f.2.1) = false then 2 else if chkR f.2.2.data.toList ≠ 0 then chkR f.2.2.data.toList else if 1000 < (insL Fx.key f fs).length then 22 else 0
where envE' (fs : List Fx) (cs : List Cx) : Int := if 1000 < fs.length ∨ 1000 < cs.length then 4 else if ordB Fx.key Fx.ok fs && ordB Cx.key Cx.ok cs then 0 else 8
end Go.Proofs.YtbfimfjhdbpenaaGreatDoor
/- Layer 8, plain: ordered lists and a thing put in its place: members, order, two things put. -/
namespace Go.Proofs.YtbfimfjhdbpenaaGreatDoor
open Go Go.RowKit
section
variable {α : Type} {key : α → Key}
theorem Inc.cons {y : α} {l : List α} (h : ∀ z ∈ l, ltK (key y) (key z) = true) (hl : Inc key l) : Inc key (y :: l) := fun i j hi hj => by
  cases j with
  | zero => omega
  | succ j =>
    cases i with
    | zero => exact h _ (List.getElem_mem _)
    | succ i => exact hl i j (by omega) (by simpa using hj)
theorem inc_behind {x y : α} {l : List α} (h : Inc key (y :: l)) (hy : ltK (key y) (key x) = false) : ∀ z ∈ l, key z ≠ key x := fun z hz e => by
  have := h.head z hz
  rw [e, hy] at this; cases this
theorem mem_insL {x : α} {l : List α} (h : Inc key l) (z : α) : z ∈ insL key x l ↔ z = x ∨ (z ∈ l ∧ key z ≠ key x) := by
  rw [← rfL_eq l h]
  induction l with
  | nil => simp [rfL]
  | cons y l ih =>
    rw [rfL]
    cases hy : ltK (key y) (key x)
    · simp only [Bool.not_false, Bool.and_self, if_true, Bool.or_true]
      rw [rfL_true l (inc_behind h hy)]
      have hb := inc_behind h hy
      by_cases e : key y = key x
      · rw [if_pos e]
        simp only [List.nil_append, List.cons_append, List.mem_cons]
        constructor
        · rintro (g | g)
          · exact .inl g
          · exact .inr ⟨.inr g, hb z g⟩
        · rintro (g | ⟨g | g, k⟩)
          · exact .inl g
          · rw [g] at k; exact absurd e k
          · exact .inr g
      · rw [if_neg e]
        simp only [List.nil_append, List.cons_append, List.mem_cons]
        constructor
        · rintro (g | g | g)
          · exact .inl g
          · exact .inr ⟨.inl g, by rw [g]; exact e⟩
          · exact .inr ⟨.inr g, hb z g⟩
        · rintro (g | ⟨g | g, k⟩)
          · exact .inl g
          · exact .inr (.inl g)
          · exact .inr (.inr g)
    · have e : key y ≠ key x := fun e => by rw [e, ltK_irrefl] at hy; cases hy
      simp only [Bool.not_true, Bool.and_false, Bool.false_eq_true, if_false, Bool.or_false, if_neg e, List.nil_append, List.cons_append, List.mem_cons]
      rw [ih h.tail]
      constructor
      · rintro (g | g | ⟨g, k⟩)
        · exact .inr ⟨.inl g, by rw [g]; exact e⟩
        · exact .inl g
        · exact .inr ⟨.inr g, k⟩
      · rintro (g | ⟨g | g, k⟩)
        · exact .inr (.inl g)
        · exact .inl g
        · exact .inr (.inr ⟨g, k⟩)
theorem insL_inc {x : α} {l : List α} (h : Inc key l) : Inc key (insL key x l) := by
  rw [← rfL_eq l h]
  induction l with
  | nil =>
    simp only [rfL, Bool.false_eq_true, if_false]
    exact Inc.cons (fun z hz => by cases hz) h
  | cons y l ih =>
    have hb := fun hy => inc_behind (x := x) h hy
    rw [rfL]
    cases hy : ltK (key y) (key x)
    · simp only [Bool.not_false, Bool.and_self, if_true, Bool.or_true]
      rw [rfL_true l (hb hy)]
      by_cases e : key y = key x
      · rw [if_pos e]
        simp only [List.nil_append, List.cons_append]
        exact Inc.cons (fun z hz => by rw [← e]; exact h.head z hz) h.tail
      · rw [if_neg e]
        simp only [List.nil_append, List.cons_append]
        have hxy : ltK (key x) (key y) = true := by
          cases g : ltK (key x) (key y)
          · exact absurd (ltK_total hy g) e
          · rfl
        refine Inc.cons (fun z hz => ?_) h
        rcases List.mem_cons.1 hz with g | g
        · rw [g]; exact hxy
        · exact ltK_trans hxy (h.head z g)
    · have e : key y ≠ key x := fun e => by rw [e, ltK_irrefl] at hy; cases hy
      simp only [Bool.not_true, Bool.and_false, Bool.false_eq_true, if_false, Bool.or_false, if_neg e, List.nil_append, List.cons_append]
      refine Inc.cons (fun z hz => ?_) (ih h.tail)
      rw [rfL_eq l h.tail, mem_insL h.tail] at hz
      rcases hz with g | ⟨g, -⟩
      · rw [g]; exact hy
      · exact h.head z g
end
end Go.Proofs.YtbfimfjhdbpenaaGreatDoor
