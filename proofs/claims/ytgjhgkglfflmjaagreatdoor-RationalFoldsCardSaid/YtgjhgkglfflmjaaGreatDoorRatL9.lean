/- The walk of the law RationalFolds. -/
import Derived.Test.YtgjhgkglfflmjaaGreatDoorRatAp
import Derived.Laws.AppendOwn
namespace Go.Proofs.YtgjhgkglfflmjaaGreatDoor
open Go Go.RowKit

theorem Tryz.infoR : (Tryz.prog.info? 22).map (fun i => (i.zero, i.size, i.bytes)) = some (some (.string ⟨#[]⟩), 1, 16) := by kernel_rfl
/-- The bytes of the first strings. -/
def szS : List ByteArray → Nat
  | [] => 0
  | s :: r => s.size + szS r
theorem szS_append (a b : List ByteArray) : szS (a ++ b) = szS a + szS b := by
  induction a with
  | nil => simp [szS]
  | cons x r ih => simp only [List.cons_append, szS, ih]; omega
theorem szS_le {M : Nat} : ∀ (ss : List ByteArray), (∀ s ∈ ss, s.size ≤ M) → szS ss ≤ ss.length * M
  | [], _ => by simp [szS]
  | s :: r, h => by
    have h1 := h s (by simp)
    have h2 := szS_le r (fun x hx => h x (by simp [hx]))
    simp only [szS, List.length_cons, Nat.succ_mul]
    omega
theorem szS_mem {s : ByteArray} : ∀ (ss : List ByteArray), s ∈ ss → s.size ≤ szS ss
  | [], h => by simp at h
  | x :: r, h => by
    rcases List.mem_cons.1 h with rfl | h
    · simp only [szS]; omega
    · have := szS_mem r h; simp only [szS]; omega
theorem szS_take (ss : List ByteArray) (k m : Nat) (h : k ≤ m) : szS (ss.take k) ≤ szS (ss.take m) := by
  have e : ss.take m = ss.take k ++ (ss.take m).drop k := by
    have := (List.take_append_drop k (ss.take m)).symm
    rwa [List.take_take, Nat.min_eq_left h] at this
  rw [e, szS_append]; omega
set_option maxRecDepth 100000 in
set_option maxHeartbeats 6400000 in
theorem folds_law (A : Option Addr) (c : Nat) (ss : List ByteArray) (sa : ByteArray) (n : Int) (n0 : -9223372036854775808 ≤ n) (n1 : n ≤ 9223372036854775807) (w : World) (hA : SlA Value.string w A ss) (hA0 : A = none → c = 0) (hl : ss.length ≤ 9223372036854775807) (hz : ∀ s ∈ ss, s.size ≤ 140737488351232) (hv : VarR w) :
    Calls Tryz.prog 5 #[.slice A ss.length c, .string sa, .int .i64 n] w fun e w' => e = .returned (.bool true) ∧ Below w.heap.size w w' := by
  obtain ⟨i0, hi, hz0, hz1, hz2⟩ := info_parts Tryz.infoR
  have HV := Lib.hid hv
  have HZ := Lib.hid hz
  have HA0 := Lib.hid hA0
  clear hv hz hA0
  go_enter Tryz.func5, Tryz.ntmps5
  go_wp2
  go_loop [7, 8] (fun z i => ∃ k : Nat, k ≤ ss.length ∧ k ≤ 50 ∧ i = .int .i64 k ∧ z = .int .i64 (szS (ss.take k))) (fun _ i => 50 - (intOf i).toNat)
  case atStart => exact ⟨0, Nat.zero_le _, by omega, rfl, rfl⟩
  case round =>
    obtain ⟨k, hk, hk50, rfl, rfl⟩ := hrel
    have hs0 := szS_le (ss.take k) (fun s hs => HZ.out s (List.mem_of_mem_take hs))
    have hs1 : szS (ss.take k) ≤ 50 * 140737488351232 := Nat.le_trans hs0 (Nat.mul_le_mul_right _ (by rw [List.length_take]; omega))
    clear hs0
    by_cases h1 : k < ss.length
    · by_cases h2 : k < 50
      · obtain ⟨b, o, rfl, _, hc⟩ := hA.get h1
        have hxz : ss[k].size ≤ 140737488351232 := HZ.out _ (List.getElem_mem h1)
        have hst : szS (ss.take (k + 1)) = szS (ss.take k) + ss[k].size := by
          rw [take_snoc ss k h1, szS_append]; simp [szS]
        have HST := Lib.hid hst
        clear hA hst
        generalize szS (ss.take k) = z at *
        generalize ss[k] = x at *
        go_wp2
        go_round
        case rel => exact ⟨k + 1, by omega, by omega, by go_num, by rw [HST.out]; go_num⟩
        case measure => simp [intOf]; omega
      · obtain rfl : k = 50 := by omega
        generalize szS (ss.take 50) = z at *
        by_cases g1 : ss.length ≤ 1000
        · have d2 : (40 : Int) < ss.length := by omega
          go_wp2
          go_ret
          exact ⟨rfl, Below.refl _ _⟩
        by_cases g2 : 1100 < ss.length
        · go_wp2
          go_ret
          exact ⟨rfl, Below.refl _ _⟩
        have g9 : 1000 < ss.length ∧ ss.length ≤ 1100 := by omega
        obtain ⟨ga, gb⟩ := g9
        have HZZ : Hid (1000 < ss.length ∨ (z ≤ 2100 → ∀ s ∈ ss, s.size ≤ 1048576)) := .inl ga
        by_cases g3 : 2100 < z
        · go_wp2
          go_ret
          exact ⟨rfl, Below.refl _ _⟩
        by_cases g4 : 2100 < sa.size
        · have HG := Lib.hid (great2_this sa true (decide_eq_true g4))
          have HB0 := Lib.hid (fun o => (Below.refl _ w).alloc (Nat.le_refl _) o)
          go_wp2_with (go_at_call 23; refine (HG.out _ _).mono ?_; rintro e w1 ⟨rfl, rfl⟩)
          go_ret
          exact ⟨rfl, HB0.out _⟩
        have HG := Lib.hid (great2_this sa false (decide_eq_false g4))
        have HB0 := Lib.hid (fun o => (Below.refl _ w).alloc (Nat.le_refl _) o)
        have HS2 : 1000 < ss.length ∨ ∀ s ∈ ss, s.size ≤ 1048576 := HZZ.out.imp id (fun h => h (by omega))
        have hlit : ((w.alloc (.cells #[.string sa] 22)).alloc (.cells #[] 22)).ownsRow w.heap.size 22 1 (.slice (some ⟨w.heap.size + 1, 0, none⟩) 0 0) 0 [] :=
          ⟨rfl, .inr ⟨w.heap.size + 1, 0, #[], rfl, by omega, by have := heap_alloc_new (w.alloc (.cells #[.string sa] 22)) (.cells #[] 22); simpa using this, by omega, by unfold maxLen; omega, rfl, rfl⟩⟩
        have HL := Lib.hid hlit
        have hB2 : Below w.heap.size w ((w.alloc (.cells #[.string sa] 22)).alloc (.cells #[] 22)) := ((Below.refl _ _).alloc (Nat.le_refl _) _).alloc (by simp) _
        have HB2 := Lib.hid hB2
        have C1 := Lib.hid (fun B d W h => rsum_any B d ss W h HS2)
        have E1 := Lib.hid (fun W h => rsumref_any A c ss W h HS2)
        have C2 := Lib.hid (power_any sa (by omega) n)
        have E2 := Lib.hid (refpower_any sa (by omega) n)
        generalize sumT ss = t1 at C1 E1
        generalize sumC ss = c1 at C1 E1
        generalize poT n sa.data.toList = t2 at C2 E2
        generalize poC n sa.data.toList = c2 at C2 E2
        have HAA := Lib.hid hA
        clear hlit hB2 hA HS2 HZZ g3 g4 hs1 hk hk50
        have h5 : (sa.size ≤ 60) ∨ (60 < sa.size ∧ n < -12) ∨ (60 < sa.size ∧ 12 < n) ∨ (60 < sa.size ∧ -12 ≤ n ∧ n ≤ 12) := by omega
        rcases h5 with h5 | ⟨h5, h6⟩ | ⟨h5, h6⟩ | ⟨h5, h6, h7⟩
        · go_wp2_with (first
            | (go_at_call 23; refine (HG.out _ _).mono ?_; rintro e w1 ⟨rfl, rfl⟩)
            | (at_builtin; refine wpList_appS HL.out (enc := Value.string) (fun _ => rfl) A ss ss.length c rfl (HAA.out.below HB2.out) HA0.out rfl _ _ 23 rfl i0 (.string ⟨#[]⟩) 16 Tryz.underlying23 hi hz0 hz1 hz2 rfl rfl rfl (by unfold maxLen; omega) (by omega) (by simp; omega) ?_; intro v' w2 hown2 hb2; rw [Nat.zero_add, List.nil_append] at hown2; obtain ⟨A2, c2', rfl, _, hS2⟩ := SlA.of_own hown2; have D2 := Lib.hid (HB2.out.trans hb2); have S2 := Lib.hid hS2; clear hown2 hb2 hS2)
            | (go_at_call 20; refine (C1.out _ _ _ S2.out (HV.out.below D2.out)).mono ?_; rintro e u3 ⟨rfl, b⟩; have D3 := Lib.hid (bt D2.out b); have S3 := Lib.hid (S2.out.below b); clear b)
            | (go_at_call 31; refine (E1.out _ (HAA.out.below D3.out)).mono ?_; rintro e u4 ⟨rfl, b⟩; have D4 := Lib.hid (bt D3.out b); have S4 := Lib.hid (S3.out.below b); clear b)
            | (go_at_call 19; refine (C2.out _ (HV.out.below D4.out)).mono ?_; rintro e u5 ⟨rfl, b⟩; have D5 := Lib.hid (bt D4.out b); have S5 := Lib.hid (S4.out.below b); clear b)
            | (go_at_call 32; refine (E2.out _).mono ?_; rintro e u6 ⟨rfl, b⟩; have D6 := Lib.hid (bt D5.out b); have S6 := Lib.hid (S5.out.below b); clear b))
          rotate_left
          · go_ret
            first
              | exact ⟨rfl, HB0.out _⟩
              | exact ⟨rfl, Below.refl _ _⟩
          go_loopw [18] (fun i wl => ∃ k : Nat, k ≤ ss.length ∧ i = .int .i64 k ∧ Hid (Below w.heap.size w wl ∧ SlA Value.string wl A2 ss)) (fun i _ => ss.length - (intOf i).toNat)
          case atStart => exact ⟨0, Nat.zero_le _, rfl, D6.out, S6.out⟩
          case round =>
            obtain ⟨k, hk, rfl, HX⟩ := hrel
            have DX := Lib.hid HX.out.1
            by_cases hlt : k < ss.length
            · have SX := Lib.hid HX.out.2
              have AX := Lib.hid (HAA.out.below DX.out)
              have h1 := AX.out.get hlt
              have h2 := SX.out.get hlt
              clear HX HAA S2 S3 S4 S5 S6 E1 HA0
              obtain ⟨b, o, rfl, _, hc⟩ := h1
              obtain ⟨b2, o2, rfl, _, hc2⟩ := h2
              generalize ss[k] = x at *
              go_wp2
              go_region
              go_wp2
              go_roundw
              case rel => exact ⟨k + 1, by omega, by go_num, Below.drew DX.out, SX.out.below (Below.drew (Below.refl _ _))⟩
              case measure => simp [intOf]; omega
            · clear HX
              go_wp2
              go_ret
              exact ⟨rfl, DX.out⟩
        · go_wp2_with (go_at_call 23; refine (HG.out _ _).mono ?_; rintro e w1 ⟨rfl, rfl⟩)
          all_goals (go_ret; first | exact ⟨rfl, HB0.out _⟩ | exact ⟨rfl, Below.refl _ _⟩)
        · go_wp2_with (go_at_call 23; refine (HG.out _ _).mono ?_; rintro e w1 ⟨rfl, rfl⟩)
          all_goals (go_ret; first | exact ⟨rfl, HB0.out _⟩ | exact ⟨rfl, Below.refl _ _⟩)
        · go_wp2_with (first
            | (go_at_call 23; refine (HG.out _ _).mono ?_; rintro e w1 ⟨rfl, rfl⟩)
            | (at_builtin; refine wpList_appS HL.out (enc := Value.string) (fun _ => rfl) A ss ss.length c rfl (HAA.out.below HB2.out) HA0.out rfl _ _ 23 rfl i0 (.string ⟨#[]⟩) 16 Tryz.underlying23 hi hz0 hz1 hz2 rfl rfl rfl (by unfold maxLen; omega) (by omega) (by simp; omega) ?_; intro v' w2 hown2 hb2; rw [Nat.zero_add, List.nil_append] at hown2; obtain ⟨A2, c2', rfl, _, hS2⟩ := SlA.of_own hown2; have D2 := Lib.hid (HB2.out.trans hb2); have S2 := Lib.hid hS2; clear hown2 hb2 hS2)
            | (go_at_call 20; refine (C1.out _ _ _ S2.out (HV.out.below D2.out)).mono ?_; rintro e u3 ⟨rfl, b⟩; have D3 := Lib.hid (bt D2.out b); have S3 := Lib.hid (S2.out.below b); clear b)
            | (go_at_call 31; refine (E1.out _ (HAA.out.below D3.out)).mono ?_; rintro e u4 ⟨rfl, b⟩; have D4 := Lib.hid (bt D3.out b); have S4 := Lib.hid (S3.out.below b); clear b)
            | (go_at_call 19; refine (C2.out _ (HV.out.below D4.out)).mono ?_; rintro e u5 ⟨rfl, b⟩; have D5 := Lib.hid (bt D4.out b); have S5 := Lib.hid (S4.out.below b); clear b)
            | (go_at_call 32; refine (E2.out _).mono ?_; rintro e u6 ⟨rfl, b⟩; have D6 := Lib.hid (bt D5.out b); have S6 := Lib.hid (S5.out.below b); clear b))
          rotate_left
          · go_ret
            first
              | exact ⟨rfl, HB0.out _⟩
              | exact ⟨rfl, Below.refl _ _⟩
          go_loopw [18] (fun i wl => ∃ k : Nat, k ≤ ss.length ∧ i = .int .i64 k ∧ Hid (Below w.heap.size w wl ∧ SlA Value.string wl A2 ss)) (fun i _ => ss.length - (intOf i).toNat)
          case atStart => exact ⟨0, Nat.zero_le _, rfl, D6.out, S6.out⟩
          case round =>
            obtain ⟨k, hk, rfl, HX⟩ := hrel
            have DX := Lib.hid HX.out.1
            by_cases hlt : k < ss.length
            · have SX := Lib.hid HX.out.2
              have AX := Lib.hid (HAA.out.below DX.out)
              have h1 := AX.out.get hlt
              have h2 := SX.out.get hlt
              clear HX HAA S2 S3 S4 S5 S6 E1 HA0
              obtain ⟨b, o, rfl, _, hc⟩ := h1
              obtain ⟨b2, o2, rfl, _, hc2⟩ := h2
              generalize ss[k] = x at *
              go_wp2
              go_region
              go_wp2
              go_roundw
              case rel => exact ⟨k + 1, by omega, by go_num, Below.drew DX.out, SX.out.below (Below.drew (Below.refl _ _))⟩
              case measure => simp [intOf]; omega
            · clear HX
              go_wp2
              go_ret
              exact ⟨rfl, DX.out⟩
    · have hk2 : k = ss.length := by omega
      have HZZ : Hid (1000 < ss.length ∨ (szS (ss.take k) ≤ 2100 → ∀ s ∈ ss, s.size ≤ 1048576)) := .inr fun h s hs => by
        rw [hk2, List.take_of_length_le (Nat.le_refl _)] at h
        have := szS_mem ss hs
        omega
      generalize szS (ss.take k) = z at *
      by_cases g1 : 40 < ss.length
      · go_wp2
        go_ret
        exact ⟨rfl, Below.refl _ _⟩
      · have ga : ss.length ≤ 40 := by omega
        by_cases g3 : 2100 < z
        · go_wp2
          go_ret
          exact ⟨rfl, Below.refl _ _⟩
        by_cases g4 : 2100 < sa.size
        · have HG := Lib.hid (great2_this sa true (decide_eq_true g4))
          have HB0 := Lib.hid (fun o => (Below.refl _ w).alloc (Nat.le_refl _) o)
          go_wp2_with (go_at_call 23; refine (HG.out _ _).mono ?_; rintro e w1 ⟨rfl, rfl⟩)
          go_ret
          exact ⟨rfl, HB0.out _⟩
        have HG := Lib.hid (great2_this sa false (decide_eq_false g4))
        have HB0 := Lib.hid (fun o => (Below.refl _ w).alloc (Nat.le_refl _) o)
        have HS2 : 1000 < ss.length ∨ ∀ s ∈ ss, s.size ≤ 1048576 := HZZ.out.imp id (fun h => h (by omega))
        have hlit : ((w.alloc (.cells #[.string sa] 22)).alloc (.cells #[] 22)).ownsRow w.heap.size 22 1 (.slice (some ⟨w.heap.size + 1, 0, none⟩) 0 0) 0 [] :=
          ⟨rfl, .inr ⟨w.heap.size + 1, 0, #[], rfl, by omega, by have := heap_alloc_new (w.alloc (.cells #[.string sa] 22)) (.cells #[] 22); simpa using this, by omega, by unfold maxLen; omega, rfl, rfl⟩⟩
        have HL := Lib.hid hlit
        have hB2 : Below w.heap.size w ((w.alloc (.cells #[.string sa] 22)).alloc (.cells #[] 22)) := ((Below.refl _ _).alloc (Nat.le_refl _) _).alloc (by simp) _
        have HB2 := Lib.hid hB2
        have C1 := Lib.hid (fun B d W h => rsum_any B d ss W h HS2)
        have E1 := Lib.hid (fun W h => rsumref_any A c ss W h HS2)
        have C2 := Lib.hid (power_any sa (by omega) n)
        have E2 := Lib.hid (refpower_any sa (by omega) n)
        generalize sumT ss = t1 at C1 E1
        generalize sumC ss = c1 at C1 E1
        generalize poT n sa.data.toList = t2 at C2 E2
        generalize poC n sa.data.toList = c2 at C2 E2
        have HAA := Lib.hid hA
        clear hlit hB2 hA HS2 HZZ g3 g4 hs1 hk hk50
        have h5 : (sa.size ≤ 60) ∨ (60 < sa.size ∧ n < -12) ∨ (60 < sa.size ∧ 12 < n) ∨ (60 < sa.size ∧ -12 ≤ n ∧ n ≤ 12) := by omega
        rcases h5 with h5 | ⟨h5, h6⟩ | ⟨h5, h6⟩ | ⟨h5, h6, h7⟩
        · go_wp2_with (first
            | (go_at_call 23; refine (HG.out _ _).mono ?_; rintro e w1 ⟨rfl, rfl⟩)
            | (at_builtin; refine wpList_appS HL.out (enc := Value.string) (fun _ => rfl) A ss ss.length c rfl (HAA.out.below HB2.out) HA0.out rfl _ _ 23 rfl i0 (.string ⟨#[]⟩) 16 Tryz.underlying23 hi hz0 hz1 hz2 rfl rfl rfl (by unfold maxLen; omega) (by omega) (by simp; omega) ?_; intro v' w2 hown2 hb2; rw [Nat.zero_add, List.nil_append] at hown2; obtain ⟨A2, c2', rfl, _, hS2⟩ := SlA.of_own hown2; have D2 := Lib.hid (HB2.out.trans hb2); have S2 := Lib.hid hS2; clear hown2 hb2 hS2)
            | (go_at_call 20; refine (C1.out _ _ _ S2.out (HV.out.below D2.out)).mono ?_; rintro e u3 ⟨rfl, b⟩; have D3 := Lib.hid (bt D2.out b); have S3 := Lib.hid (S2.out.below b); clear b)
            | (go_at_call 31; refine (E1.out _ (HAA.out.below D3.out)).mono ?_; rintro e u4 ⟨rfl, b⟩; have D4 := Lib.hid (bt D3.out b); have S4 := Lib.hid (S3.out.below b); clear b)
            | (go_at_call 19; refine (C2.out _ (HV.out.below D4.out)).mono ?_; rintro e u5 ⟨rfl, b⟩; have D5 := Lib.hid (bt D4.out b); have S5 := Lib.hid (S4.out.below b); clear b)
            | (go_at_call 32; refine (E2.out _).mono ?_; rintro e u6 ⟨rfl, b⟩; have D6 := Lib.hid (bt D5.out b); have S6 := Lib.hid (S5.out.below b); clear b))
          rotate_left
          · go_ret
            first
              | exact ⟨rfl, HB0.out _⟩
              | exact ⟨rfl, Below.refl _ _⟩
          go_loopw [18] (fun i wl => ∃ k : Nat, k ≤ ss.length ∧ i = .int .i64 k ∧ Hid (Below w.heap.size w wl ∧ SlA Value.string wl A2 ss)) (fun i _ => ss.length - (intOf i).toNat)
          case atStart => exact ⟨0, Nat.zero_le _, rfl, D6.out, S6.out⟩
          case round =>
            obtain ⟨k, hk, rfl, HX⟩ := hrel
            have DX := Lib.hid HX.out.1
            by_cases hlt : k < ss.length
            · have SX := Lib.hid HX.out.2
              have AX := Lib.hid (HAA.out.below DX.out)
              have h1 := AX.out.get hlt
              have h2 := SX.out.get hlt
              clear HX HAA S2 S3 S4 S5 S6 E1 HA0
              obtain ⟨b, o, rfl, _, hc⟩ := h1
              obtain ⟨b2, o2, rfl, _, hc2⟩ := h2
              generalize ss[k] = x at *
              go_wp2
              go_region
              go_wp2
              go_roundw
              case rel => exact ⟨k + 1, by omega, by go_num, Below.drew DX.out, SX.out.below (Below.drew (Below.refl _ _))⟩
              case measure => simp [intOf]; omega
            · clear HX
              go_wp2
              go_ret
              exact ⟨rfl, DX.out⟩
        · go_wp2_with (go_at_call 23; refine (HG.out _ _).mono ?_; rintro e w1 ⟨rfl, rfl⟩)
          all_goals (go_ret; first | exact ⟨rfl, HB0.out _⟩ | exact ⟨rfl, Below.refl _ _⟩)
        · go_wp2_with (go_at_call 23; refine (HG.out _ _).mono ?_; rintro e w1 ⟨rfl, rfl⟩)
          all_goals (go_ret; first | exact ⟨rfl, HB0.out _⟩ | exact ⟨rfl, Below.refl _ _⟩)
        · go_wp2_with (first
            | (go_at_call 23; refine (HG.out _ _).mono ?_; rintro e w1 ⟨rfl, rfl⟩)
            | (at_builtin; refine wpList_appS HL.out (enc := Value.string) (fun _ => rfl) A ss ss.length c rfl (HAA.out.below HB2.out) HA0.out rfl _ _ 23 rfl i0 (.string ⟨#[]⟩) 16 Tryz.underlying23 hi hz0 hz1 hz2 rfl rfl rfl (by unfold maxLen; omega) (by omega) (by simp; omega) ?_; intro v' w2 hown2 hb2; rw [Nat.zero_add, List.nil_append] at hown2; obtain ⟨A2, c2', rfl, _, hS2⟩ := SlA.of_own hown2; have D2 := Lib.hid (HB2.out.trans hb2); have S2 := Lib.hid hS2; clear hown2 hb2 hS2)
            | (go_at_call 20; refine (C1.out _ _ _ S2.out (HV.out.below D2.out)).mono ?_; rintro e u3 ⟨rfl, b⟩; have D3 := Lib.hid (bt D2.out b); have S3 := Lib.hid (S2.out.below b); clear b)
            | (go_at_call 31; refine (E1.out _ (HAA.out.below D3.out)).mono ?_; rintro e u4 ⟨rfl, b⟩; have D4 := Lib.hid (bt D3.out b); have S4 := Lib.hid (S3.out.below b); clear b)
            | (go_at_call 19; refine (C2.out _ (HV.out.below D4.out)).mono ?_; rintro e u5 ⟨rfl, b⟩; have D5 := Lib.hid (bt D4.out b); have S5 := Lib.hid (S4.out.below b); clear b)
            | (go_at_call 32; refine (E2.out _).mono ?_; rintro e u6 ⟨rfl, b⟩; have D6 := Lib.hid (bt D5.out b); have S6 := Lib.hid (S5.out.below b); clear b))
          rotate_left
          · go_ret
            first
              | exact ⟨rfl, HB0.out _⟩
              | exact ⟨rfl, Below.refl _ _⟩
          go_loopw [18] (fun i wl => ∃ k : Nat, k ≤ ss.length ∧ i = .int .i64 k ∧ Hid (Below w.heap.size w wl ∧ SlA Value.string wl A2 ss)) (fun i _ => ss.length - (intOf i).toNat)
          case atStart => exact ⟨0, Nat.zero_le _, rfl, D6.out, S6.out⟩
          case round =>
            obtain ⟨k, hk, rfl, HX⟩ := hrel
            have DX := Lib.hid HX.out.1
            by_cases hlt : k < ss.length
            · have SX := Lib.hid HX.out.2
              have AX := Lib.hid (HAA.out.below DX.out)
              have h1 := AX.out.get hlt
              have h2 := SX.out.get hlt
              clear HX HAA S2 S3 S4 S5 S6 E1 HA0
              obtain ⟨b, o, rfl, _, hc⟩ := h1
              obtain ⟨b2, o2, rfl, _, hc2⟩ := h2
              generalize ss[k] = x at *
              go_wp2
              go_region
              go_wp2
              go_roundw
              case rel => exact ⟨k + 1, by omega, by go_num, Below.drew DX.out, SX.out.below (Below.drew (Below.refl _ _))⟩
              case measure => simp [intOf]; omega
            · clear HX
              go_wp2
              go_ret
              exact ⟨rfl, DX.out⟩
end Go.Proofs.YtgjhgkglfflmjaaGreatDoor
