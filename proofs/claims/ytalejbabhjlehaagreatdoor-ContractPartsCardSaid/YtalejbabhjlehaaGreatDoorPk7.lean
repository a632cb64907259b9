/- Joined: ObE, ObF, IntA2. -/
import Derived.Test.YtalejbabhjlehaaGreatDoorPk2
import Derived.Test.YtalejbabhjlehaaGreatDoorPk6
import Derived.Test.YtalejbabhjlehaaGreatDoorRows
import Derived.WalkKit
import Derived.WalkSpells
import Derived.WalkLawsBesides
import Derived.Lib.Hide
/- Layer 8: names and days: the reference and the program. -/
namespace Go.Proofs.YtalejbabhjlehaaGreatDoor
open Go Go.RowKit
def alphaO (c : UInt8) : Bool := (65 ≤ c && c ≤ 90) || (97 ≤ c && c ≤ 122)
def nextO (c : UInt8) : Bool := alphaO c || (48 ≤ c && c ≤ 57) || c == 95 || c == 45
def nameO (l : List UInt8) : Bool := decide (l.length ≤ 40) && (match l with | [] => false | c :: r => alphaO c && r.all nextO)
def okCO (k : Nat) (c : UInt8) : Bool := if k = 0 then alphaO c else nextO c
theorem alphaO_iff (c : UInt8) : alphaO c = true ↔ (65 ≤ (c.toNat : Int) ∧ (c.toNat : Int) ≤ 90) ∨ (97 ≤ (c.toNat : Int) ∧ (c.toNat : Int) ≤ 122) := by
  unfold alphaO
  rw [Bool.or_eq_true, Bool.and_eq_true, Bool.and_eq_true, decide_eq_true_eq, decide_eq_true_eq, decide_eq_true_eq, decide_eq_true_eq]
  simp only [UInt8.le_iff_toNat_le]
  have e1 : (65 : UInt8).toNat = 65 := rfl
  have e2 : (90 : UInt8).toNat = 90 := rfl
  have e3 : (97 : UInt8).toNat = 97 := rfl
  have e4 : (122 : UInt8).toNat = 122 := rfl
  omega
theorem nextO_iff (c : UInt8) : nextO c = true ↔ alphaO c = true ∨ (48 ≤ (c.toNat : Int) ∧ (c.toNat : Int) ≤ 57) ∨ (c.toNat : Int) = 95 ∨ (c.toNat : Int) = 45 := by
  unfold nextO
  rw [Bool.or_eq_true, Bool.or_eq_true, Bool.or_eq_true, Bool.and_eq_true, decide_eq_true_eq, decide_eq_true_eq, beq_iff_eq, beq_iff_eq]
  simp only [UInt8.le_iff_toNat_le, ← UInt8.toNat_inj]
  have e1 : (48 : UInt8).toNat = 48 := rfl
  have e2 : (57 : UInt8).toNat = 57 := rfl
  have e3 : (95 : UInt8).toNat = 95 := rfl
  have e4 : (45 : UInt8).toNat = 45 := rfl
  rw [e1, e2, e3, e4]
  constructor
  · rintro (((h | h) | h) | h)
    · exact .inl h
    · exact .inr (.inl (by omega))
    · exact .inr (.inr (.inl (by omega)))
    · exact .inr (.inr (.inr (by omega)))
  · rintro (h | h | h | h)
    · exact .inl (.inl (.inl h))
    · exact .inl (.inl (.inr (by omega)))
    · exact .inl (.inr (by omega))
    · exact .inr (by omega)
theorem nameO_iff (s : ByteArray) : nameO s.data.toList = true ↔ (1 ≤ s.size ∧ s.size ≤ 40) ∧ ∀ k (h : k < s.size), okCO k s[k] = true := by
  have hl : s.data.toList.length = s.size := by simp
  have hg : ∀ k (h : k < s.size), s.data.toList[k]? = some s[k] := fun k h => getElem_toList s k h
  unfold nameO
  rw [Bool.and_eq_true, decide_eq_true_eq, hl]
  cases h : s.data.toList with
  | nil =>
    rw [h] at hl
    constructor
    · rintro ⟨-, g⟩; cases g
    · rintro ⟨⟨g, -⟩, -⟩; simp at hl; omega
  | cons c r =>
    rw [h] at hl hg
    simp only [List.length_cons] at hl
    simp only [Bool.and_eq_true, List.all_eq_true]
    constructor
    · rintro ⟨h1, h2, h3⟩
      refine ⟨⟨by omega, h1⟩, fun k hk => ?_⟩
      have := hg k hk
      unfold okCO
      cases k with
      | zero => rw [if_pos rfl]; simp at this; rw [← this]; exact h2
      | succ k =>
        rw [if_neg (by omega)]
        rw [List.getElem?_cons_succ] at this
        exact h3 _ (List.mem_of_getElem? this)
    · rintro ⟨⟨h1, h2⟩, h3⟩
      refine ⟨h2, ?_, fun x hx => ?_⟩
      · have := hg 0 (by omega)
        have h4 := h3 0 (by omega)
        unfold okCO at h4
        rw [if_pos rfl] at h4
        simp at this
        rw [this]; exact h4
      · obtain ⟨k, hk, rfl⟩ := List.getElem_of_mem hx
        have := hg (k + 1) (by omega)
        have h4 := h3 (k + 1) (by omega)
        unfold okCO at h4
        rw [if_neg (by omega)] at h4
        rw [List.getElem?_cons_succ, List.getElem?_eq_getElem hk] at this
        injection this with this
        rw [this]; exact h4
def okIO (k : Nat) (x : Int) : Bool := decide (65 ≤ x ∧ x ≤ 90) || decide (97 ≤ x ∧ x ≤ 122) || (decide (k ≠ 0) && (decide (48 ≤ x ∧ x ≤ 57) || decide (x = 95) || decide (x = 45)))
theorem okIO_of (k : Nat) (c : UInt8) (x : Int) (hx : (c.toNat : Int) = x) : okCO k c = okIO k x := by
  have h1 := alphaO_iff c
  have h2 := nextO_iff c
  rw [hx] at h1 h2
  have h3 : okCO k c = true ↔ okIO k x = true := by
    unfold okCO okIO
    simp only [Bool.or_eq_true, Bool.and_eq_true, decide_eq_true_eq]
    split
    · next e => rw [h1]; omega
    · next e => rw [h2, h1]; omega
  cases ha : okCO k c <;> cases hb : okIO k x <;> simp_all
theorem clsO (x : Int) : (x < 45) ∨ (x = 45) ∨ (45 < x ∧ x < 48) ∨ (48 ≤ x ∧ x ≤ 57) ∨ (57 < x ∧ x < 65) ∨ (65 ≤ x ∧ x ≤ 90) ∨ (90 < x ∧ x < 95) ∨ (x = 95) ∨ (95 < x ∧ x < 97) ∨ (97 ≤ x ∧ x ≤ 122) ∨ (122 < x) := by omega
set_option maxRecDepth 100000 in
set_option maxHeartbeats 3200000 in
theorem rname8_any (s : ByteArray) (b : Bool) (h : nameO s.data.toList = b) (w : World) :
    Calls Tryz.prog 86 #[.string s] w fun e w' => e = .returned (.bool b) ∧ w = w' := by
  by_cases hsz : 1 ≤ s.size ∧ s.size ≤ 40
  · obtain ⟨h1, h2⟩ := hsz
    have HT : Hid ((∀ k (h : k < s.size), okCO k s[k] = true) → b = true) := fun g => by rw [← h]; exact (nameO_iff s).2 ⟨⟨h1, h2⟩, g⟩
    have HF : Hid (∀ k (h : k < s.size), okCO k s[k] = false → b = false) := fun k hk g => by
      rw [← h, Bool.eq_false_iff]
      intro e
      have := ((nameO_iff s).1 e).2 k hk
      rw [g] at this; cases this
    have g1 : 1 ≤ (s.size : Int) := by omega
    have g2 : (s.size : Int) ≤ 40 := by omega
    have g0 : ((s.size : Int) == 0) = false := by rw [beq_eq_false_iff_ne]; omega
    clear h
    go_enter Tryz.func86, Tryz.ntmps86
    go_wp2
    go_loop [3] (fun i => ∃ k : Nat, k ≤ s.size ∧ i = .int .i64 k ∧ Hid (∀ j (h : j < s.size), j < k → okCO j s[j] = true)) (fun i => s.size - (intOf i).toNat)
    case atStart => exact ⟨0, by omega, rfl, fun j h g => by omega⟩
    case round =>
      obtain ⟨k, hk, rfl, HI⟩ := hrel
      by_cases hlt : k < s.size
      · have hk1 : (k : Int) < (s.size : Int) := by omega
        obtain ⟨x, hx⟩ : ∃ x : Int, (s[k].toNat : Int) = x := ⟨_, rfl⟩
        have ho := okIO_of k s[k] x hx
        have HI2 : Hid (okCO k s[k] = true → ∀ j (h : j < s.size), j < k + 1 → okCO j s[j] = true) := fun g j hj hj2 => by
          rcases Nat.lt_or_ge j k with q | q
          · exact HI.out j hj q
          · obtain rfl : j = k := by omega
            exact g
        have HF2 := Lib.hid (HF.out k hlt)
        rw [ho] at HI2 HF2
        have HX := Lib.hid hx
        have hc := clsO x
        clear HT HF HI ho
        cases k with
        | zero =>
          have e0 : (((0 : Nat) : Int) == 0) = true := rfl
          rcases hc with ⟨hi⟩ | ⟨rfl⟩ | ⟨lo, hi⟩ | ⟨lo, hi⟩ | ⟨lo, hi⟩ | ⟨lo, hi⟩ | ⟨lo, hi⟩ | ⟨rfl⟩ | ⟨lo, hi⟩ | ⟨lo, hi⟩ | ⟨lo⟩
          all_goals
            first
            | (have HG := Lib.hid (HI2.out (by unfold okIO; first | (simp; done) | (simp; omega)))
               clear HF2 HI2
               go_wp2
               all_goals
                 first
                 | (exfalso; first | omega | (simp_all; done) | (simp_all; omega))
                 | (go_round
                    case rel => exact ⟨1, by omega, by first | rfl | go_num, HG⟩
                    case measure => first | (simp [intOf]; done) | (simp [intOf]; omega)))
            | (obtain rfl := HF2.out (by unfold okIO; first | (simp; done) | (simp; omega))
               clear HF2 HI2
               go_wp2
               all_goals
                 first
                 | (exfalso; first | omega | (simp_all; done) | (simp_all; omega))
                 | (go_ret; exact ⟨rfl, rfl⟩))
        | succ k =>
          have e0 : (((k + 1 : Nat) : Int) == 0) = false := by rw [beq_eq_false_iff_ne]; omega
          have e1 : ((k : Int) + 1 == 0) = false := by rw [beq_eq_false_iff_ne]; omega
          rcases hc with ⟨hi⟩ | ⟨rfl⟩ | ⟨lo, hi⟩ | ⟨lo, hi⟩ | ⟨lo, hi⟩ | ⟨lo, hi⟩ | ⟨lo, hi⟩ | ⟨rfl⟩ | ⟨lo, hi⟩ | ⟨lo, hi⟩ | ⟨lo⟩
          all_goals
            first
            | (have HG := Lib.hid (HI2.out (by unfold okIO; first | (simp; done) | (simp; omega)))
               clear HF2 HI2
               go_wp2
               all_goals
                 first
                 | (exfalso; first | omega | (simp_all; done) | (simp_all; omega))
                 | (go_round
                    case rel => exact ⟨k + 1 + 1, by omega, by first | rfl | go_num, HG⟩
                    case measure => first | (simp [intOf]; done) | (simp [intOf]; omega)))
            | (obtain rfl := HF2.out (by unfold okIO; first | (simp; done) | (simp; omega))
               clear HF2 HI2
               go_wp2
               all_goals
                 first
                 | (exfalso; first | omega | (simp_all; done) | (simp_all; omega))
                 | (go_ret; exact ⟨rfl, rfl⟩))
      · obtain rfl : k = s.size := by omega
        obtain rfl := HT.out (fun j hj => HI.out j hj hj)
        clear HT HF HI
        go_wp2
        go_ret
        exact ⟨rfl, rfl⟩
  · have hb : b = false := by
      rw [← h, Bool.eq_false_iff]
      intro e
      exact hsz ((nameO_iff s).1 e).1
    subst hb
    clear h
    by_cases g : s.size < 1
    · have g0 : ((s.size : Int) == 0) = true := by rw [beq_iff_eq]; omega
      clear hsz g
      go_enter Tryz.func86, Tryz.ntmps86
      go_wp2
      go_ret
      exact ⟨rfl, rfl⟩
    · have g0 : ((s.size : Int) == 0) = false := by rw [beq_eq_false_iff_ne]; omega
      have g2 : 40 < (s.size : Int) := by omega
      clear hsz g
      go_enter Tryz.func86, Tryz.ntmps86
      go_wp2
      go_ret
      exact ⟨rfl, rfl⟩
def dayO (d : Int) : Bool := decide (0 ≤ d) && decide (d ≤ 99999)
set_option maxRecDepth 100000 in
theorem rday_any (d : Int) (w : World) : Calls Tryz.prog 72 #[.int .i64 d] w fun e w' => e = .returned (.bool (dayO d)) ∧ w = w' := by
  unfold dayO
  by_cases h1 : 0 ≤ d
  · by_cases h2 : d ≤ 99999
    · go_enter Tryz.func72, Tryz.ntmps72
      go_wp2
      go_ret
      exact ⟨by rw [decide_eq_true h1, decide_eq_true h2]; rfl, rfl⟩
    · go_enter Tryz.func72, Tryz.ntmps72
      go_wp2
      go_ret
      refine ⟨?_, rfl⟩
      congr 2
      simp
      omega
  · go_enter Tryz.func72, Tryz.ntmps72
    go_wp2
    go_ret
    refine ⟨?_, rfl⟩
    congr 2
    simp
    omega
set_option maxRecDepth 100000 in
theorem pday_any (d : Int) (w : World) : Calls Tryz.prog 110 #[.int .i64 d] w fun e w' => e = .returned (.bool (dayO d)) ∧ w = w' := by
  unfold dayO
  by_cases h1 : 0 ≤ d
  · by_cases h2 : d ≤ 99999
    · go_enter Tryz.func110, Tryz.ntmps110
      go_wp2
      go_ret
      exact ⟨by rw [decide_eq_true h1, decide_eq_true h2]; rfl, rfl⟩
    · go_enter Tryz.func110, Tryz.ntmps110
      go_wp2
      go_ret
      refine ⟨?_, rfl⟩
      congr 2
      simp
      omega
  · go_enter Tryz.func110, Tryz.ntmps110
    go_wp2
    go_ret
    refine ⟨?_, rfl⟩
    congr 2
    simp
    omega
def letO (x : Int) : Bool := decide (97 ≤ x ∧ x ≤ 122) || decide (65 ≤ x ∧ x ≤ 90)
def digO (x : Int) : Bool := decide (48 ≤ x ∧ x ≤ 57)
set_option maxRecDepth 100000 in
set_option maxHeartbeats 1600000 in
theorem letter_any (x : Int) (w : World) : Calls Tryz.prog 70 #[.int .u8 x] w fun e w' => e = .returned (.bool (letO x)) ∧ w = w' := by
  have hc : (97 ≤ x ∧ x ≤ 122) ∨ (122 < x) ∨ (65 ≤ x ∧ x ≤ 90) ∨ (90 < x ∧ x < 97) ∨ x < 65 := by omega
  unfold letO
  rcases hc with ⟨h1, h2⟩ | h1 | ⟨h1, h2⟩ | ⟨h1, h2⟩ | h1
  all_goals
    go_enter Tryz.func70, Tryz.ntmps70
    go_wp2
    all_goals
      first
      | (exfalso; omega)
      | (go_ret
         refine ⟨?_, rfl⟩
         first | rfl | (congr 2; simp; omega) | (congr 2; simp [*]; done) | (congr 2; simp; trace_state; omega))
set_option maxRecDepth 100000 in
theorem digit_any (x : Int) (w : World) : Calls Tryz.prog 71 #[.int .u8 x] w fun e w' => e = .returned (.bool (digO x)) ∧ w = w' := by
  have hc : (48 ≤ x ∧ x ≤ 57) ∨ (57 < x) ∨ x < 48 := by omega
  unfold digO
  rcases hc with ⟨h1, h2⟩ | h1 | h1
  all_goals
    go_enter Tryz.func71, Tryz.ntmps71
    go_wp2
    all_goals
      first
      | (exfalso; omega)
      | (go_ret
         refine ⟨?_, rfl⟩
         first | rfl | (congr 2; simp; omega) | (congr 2; simp [*]; done) | (congr 2; simp; trace_state; omega))
end Go.Proofs.YtalejbabhjlehaaGreatDoor
/- Layer 8: the program's Name. -/
namespace Go.Proofs.YtalejbabhjlehaaGreatDoor
open Go Go.RowKit
theorem okIO_let (x : Int) : okIO 0 x = letO x := by
  have : okIO 0 x = true ↔ letO x = true := by
    unfold okIO letO
    simp only [Bool.or_eq_true, Bool.and_eq_true, decide_eq_true_eq]
    omega
  cases h1 : okIO 0 x <;> cases h2 : letO x <;> simp_all
theorem okIO_next (k : Nat) (x : Int) (h : letO x = true ∨ (k ≠ 0 ∧ (digO x = true ∨ x = 95 ∨ x = 45))) : okIO k x = true := by
  unfold okIO
  unfold letO digO at h
  simp only [Bool.or_eq_true, Bool.and_eq_true, decide_eq_true_eq] at h ⊢
  omega
theorem okIO_not (k : Nat) (x : Int) (h : letO x = false) (h1 : digO x = false) (h2 : x ≠ 95) (h3 : x ≠ 45) : okIO k x = false := by
  unfold okIO
  unfold letO at h
  unfold digO at h1
  simp only [Bool.or_eq_false_iff, Bool.and_eq_false_iff, decide_eq_false_iff_not] at h h1 ⊢
  omega
set_option maxRecDepth 100000 in
set_option maxHeartbeats 6400000 in
theorem pname8_any (s : ByteArray) (b : Bool) (h : nameO s.data.toList = b) (w : World) :
    Calls Tryz.prog 35 #[.string s] w fun e w' => e = .returned (.bool b) ∧ w = w' := by
  have HL := Lib.hid (fun x => letter_any x w)
  have HD := Lib.hid (fun x => digit_any x w)
  by_cases hsz : 1 ≤ s.size ∧ s.size ≤ 40
  · obtain ⟨h1, h2⟩ := hsz
    have HT : Hid ((∀ k (h : k < s.size), okCO k s[k] = true) → b = true) := fun g => by rw [← h]; exact (nameO_iff s).2 ⟨⟨h1, h2⟩, g⟩
    have HF : Hid (∀ k (h : k < s.size), okCO k s[k] = false → b = false) := fun k hk g => by
      rw [← h, Bool.eq_false_iff]
      intro e
      have := ((nameO_iff s).1 e).2 k hk
      rw [g] at this; cases this
    have g1 : 1 ≤ (s.size : Int) := by omega
    have g2 : (s.size : Int) ≤ 40 := by omega
    have gz : (s.toList == ([] : List UInt8)) = false := by
      rw [Lib.toList_data, beq_eq_false_iff_ne]
      intro e
      have := size_lenO s
      rw [e] at this
      exact absurd this (by show ¬ s.size = 0; omega)
    have h0 : 0 < s.size := by omega
    obtain ⟨x0, hx0⟩ : ∃ x : Int, (s[0].toNat : Int) = x := ⟨_, rfl⟩
    have ho0 := okIO_of 0 s[0] x0 hx0
    rw [okIO_let] at ho0
    clear h h1 h2
    cases hl0 : letO x0
    · rw [hl0] at ho0
      obtain rfl := HF.out 0 h0 ho0
      have HL0 := Lib.hid (HL.out x0)
      rw [hl0] at HL0
      clear HT HF ho0 hl0 HL
      go_enter Tryz.func35, Tryz.ntmps35
      go_wp2_with (go_at_call 70; ((with_reducible refine HL0.out.mono ?_); rintro x w1 ⟨rfl, rfl⟩))
      go_ret
      exact ⟨rfl, rfl⟩
    · rw [hl0] at ho0
      have HO := Lib.hid ho0
      have HL0 := Lib.hid (HL.out x0)
      rw [hl0] at HL0
      clear ho0
      have HX0 := Lib.hid hx0
      go_enter Tryz.func35, Tryz.ntmps35
      go_wp2_with (go_at_call 70; ((with_reducible refine HL0.out.mono ?_); rintro x w1 ⟨rfl, rfl⟩))
      go_loop [19] (fun i => ∃ k : Nat, k ≤ s.size ∧ i = .int .i64 k ∧ Hid (∀ j (h : j < s.size), j < k → okCO j s[j] = true)) (fun i => s.size - (intOf i).toNat)
      case atStart => exact ⟨0, by omega, rfl, fun j h g => by omega⟩
      case round =>
        obtain ⟨k, hk, rfl, HI⟩ := hrel
        by_cases hlt : k < s.size
        · have hk1 : (k : Int) < (s.size : Int) := by omega
          have hxk : k = 0 → (s[k].toNat : Int) = x0 := fun e => by subst e; exact HX0.out
          obtain ⟨x, hx⟩ : ∃ x : Int, (s[k].toNat : Int) = x := ⟨_, rfl⟩
          rw [hx] at hxk
          have ho := okIO_of k s[k] x hx
          have HI2 : Hid (okCO k s[k] = true → ∀ j (h : j < s.size), j < k + 1 → okCO j s[j] = true) := fun g j hj hj2 => by
            rcases Nat.lt_or_ge j k with q | q
            · exact HI.out j hj q
            · obtain rfl : j = k := by omega
              exact g
          have HF2 := Lib.hid (HF.out k hlt)
          rw [ho] at HI2 HF2
          have HL1 := Lib.hid (HL.out x)
          have HD1 := Lib.hid (HD.out x)
          have hz : letO x = false → k ≠ 0 := fun g e => by rw [hxk e, hl0] at g; cases g
          clear HT HF HI ho hx0 HL HD HX0 HL0 HO hl0 hxk
          cases hl : letO x
          · rw [hl] at HL1
            have hk0 := hz hl
            clear hz
            cases hd : digO x
            · rw [hd] at HD1
              by_cases h95 : x = 95
              · have HG := Lib.hid (HI2.out (okIO_next k x (.inr ⟨hk0, .inr (.inl h95)⟩)))
                have e1 : (x != 95) = false := by rw [bne_eq_false_iff_eq]; exact h95
                clear HI2 HF2 h95 hl hd hk0
                go_wp2_with (first
                  | (go_at_call 70; ((with_reducible refine HL1.out.mono ?_); rintro y w1 ⟨rfl, rfl⟩))
                  | (go_at_call 71; ((with_reducible refine HD1.out.mono ?_); rintro y w1 ⟨rfl, rfl⟩)))
                go_round
                case rel => exact ⟨k + 1, by omega, by go_num, HG⟩
                case measure => simp [intOf]; omega
              · have e1 : (x != 95) = true := by rw [bne_iff_ne]; exact h95
                by_cases h45 : x = 45
                · have HG := Lib.hid (HI2.out (okIO_next k x (.inr ⟨hk0, .inr (.inr h45)⟩)))
                  have e2 : (x != 45) = false := by rw [bne_eq_false_iff_eq]; exact h45
                  clear HI2 HF2 h95 h45 hl hd hk0
                  go_wp2_with (first
                    | (go_at_call 70; ((with_reducible refine HL1.out.mono ?_); rintro y w1 ⟨rfl, rfl⟩))
                    | (go_at_call 71; ((with_reducible refine HD1.out.mono ?_); rintro y w1 ⟨rfl, rfl⟩)))
                  go_round
                  case rel => exact ⟨k + 1, by omega, by go_num, HG⟩
                  case measure => simp [intOf]; omega
                · have e2 : (x != 45) = true := by rw [bne_iff_ne]; exact h45
                  obtain rfl := HF2.out (okIO_not k x hl hd h95 h45)
                  clear HI2 HF2 h95 h45 hl hd hk0
                  go_wp2_with (first
                    | (go_at_call 70; ((with_reducible refine HL1.out.mono ?_); rintro y w1 ⟨rfl, rfl⟩))
                    | (go_at_call 71; ((with_reducible refine HD1.out.mono ?_); rintro y w1 ⟨rfl, rfl⟩)))
                  go_ret
                  exact ⟨rfl, rfl⟩
            · rw [hd] at HD1
              have HG := Lib.hid (HI2.out (okIO_next k x (.inr ⟨hk0, .inl hd⟩)))
              clear HI2 HF2 hl hd hk0
              go_wp2_with (first
                | (go_at_call 70; ((with_reducible refine HL1.out.mono ?_); rintro y w1 ⟨rfl, rfl⟩))
                | (go_at_call 71; ((with_reducible refine HD1.out.mono ?_); rintro y w1 ⟨rfl, rfl⟩)))
              go_round
              case rel => exact ⟨k + 1, by omega, by go_num, HG⟩
              case measure => simp [intOf]; omega
          · rw [hl] at HL1
            have HG := Lib.hid (HI2.out (okIO_next k x (.inl hl)))
            clear HI2 HF2 hl hz
            go_wp2_with (first
              | (go_at_call 70; ((with_reducible refine HL1.out.mono ?_); rintro y w1 ⟨rfl, rfl⟩))
              | (go_at_call 71; ((with_reducible refine HD1.out.mono ?_); rintro y w1 ⟨rfl, rfl⟩)))
            go_round
            case rel => exact ⟨k + 1, by omega, by go_num, HG⟩
            case measure => simp [intOf]; omega
        · obtain rfl : k = s.size := by omega
          obtain rfl := HT.out (fun j hj => HI.out j hj hj)
          clear HT HF HI HL HD HL0 HO hx0 hl0
          go_wp2_with (fail)
          go_ret
          exact ⟨rfl, rfl⟩
  · have hb : b = false := by
      rw [← h, Bool.eq_false_iff]
      intro e
      exact hsz ((nameO_iff s).1 e).1
    subst hb
    clear h
    by_cases g : s.size < 1
    · have hs : s = ⟨#[]⟩ := by
        cases s with
        | mk d => exact congrArg ByteArray.mk (Array.eq_empty_of_size_eq_zero (by have : d.size < 1 := g; omega))
      subst hs
      clear hsz g
      go_enter Tryz.func35, Tryz.ntmps35
      go_wp2_with (fail)
      go_ret
      exact ⟨rfl, rfl⟩
    · have gz : (s.toList == ([] : List UInt8)) = false := by
        rw [Lib.toList_data, beq_eq_false_iff_ne]
        intro e
        have := size_lenO s
        rw [e] at this
        exact absurd this (by show ¬ s.size = 0; omega)
      have g2 : 40 < (s.size : Int) := by omega
      clear hsz g
      go_enter Tryz.func35, Tryz.ntmps35
      go_wp2_with (fail)
      go_ret
      exact ⟨rfl, rfl⟩
end Go.Proofs.YtalejbabhjlehaaGreatDoor
/- Joined: IntR, IntR2. -/
/- The walks of the reference of layer 1. -/
namespace Go.Proofs.YtalejbabhjlehaaGreatDoor
open Go Go.RowKit
end Go.Proofs.YtalejbabhjlehaaGreatDoor
/- The walks of the reference of layer 1: digits. -/
namespace Go.Proofs.YtalejbabhjlehaaGreatDoor
open Go Go.RowKit
end Go.Proofs.YtalejbabhjlehaaGreatDoor
