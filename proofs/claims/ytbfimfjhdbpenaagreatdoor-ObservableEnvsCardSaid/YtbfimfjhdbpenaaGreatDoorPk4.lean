/- Joined: ObE, ObF, IntA2. -/
import Derived.Test.YtbfimfjhdbpenaaGreatDoorPk2
import Derived.Test.YtbfimfjhdbpenaaGreatDoorPk3
import Derived.Test.YtbfimfjhdbpenaaGreatDoorRows
import Derived.WalkKit
import Derived.WalkSpells
import Derived.WalkLawsBesides
import Derived.Lib.Hide
/- Layer 8: names and days: the reference and the program. -/
namespace Go.Proofs.YtbfimfjhdbpenaaGreatDoor
open Go Go.RowKit
def alphaO (c : UInt8) : Bool := (65 ≤ c && c ≤ 90) || (97 ≤ c && c ≤ 122)
def nextO (c : UInt8) : Bool := alphaO c || (48 ≤ c && c ≤ 57) || c == 95 || c == 45
def nameO (l : List UInt8) : Bool := decide (l.length ≤ 40) && (match l with | [] => false | c :: r => alphaO c && r.all nextO)
def okCO (k : Nat) (c : UInt8) : Bool := if k = 0 then alphaO c else nextO c
theorem alphaO_iff (c : UInt8) : alphaO c = true ↔ (65 ≤ (c.toNat : Int) ∧ (c.toNat : Int) ≤ 90) ∨ (97 ≤ (c.toNat : Int) ∧ (c.toNat : Int) ≤ 122) := by
  unfold alphaO
  rw [Bool.or_eq_true, Bool.and_eq_true, Bool.and_eq_true, decide_eq_true_eq, decide_eq_true_eq, decide_eq_true_eq, decide_eq_true_eq]
  simp only [UInt8.le_iff_toNat_le]
  have e1 : (65 : UInt8).toNat = 65 := rfl
  have e2 : (90 : UInt8).toNat = 90 := rfl
  have e3 : (97 : UInt8).toNat = 97 := rfl
  have e4 : (122 : UInt8).toNat = 122 := rfl
  omega
theorem nextO_iff (c : UInt8) : nextO c = true ↔ alphaO c = true ∨ (48 ≤ (c.toNat : Int) ∧ (c.toNat : Int) ≤ 57) ∨ (c.toNat : Int) = 95 ∨ (c.toNat : Int) = 45 := by
  unfold nextO
  rw [Bool.or_eq_true, Bool.or_eq_true, Bool.or_eq_true, Bool.and_eq_true, decide_eq_true_eq, decide_eq_true_eq, beq_iff_eq, beq_iff_eq]
  simp only [UInt8.le_iff_toNat_le, ← UInt8.toNat_inj]
  have e1 : (48 : UInt8).toNat = 48 := rfl
  have e2 : (57 : UInt8).toNat = 57 := rfl
  have e3 : (95 : UInt8).toNat = 95 := rfl
  have e4 : (45 : UInt8).toNat = 45 := rfl
  rw [e1, e2, e3, e4]
  constructor
  · rintro (((h | h) | h) | h)
    · exact .inl h
    · exact .inr (.inl (by omega))
    · exact .inr (.inr (.inl (by omega)))
    · exact .inr (.inr (.inr (by omega)))
  · rintro (h | h | h | h)
    · exact .inl (.inl (.inl h))
    · exact .inl (.inl (.inr (by omega)))
    · exact .inl (.inr (by omega))
    · exact .inr (by omega)
theorem nameO_iff (s : ByteArray) : nameO s.data.toList = true ↔ (1 ≤ s.size ∧ s.size ≤ 40) ∧ ∀ k (h : k < s.size), okCO k s[k] = true := by
  have hl : s.data.toList.length = s.size := by simp
  have hg : ∀ k (h : k < s.size), s.data.toList[k]? = some s[k] := fun k h => getElem_toList s k h
  unfold nameO
  rw [Bool.and_eq_true, decide_eq_true_eq, hl]
  cases h : s.data.toList with
  | nil =>
    rw [h] at hl
    constructor
    · rintro ⟨-, g⟩; cases g
    · rintro ⟨⟨g, -⟩, -⟩; simp at hl; omega
  | cons c r =>
    rw [h] at hl hg
    simp only [List.length_cons] at hl
    simp only [Bool.and_eq_true, List.all_eq_true]
    constructor
    · rintro ⟨h1, h2, h3⟩
      refine ⟨⟨by omega, h1⟩, fun k hk => ?_⟩
      have := hg k hk
      unfold okCO
      cases k with
      | zero => rw [if_pos rfl]; simp at this; rw [← this]; exact h2
      | succ k =>
        rw [if_neg (by omega)]
        rw [List.getElem?_cons_succ] at this
        exact h3 _ (List.mem_of_getElem? this)
    · rintro ⟨⟨h1, h2⟩, h3⟩
      refine ⟨h2, ?_, fun x hx => ?_⟩
      · have := hg 0 (by omega)
        have h4 := h3 0 (by omega)
        unfold okCO at h4
        rw [if_pos rfl] at h4
        simp at this
        rw [this]; exact h4
      · obtain ⟨k, hk, rfl⟩ := List.getElem_of_mem hx
        have := hg (k + 1) (by omega)
        have h4 := h3 (k + 1) (by omega)
        unfold okCO at h4
        rw [if_neg (by omega)] at h4
        rw [List.getElem?_cons_succ, List.getElem?_eq_getElem hk] at this
        injection this with this
        rw [this]; exact h4
def okIO (k : Nat) (x : Int) : Bool := decide (65 ≤ x ∧ x ≤ 90) || decide (97 ≤ x ∧ x ≤ 122) || (decide (k ≠ 0) && (decide (48 ≤ x ∧ x ≤ 57) || decide (x = 95) || decide (x = 45)))
theorem okIO_of (k : Nat) (c : UInt8) (x : Int) (hx : (c.toNat : Int) = x) : okCO k c = okIO k x := by
  have h1 := alphaO_iff c
  have h2 := nextO_iff c
  rw [hx] at h1 h2
  have h3 : okCO k c = true ↔ okIO k x = true := by
    unfold okCO okIO
    simp only [Bool.or_eq_true, Bool.and_eq_true, decide_eq_true_eq]
    split
    · next e => rw [h1]; omega
    · next e => rw [h2, h1]; omega
  cases ha : okCO k c <;> cases hb : okIO k x <;> simp_all
theorem clsO (x : Int) : (x < 45) ∨ (x = 45) ∨ (45 < x ∧ x < 48) ∨ (48 ≤ x ∧ x ≤ 57) ∨ (57 < x ∧ x < 65) ∨ (65 ≤ x ∧ x ≤ 90) ∨ (90 < x ∧ x < 95) ∨ (x = 95) ∨ (95 < x ∧ x < 97) ∨ (97 ≤ x ∧ x ≤ 122) ∨ (122 < x) := by omega
set_option maxRecDepth 100000 in
set_option maxHeartbeats 3200000 in
theorem rname8_any (s : ByteArray) (b : Bool) (h : nameO s.data.toList = b) (w : World) :
    Calls Tryz.prog 63 #[.string s] w fun e w' => e = .returned (.bool b) ∧ w = w' := by
  by_cases hsz : 1 ≤ s.size ∧ s.size ≤ 40
  · obtain ⟨h1, h2⟩ := hsz
    have HT : Hid ((∀ k (h : k < s.size), okCO k s[k] = true) → b = true) := fun g => by rw [← h]; exact (nameO_iff s).2 ⟨⟨h1, h2⟩, g⟩
    have HF : Hid (∀ k (h : k < s.size), okCO k s[k] = false → b = false) := fun k hk g => by
      rw [← h, Bool.eq_false_iff]
      intro e
      have := ((nameO_iff s).1 e).2 k hk
      rw [g] at this; cases this
    have g1 : 1 ≤ (s.size : Int) := by omega
    have g2 : (s.size : Int) ≤ 40 := by omega
    have g0 : ((s.size : Int) == 0) = false := by rw [beq_eq_false_iff_ne]; omega
    clear h
    go_enter Tryz.func63, Tryz.ntmps63
    go_wp2
    go_loop [3] (fun i => ∃ k : Nat, k ≤ s.size ∧ i = .int .i64 k ∧ Hid (∀ j (h : j < s.size), j < k → okCO j s[j] = true)) (fun i => s.size - (intOf i).toNat)
    case atStart => exact ⟨0, by omega, rfl, fun j h g => by omega⟩
    case round =>
      obtain ⟨k, hk, rfl, HI⟩ := hrel
      by_cases hlt : k < s.size
      · have hk1 : (k : Int) < (s.size : Int) := by omega
        obtain ⟨x, hx⟩ : ∃ x : Int, (s[k].toNat : Int) = x := ⟨_, rfl⟩
        have ho := okIO_of k s[k] x hx
        have HI2 : Hid (okCO k s[k] = true → ∀ j (h : j < s.size), j < k + 1 → okCO j s[j] = true) := fun g j hj hj2 => by
          rcases Nat.lt_or_ge j k with q | q
          · exact HI.out j hj q
          · obtain rfl : j = k := by omega
            exact g
        have HF2 := Lib.hid (HF.out k hlt)
        rw [ho] at HI2 HF2
        have HX := Lib.hid hx
        have hc := clsO x
        clear HT HF HI ho
        cases k with
        | zero =>
          have e0 : (((0 : Nat) : Int) == 0) = true := rfl
          rcases hc with ⟨hi⟩ | ⟨rfl⟩ | ⟨lo, hi⟩ | ⟨lo, hi⟩ | ⟨lo, hi⟩ | ⟨lo, hi⟩ | ⟨lo, hi⟩ | ⟨rfl⟩ | ⟨lo, hi⟩ | ⟨lo, hi⟩ | ⟨lo⟩
          all_goals
            first
            | (have HG := Lib.hid (HI2.out (by unfold okIO; first | (simp; done) | (simp; omega)))
               clear HF2 HI2
               go_wp2
               all_goals
                 first
                 | (exfalso; first | omega | (simp_all; done) | (simp_all; omega))
                 | (go_round
                    case rel => exact ⟨1, by omega, by first | rfl | go_num, HG⟩
                    case measure => first | (simp [intOf]; done) | (simp [intOf]; omega)))
            | (obtain rfl := HF2.out (by unfold okIO; first | (simp; done) | (simp; omega))
               clear HF2 HI2
               go_wp2
               all_goals
                 first
                 | (exfalso; first | omega | (simp_all; done) | (simp_all; omega))
                 | (go_ret; exact ⟨rfl, rfl⟩))
        | succ k =>
          have e0 : (((k + 1 : Nat) : Int) == 0) = false := by rw [beq_eq_false_iff_ne]; omega
          have e1 : ((k : Int) + 1 == 0) = false := by rw [beq_eq_false_iff_ne]; omega
          rcases hc with ⟨hi⟩ | ⟨rfl⟩ | ⟨lo, hi⟩ | ⟨lo, hi⟩ | ⟨lo, hi⟩ | ⟨lo, hi⟩ | ⟨lo, hi⟩ | ⟨rfl⟩ | ⟨lo, hi⟩ | ⟨lo, hi⟩ | ⟨lo⟩
          all_goals
            first
            | (have HG := Lib.hid (HI2.out (by unfold okIO; first | (simp; done) | (simp; omega)))
               clear HF2 HI2
               go_wp2
               all_goals
                 first
                 | (exfalso; first | omega | (simp_all; done) | (simp_all; omega))
                 | (go_round
                    case rel => exact ⟨k + 1 + 1, by omega, by first | rfl | go_num, HG⟩
                    case measure => first | (simp [intOf]; done) | (simp [intOf]; omega)))
            | (obtain rfl := HF2.out (by unfold okIO; first | (simp; done) | (simp; omega))
               clear HF2 HI2
               go_wp2
               all_goals
                 first
                 | (exfalso; first | omega | (simp_all; done) | (simp_all; omega))
                 | (go_ret; exact ⟨rfl, rfl⟩))
      · obtain rfl : k = s.size := by omega
        obtain rfl := HT.out (fun j hj => HI.out j hj hj)
        clear HT HF HI
        go_wp2
        go_ret
        exact ⟨rfl, rfl⟩
  · have hb : b = false := by
      rw [← h, Bool.eq_false_iff]
      intro e
      exact hsz ((nameO_iff s).1 e).1
    subst hb
    clear h
    by_cases g : s.size < 1
    · have g0 : ((s.size : Int) == 0) = true := by rw [beq_iff_eq]; omega
      clear hsz g
      go_enter Tryz.func63, Tryz.ntmps63
      go_wp2
      go_ret
      exact ⟨rfl, rfl⟩
    · have g0 : ((s.size : Int) == 0) = false := by rw [beq_eq_false_iff_ne]; omega
      have g2 : 40 < (s.size : Int) := by omega
      clear hsz g
      go_enter Tryz.func63, Tryz.ntmps63
      go_wp2
      go_ret
      exact ⟨rfl, rfl⟩
def dayO (d : Int) : Bool := decide (0 ≤ d) && decide (d ≤ 99999)
set_option maxRecDepth 100000 in
theorem rday_any (d : Int) (w : World) : Calls Tryz.prog 64 #[.int .i64 d] w fun e w' => e = .returned (.bool (dayO d)) ∧ w = w' := by
  unfold dayO
  by_cases h1 : 0 ≤ d
  · by_cases h2 : d ≤ 99999
    · go_enter Tryz.func64, Tryz.ntmps64
      go_wp2
      go_ret
      exact ⟨by rw [decide_eq_true h1, decide_eq_true h2]; rfl, rfl⟩
    · go_enter Tryz.func64, Tryz.ntmps64
      go_wp2
      go_ret
      refine ⟨?_, rfl⟩
      congr 2
      simp
      omega
  · go_enter Tryz.func64, Tryz.ntmps64
    go_wp2
    go_ret
    refine ⟨?_, rfl⟩
    congr 2
    simp
    omega
set_option maxRecDepth 100000 in
theorem pday_any (d : Int) (w : World) : Calls Tryz.prog 87 #[.int .i64 d] w fun e w' => e = .returned (.bool (dayO d)) ∧ w = w' := by
  unfold dayO
  by_cases h1 : 0 ≤ d
  · by_cases h2 : d ≤ 99999
    · go_enter Tryz.func87, Tryz.ntmps87
      go_wp2
      go_ret
      exact ⟨by rw [decide_eq_true h1, decide_eq_true h2]; rfl, rfl⟩
    · go_enter Tryz.func87, Tryz.ntmps87
      go_wp2
      go_ret
      refine ⟨?_, rfl⟩
      congr 2
      simp
      omega
  · go_enter Tryz.func87, Tryz.ntmps87
    go_wp2
    go_ret
    refine ⟨?_, rfl⟩
    congr 2
    simp
    omega
def letO (x : Int) : Bool := decide (97 ≤ x ∧ x ≤ 122) || decide (65 ≤ x ∧ x ≤ 90)
def digO (x : Int) : Bool := decide (48 ≤ x ∧ x ≤ 57)
set_option maxRecDepth 100000 in
set_option maxHeartbeats 1600000 in
theorem letter_any (x : Int) (w : World) : Calls Tryz.prog 45 #[.int .u8 x] w fun e w' => e = .returned (.bool (letO x)) ∧ w = w' := by
  have hc : (97 ≤ x ∧ x ≤ 122) ∨ (122 < x) ∨ (65 ≤ x ∧ x ≤ 90) ∨ (90 < x ∧ x < 97) ∨ x < 65 := by omega
  unfold letO
  rcases hc with ⟨h1, h2⟩ | h1 | ⟨h1, h2⟩ | ⟨h1, h2⟩ | h1
  all_goals
    go_enter Tryz.func45, Tryz.ntmps45
    go_wp2
    all_goals
      first
      | (exfalso; omega)
      | (go_ret
         refine ⟨?_, rfl⟩
         first | rfl | (congr 2; simp; omega) | (congr 2; simp [*]; done) | (congr 2; simp; trace_state; omega))
set_option maxRecDepth 100000 in
theorem digit_any (x : Int) (w : World) : Calls Tryz.prog 46 #[.int .u8 x] w fun e w' => e = .returned (.bool (digO x)) ∧ w = w' := by
  have hc : (48 ≤ x ∧ x ≤ 57) ∨ (57 < x) ∨ x < 48 := by omega
  unfold digO
  rcases hc with ⟨h1, h2⟩ | h1 | h1
  all_goals
    go_enter Tryz.func46, Tryz.ntmps46
    go_wp2
    all_goals
      first
      | (exfalso; omega)
      | (go_ret
         refine ⟨?_, rfl⟩
         first | rfl | (congr 2; simp; omega) | (congr 2; simp [*]; done) | (congr 2; simp; trace_state; omega))
end Go.Proofs.YtbfimfjhdbpenaaGreatDoor
/- Layer 8: the program's Name. -/
namespace Go.Proofs.YtbfimfjhdbpenaaGreatDoor
open Go Go.RowKit
theorem okIO_let (x : Int) : okIO 0 x = letO x := by
  have : okIO 0 x = true ↔ letO x = true := by
    unfold okIO letO
    simp only [Bool.or_eq_true, Bool.and_eq_true, decide_eq_true_eq]
    omega
  cases h1 : okIO 0 x <;> cases h2 : letO x <;> simp_all
theorem okIO_next (k : Nat) (x : Int) (h : letO x = true ∨ (k ≠ 0 ∧ (digO x = true ∨ x = 95 ∨ x = 45))) : okIO k x = true := by
  unfold okIO
  unfold letO digO at h
  simp only [Bool.or_eq_true, Bool.and_eq_true, decide_eq_true_eq] at h ⊢
  omega
theorem okIO_not (k : Nat) (x : Int) (h : letO x = false) (h1 : digO x = false) (h2 : x ≠ 95) (h3 : x ≠ 45) : okIO k x = false := by
  unfold okIO
  unfold letO at h
  unfold digO at h1
  simp only [Bool.or_eq_false_iff, Bool.and_eq_false_iff, decide_eq_false_iff_not] at h h1 ⊢
  omega
set_option maxRecDepth 100000 in
set_option maxHeartbeats 6400000 in
theorem pname8_any (s : ByteArray) (b : Bool) (h : nameO s.data.toList = b) (w : World) :
    Calls Tryz.prog 10 #[.string s] w fun e w' => e = .returned (.bool b) ∧ w = w' := by
  have HL := Lib.hid (fun x => letter_any x w)
  have HD := Lib.hid (fun x => digit_any x w)
  by_cases hsz : 1 ≤ s.size ∧ s.size ≤ 40
  · obtain ⟨h1, h2⟩ := hsz
    have HT : Hid ((∀ k (h : k < s.size), okCO k s[k] = true) → b = true) := fun g => by rw [← h]; exact (nameO_iff s).2 ⟨⟨h1, h2⟩, g⟩
    have HF : Hid (∀ k (h : k < s.size), okCO k s[k] = false → b = false) := fun k hk g => by
      rw [← h, Bool.eq_false_iff]
      intro e
      have := ((nameO_iff s).1 e).2 k hk
      rw [g] at this; cases this
    have g1 : 1 ≤ (s.size : Int) := by omega
    have g2 : (s.size : Int) ≤ 40 := by omega
    have gz : (s.toList == ([] : List UInt8)) = false := by
      rw [Lib.toList_data, beq_eq_false_iff_ne]
      intro e
      have := size_lenO s
      rw [e] at this
      exact absurd this (by show ¬ s.size = 0; omega)
    have h0 : 0 < s.size := by omega
    obtain ⟨x0, hx0⟩ : ∃ x : Int, (s[0].toNat : Int) = x := ⟨_, rfl⟩
    have ho0 := okIO_of 0 s[0] x0 hx0
    rw [okIO_let] at ho0
    clear h h1 h2
    cases hl0 : letO x0
    · rw [hl0] at ho0
      obtain rfl := HF.out 0 h0 ho0
      have HL0 := Lib.hid (HL.out x0)
      rw [hl0] at HL0
      clear HT HF ho0 hl0 HL
      go_enter Tryz.func10, Tryz.ntmps10
      go_wp2_with (go_at_call 45; ((with_reducible refine HL0.out.mono ?_); rintro x w1 ⟨rfl, rfl⟩))
      go_ret
      exact ⟨rfl, rfl⟩
    · rw [hl0] at ho0
      have HO := Lib.hid ho0
      have HL0 := Lib.hid (HL.out x0)
      rw [hl0] at HL0
      clear ho0
      have HX0 := Lib.hid hx0
      go_enter Tryz.func10, Tryz.ntmps10
      go_wp2_with (go_at_call 45; ((with_reducible refine HL0.out.mono ?_); rintro x w1 ⟨rfl, rfl⟩))
      go_loop [19] (fun i => ∃ k : Nat, k ≤ s.size ∧ i = .int .i64 k ∧ Hid (∀ j (h : j < s.size), j < k → okCO j s[j] = true)) (fun i => s.size - (intOf i).toNat)
      case atStart => exact ⟨0, by omega, rfl, fun j h g => by omega⟩
      case round =>
        obtain ⟨k, hk, rfl, HI⟩ := hrel
        by_cases hlt : k < s.size
        · have hk1 : (k : Int) < (s.size : Int) := by omega
          have hxk : k = 0 → (s[k].toNat : Int) = x0 := fun e => by subst e; exact HX0.out
          obtain ⟨x, hx⟩ : ∃ x : Int, (s[k].toNat : Int) = x := ⟨_, rfl⟩
          rw [hx] at hxk
          have ho := okIO_of k s[k] x hx
          have HI2 : Hid (okCO k s[k] = true → ∀ j (h : j < s.size), j < k + 1 → okCO j s[j] = true) := fun g j hj hj2 => by
            rcases Nat.lt_or_ge j k with q | q
            · exact HI.out j hj q
            · obtain rfl : j = k := by omega
              exact g
          have HF2 := Lib.hid (HF.out k hlt)
          rw [ho] at HI2 HF2
          have HL1 := Lib.hid (HL.out x)
          have HD1 := Lib.hid (HD.out x)
          have hz : letO x = false → k ≠ 0 := fun g e => by rw [hxk e, hl0] at g; cases g
          clear HT HF HI ho hx0 HL HD HX0 HL0 HO hl0 hxk
          cases hl : letO x
          · rw [hl] at HL1
            have hk0 := hz hl
            clear hz
            cases hd : digO x
            · rw [hd] at HD1
              by_cases h95 : x = 95
              · have HG := Lib.hid (HI2.out (okIO_next k x (.inr ⟨hk0, .inr (.inl h95)⟩)))
                have e1 : (x != 95) = false := by rw [bne_eq_false_iff_eq]; exact h95
                clear HI2 HF2 h95 hl hd hk0
                go_wp2_with (first
                  | (go_at_call 45; ((with_reducible refine HL1.out.mono ?_); rintro y w1 ⟨rfl, rfl⟩))
                  | (go_at_call 46; ((with_reducible refine HD1.out.mono ?_); rintro y w1 ⟨rfl, rfl⟩)))
                go_round
                case rel => exact ⟨k + 1, by omega, by go_num, HG⟩
                case measure => simp [intOf]; omega
              · have e1 : (x != 95) = true := by rw [bne_iff_ne]; exact h95
                by_cases h45 : x = 45
                · have HG := Lib.hid (HI2.out (okIO_next k x (.inr ⟨hk0, .inr (.inr h45)⟩)))
                  have e2 : (x != 45) = false := by rw [bne_eq_false_iff_eq]; exact h45
                  clear HI2 HF2 h95 h45 hl hd hk0
                  go_wp2_with (first
                    | (go_at_call 45; ((with_reducible refine HL1.out.mono ?_); rintro y w1 ⟨rfl, rfl⟩))
                    | (go_at_call 46; ((with_reducible refine HD1.out.mono ?_); rintro y w1 ⟨rfl, rfl⟩)))
                  go_round
                  case rel => exact ⟨k + 1, by omega, by go_num, HG⟩
                  case measure => simp [intOf]; omega
                · have e2 : (x != 45) = true := by rw [bne_iff_ne]; exact h45
                  obtain rfl := HF2.out (okIO_not k x hl hd h95 h45)
                  clear HI2 HF2 h95 h45 hl hd hk0
                  go_wp2_with (first
                    | (go_at_call 45; ((with_reducible refine HL1.out.mono ?_); rintro y w1 ⟨rfl, rfl⟩))
                    | (go_at_call 46; ((with_reducible refine HD1.out.mono ?_); rintro y w1 ⟨rfl, rfl⟩)))
                  go_ret
                  exact ⟨rfl, rfl⟩
            · rw [hd] at HD1
              have HG := Lib.hid (HI2.out (okIO_next k x (.inr ⟨hk0, .inl hd⟩)))
              clear HI2 HF2 hl hd hk0
              go_wp2_with (first
                | (go_at_call 45; ((with_reducible refine HL1.out.mono ?_); rintro y w1 ⟨rfl, rfl⟩))
                | (go_at_call 46; ((with_reducible refine HD1.out.mono ?_); rintro y w1 ⟨rfl, rfl⟩)))
              go_round
              case rel => exact ⟨k + 1, by omega, by go_num, HG⟩
              case measure => simp [intOf]; omega
          · rw [hl] at HL1
            have HG := Lib.hid (HI2.out (okIO_next k x (.inl hl)))
            clear HI2 HF2 hl hz
            go_wp2_with (first
              | (go_at_call 45; ((with_reducible refine HL1.out.mono ?_); rintro y w1 ⟨rfl, rfl⟩))
              | (go_at_call 46; ((with_reducible refine HD1.out.mono ?_); rintro y w1 ⟨rfl, rfl⟩)))
            go_round
            case rel => exact ⟨k + 1, by omega, by go_num, HG⟩
            case measure => simp [intOf]; omega
        · obtain rfl : k = s.size := by omega
          obtain rfl := HT.out (fun j hj => HI.out j hj hj)
          clear HT HF HI HL HD HL0 HO hx0 hl0
          go_wp2_with (fail)
          go_ret
          exact ⟨rfl, rfl⟩
  · have hb : b = false := by
      rw [← h, Bool.eq_false_iff]
      intro e
      exact hsz ((nameO_iff s).1 e).1
    subst hb
    clear h
    by_cases g : s.size < 1
    · have hs : s = ⟨#[]⟩ := by
        cases s with
        | mk d => exact congrArg ByteArray.mk (Array.eq_empty_of_size_eq_zero (by have : d.size < 1 := g; omega))
      subst hs
      clear hsz g
      go_enter Tryz.func10, Tryz.ntmps10
      go_wp2_with (fail)
      go_ret
      exact ⟨rfl, rfl⟩
    · have gz : (s.toList == ([] : List UInt8)) = false := by
        rw [Lib.toList_data, beq_eq_false_iff_ne]
        intro e
        have := size_lenO s
        rw [e] at this
        exact absurd this (by show ¬ s.size = 0; omega)
      have g2 : 40 < (s.size : Int) := by omega
      clear hsz g
      go_enter Tryz.func10, Tryz.ntmps10
      go_wp2_with (fail)
      go_ret
      exact ⟨rfl, rfl⟩
end Go.Proofs.YtbfimfjhdbpenaaGreatDoor
/- Joined: IntR, IntR2. -/
/- The walks of the reference of layer 1. -/
namespace Go.Proofs.YtbfimfjhdbpenaaGreatDoor
open Go Go.RowKit
theorem Tryz.info3' : (Tryz.prog.info? 3).map (fun i => (i.zero, i.size, i.bytes)) = some (some (.int .i64 0), 1, 8) := by kernel_rfl
def encI (n : Nat) : Value := .int .i64 n
theorem dig_at (t : ByteArray) (ho : odB t.data.toList = true) (j : Nat) (h : j < t.size) : 48 ≤ (t[j].toNat : Int) ∧ (t[j].toNat : Int) ≤ 57 := by
  unfold odB at ho
  exact (dgB_iff _).1 (List.all_eq_true.1 ho t[j] (List.mem_of_getElem? (getElem_toList t j h)))
theorem dgs_step (t : ByteArray) (j : Nat) (h : j < t.size) (hd : 48 ≤ (t[j].toNat : Int)) (xs : List Value) (hx : xs = ((dgs t.data.toList).take (t.size - (j + 1))).map encI) :
    xs ++ [.int .i64 ((t[j].toNat : Int) - 48)] = ((dgs t.data.toList).take (t.size - j)).map encI := by
  have hl : t.data.toList.length = t.size := (Lib.size_eq t).symm
  have hs := dgs_snoc t.data.toList (t.size - (j + 1)) (by omega)
  have e1 : t.data.toList.length - 1 - (t.size - (j + 1)) = j := by omega
  have e2 : t.data.toList[j]'(by omega) = t[j] := rfl
  have e3 : t.size - (j + 1) + 1 = t.size - j := by omega
  simp only [e1, e2, e3] at hs
  rw [hs, List.map_append, hx]
  have hd' : ((t[j].toNat : Int) - 48) = ((t[j].toNat - 48 : Nat) : Int) := by omega
  rw [hd']
  rfl
theorem odB_end (t : ByteArray) : Hid (odB (t.data.toList.drop t.size) = true) := by
  show odB _ = true
  rw [List.drop_of_length_le (by simp)]; rfl
theorem odB_pred (t : ByteArray) (j : Nat) (h : j < t.size) (hd : 48 ≤ (t[j].toNat : Int) ∧ (t[j].toNat : Int) ≤ 57) (ho : odB (t.data.toList.drop (j + 1)) = true) : odB (t.data.toList.drop j) = true := by
  have hl : j < t.data.toList.length := by simpa using h
  rw [List.drop_eq_getElem_cons hl]
  unfold odB at *
  rw [List.all_cons, ho, Bool.and_true]
  exact (dgB_iff _).2 hd
set_option maxRecDepth 100000 in
set_option maxHeartbeats 400000 in
theorem digits_neg (s t : ByteArray) (w : World) (h0 : 0 < s.size) (hs0 : ((s[0].toNat : Int) == 45) = true) (hex : s.extract 1 s.size = t) (ht : 0 < t.size) (ht0 : ((t[0].toNat : Int) == 48) = false) (ho : odB t.data.toList = true) (hlen : t.size ≤ 1099511627776) :
    Calls Tryz.prog 105 #[.string s] w fun e w' => ∃ v, e = .returned (.tuple #[v, .bool true, .bool true]) ∧ w'.ownsRow w.heap.size 3 1 v t.size ((dgs t.data.toList).map encI) ∧ Below w.heap.size w w' := by
  obtain ⟨i0, hi, hz0, hz1, hz2⟩ := info_parts Tryz.info3'
  have HO := Lib.hid ho
  clear ho
  have hte : ¬ t = ByteArray.empty := by rintro rfl; simp at ht
  have ht1 : ((t.size : Int) == 0) = false := by rw [beq_eq_false_iff_ne]; omega
  go_enter Tryz.func105, Tryz.ntmps105
  go_wp2
  go_loopw [7, 8] (fun v i wr => ∃ (j : Nat) (xs : List Value), j ≤ t.size ∧ i = .int .i64 ((j : Int) - 1) ∧ wr.ownsRow w.heap.size 3 1 v (t.size - j) xs ∧ Hid (xs = ((dgs t.data.toList).take (t.size - j)).map encI) ∧ Below w.heap.size w wr) (fun _ i _ => (intOf i + 1).toNat)
  case atStart => exact ⟨t.size, [], Nat.le_refl _, rfl, by rw [Nat.sub_self]; exact World.ownsRow_nil _ _ _ _, by simp [Hid], Below.refl _ _⟩
  case round =>
    obtain ⟨j, xs, hj, rfl, hown, hxs, hbel⟩ := hrel
    cases j with
    | zero =>
      have HX : Hid (xs = (dgs t.data.toList).map encI) := by
        have := hxs.out
        rwa [Nat.sub_zero, List.take_of_length_le (by rw [dgs_length]; simp)] at this
      clear hxs
      go_wp2
      go_ret3
      exact ⟨_, rfl, by rw [← HX.out]; exact hown, hbel⟩
    | succ j =>
      have ej : ((j + 1 : Nat) : Int) - 1 = (j : Int) := by omega
      rw [ej]
      clear ej
      have hjl : j < t.size := hj
      obtain ⟨hd1, hd2⟩ := dig_at t HO.out j hjl
      have hsz := hbel.size
      have HS := Lib.hid (dgs_step t j hjl hd1 xs hxs.out)
      clear hxs
      go_wp2_with (at_builtin; refine wpList_app1 hown _ rfl _ _ 145 rfl i0 (.int .i64 0) 8 Tryz.underlying145 hi hz0 hz1 hz2 rfl rfl rfl rfl (by unfold maxLen; omega) (by omega) (by omega) ?_; intro v' w' hown' hb')
      go_roundw
      case rel => exact ⟨j, _, by omega, rfl, by rw [show t.size - j = t.size - (j + 1) + 1 from by omega]; exact hown', HS, hbel.trans (hb'.mono (Nat.le_refl _))⟩
      case measure => simp [intOf]
set_option maxRecDepth 100000 in
set_option maxHeartbeats 400000 in
theorem digits_pos (t : ByteArray) (w : World) (ht : 0 < t.size) (hs0 : ((t[0].toNat : Int) == 45) = false) (ht0 : ((t[0].toNat : Int) == 48) = false) (ho : odB t.data.toList = true) (hlen : t.size ≤ 1099511627776) :
    Calls Tryz.prog 105 #[.string t] w fun e w' => ∃ v, e = .returned (.tuple #[v, .bool false, .bool true]) ∧ w'.ownsRow w.heap.size 3 1 v t.size ((dgs t.data.toList).map encI) ∧ Below w.heap.size w w' := by
  obtain ⟨i0, hi, hz0, hz1, hz2⟩ := info_parts Tryz.info3'
  have HO := Lib.hid ho
  clear ho
  have hte : ¬ t = ByteArray.empty := by rintro rfl; simp at ht
  have ht1 : ((t.size : Int) == 0) = false := by rw [beq_eq_false_iff_ne]; omega
  go_enter Tryz.func105, Tryz.ntmps105
  go_wp2
  go_loopw [7, 8] (fun v i wr => ∃ (j : Nat) (xs : List Value), j ≤ t.size ∧ i = .int .i64 ((j : Int) - 1) ∧ wr.ownsRow w.heap.size 3 1 v (t.size - j) xs ∧ Hid (xs = ((dgs t.data.toList).take (t.size - j)).map encI) ∧ Below w.heap.size w wr) (fun _ i _ => (intOf i + 1).toNat)
  case atStart => exact ⟨t.size, [], Nat.le_refl _, rfl, by rw [Nat.sub_self]; exact World.ownsRow_nil _ _ _ _, by simp [Hid], Below.refl _ _⟩
  case round =>
    obtain ⟨j, xs, hj, rfl, hown, hxs, hbel⟩ := hrel
    cases j with
    | zero =>
      have HX : Hid (xs = (dgs t.data.toList).map encI) := by
        have := hxs.out
        rwa [Nat.sub_zero, List.take_of_length_le (by rw [dgs_length]; simp)] at this
      clear hxs
      go_wp2
      go_ret3
      exact ⟨_, rfl, by rw [← HX.out]; exact hown, hbel⟩
    | succ j =>
      have ej : ((j + 1 : Nat) : Int) - 1 = (j : Int) := by omega
      rw [ej]
      clear ej
      have hjl : j < t.size := hj
      obtain ⟨hd1, hd2⟩ := dig_at t HO.out j hjl
      have hsz := hbel.size
      have HS := Lib.hid (dgs_step t j hjl hd1 xs hxs.out)
      clear hxs
      go_wp2_with (at_builtin; refine wpList_app1 hown _ rfl _ _ 145 rfl i0 (.int .i64 0) 8 Tryz.underlying145 hi hz0 hz1 hz2 rfl rfl rfl rfl (by unfold maxLen; omega) (by omega) (by omega) ?_; intro v' w' hown' hb')
      go_roundw
      case rel => exact ⟨j, _, by omega, rfl, by rw [show t.size - j = t.size - (j + 1) + 1 from by omega]; exact hown', HS, hbel.trans (hb'.mono (Nat.le_refl _))⟩
      case measure => simp [intOf]
set_option maxRecDepth 100000 in
set_option maxHeartbeats 400000 in
theorem digits_zero (t : ByteArray) (w : World) (ht2 : 0 < t.size) (ht3 : t.size ≤ 1) (ht0 : ((t[0].toNat : Int) == 48) = true) (ho : odB t.data.toList = true) (hlen : t.size ≤ 1099511627776) :
    Calls Tryz.prog 105 #[.string t] w fun e w' => ∃ v, e = .returned (.tuple #[v, .bool false, .bool true]) ∧ w'.ownsRow w.heap.size 3 1 v t.size ((dgs t.data.toList).map encI) ∧ Below w.heap.size w w' := by
  obtain ⟨i0, hi, hz0, hz1, hz2⟩ := info_parts Tryz.info3'
  have HO := Lib.hid ho
  clear ho
  have hs0 : ((t[0].toNat : Int) == 45) = false := by
    rw [beq_eq_false_iff_ne]; have := beq_iff_eq.1 ht0; omega
  have hte : ¬ t = ByteArray.empty := by rintro rfl; simp at ht2
  have ht1 : ((t.size : Int) == 0) = false := by rw [beq_eq_false_iff_ne]; omega
  go_enter Tryz.func105, Tryz.ntmps105
  go_wp2
  go_loopw [7, 8] (fun v i wr => ∃ (j : Nat) (xs : List Value), j ≤ t.size ∧ i = .int .i64 ((j : Int) - 1) ∧ wr.ownsRow w.heap.size 3 1 v (t.size - j) xs ∧ Hid (xs = ((dgs t.data.toList).take (t.size - j)).map encI) ∧ Below w.heap.size w wr) (fun _ i _ => (intOf i + 1).toNat)
  case atStart => exact ⟨t.size, [], Nat.le_refl _, rfl, by rw [Nat.sub_self]; exact World.ownsRow_nil _ _ _ _, by simp [Hid], Below.refl _ _⟩
  case round =>
    obtain ⟨j, xs, hj, rfl, hown, hxs, hbel⟩ := hrel
    cases j with
    | zero =>
      have HX : Hid (xs = (dgs t.data.toList).map encI) := by
        have := hxs.out
        rwa [Nat.sub_zero, List.take_of_length_le (by rw [dgs_length]; simp)] at this
      clear hxs
      go_wp2
      go_ret3
      exact ⟨_, rfl, by rw [← HX.out]; exact hown, hbel⟩
    | succ j =>
      have ej : ((j + 1 : Nat) : Int) - 1 = (j : Int) := by omega
      rw [ej]
      clear ej
      have hjl : j < t.size := hj
      obtain ⟨hd1, hd2⟩ := dig_at t HO.out j hjl
      have hsz := hbel.size
      have HS := Lib.hid (dgs_step t j hjl hd1 xs hxs.out)
      clear hxs
      go_wp2_with (at_builtin; refine wpList_app1 hown _ rfl _ _ 145 rfl i0 (.int .i64 0) 8 Tryz.underlying145 hi hz0 hz1 hz2 rfl rfl rfl rfl (by unfold maxLen; omega) (by omega) (by omega) ?_; intro v' w' hown' hb')
      go_roundw
      case rel => exact ⟨j, _, by omega, rfl, by rw [show t.size - j = t.size - (j + 1) + 1 from by omega]; exact hown', HS, hbel.trans (hb'.mono (Nat.le_refl _))⟩
      case measure => simp [intOf]
set_option maxRecDepth 100000 in
set_option maxHeartbeats 400000 in
theorem digits_neg_bad (s t : ByteArray) (w : World) (h0 : 0 < s.size) (hs0 : ((s[0].toNat : Int) == 45) = true) (hex : s.extract 1 s.size = t) (ht : 0 < t.size) (ht0 : ((t[0].toNat : Int) == 48) = false) (ho : odB t.data.toList = false) (hlen : t.size ≤ 1099511627776) :
    Calls Tryz.prog 105 #[.string s] w fun e w' => e = .returned (.tuple #[.slice none 0 0, .bool false, .bool false]) ∧ Below w.heap.size w w' := by
  obtain ⟨i0, hi, hz0, hz1, hz2⟩ := info_parts Tryz.info3'
  have HO := Lib.hid ho
  clear ho
  have hte : ¬ t = ByteArray.empty := by rintro rfl; simp at ht
  have ht1 : ((t.size : Int) == 0) = false := by rw [beq_eq_false_iff_ne]; omega
  go_enter Tryz.func105, Tryz.ntmps105
  go_wp2
  go_loopw [7, 8] (fun v i wr => ∃ (j : Nat) (xs : List Value), j ≤ t.size ∧ i = .int .i64 ((j : Int) - 1) ∧ wr.ownsRow w.heap.size 3 1 v (t.size - j) xs ∧ Hid (odB (t.data.toList.drop j) = true) ∧ Below w.heap.size w wr) (fun _ i _ => (intOf i + 1).toNat)
  case atStart => exact ⟨t.size, [], Nat.le_refl _, rfl, by rw [Nat.sub_self]; exact World.ownsRow_nil _ _ _ _, odB_end _, Below.refl _ _⟩
  case round =>
    obtain ⟨j, xs, hj, rfl, hown, hxs, hbel⟩ := hrel
    cases j with
    | zero => exact absurd hxs.out (by rw [List.drop_zero, HO.out]; simp)
    | succ j =>
      have ej : ((j + 1 : Nat) : Int) - 1 = (j : Int) := by omega
      rw [ej]
      clear ej
      have hjl : j < t.size := hj
      have hsz := hbel.size
      by_cases hd : 48 ≤ (t[j].toNat : Int) ∧ (t[j].toNat : Int) ≤ 57
      · have HS := Lib.hid (odB_pred t j hjl hd hxs.out)
        clear hxs
        obtain ⟨hd1, hd2⟩ := hd
        go_wp2_with (at_builtin; refine wpList_app1 hown _ rfl _ _ 145 rfl i0 (.int .i64 0) 8 Tryz.underlying145 hi hz0 hz1 hz2 rfl rfl rfl rfl (by unfold maxLen; omega) (by omega) (by omega) ?_; intro v' w' hown' hb')
        go_roundw
        case rel => exact ⟨j, _, by omega, rfl, by rw [show t.size - j = t.size - (j + 1) + 1 from by omega]; exact hown', HS, hbel.trans (hb'.mono (Nat.le_refl _))⟩
        case measure => simp [intOf]
      · clear hxs
        go_wp2
        all_goals
          go_ret3
          exact ⟨rfl, hbel⟩
set_option maxRecDepth 100000 in
set_option maxHeartbeats 400000 in
theorem digits_pos_bad (t : ByteArray) (w : World) (ht : 0 < t.size) (hs0 : ((t[0].toNat : Int) == 45) = false) (ht0 : ((t[0].toNat : Int) == 48) = false) (ho : odB t.data.toList = false) (hlen : t.size ≤ 1099511627776) :
    Calls Tryz.prog 105 #[.string t] w fun e w' => e = .returned (.tuple #[.slice none 0 0, .bool false, .bool false]) ∧ Below w.heap.size w w' := by
  obtain ⟨i0, hi, hz0, hz1, hz2⟩ := info_parts Tryz.info3'
  have HO := Lib.hid ho
  clear ho
  have hte : ¬ t = ByteArray.empty := by rintro rfl; simp at ht
  have ht1 : ((t.size : Int) == 0) = false := by rw [beq_eq_false_iff_ne]; omega
  go_enter Tryz.func105, Tryz.ntmps105
  go_wp2
  go_loopw [7, 8] (fun v i wr => ∃ (j : Nat) (xs : List Value), j ≤ t.size ∧ i = .int .i64 ((j : Int) - 1) ∧ wr.ownsRow w.heap.size 3 1 v (t.size - j) xs ∧ Hid (odB (t.data.toList.drop j) = true) ∧ Below w.heap.size w wr) (fun _ i _ => (intOf i + 1).toNat)
  case atStart => exact ⟨t.size, [], Nat.le_refl _, rfl, by rw [Nat.sub_self]; exact World.ownsRow_nil _ _ _ _, odB_end _, Below.refl _ _⟩
  case round =>
    obtain ⟨j, xs, hj, rfl, hown, hxs, hbel⟩ := hrel
    cases j with
    | zero => exact absurd hxs.out (by rw [List.drop_zero, HO.out]; simp)
    | succ j =>
      have ej : ((j + 1 : Nat) : Int) - 1 = (j : Int) := by omega
      rw [ej]
      clear ej
      have hjl : j < t.size := hj
      have hsz := hbel.size
      by_cases hd : 48 ≤ (t[j].toNat : Int) ∧ (t[j].toNat : Int) ≤ 57
      · have HS := Lib.hid (odB_pred t j hjl hd hxs.out)
        clear hxs
        obtain ⟨hd1, hd2⟩ := hd
        go_wp2_with (at_builtin; refine wpList_app1 hown _ rfl _ _ 145 rfl i0 (.int .i64 0) 8 Tryz.underlying145 hi hz0 hz1 hz2 rfl rfl rfl rfl (by unfold maxLen; omega) (by omega) (by omega) ?_; intro v' w' hown' hb')
        go_roundw
        case rel => exact ⟨j, _, by omega, rfl, by rw [show t.size - j = t.size - (j + 1) + 1 from by omega]; exact hown', HS, hbel.trans (hb'.mono (Nat.le_refl _))⟩
        case measure => simp [intOf]
      · clear hxs
        go_wp2
        all_goals
          go_ret3
          exact ⟨rfl, hbel⟩
set_option maxRecDepth 100000 in
set_option maxHeartbeats 400000 in
theorem digits_nil (t : ByteArray) (w : World) (ht : t.size = 0) :
    Calls Tryz.prog 105 #[.string t] w fun e w' => e = .returned (.tuple #[.slice none 0 0, .bool false, .bool false]) ∧ w = w' := by
  have ht1 : ((t.size : Int) == 0) = true := by rw [beq_iff_eq]; omega
  go_enter Tryz.func105, Tryz.ntmps105
  go_wp2
  go_ret3
  exact ⟨rfl, rfl⟩
set_option maxRecDepth 100000 in
set_option maxHeartbeats 400000 in
theorem digits_minus (s t : ByteArray) (w : World) (h0 : 0 < s.size) (hs0 : ((s[0].toNat : Int) == 45) = true) (hex : s.extract 1 s.size = t) (ht : t.size = 0) :
    Calls Tryz.prog 105 #[.string s] w fun e w' => e = .returned (.tuple #[.slice none 0 0, .bool false, .bool false]) ∧ w = w' := by
  have ht1 : ((t.size : Int) == 0) = true := by rw [beq_iff_eq]; omega
  have hte : t = ByteArray.empty := ByteArray.ext (Array.eq_empty_of_size_eq_zero ht)
  go_enter Tryz.func105, Tryz.ntmps105
  go_wp2
  go_ret3
  exact ⟨rfl, rfl⟩
set_option maxRecDepth 100000 in
set_option maxHeartbeats 400000 in
theorem digits_minus_zero (s t : ByteArray) (w : World) (h0 : 0 < s.size) (hs0 : ((s[0].toNat : Int) == 45) = true) (hex : s.extract 1 s.size = t) (ht : 0 < t.size) (ht0 : ((t[0].toNat : Int) == 48) = true) :
    Calls Tryz.prog 105 #[.string s] w fun e w' => e = .returned (.tuple #[.slice none 0 0, .bool false, .bool false]) ∧ w = w' := by
  have hte : ¬ t = ByteArray.empty := by rintro rfl; simp at ht
  have ht1 : ((t.size : Int) == 0) = false := by rw [beq_eq_false_iff_ne]; omega
  go_enter Tryz.func105, Tryz.ntmps105
  go_wp2
  all_goals
    go_ret3
    exact ⟨rfl, rfl⟩
set_option maxRecDepth 100000 in
set_option maxHeartbeats 400000 in
theorem digits_zeros (t : ByteArray) (w : World) (ht : 0 < t.size) (hs0 : ((t[0].toNat : Int) == 45) = false) (ht0 : ((t[0].toNat : Int) == 48) = true) (ht2 : 1 < t.size) :
    Calls Tryz.prog 105 #[.string t] w fun e w' => e = .returned (.tuple #[.slice none 0 0, .bool false, .bool false]) ∧ w = w' := by
  have hte : ¬ t = ByteArray.empty := by rintro rfl; simp at ht
  have ht1 : ((t.size : Int) == 0) = false := by rw [beq_eq_false_iff_ne]; omega
  go_enter Tryz.func105, Tryz.ntmps105
  go_wp2
  go_ret3
  exact ⟨rfl, rfl⟩
theorem extract_tail (c : UInt8) (r : List UInt8) : (⟨⟨c :: r⟩⟩ : ByteArray).extract 1 (⟨⟨c :: r⟩⟩ : ByteArray).size = ⟨⟨r⟩⟩ := by
  rw [Lib.extract_eq]
  show (⟨(List.take (r.length + 1 - 1) (List.drop 1 (c :: r))).toArray⟩ : ByteArray) = ⟨⟨r⟩⟩
  simp
theorem beq_of (n : Nat) (c : UInt8) (b : Bool) (h : (c == UInt8.ofNat n) = b) (hn : n < 256) : ((c.toNat : Int) == (n : Int)) = b := by
  rw [← h, Bool.eq_iff_iff, beq_iff_eq, beq_iff_eq]
  constructor
  · intro e
    have e' : c.toNat = n := by omega
    rw [← e']; simp
  · intro e; rw [e]; simp; omega
theorem odB_of_sz (d : UInt8) (r : List UInt8) (h48 : ¬ d = 48) (h : (szB (d :: r) && odB (d :: r)) = false) : odB (d :: r) = false := by
  cases ho : odB (d :: r)
  · rfl
  · rw [ho, Bool.and_true] at h
    unfold odB at ho
    rw [List.all_cons, Bool.and_eq_true] at ho
    have h1 := (dgB_iff d).1 ho.1
    have h2 : ¬ d.toNat = 48 := fun e => h48 (by rw [← UInt8.toNat_inj]; exact e)
    have : szB (d :: r) = true := by
      unfold szB
      simp [UInt8.le_iff_toNat_le]
      omega
    rw [this] at h; cases h
theorem digits_yes (s : ByteArray) (w : World) (h : ¬ chk s.data.toList = 12) (hlen : s.size ≤ 1099511627776) :
    Calls Tryz.prog 105 #[.string s] w fun e w' => ∃ v, e = .returned (.tuple #[v, .bool (ngB s.data.toList), .bool true]) ∧ w'.ownsRow w.heap.size 3 1 v (bod s.data.toList).length ((dgs (bod s.data.toList)).map encI) ∧ Below w.heap.size w w' := by
  obtain ⟨⟨l⟩⟩ := s
  simp only at h hlen ⊢
  match l with
  | [] => exact absurd (by rfl) h
  | c :: r =>
    by_cases hc : c = 45
    · subst hc
      rw [bod_neg]
      have hng : ngB (45 :: r) = true := rfl
      rw [hng]
      have hs : szB r = true ∧ odB r = true := by
        unfold chk at h
        rw [if_neg (by simp), bod_neg] at h
        by_cases hh : (szB r && odB r) = true
        · simpa using hh
        · rw [if_neg hh] at h; exact absurd rfl h
      match r, hs with
      | [], hs => exact absurd hs.1 (by simp [szB])
      | d :: r', hs =>
        have hd : (d == UInt8.ofNat 48) = false := by
          rw [beq_eq_false_iff_ne]; rintro rfl; exact absurd hs.1 (by simp [szB])
        exact digits_neg ⟨⟨45 :: d :: r'⟩⟩ ⟨⟨d :: r'⟩⟩ w (Nat.succ_pos _) (by rfl) (extract_tail _ _) (Nat.succ_pos _) (beq_of 48 d false hd (by omega)) hs.2 (Nat.le_trans (by show (d :: r').length ≤ (45 :: d :: r').length; simp) hlen)
    · have hng : ngB (c :: r) = false := by simp [ngB, hc]
      rw [bod_pos _ hng, hng]
      have hc45 : (c == UInt8.ofNat 45) = false := by rw [beq_eq_false_iff_ne]; exact hc
      by_cases h0 : c :: r = [48]
      · obtain ⟨rfl, rfl⟩ : c = 48 ∧ r = [] := by simpa using h0
        exact digits_zero ⟨⟨[48]⟩⟩ w (by decide) (by decide) (by rfl) (by rfl) hlen
      · have hs : szB (c :: r) = true ∧ odB (c :: r) = true := by
          unfold chk at h
          rw [if_neg h0, bod_pos _ hng] at h
          by_cases hh : (szB (c :: r) && odB (c :: r)) = true
          · simpa using hh
          · rw [if_neg hh] at h; exact absurd rfl h
        have hd : (c == UInt8.ofNat 48) = false := by
          rw [beq_eq_false_iff_ne]; rintro rfl; exact absurd hs.1 (by simp [szB])
        exact digits_pos ⟨⟨c :: r⟩⟩ w (Nat.succ_pos _) (beq_of 45 c false hc45 (by omega)) (beq_of 48 c false hd (by omega)) hs.2 hlen
theorem digits_no (s : ByteArray) (w : World) (h : chk s.data.toList = 12) (hlen : s.size ≤ 1099511627776) :
    Calls Tryz.prog 105 #[.string s] w fun e w' => e = .returned (.tuple #[.slice none 0 0, .bool false, .bool false]) ∧ Below w.heap.size w w' := by
  obtain ⟨⟨l⟩⟩ := s
  simp only at h hlen
  match l with
  | [] => exact (digits_nil ⟨⟨[]⟩⟩ w rfl).mono fun _ _ ⟨a, b⟩ => ⟨a, b ▸ Below.refl _ _⟩
  | c :: r =>
    by_cases hc : c = 45
    · subst hc
      have hs : (szB r && odB r) = false := by
        unfold chk at h
        rw [if_neg (by simp), bod_neg] at h
        cases hh : (szB r && odB r)
        · rfl
        · rw [hh] at h; simp at h; split at h <;> simp at h
      match r, hs with
      | [], hs => exact (digits_minus ⟨⟨[45]⟩⟩ ⟨⟨[]⟩⟩ w (by decide) (by rfl) (extract_tail _ _) rfl).mono fun _ _ ⟨a, b⟩ => ⟨a, b ▸ Below.refl _ _⟩
      | d :: r', hs =>
        by_cases hd48 : d = 48
        · subst hd48
          exact (digits_minus_zero ⟨⟨45 :: 48 :: r'⟩⟩ ⟨⟨48 :: r'⟩⟩ w (Nat.succ_pos _) (by rfl) (extract_tail _ _) (Nat.succ_pos _) (by rfl)).mono fun _ _ ⟨a, b⟩ => ⟨a, b ▸ Below.refl _ _⟩
        · have hd : (d == UInt8.ofNat 48) = false := by rw [beq_eq_false_iff_ne]; exact hd48
          exact digits_neg_bad ⟨⟨45 :: d :: r'⟩⟩ ⟨⟨d :: r'⟩⟩ w (Nat.succ_pos _) (by rfl) (extract_tail _ _) (Nat.succ_pos _) (beq_of 48 d false hd (by omega)) (odB_of_sz d r' hd48 hs) (Nat.le_trans (by show (d :: r').length ≤ (45 :: d :: r').length; simp) hlen)
    · have hng : ngB (c :: r) = false := by simp [ngB, hc]
      have hc45 : (c == UInt8.ofNat 45) = false := by rw [beq_eq_false_iff_ne]; exact hc
      have h0 : ¬ c :: r = [48] := fun e => by rw [e] at h; simp [chk] at h
      have hs : (szB (c :: r) && odB (c :: r)) = false := by
        unfold chk at h
        rw [if_neg h0, bod_pos _ hng] at h
        cases hh : (szB (c :: r) && odB (c :: r))
        · rfl
        · rw [hh] at h; simp at h; split at h <;> simp at h
      by_cases hd48 : c = 48
      · subst hd48
        have hr : r ≠ [] := fun e => h0 (by rw [e])
        exact (digits_zeros ⟨⟨48 :: r⟩⟩ w (Nat.succ_pos _) (by rfl) (by rfl) (by show 1 < r.length + 1; have := List.length_pos_iff.2 hr; omega)).mono fun _ _ ⟨a, b⟩ => ⟨a, b ▸ Below.refl _ _⟩
      · have hd : (c == UInt8.ofNat 48) = false := by rw [beq_eq_false_iff_ne]; exact hd48
        exact digits_pos_bad ⟨⟨c :: r⟩⟩ w (Nat.succ_pos _) (beq_of 45 c false hc45 (by omega)) (beq_of 48 c false hd (by omega)) (odB_of_sz c r hd48 hs) hlen
end Go.Proofs.YtbfimfjhdbpenaaGreatDoor
/- The walks of the reference of layer 1: digits. -/
namespace Go.Proofs.YtbfimfjhdbpenaaGreatDoor
open Go Go.RowKit
theorem refCheck_any (s : ByteArray) (w : World) (hlen : s.size ≤ 1099511627776) :
    Calls Tryz.prog 169 #[.string s] w fun e w' => e = .returned (.int .i64 (chk s.data.toList)) ∧ Below w.heap.size w w' := by
  by_cases h : chk s.data.toList = 12
  · have H := Lib.hid h
    have HD := Lib.hid (digits_no s w h hlen)
    clear h
    go_enter Tryz.func169, Tryz.ntmps169
    go_wp2_with (go_at_call 105; refine HD.out.mono ?_; rintro e w' ⟨rfl, hb⟩)
    go_ret
    exact ⟨ret_int H.out.symm, hb⟩
  · have HD := Lib.hid (digits_yes s w h hlen)
    have hbl := bod_length s.data.toList
    rw [← Lib.size_eq] at hbl
    have H : Hid (chk s.data.toList = if 1000 < (bod s.data.toList).length then 14 else 0) := by
      show chk _ = _
      unfold chk at h ⊢
      split
      · next e => rw [e]; rfl
      · next e =>
        rw [if_neg e] at h
        split
        · rfl
        · next g => rw [if_neg g] at h; exact absurd rfl h
    clear h
    obtain ⟨n, hn⟩ : ∃ n, (bod s.data.toList).length = n := ⟨_, rfl⟩
    rw [hn] at H HD hbl
    clear hn
    by_cases hl : 1000 < n
    all_goals
      go_enter Tryz.func169, Tryz.ntmps169
      go_wp2_with (go_at_call 105; refine HD.out.mono ?_; rintro e w' ⟨v, rfl, hown, hb⟩; obtain ⟨A, c, rfl, hnn, _⟩ := SlA.of_own hown; clear hnn hown)
      go_ret
      exact ⟨ret_int (by rw [H.out]; simp [hl]), hb⟩
set_option maxHeartbeats 400000 in
theorem at_any (A : Option Addr) (c : Nat) (ds : List Nat) (w : World) (hA : SlA encI w A ds) (i : Nat) :
    Calls Tryz.prog 186 #[.slice A ds.length c, .int .i64 i] w fun e w' => e = .returned (.int .i64 ((ds.getD i 0 : Nat) : Int)) ∧ w = w' := by
  by_cases hlt : i < ds.length
  · obtain ⟨b, o, rfl, hb, hc⟩ := hA.get hlt
    clear hA
    unfold encI at hc
    have H : Hid (ds.getD i 0 = ds[i]) := by show _ = _; simp [hlt]
    obtain ⟨x, hx⟩ : ∃ x, ds[i] = x := ⟨_, rfl⟩
    rw [hx] at hc H
    clear hx
    go_enter Tryz.func186, Tryz.ntmps186
    go_wp2
    go_ret
    exact ⟨ret_int (by rw [H.out]), rfl⟩
  · have H : Hid (ds.getD i 0 = 0) := by show _ = _; simp [List.getD, List.getElem?_eq_none (Nat.le_of_not_lt hlt)]
    go_enter Tryz.func186, Tryz.ntmps186
    go_wp2
    go_ret
    exact ⟨ret_int (by rw [H.out]; rfl), rfl⟩
theorem own_snoc {w : World} {base : Nat} {e : TypeId} {v : Value} {k : Nat} {os : List Nat} {n : Nat} {z : Int} (h : w.ownsRow base e 1 v (k + 1) (os.map encI ++ [.int .i64 z])) (hn : (n : Int) = z) : w.ownsRow base e 1 v (k + 1) ((os ++ [n]).map encI) := by
  rw [List.map_append]
  have : List.map encI [n] = [.int .i64 z] := by rw [← hn]; rfl
  rw [this]
  exact h
def GrInv (xs ys : List Nat) (j : Nat) : Prop := ∃ T, vl 10 xs = vl 10 (xs.take j) + 10 ^ j * T ∧ vl 10 ys = vl 10 (ys.take j) + 10 ^ j * T
theorem GrInv.start {xs ys : List Nat} {j : Nat} (h1 : xs.length ≤ j) (h2 : ys.length ≤ j) : GrInv xs ys j :=
  ⟨0, by rw [vl_take_all 10 xs _ h1]; simp, by rw [vl_take_all 10 ys _ h2]; simp⟩
theorem GrInv.last {xs ys : List Nat} (h : GrInv xs ys 0) : cmpN (vl 10 xs) (vl 10 ys) = 0 := by
  obtain ⟨T, h1, h2⟩ := h
  have : vl 10 xs = vl 10 ys := by rw [h1, h2]; simp
  unfold cmpN; rw [if_neg (by omega), if_neg (by omega)]
theorem GrInv.step {xs ys : List Nat} {j : Nat} (h : GrInv xs ys (j + 1)) (hx : ∀ d ∈ xs, d < 10) (hy : ∀ d ∈ ys, d < 10) (x y : Nat) (ex : xs.getD j 0 = x) (ey : ys.getD j 0 = y) :
    (x = y → GrInv xs ys j) ∧ (x < y → cmpN (vl 10 xs) (vl 10 ys) = -1) ∧ (y < x → cmpN (vl 10 xs) (vl 10 ys) = 1) := by
  obtain ⟨T, h1, h2⟩ := h
  obtain ⟨c1, c2, c3⟩ := vl_cmp 10 xs ys hx hy (by omega) j T h1 h2
  subst ex; subst ey
  refine ⟨fun e => ⟨_, c3 e⟩, fun e => ?_, fun e => ?_⟩
  · have := c1 e; unfold cmpN; rw [if_neg (by omega), if_pos this]
  · have := c2 e; unfold cmpN; rw [if_pos this]
set_option maxRecDepth 100000 in
set_option maxHeartbeats 400000 in
theorem greater_any (A B : Option Addr) (ca cb : Nat) (xs ys : List Nat) (w : World) (hA : SlA encI w A xs) (hB : SlA encI w B ys) (ha : ∀ d ∈ xs, d < 10) (hb : ∀ d ∈ ys, d < 10) (hla : xs.length ≤ 1099511627776) (hlb : ys.length ≤ 1099511627776) :
    Calls Tryz.prog 170 #[.slice A xs.length ca, .slice B ys.length cb] w fun e w' => e = .returned (.int .i64 (cmpN (vl 10 xs) (vl 10 ys))) ∧ w = w' := by
  have HG := Lib.hid (fun (j : Nat) (h : GrInv xs ys (j + 1)) => h.step ha hb)
  obtain ⟨R, hR⟩ : ∃ R, cmpN (vl 10 xs) (vl 10 ys) = R := ⟨_, rfl⟩
  have HL := Lib.hid (GrInv.last (xs := xs) (ys := ys))
  have hM : (xs.length < ys.length ∧ max xs.length ys.length = ys.length) ∨ (¬ xs.length < ys.length ∧ max xs.length ys.length = xs.length) := by omega
  have HS := Lib.hid (GrInv.start (xs := xs) (ys := ys) (j := max xs.length ys.length) (by omega) (by omega))
  rw [hR] at HL HG ⊢
  clear hR ha hb
  rcases hM with ⟨hm, hM⟩ | ⟨hm, hM⟩
  · rw [hM] at HS
    clear hM
    go_enter Tryz.func170, Tryz.ntmps170
    go_wp2
    go_loop [5] (fun i => ∃ j : Nat, j ≤ ys.length ∧ i = .int .i64 ((j : Int) - 1) ∧ Hid (GrInv xs ys j)) (fun i => (intOf i + 1).toNat)
    case atStart => exact ⟨ys.length, Nat.le_refl _, rfl, HS⟩
    case round =>
      obtain ⟨j, hj, rfl, hinv⟩ := hrel
      cases j with
      | zero =>
        have HX := Lib.hid (HL.out hinv.out)
        clear hinv HG HL HS
        go_wp2
        go_ret
        exact ⟨ret_int HX.out.symm, rfl⟩
      | succ j =>
        have ej : ((j + 1 : Nat) : Int) - 1 = (j : Int) := by omega
        rw [ej]
        clear ej
        have HI := Lib.hid (HG.out j hinv.out)
        have TA := Lib.hid (at_any A ca xs w hA j)
        have TB := Lib.hid (at_any B cb ys w hB j)
        clear hinv HG HL HS
        generalize xs.getD j 0 = x at HI TA
        generalize ys.getD j 0 = y at HI TB
        rcases Nat.lt_trichotomy x y with hxy | rfl | hxy
        · have HX := Lib.hid ((HI.out x y rfl rfl).2.1 hxy)
          clear HI
          have hne : ((x : Int) == (y : Int)) = false := by rw [beq_eq_false_iff_ne]; omega
          have hne' : ((x : Int) != (y : Int)) = true := by rw [bne_iff_ne]; omega
          go_wp2_with (first | (go_at_call 186; (with_reducible refine TA.out.mono ?_); rintro e w' ⟨rfl, rfl⟩) | (go_at_call 186; (with_reducible refine TB.out.mono ?_); rintro e w' ⟨rfl, rfl⟩))
          go_ret
          exact ⟨ret_int HX.out.symm, rfl⟩
        · have HX := Lib.hid ((HI.out x x rfl rfl).1 rfl)
          clear HI
          go_wp2_with (first | (go_at_call 186; (with_reducible refine TA.out.mono ?_); rintro e w' ⟨rfl, rfl⟩) | (go_at_call 186; (with_reducible refine TB.out.mono ?_); rintro e w' ⟨rfl, rfl⟩))
          go_round
          case rel => exact ⟨j, by omega, rfl, HX⟩
          case measure => simp [intOf]
        · have HX := Lib.hid ((HI.out x y rfl rfl).2.2 hxy)
          clear HI
          have hne : ((x : Int) == (y : Int)) = false := by rw [beq_eq_false_iff_ne]; omega
          have hne' : ((x : Int) != (y : Int)) = true := by rw [bne_iff_ne]; omega
          go_wp2_with (first | (go_at_call 186; (with_reducible refine TA.out.mono ?_); rintro e w' ⟨rfl, rfl⟩) | (go_at_call 186; (with_reducible refine TB.out.mono ?_); rintro e w' ⟨rfl, rfl⟩))
          go_ret
          exact ⟨ret_int HX.out.symm, rfl⟩
  · rw [hM] at HS
    clear hM
    go_enter Tryz.func170, Tryz.ntmps170
    go_wp2
    go_loop [5] (fun i => ∃ j : Nat, j ≤ xs.length ∧ i = .int .i64 ((j : Int) - 1) ∧ Hid (GrInv xs ys j)) (fun i => (intOf i + 1).toNat)
    case atStart => exact ⟨xs.length, Nat.le_refl _, rfl, HS⟩
    case round =>
      obtain ⟨j, hj, rfl, hinv⟩ := hrel
      cases j with
      | zero =>
        have HX := Lib.hid (HL.out hinv.out)
        clear hinv HG HL HS
        go_wp2
        go_ret
        exact ⟨ret_int HX.out.symm, rfl⟩
      | succ j =>
        have ej : ((j + 1 : Nat) : Int) - 1 = (j : Int) := by omega
        rw [ej]
        clear ej
        have HI := Lib.hid (HG.out j hinv.out)
        have TA := Lib.hid (at_any A ca xs w hA j)
        have TB := Lib.hid (at_any B cb ys w hB j)
        clear hinv HG HL HS
        generalize xs.getD j 0 = x at HI TA
        generalize ys.getD j 0 = y at HI TB
        rcases Nat.lt_trichotomy x y with hxy | rfl | hxy
        · have HX := Lib.hid ((HI.out x y rfl rfl).2.1 hxy)
          clear HI
          have hne : ((x : Int) == (y : Int)) = false := by rw [beq_eq_false_iff_ne]; omega
          have hne' : ((x : Int) != (y : Int)) = true := by rw [bne_iff_ne]; omega
          go_wp2_with (first | (go_at_call 186; (with_reducible refine TA.out.mono ?_); rintro e w' ⟨rfl, rfl⟩) | (go_at_call 186; (with_reducible refine TB.out.mono ?_); rintro e w' ⟨rfl, rfl⟩))
          go_ret
          exact ⟨ret_int HX.out.symm, rfl⟩
        · have HX := Lib.hid ((HI.out x x rfl rfl).1 rfl)
          clear HI
          go_wp2_with (first | (go_at_call 186; (with_reducible refine TA.out.mono ?_); rintro e w' ⟨rfl, rfl⟩) | (go_at_call 186; (with_reducible refine TB.out.mono ?_); rintro e w' ⟨rfl, rfl⟩))
          go_round
          case rel => exact ⟨j, by omega, rfl, HX⟩
          case measure => simp [intOf]
        · have HX := Lib.hid ((HI.out x y rfl rfl).2.2 hxy)
          clear HI
          have hne : ((x : Int) == (y : Int)) = false := by rw [beq_eq_false_iff_ne]; omega
          have hne' : ((x : Int) != (y : Int)) = true := by rw [bne_iff_ne]; omega
          go_wp2_with (first | (go_at_call 186; (with_reducible refine TA.out.mono ?_); rintro e w' ⟨rfl, rfl⟩) | (go_at_call 186; (with_reducible refine TB.out.mono ?_); rintro e w' ⟨rfl, rfl⟩))
          go_ret
          exact ⟨ret_int HX.out.symm, rfl⟩
set_option maxHeartbeats 400000 in
theorem zero_any (A : Option Addr) (ca : Nat) (xs : List Nat) (w : World) (hA : SlA encI w A xs) (ha : ∀ d ∈ xs, d < 10) (hla : xs.length ≤ 1099511627776) :
    Calls Tryz.prog 143 #[.slice A xs.length ca] w fun e w' => e = .returned (.bool (decide (vl 10 xs = 0))) ∧ w = w' := by
  have HG := Lib.hid (greater_any A none ca 0 xs [] w hA SlA.nil ha (by simp) hla (by simp))
  have e0 : vl 10 [] = 0 := rfl
  rw [e0] at HG
  by_cases hz : vl 10 xs = 0
  · have HX : Hid (decide (vl 10 xs = 0) = true) := decide_eq_true hz
    have hc : cmpN (vl 10 xs) 0 = 0 := by unfold cmpN; rw [if_neg (by omega), if_neg (by omega)]
    rw [hc] at HG
    clear hz hc e0
    go_enter Tryz.func143, Tryz.ntmps143
    go_wp2_with (go_at_call 170; refine HG.out.mono ?_; rintro e w' ⟨rfl, rfl⟩)
    go_ret
    exact ⟨ret_bool HX.out.symm, rfl⟩
  · have HX : Hid (decide (vl 10 xs = 0) = false) := decide_eq_false hz
    have hc : cmpN (vl 10 xs) 0 = 1 := by unfold cmpN; rw [if_pos (by omega)]
    rw [hc] at HG
    clear hz hc e0
    go_enter Tryz.func143, Tryz.ntmps143
    go_wp2_with (go_at_call 170; refine HG.out.mono ?_; rintro e w' ⟨rfl, rfl⟩)
    go_ret
    exact ⟨ret_bool HX.out.symm, rfl⟩
end Go.Proofs.YtbfimfjhdbpenaaGreatDoor
