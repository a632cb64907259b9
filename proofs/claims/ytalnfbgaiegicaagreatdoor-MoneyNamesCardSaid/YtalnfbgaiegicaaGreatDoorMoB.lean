/- Layer 7: the reference's walks: Name, Unit, power. -/
import Derived.Test.YtalnfbgaiegicaaGreatDoorMoA
namespace Go.Proofs.YtalnfbgaiegicaaGreatDoor
open Go Go.RowKit

/-- May a byte stand there in a name? -/
def okC (k : Nat) (c : UInt8) : Bool := if k = 0 then alphaB c else nextB c
theorem alpha_iff (c : UInt8) : alphaB c = true ↔ (65 ≤ (c.toNat : Int) ∧ (c.toNat : Int) ≤ 90) ∨ (97 ≤ (c.toNat : Int) ∧ (c.toNat : Int) ≤ 122) := by
  unfold alphaB
  rw [Bool.or_eq_true, Bool.and_eq_true, Bool.and_eq_true, decide_eq_true_eq, decide_eq_true_eq, decide_eq_true_eq, decide_eq_true_eq]
  simp only [UInt8.le_iff_toNat_le]
  have e1 : (65 : UInt8).toNat = 65 := rfl
  have e2 : (90 : UInt8).toNat = 90 := rfl
  have e3 : (97 : UInt8).toNat = 97 := rfl
  have e4 : (122 : UInt8).toNat = 122 := rfl
  omega
theorem next_iff (c : UInt8) : nextB c = true ↔ alphaB c = true ∨ (48 ≤ (c.toNat : Int) ∧ (c.toNat : Int) ≤ 57) ∨ (c.toNat : Int) = 95 ∨ (c.toNat : Int) = 45 := by
  unfold nextB
  rw [Bool.or_eq_true, Bool.or_eq_true, Bool.or_eq_true, Bool.and_eq_true, decide_eq_true_eq, decide_eq_true_eq, beq_iff_eq, beq_iff_eq]
  simp only [UInt8.le_iff_toNat_le, ← UInt8.toNat_inj]
  have e1 : (48 : UInt8).toNat = 48 := rfl
  have e2 : (57 : UInt8).toNat = 57 := rfl
  have e3 : (95 : UInt8).toNat = 95 := rfl
  have e4 : (45 : UInt8).toNat = 45 := rfl
  rw [e1, e2, e3, e4]
  constructor
  · rintro (((h | h) | h) | h)
    · exact .inl h
    · exact .inr (.inl (by omega))
    · exact .inr (.inr (.inl (by omega)))
    · exact .inr (.inr (.inr (by omega)))
  · rintro (h | h | h | h)
    · exact .inl (.inl (.inl h))
    · exact .inl (.inl (.inr (by omega)))
    · exact .inl (.inr (by omega))
    · exact .inr (by omega)
theorem name_iff (s : ByteArray) : nameB s.data.toList = true ↔ (1 ≤ s.size ∧ s.size ≤ 40) ∧ ∀ k (h : k < s.size), okC k s[k] = true := by
  have hl : s.data.toList.length = s.size := by simp
  have hg : ∀ k (h : k < s.size), s.data.toList[k]? = some s[k] := fun k h => getElem_toList s k h
  unfold nameB
  rw [Bool.and_eq_true, decide_eq_true_eq, hl]
  cases h : s.data.toList with
  | nil =>
    rw [h] at hl
    constructor
    · rintro ⟨-, g⟩; cases g
    · rintro ⟨⟨g, -⟩, -⟩; simp at hl; omega
  | cons c r =>
    rw [h] at hl hg
    simp only [List.length_cons] at hl
    simp only [Bool.and_eq_true, List.all_eq_true]
    constructor
    · rintro ⟨h1, h2, h3⟩
      refine ⟨⟨by omega, h1⟩, fun k hk => ?_⟩
      have := hg k hk
      unfold okC
      cases k with
      | zero => rw [if_pos rfl]; simp at this; rw [← this]; exact h2
      | succ k =>
        rw [if_neg (by omega)]
        rw [List.getElem?_cons_succ] at this
        exact h3 _ (List.mem_of_getElem? this)
    · rintro ⟨⟨h1, h2⟩, h3⟩
      refine ⟨h2, ?_, fun x hx => ?_⟩
      · have := hg 0 (by omega)
        have h4 := h3 0 (by omega)
        unfold okC at h4
        rw [if_pos rfl] at h4
        simp at this
        rw [this]; exact h4
      · obtain ⟨k, hk, rfl⟩ := List.getElem_of_mem hx
        have := hg (k + 1) (by omega)
        have h4 := h3 (k + 1) (by omega)
        unfold okC at h4
        rw [if_neg (by omega)] at h4
        rw [List.getElem?_cons_succ, List.getElem?_eq_getElem hk] at this
        injection this with this
        rw [this]; exact h4
/-- The same of a byte's number. -/
def okI (k : Nat) (x : Int) : Bool := decide (65 ≤ x ∧ x ≤ 90) || decide (97 ≤ x ∧ x ≤ 122) || (decide (k ≠ 0) && (decide (48 ≤ x ∧ x ≤ 57) || decide (x = 95) || decide (x = 45)))
theorem okI_of (k : Nat) (c : UInt8) (x : Int) (hx : (c.toNat : Int) = x) : okC k c = okI k x := by
  have h1 := alpha_iff c
  have h2 := next_iff c
  rw [hx] at h1 h2
  have h3 : okC k c = true ↔ okI k x = true := by
    unfold okC okI
    simp only [Bool.or_eq_true, Bool.and_eq_true, decide_eq_true_eq]
    split
    · next e => rw [h1]; omega
    · next e => rw [h2, h1]; omega
  cases ha : okC k c <;> cases hb : okI k x <;> simp_all
theorem cls (x : Int) : (x < 45) ∨ (x = 45) ∨ (45 < x ∧ x < 48) ∨ (48 ≤ x ∧ x ≤ 57) ∨ (57 < x ∧ x < 65) ∨ (65 ≤ x ∧ x ≤ 90) ∨ (90 < x ∧ x < 95) ∨ (x = 95) ∨ (95 < x ∧ x < 97) ∨ (97 ≤ x ∧ x ≤ 122) ∨ (122 < x) := by omega
set_option maxRecDepth 100000 in
set_option maxHeartbeats 3200000 in
theorem rname_any (s : ByteArray) (b : Bool) (h : nameB s.data.toList = b) (w : World) :
    Calls Tryz.prog 41 #[.string s] w fun e w' => e = .returned (.bool b) ∧ w = w' := by
  by_cases hsz : 1 ≤ s.size ∧ s.size ≤ 40
  · obtain ⟨h1, h2⟩ := hsz
    have HT : Hid ((∀ k (h : k < s.size), okC k s[k] = true) → b = true) := fun g => by rw [← h]; exact (name_iff s).2 ⟨⟨h1, h2⟩, g⟩
    have HF : Hid (∀ k (h : k < s.size), okC k s[k] = false → b = false) := fun k hk g => by
      rw [← h, Bool.eq_false_iff]
      intro e
      have := ((name_iff s).1 e).2 k hk
      rw [g] at this; cases this
    have g1 : 1 ≤ (s.size : Int) := by omega
    have g2 : (s.size : Int) ≤ 40 := by omega
    clear h
    go_enter Tryz.func41, Tryz.ntmps41
    go_wp2
    go_loop [3] (fun i => ∃ k : Nat, k ≤ s.size ∧ i = .int .i64 k ∧ Hid (∀ j (h : j < s.size), j < k → okC j s[j] = true)) (fun i => s.size - (intOf i).toNat)
    case atStart => exact ⟨0, by omega, rfl, fun j h g => by omega⟩
    case round =>
      obtain ⟨k, hk, rfl, HI⟩ := hrel
      by_cases hlt : k < s.size
      · have hk1 : (k : Int) < (s.size : Int) := by omega
        obtain ⟨x, hx⟩ : ∃ x : Int, (s[k].toNat : Int) = x := ⟨_, rfl⟩
        have ho := okI_of k s[k] x hx
        have HI2 : Hid (okC k s[k] = true → ∀ j (h : j < s.size), j < k + 1 → okC j s[j] = true) := fun g j hj hj2 => by
          rcases Nat.lt_or_ge j k with q | q
          · exact HI.out j hj q
          · obtain rfl : j = k := by omega
            exact g
        have HF2 := Lib.hid (HF.out k hlt)
        rw [ho] at HI2 HF2
        have HX := Lib.hid hx
        have hc := cls x
        clear HT HF HI ho
        cases k with
        | zero =>
          have e0 : (((0 : Nat) : Int) == 0) = true := rfl
          rcases hc with ⟨hi⟩ | ⟨rfl⟩ | ⟨lo, hi⟩ | ⟨lo, hi⟩ | ⟨lo, hi⟩ | ⟨lo, hi⟩ | ⟨lo, hi⟩ | ⟨rfl⟩ | ⟨lo, hi⟩ | ⟨lo, hi⟩ | ⟨lo⟩
          all_goals
            first
            | (have HG := Lib.hid (HI2.out (by unfold okI; first | (simp; done) | (simp; omega)))
               clear HF2 HI2
               go_wp2
               all_goals
                 first
                 | (exfalso; first | omega | (simp_all; done) | (simp_all; omega))
                 | (go_round
                    case rel => exact ⟨1, by omega, by first | rfl | go_num, HG⟩
                    case measure => first | (simp [intOf]; done) | (simp [intOf]; omega)))
            | (obtain rfl := HF2.out (by unfold okI; first | (simp; done) | (simp; omega))
               clear HF2 HI2
               go_wp2
               all_goals
                 first
                 | (exfalso; first | omega | (simp_all; done) | (simp_all; omega))
                 | (go_ret; exact ⟨rfl, rfl⟩))
        | succ k =>
          have e0 : (((k + 1 : Nat) : Int) == 0) = false := by rw [beq_eq_false_iff_ne]; omega
          have e1 : ((k : Int) + 1 == 0) = false := by rw [beq_eq_false_iff_ne]; omega
          rcases hc with ⟨hi⟩ | ⟨rfl⟩ | ⟨lo, hi⟩ | ⟨lo, hi⟩ | ⟨lo, hi⟩ | ⟨lo, hi⟩ | ⟨lo, hi⟩ | ⟨rfl⟩ | ⟨lo, hi⟩ | ⟨lo, hi⟩ | ⟨lo⟩
          all_goals
            first
            | (have HG := Lib.hid (HI2.out (by unfold okI; first | (simp; done) | (simp; omega)))
               clear HF2 HI2
               go_wp2
               all_goals
                 first
                 | (exfalso; first | omega | (simp_all; done) | (simp_all; omega))
                 | (go_round
                    case rel => exact ⟨k + 1 + 1, by omega, by first | rfl | go_num, HG⟩
                    case measure => first | (simp [intOf]; done) | (simp [intOf]; omega)))
            | (obtain rfl := HF2.out (by unfold okI; first | (simp; done) | (simp; omega))
               clear HF2 HI2
               go_wp2
               all_goals
                 first
                 | (exfalso; first | omega | (simp_all; done) | (simp_all; omega))
                 | (go_ret; exact ⟨rfl, rfl⟩))
      · obtain rfl : k = s.size := by omega
        obtain rfl := HT.out (fun j hj => HI.out j hj hj)
        clear HT HF HI
        go_wp2
        go_ret
        exact ⟨rfl, rfl⟩
  · have hb : b = false := by
      rw [← h, Bool.eq_false_iff]
      intro e
      exact hsz ((name_iff s).1 e).1
    subst hb
    clear h
    by_cases g : s.size < 1
    · have g1 : (s.size : Int) < 1 := by omega
      clear hsz g
      go_enter Tryz.func41, Tryz.ntmps41
      go_wp2
      go_ret
      exact ⟨rfl, rfl⟩
    · have g1 : 1 ≤ (s.size : Int) := by omega
      have g2 : 40 < (s.size : Int) := by omega
      clear hsz g
      go_enter Tryz.func41, Tryz.ntmps41
      go_wp2
      go_ret
      exact ⟨rfl, rfl⟩
set_option maxRecDepth 100000 in
set_option maxHeartbeats 1600000 in
theorem rpower_any (u : Nat) (hu : u = 0 ∨ u = 3 ∨ u = 2) (w : World) :
    Calls Tryz.prog 45 #[.int .i64 u] w fun e w' => e = .returned (.int .i64 ((10 ^ u : Nat) : Int)) ∧ w = w' := by
  have hu' : u ≤ 3 := by omega
  have hp : ∀ k, k ≤ u → ((10 ^ k : Nat) : Int) ≤ 1000 ∧ 1 ≤ ((10 ^ k : Nat) : Int) := fun k hk => by
    have : k = 0 ∨ k = 1 ∨ k = 2 ∨ k = 3 := by omega
    rcases this with rfl | rfl | rfl | rfl <;> decide
  have HP := Lib.hid hp
  clear hp hu
  go_enter Tryz.func45, Tryz.ntmps45
  go_wp2
  go_loop [3, 4] (fun v i => ∃ k : Nat, k ≤ u ∧ i = .int .i64 k ∧ v = .int .i64 ((10 ^ k : Nat) : Int)) (fun _ i => u - (intOf i).toNat)
  case atStart => exact ⟨0, by omega, rfl, by first | rfl | simp⟩
  case round =>
    obtain ⟨k, hk, rfl, rfl⟩ := hrel
    by_cases hlt : k < u
    · have hk1 : (k : Int) < (u : Int) := by omega
      obtain ⟨b1, b2⟩ := HP.out k hk
      have HS : Hid (((10 ^ (k + 1) : Nat) : Int) = ((10 ^ k : Nat) : Int) * 10) := by show _ = _; rw [Nat.pow_succ]; omega
      generalize ((10 ^ k : Nat) : Int) = p at *
      go_wp2
      go_round
      case rel => exact ⟨k + 1, by omega, by go_num, by rw [HS.out]⟩
      case measure => simp [intOf]; omega
    · obtain rfl : k = u := by omega
      clear HP
      go_wp2
      go_ret
      exact ⟨rfl, rfl⟩
end Go.Proofs.YtalnfbgaiegicaaGreatDoor
