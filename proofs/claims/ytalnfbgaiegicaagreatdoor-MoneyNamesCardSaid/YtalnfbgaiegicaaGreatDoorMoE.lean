/- Layer 7: the program's walks: names, units, powers, what an amount is. -/
import Derived.Test.YtalnfbgaiegicaaGreatDoorMoB
import Derived.Maps.Own
import Derived.Maps.OwnSet
import Derived.Maps.Views
namespace Go.Proofs.YtalnfbgaiegicaaGreatDoor
open Go Go.RowKit Go.Maps

set_option maxHeartbeats 800000 in
theorem pletter_any (x : Int) (b : Bool) (h : (decide (65 ≤ x ∧ x ≤ 90) || decide (97 ≤ x ∧ x ≤ 122)) = b) (w : World) :
    Calls Tryz.prog 61 #[.int .u8 x] w fun e w' => e = .returned (.bool b) ∧ w = w' := by
  cases b
  · rw [Bool.or_eq_false_iff, decide_eq_false_iff_not, decide_eq_false_iff_not] at h
    have hc : (x < 65) ∨ (90 < x ∧ x < 97) ∨ (122 < x) := by omega
    rcases hc with hc | hc | hc
    · have d1 : decide (97 ≤ x) = false := decide_eq_false (by omega)
      have d2 : decide (x ≤ 122) = true := decide_eq_true (by omega)
      have d3 : decide (65 ≤ x) = false := decide_eq_false (by omega)
      have d4 : decide (x ≤ 90) = true := decide_eq_true (by omega)
      go_enter Tryz.func61, Tryz.ntmps61
      go_wp2
      go_ret
      exact ⟨rfl, rfl⟩
    · have d1 : decide (97 ≤ x) = false := decide_eq_false (by omega)
      have d2 : decide (x ≤ 122) = true := decide_eq_true (by omega)
      have d3 : decide (65 ≤ x) = true := decide_eq_true (by omega)
      have d4 : decide (x ≤ 90) = false := decide_eq_false (by omega)
      go_enter Tryz.func61, Tryz.ntmps61
      go_wp2
      go_ret
      exact ⟨rfl, rfl⟩
    · have d1 : decide (97 ≤ x) = true := decide_eq_true (by omega)
      have d2 : decide (x ≤ 122) = false := decide_eq_false (by omega)
      have d3 : decide (65 ≤ x) = true := decide_eq_true (by omega)
      have d4 : decide (x ≤ 90) = false := decide_eq_false (by omega)
      go_enter Tryz.func61, Tryz.ntmps61
      go_wp2
      go_ret
      exact ⟨rfl, rfl⟩
  · rw [Bool.or_eq_true, decide_eq_true_eq, decide_eq_true_eq] at h
    have hc : (65 ≤ x ∧ x ≤ 90) ∨ (97 ≤ x ∧ x ≤ 122) := by omega
    rcases hc with hc | hc
    · have d1 : decide (97 ≤ x) = false := decide_eq_false (by omega)
      have d2 : decide (x ≤ 122) = true := decide_eq_true (by omega)
      have d3 : decide (65 ≤ x) = true := decide_eq_true (by omega)
      have d4 : decide (x ≤ 90) = true := decide_eq_true (by omega)
      go_enter Tryz.func61, Tryz.ntmps61
      go_wp2
      go_ret
      exact ⟨rfl, rfl⟩
    · have d1 : decide (97 ≤ x) = true := decide_eq_true (by omega)
      have d2 : decide (x ≤ 122) = true := decide_eq_true (by omega)
      have d3 : decide (65 ≤ x) = true := decide_eq_true (by omega)
      have d4 : decide (x ≤ 90) = false := decide_eq_false (by omega)
      go_enter Tryz.func61, Tryz.ntmps61
      go_wp2
      go_ret
      exact ⟨rfl, rfl⟩
set_option maxHeartbeats 800000 in
theorem pdigit_any (x : Int) (b : Bool) (h : decide (48 ≤ x ∧ x ≤ 57) = b) (w : World) :
    Calls Tryz.prog 62 #[.int .u8 x] w fun e w' => e = .returned (.bool b) ∧ w = w' := by
  cases b
  · rw [decide_eq_false_iff_not] at h
    have hc : (x < 48) ∨ (57 < x) := by omega
    rcases hc with hc | hc
    · have d1 : decide (48 ≤ x) = false := decide_eq_false (by omega)
      have d2 : decide (x ≤ 57) = true := decide_eq_true (by omega)
      go_enter Tryz.func62, Tryz.ntmps62
      go_wp2
      go_ret
      exact ⟨rfl, rfl⟩
    · have d1 : decide (48 ≤ x) = true := decide_eq_true (by omega)
      have d2 : decide (x ≤ 57) = false := decide_eq_false (by omega)
      go_enter Tryz.func62, Tryz.ntmps62
      go_wp2
      go_ret
      exact ⟨rfl, rfl⟩
  · rw [decide_eq_true_eq] at h
    have hc : (48 ≤ x ∧ x ≤ 57) := by omega
    · have d1 : decide (48 ≤ x) = true := decide_eq_true (by omega)
      have d2 : decide (x ≤ 57) = true := decide_eq_true (by omega)
      go_enter Tryz.func62, Tryz.ntmps62
      go_wp2
      go_ret
      exact ⟨rfl, rfl⟩
set_option maxHeartbeats 400000 in
theorem pamount_any (n : Int) (b : Bool) (h : amB n = b) (w : World) :
    Calls Tryz.prog 36 #[.int .i64 n] w fun e w' => e = .returned (.bool b) ∧ w = w' := by
  unfold amB at h
  by_cases h0 : -1125899906842624 ≤ n
  · rw [decide_eq_true h0, Bool.true_and] at h
    go_enter Tryz.func36, Tryz.ntmps36
    go_wp2
    go_ret
    exact ⟨ret_boolM (by rw [← h]), rfl⟩
  · rw [decide_eq_false h0, Bool.false_and] at h
    have h1 : n < -1125899906842624 := by omega
    subst h
    go_enter Tryz.func36, Tryz.ntmps36
    go_wp2
    go_ret
    exact ⟨ret_boolM (by simp), rfl⟩
set_option maxRecDepth 100000 in
set_option maxHeartbeats 1600000 in
theorem pones_any (u : Nat) (hu : u = 0 ∨ u = 3 ∨ u = 2) (w : World) :
    Calls Tryz.prog 33 #[.int .i64 u] w fun e w' => e = .returned (.int .i64 ((10 ^ u : Nat) : Int)) ∧ w = w' := by
  have hu' : u ≤ 3 := by omega
  have hp : ∀ k, k ≤ u → ((10 ^ k : Nat) : Int) ≤ 1000 ∧ 1 ≤ ((10 ^ k : Nat) : Int) := fun k hk => by
    have : k = 0 ∨ k = 1 ∨ k = 2 ∨ k = 3 := by omega
    rcases this with rfl | rfl | rfl | rfl <;> decide
  have HP := Lib.hid hp
  clear hp hu
  go_enter Tryz.func33, Tryz.ntmps33
  go_wp2
  go_loop [3, 5] (fun v i => ∃ k : Nat, k ≤ u ∧ i = .int .i64 k ∧ v = .int .i64 ((10 ^ k : Nat) : Int)) (fun _ i => u - (intOf i).toNat)
  case atStart => exact ⟨0, by omega, rfl, by first | rfl | simp⟩
  case round =>
    obtain ⟨k, hk, rfl, rfl⟩ := hrel
    by_cases hlt : k < u
    · have hk1 : (k : Int) < (u : Int) := by omega
      obtain ⟨b1, b2⟩ := HP.out k hk
      have HS : Hid (((10 ^ (k + 1) : Nat) : Int) = ((10 ^ k : Nat) : Int) * 10) := by show _ = _; rw [Nat.pow_succ]; omega
      generalize ((10 ^ k : Nat) : Int) = p at *
      go_wp2
      go_round
      case rel => exact ⟨k + 1, by omega, by go_num, by rw [HS.out]⟩
      case measure => simp [intOf]; omega
    · obtain rfl : k = u := by omega
      clear HP
      go_wp2
      go_ret
      exact ⟨rfl, rfl⟩
set_option maxRecDepth 100000 in
set_option maxHeartbeats 3200000 in
theorem pname_any (s : ByteArray) (b : Bool) (h : nameB s.data.toList = b) (w : World) :
    Calls Tryz.prog 29 #[.string s] w fun e w' => e = .returned (.bool b) ∧ w = w' := by
  have HL := Lib.hid (fun x b h => pletter_any x b h)
  have HG := Lib.hid (fun x b h => pdigit_any x b h)
  by_cases hz : s.size = 0
  · have hb : b = false := by
      rw [← h, Bool.eq_false_iff]
      intro e
      have := ((name_iff s).1 e).1.1
      omega
    have he : s.toList = [] := by rw [Lib.toList_data]; exact List.eq_nil_of_length_eq_zero (by simp [hz])
    have e0 : (s.toList == []) = true := by rw [he]; rfl
    subst hb
    clear h HL HG
    go_enter Tryz.func29, Tryz.ntmps29
    go_wp2
    go_ret
    exact ⟨rfl, rfl⟩
  · have e0 : (s.toList == []) = false := by
      rw [Lib.toList_data, beq_eq_false_iff_ne]
      intro e
      have : s.data.toList.length = 0 := by rw [e]; rfl
      simp at this
      exact hz (by rw [this]; rfl)
    have e2 : s.toList.isEmpty = false := by
      rw [Lib.toList_data, List.isEmpty_eq_false_iff]
      intro e
      have : s.data.toList.length = 0 := by rw [e]; rfl
      simp at this
      exact hz (by rw [this]; rfl)
    by_cases h40 : s.size ≤ 40
    · have g1 : 1 ≤ (s.size : Int) := by omega
      have g2 : (s.size : Int) ≤ 40 := by omega
      have h0 : 0 < s.size := by omega
      have HT : Hid ((∀ k (h : k < s.size), okC k s[k] = true) → b = true) := fun g => by rw [← h]; exact (name_iff s).2 ⟨⟨by omega, h40⟩, g⟩
      have HF : Hid (∀ k (h : k < s.size), okC k s[k] = false → b = false) := fun k hk g => by
        rw [← h, Bool.eq_false_iff]
        intro e
        have := ((name_iff s).1 e).2 k hk
        rw [g] at this; cases this
      clear h
      obtain ⟨x0, hx0⟩ : ∃ x : Int, (s[0].toNat : Int) = x := ⟨_, rfl⟩
      have HX0 := Lib.hid hx0
      cases hl : (decide (65 ≤ x0 ∧ x0 ≤ 90) || decide (97 ≤ x0 ∧ x0 ≤ 122))
      · have hb : b = false := HF.out 0 h0 (by rw [okI_of 0 s[0] x0 hx0]; unfold okI; rw [hl]; rfl)
        subst hb
        have HC := Lib.hid (HL.out x0 false hl)
        clear HL HG HT HF hl
        go_enter Tryz.func29, Tryz.ntmps29
        go_wp2_with (go_at_call 61; ((with_reducible refine (HC.out _).mono ?_); rintro e w1 ⟨rfl, rfl⟩))
        go_ret
        exact ⟨rfl, rfl⟩
      · have HC := Lib.hid (HL.out x0 true hl)
        have H0 : Hid (okC 0 s[0] = true) := by show _ = _; rw [okI_of 0 s[0] x0 hx0]; unfold okI; rw [hl]; rfl
        clear hl
        go_enter Tryz.func29, Tryz.ntmps29
        go_wp2_with (go_at_call 61; ((with_reducible refine (HC.out _).mono ?_); rintro e w1 ⟨rfl, rfl⟩))
        clear HC HX0 hx0
        go_loop [19] (fun i => ∃ k : Nat, k ≤ s.size ∧ i = .int .i64 k ∧ Hid (∀ j (h : j < s.size), j < k → okC j s[j] = true)) (fun i => s.size - (intOf i).toNat)
        case atStart => exact ⟨0, by omega, rfl, fun j h g => by omega⟩
        case round =>
          obtain ⟨k, hk, rfl, HI⟩ := hrel
          by_cases hlt : k < s.size
          · have hk1 : (k : Int) < (s.size : Int) := by omega
            obtain ⟨x, hx⟩ : ∃ x : Int, (s[k].toNat : Int) = x := ⟨_, rfl⟩
            have HX := Lib.hid hx
            have HO : Hid (okC k s[k] = true ↔ (k = 0 ∧ (decide (65 ≤ x ∧ x ≤ 90) || decide (97 ≤ x ∧ x ≤ 122)) = true) ∨ (k ≠ 0 ∧ ((decide (65 ≤ x ∧ x ≤ 90) || decide (97 ≤ x ∧ x ≤ 122)) = true ∨ decide (48 ≤ x ∧ x ≤ 57) = true ∨ x = 95 ∨ x = 45))) := by
              show _ ↔ _
              rw [okI_of k s[k] x hx]
              unfold okI
              by_cases e : k = 0
              · subst e; simp
              · simp [e]; omega
            have H1 : Hid (k = 0 → (decide (65 ≤ x ∧ x ≤ 90) || decide (97 ≤ x ∧ x ≤ 122)) = true) := fun e => by
              have h1 := H0.out
              subst e
              rcases HO.out.1 h1 with ⟨_, q⟩ | ⟨q, _⟩
              · exact q
              · exact absurd rfl q
            have HI2 : Hid (okC k s[k] = true → ∀ j (h : j < s.size), j < k + 1 → okC j s[j] = true) := fun g j hj hj2 => by
              rcases Nat.lt_or_ge j k with q | q
              · exact HI.out j hj q
              · obtain rfl : j = k := by omega
                exact g
            have HF2 : Hid (okC k s[k] = false → b = false) := HF.out k hlt
            clear HT HF HI
            cases hl : (decide (65 ≤ x ∧ x ≤ 90) || decide (97 ≤ x ∧ x ≤ 122))
            · have hk0 : k ≠ 0 := fun e => by have := H1.out e; rw [hl] at this; cases this
              have HC1 := Lib.hid (HL.out x false hl)
              cases hd : decide (48 ≤ x ∧ x ≤ 57)
              · have HC2 := Lib.hid (HG.out x false hd)
                by_cases h95 : x = 95
                · subst h95
                  have HN := Lib.hid (HI2.out (HO.out.2 (.inr ⟨hk0, .inr (.inr (.inl rfl))⟩)))
                  clear HF2 HI2 HO H1 HL HG hl hd H0
                  go_wp2_with (first
                    | (go_at_call 61; ((with_reducible refine (HC1.out _).mono ?_); rintro e w1 ⟨rfl, rfl⟩))
                    | (go_at_call 62; ((with_reducible refine (HC2.out _).mono ?_); rintro e w1 ⟨rfl, rfl⟩)))
                  go_round
                  case rel => exact ⟨k + 1, by omega, by go_num, HN⟩
                  case measure => simp [intOf]; omega
                · by_cases h45 : x = 45
                  · subst h45
                    have HN := Lib.hid (HI2.out (HO.out.2 (.inr ⟨hk0, .inr (.inr (.inr rfl))⟩)))
                    clear HF2 HI2 HO H1 HL HG hl hd H0
                    go_wp2_with (first
                      | (go_at_call 61; ((with_reducible refine (HC1.out _).mono ?_); rintro e w1 ⟨rfl, rfl⟩))
                      | (go_at_call 62; ((with_reducible refine (HC2.out _).mono ?_); rintro e w1 ⟨rfl, rfl⟩)))
                    go_round
                    case rel => exact ⟨k + 1, by omega, by go_num, HN⟩
                    case measure => simp [intOf]; omega
                  · have hb : b = false := HF2.out (by
                      rw [Bool.eq_false_iff]
                      intro g
                      rcases HO.out.1 g with ⟨q, _⟩ | ⟨_, q | q | q | q⟩
                      · exact hk0 q
                      · rw [hl] at q; cases q
                      · rw [hd] at q; cases q
                      · exact h95 q
                      · exact h45 q)
                    subst hb
                    have n1 : (x != 95) = true := by rw [bne_iff_ne]; exact h95
                    have n2 : (x != 45) = true := by rw [bne_iff_ne]; exact h45
                    clear HF2 HI2 HO H1 HL HG hl hd H0
                    go_wp2_with (first
                      | (go_at_call 61; ((with_reducible refine (HC1.out _).mono ?_); rintro e w1 ⟨rfl, rfl⟩))
                      | (go_at_call 62; ((with_reducible refine (HC2.out _).mono ?_); rintro e w1 ⟨rfl, rfl⟩)))
                    go_ret
                    exact ⟨rfl, rfl⟩
              · have HC2 := Lib.hid (HG.out x true hd)
                have HN := Lib.hid (HI2.out (HO.out.2 (.inr ⟨hk0, .inr (.inl hd)⟩)))
                clear HF2 HI2 HO H1 HL HG hl hd H0
                go_wp2_with (first
                  | (go_at_call 61; ((with_reducible refine (HC1.out _).mono ?_); rintro e w1 ⟨rfl, rfl⟩))
                  | (go_at_call 62; ((with_reducible refine (HC2.out _).mono ?_); rintro e w1 ⟨rfl, rfl⟩)))
                go_round
                case rel => exact ⟨k + 1, by omega, by go_num, HN⟩
                case measure => simp [intOf]; omega
            · have HC1 := Lib.hid (HL.out x true hl)
              have HN := Lib.hid (HI2.out (HO.out.2 (by
                by_cases e : k = 0
                · exact .inl ⟨e, hl⟩
                · exact .inr ⟨e, .inl hl⟩)))
              clear HF2 HI2 HO H1 HL HG hl H0
              go_wp2_with (go_at_call 61; ((with_reducible refine (HC1.out _).mono ?_); rintro e w1 ⟨rfl, rfl⟩))
              go_round
              case rel => exact ⟨k + 1, by omega, by go_num, HN⟩
              case measure => simp [intOf]; omega
          · obtain rfl : k = s.size := by omega
            obtain rfl := HT.out (fun j hj => HI.out j hj hj)
            clear HT HF HI H0 HL HG
            go_wp2
            go_ret
            exact ⟨rfl, rfl⟩
    · have hb : b = false := by
        rw [← h, Bool.eq_false_iff]
        intro e
        exact h40 ((name_iff s).1 e).1.2
      have g2 : 40 < (s.size : Int) := by omega
      subst hb
      clear h HL HG
      go_enter Tryz.func29, Tryz.ntmps29
      go_wp2
      go_ret
      exact ⟨rfl, rfl⟩
/-- A store of a map's literal, at its operation. -/
theorem wpList_insert_own {H : Type} {P : Program} (w : World) {ops : Array Oper} {rest : List Oper} {o : Oper} {a : Act} {Q : Exit → Act → World → Prop}
    (hg : o.guard = none) (m x v : Operand) (t : TypeId) (hop : o.op = Op.insert t m x v)
    (k e : TypeId) (K : Keyed P k) (ht : P.underlying t = some (.map k e)) (R : Value → Option (DataW H × List MemPlace)) (b n : Nat) (D : DataW H)
    (hm : a.eval m = .map (some b)) (hown : w.ownsMap P k R b n D) (hn : n < maxLen) (key val : Value) (kl : Lit) (hx : a.eval x = key) (hv : a.eval v = val) (hkey : keyOf P k key = some kl)
    (d : DataW H) (ps : List MemPlace) (hval : R val = some (d, ps))
    (hK : ∀ w', w'.ownsMap P k R b (n + 1) (D.put kl d) → w.grownBy w' (some b) → wpList P ops Q rest (a.put o.dst undef) w') :
    wpList P ops Q (o :: rest) a w := by
  refine wpList_plain hg fun K' hK' => ?_
  obtain ⟨w', hrun, r1, r2⟩ := hown.update K ht hn hkey hval
  unfold Oper.wp
  simp [execOp, hop, hm, hx, hv, hrun, Result.andThen]
  exact hK' _ _ (hK w' r1 r2)
/-- The table of the units. -/
def curD : DataW Unit := ((((((DataW.map []).put (.string [74, 80, 89]) (.lit (.int .i64 0))).put (.string [75, 82, 87]) (.lit (.int .i64 0))).put (.string [86, 78, 68]) (.lit (.int .i64 0))).put (.string [66, 72, 68]) (.lit (.int .i64 3))).put (.string [75, 87, 68]) (.lit (.int .i64 3))).put (.string [84, 78, 68]) (.lit (.int .i64 3))
theorem strK : Keyed Tryz.prog 9 := string_keyed Tryz.underlying9
theorem zeroIM (w : World) : (zeroValue 3).run Tryz.prog w = .ok (.int .i64 0) w := by kernel_rfl
theorem keyM {s : ByteArray} (h : s.size ≤ 40) : keyOf Tryz.prog 9 (.string s) = some (.string s.data.toList) := WideMaps.keyOf_string_mk Tryz.underlying9 (by unfold maxLen; omega)
def UniR (w : World) (e : Ending) (w' : World) : Prop := ∃ B, e = .returned (.map (some B)) ∧ w'.ownsMap Tryz.prog 9 (plainElem Tryz.prog 3) B 6 curD ∧ Below w.heap.size w w'
set_option maxRecDepth 100000 in
set_option maxHeartbeats 1600000 in
theorem plisted_any (w : World) : Calls Tryz.prog 30 #[] w (UniR w) := by
  have hmm := @run_makeMap Tryz.prog
  have k0 : keyOf Tryz.prog 9 (.string ⟨#[74, 80, 89]⟩) = some (.string [74, 80, 89]) := keyM (s := ⟨#[74, 80, 89]⟩) (by decide)
  have k1 : keyOf Tryz.prog 9 (.string ⟨#[75, 82, 87]⟩) = some (.string [75, 82, 87]) := keyM (s := ⟨#[75, 82, 87]⟩) (by decide)
  have k2 : keyOf Tryz.prog 9 (.string ⟨#[86, 78, 68]⟩) = some (.string [86, 78, 68]) := keyM (s := ⟨#[86, 78, 68]⟩) (by decide)
  have k3 : keyOf Tryz.prog 9 (.string ⟨#[66, 72, 68]⟩) = some (.string [66, 72, 68]) := keyM (s := ⟨#[66, 72, 68]⟩) (by decide)
  have k4 : keyOf Tryz.prog 9 (.string ⟨#[75, 87, 68]⟩) = some (.string [75, 87, 68]) := keyM (s := ⟨#[75, 87, 68]⟩) (by decide)
  have k5 : keyOf Tryz.prog 9 (.string ⟨#[84, 78, 68]⟩) = some (.string [84, 78, 68]) := keyM (s := ⟨#[84, 78, 68]⟩) (by decide)
  have e0 : plainElem (H := Unit) Tryz.prog 3 (.int .i64 0) = some (.lit (.int .i64 0), []) := plainElem_int Tryz.underlying3 (by decide)
  have e3 : plainElem (H := Unit) Tryz.prog 3 (.int .i64 3) = some (.lit (.int .i64 3), []) := plainElem_int Tryz.underlying3 (by decide)
  have o0 := World.ownsMap_made w Tryz.prog 9 (plainElem (H := Unit) Tryz.prog 3)
  have hb0 : Below w.heap.size w (w.alloc (.map #[] 0)) := (Below.refl _ _).alloc (Nat.le_refl _) _
  go_enter Tryz.func30, Tryz.ntmps30
  go_wp2_with (first
    | (refine wpList_insert_own _ rfl _ _ _ 58 rfl 9 3 strK Tryz.underlying58 _ _ _ _ rfl o0 (by unfold maxLen; omega) _ _ _ rfl rfl k0 _ [] e0 ?_; intro w1 o1 g1)
    | (refine wpList_insert_own _ rfl _ _ _ 58 rfl 9 3 strK Tryz.underlying58 _ _ _ _ rfl o1 (by unfold maxLen; omega) _ _ _ rfl rfl k1 _ [] e0 ?_; intro w2 o2 g2)
    | (refine wpList_insert_own _ rfl _ _ _ 58 rfl 9 3 strK Tryz.underlying58 _ _ _ _ rfl o2 (by unfold maxLen; omega) _ _ _ rfl rfl k2 _ [] e0 ?_; intro w3 o3 g3)
    | (refine wpList_insert_own _ rfl _ _ _ 58 rfl 9 3 strK Tryz.underlying58 _ _ _ _ rfl o3 (by unfold maxLen; omega) _ _ _ rfl rfl k3 _ [] e3 ?_; intro w4 o4 g4)
    | (refine wpList_insert_own _ rfl _ _ _ 58 rfl 9 3 strK Tryz.underlying58 _ _ _ _ rfl o4 (by unfold maxLen; omega) _ _ _ rfl rfl k4 _ [] e3 ?_; intro w5 o5 g5)
    | (refine wpList_insert_own _ rfl _ _ _ 58 rfl 9 3 strK Tryz.underlying58 _ _ _ _ rfl o5 (by unfold maxLen; omega) _ _ _ rfl rfl k5 _ [] e3 ?_; intro w6 o6 g6))
  have b1 := hb0.grown g1 (by simp) (fun k hk => by cases hk; exact Nat.le_refl _)
  have b2 := b1.grown g2 b1.size (fun k hk => by cases hk; exact Nat.le_refl _)
  have b3 := b2.grown g3 b2.size (fun k hk => by cases hk; exact Nat.le_refl _)
  have b4 := b3.grown g4 b3.size (fun k hk => by cases hk; exact Nat.le_refl _)
  have b5 := b4.grown g5 b4.size (fun k hk => by cases hk; exact Nat.le_refl _)
  have b6 := b5.grown g6 b5.size (fun k hk => by cases hk; exact Nat.le_refl _)
  have h6 : UniR w (.returned (.map (some w.heap.size))) w6 := ⟨_, rfl, o6, b6⟩
  clear g1 g2 g3 g4 g5 g6 o0 o1 o2 o3 o4 o5 o6 b1 b2 b3 b4 b5 b6 hb0 hmm
  go_ret
  exact h6
/-- What the table says. -/
theorem cur_keys {l : List UInt8} {k : List UInt8} (h : l ≠ k) : (Lit.string l : Lit) ≠ Lit.string k := fun e => h (by injection e)
theorem cur_find (l : List UInt8) : (Maps.has curD (.string l) = true ∧ curD.atKey (.string l) (.lit (.int .i64 0)) = .lit (.int .i64 (unU l)) ∧ unU l ≠ 2) ∨ (Maps.has curD (.string l) = false ∧ unU l = 2) := by
  by_cases h1 : l = [74, 80, 89]
  · subst h1; exact .inl ⟨by rfl, by rfl, by decide⟩
  by_cases h2 : l = [75, 82, 87]
  · subst h2; exact .inl ⟨by rfl, by rfl, by decide⟩
  by_cases h3 : l = [86, 78, 68]
  · subst h3; exact .inl ⟨by rfl, by rfl, by decide⟩
  by_cases h4 : l = [66, 72, 68]
  · subst h4; exact .inl ⟨by rfl, by rfl, by decide⟩
  by_cases h5 : l = [75, 87, 68]
  · subst h5; exact .inl ⟨by rfl, by rfl, by decide⟩
  by_cases h6 : l = [84, 78, 68]
  · subst h6; exact .inl ⟨by rfl, by rfl, by decide⟩
  · right
    refine ⟨?_, ?_⟩
    · unfold curD
      rw [has_put_other (cur_keys h6), has_put_other (cur_keys h5), has_put_other (cur_keys h4), has_put_other (cur_keys h3), has_put_other (cur_keys h2), has_put_other (cur_keys h1)]
      rfl
    · unfold unU
      rw [if_neg (by simp [h1, h2, h3]), if_neg (by simp [h4, h5, h6])]
def UnR (v e : Int) (w : World) (x : Ending) (w' : World) : Prop := x = .returned (.tuple #[.int .i64 v, .int .i64 e]) ∧ Below w.heap.size w w'
set_option maxRecDepth 100000 in
set_option maxHeartbeats 1600000 in
theorem punit_any (s : ByteArray) (w : World) : Calls Tryz.prog 10 #[.string s] w (UnR (unV s.data.toList) (unE s.data.toList) w) := by
  have HN := Lib.hid (fun b h => pname_any s b h w)
  unfold unV unE
  cases hn : nameB s.data.toList
  · have HC := Lib.hid (HN.out false hn)
    simp only [Bool.false_eq_true, if_false]
    clear HN hn
    go_enter Tryz.func10, Tryz.ntmps10
    go_wp2_with (go_at_call 29; ((with_reducible refine HC.out.mono ?_); rintro x w1 ⟨rfl, rfl⟩))
    go_ret2
    exact ⟨rfl, Below.refl _ _⟩
  · have HC := Lib.hid (HN.out true hn)
    have h40 : s.size ≤ 40 := ((name_iff s).1 hn).1.2
    have HK := keyM h40
    simp only [if_true]
    clear HN hn
    have HU := Lib.hid (plisted_any w)
    obtain ⟨F, hF⟩ : ∃ F, Maps.has curD (.string s.data.toList) = F := ⟨_, rfl⟩
    have HF := Lib.hid hF
    have HX := Lib.hid (cur_find s.data.toList)
    obtain ⟨U, hU⟩ : ∃ U : Nat, unU s.data.toList = U := ⟨_, rfl⟩
    rw [hU] at HX ⊢
    clear hU
    clear hF
    cases F
    · go_enter Tryz.func10, Tryz.ntmps10
      go_wp2_with (first
        | (go_at_call 29; ((with_reducible refine HC.out.mono ?_); rintro x w1 ⟨rfl, rfl⟩))
        | (go_at_call 30; ((with_reducible refine HU.out.mono ?_); rintro x w1 ⟨B, rfl, ho, hb⟩))
        | (at_lookup; refine wpList_lookup_own_ok_int _ rfl _ _ 58 rfl 9 3 .i64 strK Tryz.underlying58 Tryz.underlying3 (zeroIM _) B 6 curD rfl ho _ _ rfl HK ?_; rw [HF.out]; intro c hat hwc))
      go_ret2
      have hU : U = 2 := by
        rcases HX.out with ⟨q, -⟩ | ⟨-, q⟩
        · rw [HF.out] at q; cases q
        · omega
      subst hU
      exact ⟨rfl, hb⟩
    · go_enter Tryz.func10, Tryz.ntmps10
      go_wp2_with (first
        | (go_at_call 29; ((with_reducible refine HC.out.mono ?_); rintro x w1 ⟨rfl, rfl⟩))
        | (go_at_call 30; ((with_reducible refine HU.out.mono ?_); rintro x w1 ⟨B, rfl, ho, hb⟩))
        | (at_lookup; refine wpList_lookup_own_ok_int _ rfl _ _ 58 rfl 9 3 .i64 strK Tryz.underlying58 Tryz.underlying3 (zeroIM _) B 6 curD rfl ho _ _ rfl HK ?_; rw [HF.out]; intro c hat hwc))
      go_ret2
      have hU : c = U := by
        rcases HX.out with ⟨-, q, -⟩ | ⟨q, -⟩
        · rw [hat] at q; injection q with q; injection q
        · rw [HF.out] at q; cases q
      subst hU
      exact ⟨rfl, hb⟩
end Go.Proofs.YtalnfbgaiegicaaGreatDoor
