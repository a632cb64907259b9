/- Layer 5: the reference's walks: Thirty, Days. -/
import Derived.Test.YtpgfadkkfofhcaaGreatDoorDatE
import Derived.Test.YtpgfadkkfofhcaaGreatDoorDcD
namespace Go.Proofs.YtpgfadkkfofhcaaGreatDoor
open Go Go.RowKit

set_option maxRecDepth 100000 in
set_option maxHeartbeats 3200000 in
theorem refThirty_walk (n1 y1 m1 d1 n2 y2 m2 d2 s v : Int) (b : Bool) (h1 : IsDate y1 m1 d1 n1) (h2 : IsDate y2 m2 d2 n2) (b1 : n1 ≤ 99999) (b2 : n2 ≤ 99999) (hy : y1 ≤ y2) (hv : s + 360 * (y2 - y1) + 30 * (m2 - m1) = v)
    (hc : (d1 ≠ 31 ∧ d2 ≠ 31 ∧ d2 - d1 = s) ∨ (d1 ≠ 31 ∧ d2 = 31 ∧ b = false ∧ 30 - d1 = s) ∨ (d1 = 30 ∧ d2 = 31 ∧ b = true ∧ 0 = s) ∨ (d1 < 30 ∧ d2 = 31 ∧ b = true ∧ 31 - d1 = s) ∨ (d1 = 31 ∧ d2 ≠ 31 ∧ d2 - 30 = s) ∨ (d1 = 31 ∧ d2 = 31 ∧ 0 = s)) (w : World) :
    Calls Tryz.prog 45 #[.int .i64 n1, .int .i64 n2, .bool b] w (IntW v w) := by
  have HP := Lib.hid (refParts_in y1 m1 d1 n1 h1 b1)
  have HQ := Lib.hid (refParts_in y2 m2 d2 n2 h2 b2)
  obtain ⟨p0, p1, p2, p3, p4, p5, -⟩ := h1.bds b1
  obtain ⟨q0, q1, q2, q3, q4, q5, -⟩ := h2.bds b2
  have s0 : -31 ≤ s := by omega
  have s1 : s ≤ 31 := by omega
  have HV := Lib.hid hv
  clear h1 h2 b1 b2 hv
  rcases hc with ⟨e1, e2, rfl⟩ | ⟨e1, rfl, rfl, rfl⟩ | ⟨rfl, rfl, rfl, rfl⟩ | ⟨e1, rfl, rfl, rfl⟩ | ⟨rfl, e2, rfl⟩ | ⟨rfl, rfl, rfl⟩
  · have x1 : (d1 == 31) = false := by rw [beq_eq_false_iff_ne]; exact e1
    clear e1
    have x2 : (d2 == 31) = false := by rw [beq_eq_false_iff_ne]; exact e2
    clear e2
    go_enter Tryz.func45, Tryz.ntmps45
    go_wp2_with (first
      | (go_at_call 65; ((with_reducible refine (HP.out _).mono ?_); rintro e w' ⟨rfl, rfl⟩))
      | (go_at_call 65; ((with_reducible refine (HQ.out _).mono ?_); rintro e w' ⟨rfl, rfl⟩)))
    clear x1 x2
    generalize hs : d2 - d1 = s at *
    have HS := Lib.hid hs
    clear hs HS
    go_loop [7, 15] (fun y n => ∃ z : Int, y = .int .i64 z ∧ n = .int .i64 (s + 360 * (z - y1)) ∧ y1 ≤ z ∧ z ≤ y2) (fun y _ => (y2 - intOf y).toNat)
    case atStart => exact ⟨y1, rfl, int_eqD (by omega), by omega, hy⟩
    case round =>
      obtain ⟨z, rfl, rfl, z0, z1⟩ := hrel
      by_cases hz : z < y2
      · go_wp2
        go_round
        case rel => exact ⟨z + 1, rfl, int_eqD (by omega), by omega, by omega⟩
        case measure => simp [intOf]; omega
      · obtain rfl : y2 = z := by omega
        have t0 : -31 ≤ s + 360 * (y2 - y1) := by omega
        have t1 : s + 360 * (y2 - y1) ≤ 98400 := by omega
        generalize s + 360 * (y2 - y1) = t at *
        go_wp2
        go_loop [8, 15] (fun m n => ∃ x : Int, m = .int .i64 x ∧ n = .int .i64 (t + 30 * (x - m1)) ∧ m1 ≤ x ∧ x ≤ 12 ∧ (x ≤ m2 ∨ x = m1)) (fun m _ => (m2 - intOf m).toNat)
        case atStart => exact ⟨m1, rfl, int_eqD (by omega), by omega, by omega, .inr rfl⟩
        case round =>
          obtain ⟨x, rfl, rfl, x0, x1, x2⟩ := hrel
          by_cases hx : x < m2
          · clear x2
            go_wp2
            go_round
            case rel => exact ⟨x + 1, rfl, int_eqD (by omega), by omega, by omega, by omega⟩
            case measure => simp [intOf]; omega
          · clear x2
            have hx' : m2 ≤ x := by omega
            go_wp2
            go_loop [8, 15] (fun m n => ∃ u : Int, m = .int .i64 u ∧ n = .int .i64 (t + 30 * (u - m1)) ∧ m2 ≤ u ∧ u ≤ 12) (fun m _ => (intOf m - m2).toNat)
            case atStart => exact ⟨x, rfl, rfl, hx', x1⟩
            case round =>
              obtain ⟨u, rfl, rfl, u0, u1⟩ := hrel
              by_cases hu : m2 < u
              · go_wp2
                go_round
                case rel => exact ⟨u - 1, rfl, int_eqD (by omega), by omega, by omega⟩
                case measure => simp [intOf]; omega
              · obtain rfl : u = m2 := by omega
                go_wp2
                go_ret
                exact ⟨ret_intD HV.out, rfl⟩
  · have x1 : (d1 == 31) = false := by rw [beq_eq_false_iff_ne]; exact e1
    clear e1
    go_enter Tryz.func45, Tryz.ntmps45
    go_wp2_with (first
      | (go_at_call 65; ((with_reducible refine (HP.out _).mono ?_); rintro e w' ⟨rfl, rfl⟩))
      | (go_at_call 65; ((with_reducible refine (HQ.out _).mono ?_); rintro e w' ⟨rfl, rfl⟩)))
    clear x1
    generalize hs : 30 - d1 = s at *
    have HS := Lib.hid hs
    clear hs HS
    go_loop [7, 15] (fun y n => ∃ z : Int, y = .int .i64 z ∧ n = .int .i64 (s + 360 * (z - y1)) ∧ y1 ≤ z ∧ z ≤ y2) (fun y _ => (y2 - intOf y).toNat)
    case atStart => exact ⟨y1, rfl, int_eqD (by omega), by omega, hy⟩
    case round =>
      obtain ⟨z, rfl, rfl, z0, z1⟩ := hrel
      by_cases hz : z < y2
      · go_wp2
        go_round
        case rel => exact ⟨z + 1, rfl, int_eqD (by omega), by omega, by omega⟩
        case measure => simp [intOf]; omega
      · obtain rfl : y2 = z := by omega
        have t0 : -31 ≤ s + 360 * (y2 - y1) := by omega
        have t1 : s + 360 * (y2 - y1) ≤ 98400 := by omega
        generalize s + 360 * (y2 - y1) = t at *
        go_wp2
        go_loop [8, 15] (fun m n => ∃ x : Int, m = .int .i64 x ∧ n = .int .i64 (t + 30 * (x - m1)) ∧ m1 ≤ x ∧ x ≤ 12 ∧ (x ≤ m2 ∨ x = m1)) (fun m _ => (m2 - intOf m).toNat)
        case atStart => exact ⟨m1, rfl, int_eqD (by omega), by omega, by omega, .inr rfl⟩
        case round =>
          obtain ⟨x, rfl, rfl, x0, x1, x2⟩ := hrel
          by_cases hx : x < m2
          · clear x2
            go_wp2
            go_round
            case rel => exact ⟨x + 1, rfl, int_eqD (by omega), by omega, by omega, by omega⟩
            case measure => simp [intOf]; omega
          · clear x2
            have hx' : m2 ≤ x := by omega
            go_wp2
            go_loop [8, 15] (fun m n => ∃ u : Int, m = .int .i64 u ∧ n = .int .i64 (t + 30 * (u - m1)) ∧ m2 ≤ u ∧ u ≤ 12) (fun m _ => (intOf m - m2).toNat)
            case atStart => exact ⟨x, rfl, rfl, hx', x1⟩
            case round =>
              obtain ⟨u, rfl, rfl, u0, u1⟩ := hrel
              by_cases hu : m2 < u
              · go_wp2
                go_round
                case rel => exact ⟨u - 1, rfl, int_eqD (by omega), by omega, by omega⟩
                case measure => simp [intOf]; omega
              · obtain rfl : u = m2 := by omega
                go_wp2
                go_ret
                exact ⟨ret_intD HV.out, rfl⟩
  · go_enter Tryz.func45, Tryz.ntmps45
    go_wp2_with (first
      | (go_at_call 65; ((with_reducible refine (HP.out _).mono ?_); rintro e w' ⟨rfl, rfl⟩))
      | (go_at_call 65; ((with_reducible refine (HQ.out _).mono ?_); rintro e w' ⟨rfl, rfl⟩)))
    go_loop [7, 15] (fun y n => ∃ z : Int, y = .int .i64 z ∧ n = .int .i64 (0 + 360 * (z - y1)) ∧ y1 ≤ z ∧ z ≤ y2) (fun y _ => (y2 - intOf y).toNat)
    case atStart => exact ⟨y1, rfl, int_eqD (by omega), by omega, hy⟩
    case round =>
      obtain ⟨z, rfl, rfl, z0, z1⟩ := hrel
      by_cases hz : z < y2
      · go_wp2
        go_round
        case rel => exact ⟨z + 1, rfl, int_eqD (by omega), by omega, by omega⟩
        case measure => simp [intOf]; omega
      · obtain rfl : y2 = z := by omega
        have t0 : -31 ≤ 0 + 360 * (y2 - y1) := by omega
        have t1 : 0 + 360 * (y2 - y1) ≤ 98400 := by omega
        generalize 0 + 360 * (y2 - y1) = t at *
        go_wp2
        go_loop [8, 15] (fun m n => ∃ x : Int, m = .int .i64 x ∧ n = .int .i64 (t + 30 * (x - m1)) ∧ m1 ≤ x ∧ x ≤ 12 ∧ (x ≤ m2 ∨ x = m1)) (fun m _ => (m2 - intOf m).toNat)
        case atStart => exact ⟨m1, rfl, int_eqD (by omega), by omega, by omega, .inr rfl⟩
        case round =>
          obtain ⟨x, rfl, rfl, x0, x1, x2⟩ := hrel
          by_cases hx : x < m2
          · clear x2
            go_wp2
            go_round
            case rel => exact ⟨x + 1, rfl, int_eqD (by omega), by omega, by omega, by omega⟩
            case measure => simp [intOf]; omega
          · clear x2
            have hx' : m2 ≤ x := by omega
            go_wp2
            go_loop [8, 15] (fun m n => ∃ u : Int, m = .int .i64 u ∧ n = .int .i64 (t + 30 * (u - m1)) ∧ m2 ≤ u ∧ u ≤ 12) (fun m _ => (intOf m - m2).toNat)
            case atStart => exact ⟨x, rfl, rfl, hx', x1⟩
            case round =>
              obtain ⟨u, rfl, rfl, u0, u1⟩ := hrel
              by_cases hu : m2 < u
              · go_wp2
                go_round
                case rel => exact ⟨u - 1, rfl, int_eqD (by omega), by omega, by omega⟩
                case measure => simp [intOf]; omega
              · obtain rfl : u = m2 := by omega
                go_wp2
                go_ret
                exact ⟨ret_intD HV.out, rfl⟩
  · have x1 : (d1 == 31) = false := by rw [beq_eq_false_iff_ne]; omega
    have x3 : (d1 == 30) = false := by rw [beq_eq_false_iff_ne]; omega
    clear e1
    go_enter Tryz.func45, Tryz.ntmps45
    go_wp2_with (first
      | (go_at_call 65; ((with_reducible refine (HP.out _).mono ?_); rintro e w' ⟨rfl, rfl⟩))
      | (go_at_call 65; ((with_reducible refine (HQ.out _).mono ?_); rintro e w' ⟨rfl, rfl⟩)))
    clear x1 x3
    generalize hs : 31 - d1 = s at *
    have HS := Lib.hid hs
    clear hs HS
    go_loop [7, 15] (fun y n => ∃ z : Int, y = .int .i64 z ∧ n = .int .i64 (s + 360 * (z - y1)) ∧ y1 ≤ z ∧ z ≤ y2) (fun y _ => (y2 - intOf y).toNat)
    case atStart => exact ⟨y1, rfl, int_eqD (by omega), by omega, hy⟩
    case round =>
      obtain ⟨z, rfl, rfl, z0, z1⟩ := hrel
      by_cases hz : z < y2
      · go_wp2
        go_round
        case rel => exact ⟨z + 1, rfl, int_eqD (by omega), by omega, by omega⟩
        case measure => simp [intOf]; omega
      · obtain rfl : y2 = z := by omega
        have t0 : -31 ≤ s + 360 * (y2 - y1) := by omega
        have t1 : s + 360 * (y2 - y1) ≤ 98400 := by omega
        generalize s + 360 * (y2 - y1) = t at *
        go_wp2
        go_loop [8, 15] (fun m n => ∃ x : Int, m = .int .i64 x ∧ n = .int .i64 (t + 30 * (x - m1)) ∧ m1 ≤ x ∧ x ≤ 12 ∧ (x ≤ m2 ∨ x = m1)) (fun m _ => (m2 - intOf m).toNat)
        case atStart => exact ⟨m1, rfl, int_eqD (by omega), by omega, by omega, .inr rfl⟩
        case round =>
          obtain ⟨x, rfl, rfl, x0, x1, x2⟩ := hrel
          by_cases hx : x < m2
          · clear x2
            go_wp2
            go_round
            case rel => exact ⟨x + 1, rfl, int_eqD (by omega), by omega, by omega, by omega⟩
            case measure => simp [intOf]; omega
          · clear x2
            have hx' : m2 ≤ x := by omega
            go_wp2
            go_loop [8, 15] (fun m n => ∃ u : Int, m = .int .i64 u ∧ n = .int .i64 (t + 30 * (u - m1)) ∧ m2 ≤ u ∧ u ≤ 12) (fun m _ => (intOf m - m2).toNat)
            case atStart => exact ⟨x, rfl, rfl, hx', x1⟩
            case round =>
              obtain ⟨u, rfl, rfl, u0, u1⟩ := hrel
              by_cases hu : m2 < u
              · go_wp2
                go_round
                case rel => exact ⟨u - 1, rfl, int_eqD (by omega), by omega, by omega⟩
                case measure => simp [intOf]; omega
              · obtain rfl : u = m2 := by omega
                go_wp2
                go_ret
                exact ⟨ret_intD HV.out, rfl⟩
  · have x2 : (d2 == 31) = false := by rw [beq_eq_false_iff_ne]; exact e2
    clear e2
    go_enter Tryz.func45, Tryz.ntmps45
    go_wp2_with (first
      | (go_at_call 65; ((with_reducible refine (HP.out _).mono ?_); rintro e w' ⟨rfl, rfl⟩))
      | (go_at_call 65; ((with_reducible refine (HQ.out _).mono ?_); rintro e w' ⟨rfl, rfl⟩)))
    clear x2
    generalize hs : d2 - 30 = s at *
    have HS := Lib.hid hs
    clear hs HS
    go_loop [7, 15] (fun y n => ∃ z : Int, y = .int .i64 z ∧ n = .int .i64 (s + 360 * (z - y1)) ∧ y1 ≤ z ∧ z ≤ y2) (fun y _ => (y2 - intOf y).toNat)
    case atStart => exact ⟨y1, rfl, int_eqD (by omega), by omega, hy⟩
    case round =>
      obtain ⟨z, rfl, rfl, z0, z1⟩ := hrel
      by_cases hz : z < y2
      · go_wp2
        go_round
        case rel => exact ⟨z + 1, rfl, int_eqD (by omega), by omega, by omega⟩
        case measure => simp [intOf]; omega
      · obtain rfl : y2 = z := by omega
        have t0 : -31 ≤ s + 360 * (y2 - y1) := by omega
        have t1 : s + 360 * (y2 - y1) ≤ 98400 := by omega
        generalize s + 360 * (y2 - y1) = t at *
        go_wp2
        go_loop [8, 15] (fun m n => ∃ x : Int, m = .int .i64 x ∧ n = .int .i64 (t + 30 * (x - m1)) ∧ m1 ≤ x ∧ x ≤ 12 ∧ (x ≤ m2 ∨ x = m1)) (fun m _ => (m2 - intOf m).toNat)
        case atStart => exact ⟨m1, rfl, int_eqD (by omega), by omega, by omega, .inr rfl⟩
        case round =>
          obtain ⟨x, rfl, rfl, x0, x1, x2⟩ := hrel
          by_cases hx : x < m2
          · clear x2
            go_wp2
            go_round
            case rel => exact ⟨x + 1, rfl, int_eqD (by omega), by omega, by omega, by omega⟩
            case measure => simp [intOf]; omega
          · clear x2
            have hx' : m2 ≤ x := by omega
            go_wp2
            go_loop [8, 15] (fun m n => ∃ u : Int, m = .int .i64 u ∧ n = .int .i64 (t + 30 * (u - m1)) ∧ m2 ≤ u ∧ u ≤ 12) (fun m _ => (intOf m - m2).toNat)
            case atStart => exact ⟨x, rfl, rfl, hx', x1⟩
            case round =>
              obtain ⟨u, rfl, rfl, u0, u1⟩ := hrel
              by_cases hu : m2 < u
              · go_wp2
                go_round
                case rel => exact ⟨u - 1, rfl, int_eqD (by omega), by omega, by omega⟩
                case measure => simp [intOf]; omega
              · obtain rfl : u = m2 := by omega
                go_wp2
                go_ret
                exact ⟨ret_intD HV.out, rfl⟩
  · cases b
    all_goals
      go_enter Tryz.func45, Tryz.ntmps45
      go_wp2_with (first
        | (go_at_call 65; ((with_reducible refine (HP.out _).mono ?_); rintro e w' ⟨rfl, rfl⟩))
        | (go_at_call 65; ((with_reducible refine (HQ.out _).mono ?_); rintro e w' ⟨rfl, rfl⟩)))
      go_loop [7, 15] (fun y n => ∃ z : Int, y = .int .i64 z ∧ n = .int .i64 (0 + 360 * (z - y1)) ∧ y1 ≤ z ∧ z ≤ y2) (fun y _ => (y2 - intOf y).toNat)
      case atStart => exact ⟨y1, rfl, int_eqD (by omega), by omega, hy⟩
      case round =>
        obtain ⟨z, rfl, rfl, z0, z1⟩ := hrel
        by_cases hz : z < y2
        · go_wp2
          go_round
          case rel => exact ⟨z + 1, rfl, int_eqD (by omega), by omega, by omega⟩
          case measure => simp [intOf]; omega
        · obtain rfl : y2 = z := by omega
          have t0 : -31 ≤ 0 + 360 * (y2 - y1) := by omega
          have t1 : 0 + 360 * (y2 - y1) ≤ 98400 := by omega
          generalize 0 + 360 * (y2 - y1) = t at *
          go_wp2
          go_loop [8, 15] (fun m n => ∃ x : Int, m = .int .i64 x ∧ n = .int .i64 (t + 30 * (x - m1)) ∧ m1 ≤ x ∧ x ≤ 12 ∧ (x ≤ m2 ∨ x = m1)) (fun m _ => (m2 - intOf m).toNat)
          case atStart => exact ⟨m1, rfl, int_eqD (by omega), by omega, by omega, .inr rfl⟩
          case round =>
            obtain ⟨x, rfl, rfl, x0, x1, x2⟩ := hrel
            by_cases hx : x < m2
            · clear x2
              go_wp2
              go_round
              case rel => exact ⟨x + 1, rfl, int_eqD (by omega), by omega, by omega, by omega⟩
              case measure => simp [intOf]; omega
            · clear x2
              have hx' : m2 ≤ x := by omega
              go_wp2
              go_loop [8, 15] (fun m n => ∃ u : Int, m = .int .i64 u ∧ n = .int .i64 (t + 30 * (u - m1)) ∧ m2 ≤ u ∧ u ≤ 12) (fun m _ => (intOf m - m2).toNat)
              case atStart => exact ⟨x, rfl, rfl, hx', x1⟩
              case round =>
                obtain ⟨u, rfl, rfl, u0, u1⟩ := hrel
                by_cases hu : m2 < u
                · go_wp2
                  go_round
                  case rel => exact ⟨u - 1, rfl, int_eqD (by omega), by omega, by omega⟩
                  case measure => simp [intOf]; omega
                · obtain rfl : u = m2 := by omega
                  go_wp2
                  go_ret
                  exact ⟨ret_intD HV.out, rfl⟩
end Go.Proofs.YtpgfadkkfofhcaaGreatDoor
