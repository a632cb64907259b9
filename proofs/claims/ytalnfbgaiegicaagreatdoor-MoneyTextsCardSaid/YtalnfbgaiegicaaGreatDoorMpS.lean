/- Layer 7: the walks of the reference's Read. -/
import Derived.Test.YtalnfbgaiegicaaGreatDoorMpT
import Derived.Test.YtalnfbgaiegicaaGreatDoorMpR
import Derived.Deep.CutRange
namespace Go.Proofs.YtalnfbgaiegicaaGreatDoor
open Go Go.RowKit

def RdV (n : Int) (c : ByteArray) (e : Int) : Ending := .returned (.tuple #[.int .i64 n, .string c, .int .i64 e])
section
set_option maxRecDepth 100000
set_option maxHeartbeats 6400000
theorem rread_end (s : ByteArray) (a : Nat) (ha : a = s.size) (hs : s.size ≤ 1048576) (w : World) (hA : ∀ k, k < a → ∃ h : k < s.size, (s[k].toNat : Int) ≠ 32) :
    Calls Tryz.prog 24 #[.string s] w fun e w' => e = RdV 0 ⟨#[]⟩ 12 ∧ w = w' := by
  have HA := Lib.hid hA
  have HZ := Lib.hid ha
  clear hA ha
  go_enter Tryz.func24, Tryz.ntmps24
  go_wp2
  go_loop [5] (fun i => ∃ k : Nat, k ≤ a ∧ i = .int .i64 k) (fun i => a - (intOf i).toNat)
  case atStart => exact ⟨0, by omega, rfl⟩
  case round =>
    obtain ⟨k, hk, rfl⟩ := hrel
    by_cases hlt : k < a
    · obtain ⟨hz, hx⟩ := HA.out k hlt
      have hk1 : (k : Int) < (s.size : Int) := by omega
      have hx1 : ((s[k].toNat : Int) != 32) = true := by rw [bne_iff_ne]; exact hx
      clear hx HZ
      go_wp2
      go_round
      case rel => exact ⟨k + 1, by omega, by go_num⟩
      case measure => simp [intOf]; omega
    · obtain rfl : k = a := by omega
      clear HA hlt
      have q1 : ((k : Int) == (s.size : Int)) = true := by rw [beq_iff_eq]; have := HZ.out; omega
      have q2 : ¬ (k : Int) < (s.size : Int) := by have := HZ.out; omega
      go_wp2
      go_ret3
      exact ⟨rfl, rfl⟩
theorem rread_name (s C : ByteArray) (a : Nat) (ha : a < s.size) (hC : s.extract (a + 1) s.size = C) (hs : s.size ≤ 1048576) (uv : Int) (w : World) (hA : ∀ k, k < a → ∃ h : k < s.size, (s[k].toNat : Int) ≠ 32) (hE : (s[a].toNat : Int) = 32)
    (H1 : Calls Tryz.prog 18 #[.string C] w fun e w' => e = .returned (.tuple #[.int .i64 uv, .int .i64 2]) ∧ w = w') :
    Calls Tryz.prog 24 #[.string s] w fun e w' => e = RdV 0 ⟨#[]⟩ 12 ∧ w = w' := by
  have HA := Lib.hid hA
  have J1 := Lib.hid H1
  have q1 : ((a : Int) == (s.size : Int)) = false := by rw [beq_eq_false_iff_ne]; omega
  have q2 : (a : Int) < (s.size : Int) := by omega
  have hE1 : ((s[a].toNat : Int) != 32) = false := by rw [hE]; rfl
  clear hA H1 hE
  go_enter Tryz.func24, Tryz.ntmps24
  go_wp2
  go_loop [5] (fun i => ∃ k : Nat, k ≤ a ∧ i = .int .i64 k) (fun i => a - (intOf i).toNat)
  case atStart => exact ⟨0, by omega, rfl⟩
  case round =>
    obtain ⟨k, hk, rfl⟩ := hrel
    by_cases hlt : k < a
    · obtain ⟨hz, hx⟩ := HA.out k hlt
      have hk1 : (k : Int) < (s.size : Int) := by omega
      have hx1 : ((s[k].toNat : Int) != 32) = true := by rw [bne_iff_ne]; exact hx
      clear hx
      go_wp2
      go_round
      case rel => exact ⟨k + 1, by omega, by go_num⟩
      case measure => simp [intOf]; omega
    · obtain rfl : k = a := by omega
      clear HA hlt
      go_wp2_with (go_at_call 18; ((with_reducible refine J1.out.mono ?_); rintro e w1 ⟨rfl, rfl⟩))
      go_ret3
      exact ⟨rfl, rfl⟩
theorem rread_short (s C : ByteArray) (a u bg : Nat) (hbg : bg = 0 ∨ bg = 1) (ha : a < s.size) (hC : s.extract (a + 1) s.size = C) (hs : s.size ≤ 1048576) (hu : u = 0 ∨ 0 < u) (hu3 : u ≤ 3) (hsh : (a : Int) - (bg : Int) - (if u = 0 then 0 else (u : Int) + 1) < 1) (w : World) (hA : ∀ k, k < a → ∃ h : k < s.size, (s[k].toNat : Int) ≠ 32) (hE : (s[a].toNat : Int) = 32)
    (hS : (bg = 0 ∧ a = 0) ∨ (0 < a ∧ ∃ h : 0 < s.size, ((s[0].toNat : Int) == 45) = decide (bg = 1)))
    (H1 : Calls Tryz.prog 18 #[.string C] w fun e w' => e = .returned (.tuple #[.int .i64 u, .int .i64 0]) ∧ w = w') :
    Calls Tryz.prog 24 #[.string s] w fun e w' => e = RdV 0 ⟨#[]⟩ 12 ∧ w = w' := by
  have HA := Lib.hid hA
  have J1 := Lib.hid H1
  have q1 : ((a : Int) == (s.size : Int)) = false := by rw [beq_eq_false_iff_ne]; omega
  have q2 : (a : Int) < (s.size : Int) := by omega
  have hE1 : ((s[a].toNat : Int) != 32) = false := by rw [hE]; rfl
  have HSH := Lib.hid hsh
  have HSS := Lib.hid hS
  have HUU := Lib.hid hu
  have HBG := Lib.hid hbg
  clear hA H1 hE hsh hS hu hbg
  go_enter Tryz.func24, Tryz.ntmps24
  go_wp2
  go_loop [5] (fun i => ∃ k : Nat, k ≤ a ∧ i = .int .i64 k) (fun i => a - (intOf i).toNat)
  case atStart => exact ⟨0, by omega, rfl⟩
  case round =>
    obtain ⟨k, hk, rfl⟩ := hrel
    by_cases hlt : k < a
    · obtain ⟨hz, hx⟩ := HA.out k hlt
      have hk1 : (k : Int) < (s.size : Int) := by omega
      have hx1 : ((s[k].toNat : Int) != 32) = true := by rw [bne_iff_ne]; exact hx
      clear hx HSH HSS HUU HBG
      go_wp2
      go_round
      case rel => exact ⟨k + 1, by omega, by go_num⟩
      case measure => simp [intOf]; omega
    · obtain rfl : k = a := by omega
      clear HA hlt
      have hsh := HSH.out
      rcases HSS.out with ⟨rfl, rfl⟩ | ⟨h0, hz0, hz⟩
      · rcases HUU.out with rfl | hu
        · clear HSH HSS HUU HBG hsh
          go_wp2_with (go_at_call 18; ((with_reducible refine J1.out.mono ?_); rintro e w1 ⟨rfl, rfl⟩))
          all_goals (go_ret3; exact ⟨rfl, rfl⟩)
        · have hu1 : (0 : Int) < (u : Int) := by omega
          clear HSH HSS HUU HBG hsh hu
          go_wp2_with (go_at_call 18; ((with_reducible refine J1.out.mono ?_); rintro e w1 ⟨rfl, rfl⟩))
          all_goals (go_ret3; exact ⟨rfl, rfl⟩)
      · have h1 : (0 : Int) < (k : Int) := by omega
        rcases HBG.out with rfl | rfl
        all_goals
          rcases HUU.out with rfl | hu
          · rw [if_pos rfl] at hsh
            have hw : (k : Int) < 1 + 1 := by omega
            clear HSH HSS HUU HBG h0
            go_wp2_with (go_at_call 18; ((with_reducible refine J1.out.mono ?_); rintro e w1 ⟨rfl, rfl⟩))
            all_goals (go_ret3; exact ⟨rfl, rfl⟩)
          · rw [if_neg (by omega)] at hsh
            have hu1 : (0 : Int) < (u : Int) := by omega
            clear HSH HSS HUU HBG hu h0
            go_wp2_with (go_at_call 18; ((with_reducible refine J1.out.mono ?_); rintro e w1 ⟨rfl, rfl⟩))
            all_goals (go_ret3; exact ⟨rfl, rfl⟩)
theorem rread_0z (s C : ByteArray) (a  nb wh : Nat) (b : List UInt8) (hb : b.length = nb) (hab : a = nb + 0) (ha : a < s.size) (hC : s.extract (a + 1) s.size = C) (hs : s.size ≤ 1048576)  (hw0 : 1 ≤ wh) (hw : wh = nb) (Q : Ending → World → Prop) (w : World)
    (hA : ∀ k, k < a → ∃ h : k < s.size, (s[k].toNat : Int) ≠ 32) (hE : (s[a].toNat : Int) = 32)
    (hX : ∀ i, 0 ≤ i → i < a → ∃ h : i < s.size, (s[i].toNat : Int) = ((b.getD (i - 0) 0).toNat : Int)) (hS : ∃ h : 0 < s.size, ((s[0].toNat : Int) == 45) = false)
    (H1 : Calls Tryz.prog 18 #[.string C] w fun e w' => e = .returned (.tuple #[.int .i64 0, .int .i64 0]) ∧ w = w')
    (K12 : frmB 0 b = false ∨ (0 = 1 ∧ frmN 0 b = 0) → Q (RdV 0 ⟨#[]⟩ 12) w)
    (K14 : frmB 0 b = true → 1125899906842624 < frmN 0 b → Q (RdV 0 ⟨#[]⟩ 14) w)
    (K0 : ∀ q : Nat, frmB 0 b = true → frmN 0 b = q → q ≤ 1125899906842624 → (0 = 0 ∨ q ≠ 0) → Q (RdV ((q : Int)) C 0) w) :
    Calls Tryz.prog 24 #[.string s] w Q := by
  have hWB : WhB 0 wh b := by unfold WhB; omega
  have HWB := Lib.hid hWB
  have HA := Lib.hid hA
  have J1 := Lib.hid H1
  have HX := Lib.hid hX
  have H12 := Lib.hid K12
  have H14 := Lib.hid K14
  have HK0 := Lib.hid K0
  have HB := Lib.hid hb
  have q1 : ((a : Int) == (s.size : Int)) = false := by rw [beq_eq_false_iff_ne]; omega
  have q2 : (a : Int) < (s.size : Int) := by omega
  have hE1 : ((s[a].toNat : Int) != 32) = false := by rw [hE]; rfl
  have HNB := Lib.hid hab
  have HWW := Lib.hid hw
  have HS0 := Lib.hid hS
  clear hA H1 hX K12 K14 K0 hb hE hWB hab hw hS
  go_enter Tryz.func24, Tryz.ntmps24
  go_wp2
  go_loop [5] (fun i => ∃ k : Nat, k ≤ a ∧ i = .int .i64 k) (fun i => a - (intOf i).toNat)
  case atStart => exact ⟨0, by omega, rfl⟩
  case round =>
    obtain ⟨k, hk, rfl⟩ := hrel
    by_cases hlt : k < a
    · obtain ⟨hz, hx⟩ := HA.out k hlt
      have hk1 : (k : Int) < (s.size : Int) := by omega
      have hx1 : ((s[k].toNat : Int) != 32) = true := by rw [bne_iff_ne]; exact hx
      clear hx HWB HX H12 H14 HK0 HB HNB HWW HS0
      go_wp2
      go_round
      case rel => exact ⟨k + 1, by omega, by go_num⟩
      case measure => simp [intOf]; omega
    · obtain rfl : k = a := by omega
      clear HA hlt
      obtain ⟨hz0, hsg⟩ := HS0.out
      have hab := HNB.out
      have hw := HWW.out
      have ha0 : (0 : Int) < (k : Int) := by omega
      skip
      have hnb : nb = k - 0 := by omega
      have hwk : (wh : Int) ≤ 1048576 := by omega
      obtain ⟨hzb, hxb⟩ := HX.out 0 (by omega) (by omega)
      rw [show 0 - 0 = 0 from rfl] at hxb
      have hx00 : Hid ((s[0].toNat : Int) = ((b.getD 0 0).toNat : Int)) := hxb
      obtain ⟨x0, hx0⟩ : ∃ x0 : Int, (s[0].toNat : Int) = x0 := ⟨_, rfl⟩
      have HX0 : Hid (x0 = ((b.getD 0 0).toNat : Int)) := by show _ = _; rw [← hx0]; exact hxb
      clear hxb hx00
      by_cases h48 : x0 = 48 ∧ 1 < wh
      · obtain ⟨rfl, hw1⟩ := h48
        have hw2 : (1 : Int) < (k : Int) := by omega
        have HP := Lib.hid (H12.out (.inl (frm_no fun wh2 g1 g2 => .inl ⟨by rw [← wh_uniq HWB.out g1]; exact hw1, by
          have := HX0.out
          exact UInt8.toNat_inj.1 (by show _ = 48; omega)⟩)))
        clear HX H12 H14 HK0 HB HWB HNB HWW HS0 HX0 hab hw hnb
        go_wp2_with (go_at_call 18; ((with_reducible refine J1.out.mono ?_); rintro e w1 ⟨rfl, rfl⟩))
        go_ret3
        exact HP.out
      · have HN0 : Hid (1 < wh → b.getD 0 0 ≠ 48) := fun g e => h48 ⟨by rw [HX0.out, e]; rfl, g⟩
        have hd1 : (wh = 1 ∧ ¬ (1 : Int) < (k : Int)) ∨ ((1 : Int) < (k : Int) ∧ (x0 == 48) = false) := by
          rcases Nat.lt_or_ge 1 wh with g | g
          · exact .inr ⟨by omega, by rw [beq_eq_false_iff_ne]; intro e; exact h48 ⟨e, g⟩⟩
          · exact .inl ⟨by omega, by omega⟩
        have hw3 : (1 : Int) ≤ (wh : Int) := by omega
        have HW1 := Lib.hid hw0
        have HAB := Lib.hid hab
        have HNN := Lib.hid hnb
        clear h48 HX0 hab hnb hw HWW HNB HS0 hw0
        go_upto_region 16 with (go_at_call 18; ((with_reducible refine J1.out.mono ?_); rintro e w1 ⟨rfl, rfl⟩))
        go_cut [68] from 41 to 67 (fun v wc => v = .bool false ∧ wc = w)
        case first =>
          clear HWB HX H12 H14 HK0 HB HN0 HW1 HAB HNN
          rcases hd1 with ⟨h1, h2⟩ | ⟨h1, h2⟩
          · go_wp2
            all_goals (go_meet; first | exact ⟨rfl, rfl⟩ | exact ⟨congrArg Value.bool (decide_eq_false (by omega)), rfl⟩)
          · go_wp2
            all_goals (go_meet; first | exact ⟨rfl, rfl⟩ | exact ⟨congrArg Value.bool (decide_eq_false (by omega)), rfl⟩)
        case rest =>
          obtain ⟨rfl, rfl⟩ := hcut
          clear hd1 hx0 hsg  hE1 hC hzb
          go_wp2
          go_loop [11, 12, 13] (fun n g i => ∃ (m q : Nat) (B : Bool), 0 ≤ m ∧ m ≤ k ∧ i = .int .i64 m ∧ n = .int .i64 q ∧ g = .bool B ∧ q ≤ 1125899906842624 ∧ Hid (∀ j, j < m - 0 → (j ≠ wh → dgB (b.getD j 0) = true) ∧ (j = wh → 0 ≠ 0 → b.getD wh 0 = 46)) ∧ Hid ((q = nuM wh (m - 0) b ∧ nuM wh (m - 0) b ≤ 1125899906842624 ∧ B = false) ∨ (q = 1125899906842624 ∧ 1125899906842624 < nuM wh (m - 0) b ∧ B = true))) (fun _ _ i => k - (intOf i).toNat)
          case atStart => exact ⟨0, 0, false, by omega, by omega, rfl, rfl, rfl, by omega, fun j hj => by omega, .inl ⟨by rw [Nat.sub_self, nu_zero], by rw [Nat.sub_self, nu_zero]; omega, rfl⟩⟩
          case round =>
            obtain ⟨m, q, B, hm0, hm1, rfl, rfl, rfl, hq, HI, HQ⟩ := hrel
            by_cases hlt : m < k
            · obtain ⟨hzm, hxm⟩ := HX.out m hm0 hlt
              obtain ⟨x, hx⟩ : ∃ x : Int, (s[m].toNat : Int) = x := ⟨_, rfl⟩
              have hX : x = ((b.getD (m - 0) 0).toNat : Int) := by rw [← hx]; exact hxm
              have hkb : m - 0 < b.length := by have := HB.out; have := HAB.out; omega
              obtain ⟨dg1, dg2⟩ := dgB_iffM (b.getD (m - 0) 0) x hX.symm
              have hx0 : 0 ≤ x ∧ x ≤ 255 := by have := (b.getD (m - 0) 0).toNat_lt; omega
              obtain ⟨hx1, hx2⟩ := hx0
              have hm2 : (m : Int) < (k : Int) := by omega
              have hm3 : (m : Int) < (s.size : Int) := by omega
              have HDG1 := Lib.hid dg1
              have HDG2 := Lib.hid dg2
              have HXX := Lib.hid hX
              have HKB := Lib.hid hkb
              have HIN : Hid (∀ j, j < m + 1 - 0 → j < m - 0 ∨ j = m - 0) := fun j hj => by omega
              clear dg1 dg2 hX hkb hxm
              by_cases hp : m - 0 = wh
              · exfalso; have := HKB.out; have := HWB.out; unfold WhB at this; omega
              · skip
                rcases (show x < 48 ∨ 57 < x ∨ (48 ≤ x ∧ x ≤ 57) by omega) with hc | hc | ⟨hc1, hc2⟩
                · have HP := Lib.hid (H12.out (.inl (frm_no fun wh2 g1 g2 => .inr (.inl ⟨m - 0, HKB.out, fun e => hp (e.trans (wh_uniq g1 HWB.out)), by rw [Bool.eq_false_iff]; intro e; have := HDG1.out.1 e; omega⟩))))
                  clear HX HKB HIN HDG1 HDG2 HXX H12 H14 HK0 HWB HB HAB HN0 HW1 HNN
                  clear hp
                  go_wp2
                  go_ret3
                  exact HP.out
                · have HP := Lib.hid (H12.out (.inl (frm_no fun wh2 g1 g2 => .inr (.inl ⟨m - 0, HKB.out, fun e => hp (e.trans (wh_uniq g1 HWB.out)), by rw [Bool.eq_false_iff]; intro e; have := HDG1.out.1 e; omega⟩))))
                  clear HX HKB HIN HDG1 HDG2 HXX H12 H14 HK0 HWB HB HAB HN0 HW1 HNN
                  clear hp
                  go_wp2
                  go_ret3
                  exact HP.out
                · obtain ⟨q2, hq2⟩ : ∃ q2 : Nat, 10 * (q : Int) + x - 48 = (q2 : Int) := ⟨(10 * (q : Int) + x - 48).toNat, by omega⟩
                  have hdv := HDG2.out hc1
                  have hst := nu_step HKB.out hp
                  rw [show m - 0 + 1 = m + 1 - 0 by omega] at hst
                  have HI2 : Hid (∀ j, j < m + 1 - 0 → (j ≠ wh → dgB (b.getD j 0) = true) ∧ (j = wh → 0 ≠ 0 → b.getD wh 0 = 46)) := fun j hj => by
                    rcases HIN.out j hj with g | rfl
                    · exact HI.out j g
                    · exact ⟨fun _ => HDG1.out.2 ⟨hc1, hc2⟩, fun e => absurd e hp⟩
                  by_cases hbig : 1125899906842624 < q2
                  · have hb1 : (1125899906842624 : Int) < (q2 : Int) := by omega
                    have HQ2 : Hid (1125899906842624 < nuM wh (m + 1 - 0) b) := by
                      show _ < _
                      rw [hst]
                      rcases HQ.out with ⟨g1, g2, -⟩ | ⟨g1, g2, -⟩ <;> omega
                    clear HX HKB HIN HDG1 HDG2 HXX H12 H14 HK0 HWB HB HAB HN0 HW1 HNN
                    clear hp hbig hdv hst HQ HI
                    go_wp2
                    go_round
                    case rel => exact ⟨m + 1, 1125899906842624, true, by omega, by omega, by go_num, rfl, rfl, by omega, HI2, .inr ⟨rfl, HQ2.out, rfl⟩⟩
                    case measure => simp [intOf]; omega
                  · have hb1 : ¬ (1125899906842624 : Int) < (q2 : Int) := by omega
                    have HQ2 : Hid ((q2 = nuM wh (m + 1 - 0) b ∧ nuM wh (m + 1 - 0) b ≤ 1125899906842624 ∧ B = false) ∨ (q2 = 1125899906842624 ∧ 1125899906842624 < nuM wh (m + 1 - 0) b ∧ B = true)) := by
                      show _ ∨ _
                      rw [hst]
                      rcases HQ.out with ⟨g1, g2, g3⟩ | ⟨g1, g2, g3⟩
                      · exact .inl ⟨by omega, by omega, g3⟩
                      · exfalso; omega
                    have hq3 : q2 ≤ 1125899906842624 := by omega
                    clear HX HKB HIN HDG1 HDG2 HXX H12 H14 HK0 HWB HB HAB HN0 HW1 HNN
                    clear hp hbig hdv hst HQ HI
                    go_wp2
                    go_round
                    case rel => exact ⟨m + 1, q2, B, by omega, by omega, by go_num, rfl, rfl, hq3, HI2, HQ2⟩
                    case measure => simp [intOf]; omega
            · obtain rfl : m = k := by omega
              have hlen : m - 0 = b.length := by have := HB.out; have := HAB.out; omega
              have hHI := HI.out
              have hHQ := HQ.out
              rw [hlen] at hHI hHQ
              have hwl : 0 ≠ 0 → wh < b.length := fun h => by have := HWB.out; unfold WhB at this; omega
              have HF : Hid (frmB 0 b = true) := frm_of HWB.out HW1.out HN0.out (fun j hj hne => (hHI j hj).1 hne) (fun h => (hHI wh (hwl h)).2 rfl h)
              have HFN := frmN_eN HWB.out
              rw [show vl 10 (dgs (eN wh b.length b)) = nuM wh b.length b from rfl] at HFN
              rw [← HFN] at hHQ
              clear HQ HI hHI hlen HFN HX hwl
              have hml : ¬ (m : Int) < (m : Int) := by omega
              rcases hHQ with ⟨g1, g2, rfl⟩ | ⟨rfl, g2, rfl⟩
              · have HP := Lib.hid (HK0.out q HF.out g1.symm hq (.inl (by first | rfl | trivial)))
                clear HF H12 H14 HK0 HWB HB HAB HN0 HW1 HNN
                clear g1 g2
                go_wp2
                go_ret3
                exact HP.out
              · have HP := Lib.hid (H14.out HF.out g2)
                clear HF H12 H14 HK0 HWB HB HAB HN0 HW1 HNN
                clear g2
                go_wp2
                go_ret3
                exact HP.out
theorem rread_0u (s C : ByteArray) (a u nb wh : Nat) (b : List UInt8) (hb : b.length = nb) (hab : a = nb + 0) (ha : a < s.size) (hC : s.extract (a + 1) s.size = C) (hs : s.size ≤ 1048576) (hu0 : 0 < u) (hu3 : u ≤ 3) (hw0 : 1 ≤ wh) (hw : wh + u + 1 = nb) (Q : Ending → World → Prop) (w : World)
    (hA : ∀ k, k < a → ∃ h : k < s.size, (s[k].toNat : Int) ≠ 32) (hE : (s[a].toNat : Int) = 32)
    (hX : ∀ i, 0 ≤ i → i < a → ∃ h : i < s.size, (s[i].toNat : Int) = ((b.getD (i - 0) 0).toNat : Int)) (hS : ∃ h : 0 < s.size, ((s[0].toNat : Int) == 45) = false)
    (H1 : Calls Tryz.prog 18 #[.string C] w fun e w' => e = .returned (.tuple #[.int .i64 u, .int .i64 0]) ∧ w = w')
    (K12 : frmB u b = false ∨ (0 = 1 ∧ frmN u b = 0) → Q (RdV 0 ⟨#[]⟩ 12) w)
    (K14 : frmB u b = true → 1125899906842624 < frmN u b → Q (RdV 0 ⟨#[]⟩ 14) w)
    (K0 : ∀ q : Nat, frmB u b = true → frmN u b = q → q ≤ 1125899906842624 → (0 = 0 ∨ q ≠ 0) → Q (RdV ((q : Int)) C 0) w) :
    Calls Tryz.prog 24 #[.string s] w Q := by
  have hWB : WhB u wh b := by unfold WhB; omega
  have HWB := Lib.hid hWB
  have HA := Lib.hid hA
  have J1 := Lib.hid H1
  have HX := Lib.hid hX
  have H12 := Lib.hid K12
  have H14 := Lib.hid K14
  have HK0 := Lib.hid K0
  have HB := Lib.hid hb
  have q1 : ((a : Int) == (s.size : Int)) = false := by rw [beq_eq_false_iff_ne]; omega
  have q2 : (a : Int) < (s.size : Int) := by omega
  have hE1 : ((s[a].toNat : Int) != 32) = false := by rw [hE]; rfl
  have HNB := Lib.hid hab
  have HWW := Lib.hid hw
  have HS0 := Lib.hid hS
  clear hA H1 hX K12 K14 K0 hb hE hWB hab hw hS
  go_enter Tryz.func24, Tryz.ntmps24
  go_wp2
  go_loop [5] (fun i => ∃ k : Nat, k ≤ a ∧ i = .int .i64 k) (fun i => a - (intOf i).toNat)
  case atStart => exact ⟨0, by omega, rfl⟩
  case round =>
    obtain ⟨k, hk, rfl⟩ := hrel
    by_cases hlt : k < a
    · obtain ⟨hz, hx⟩ := HA.out k hlt
      have hk1 : (k : Int) < (s.size : Int) := by omega
      have hx1 : ((s[k].toNat : Int) != 32) = true := by rw [bne_iff_ne]; exact hx
      clear hx HWB HX H12 H14 HK0 HB HNB HWW HS0
      go_wp2
      go_round
      case rel => exact ⟨k + 1, by omega, by go_num⟩
      case measure => simp [intOf]; omega
    · obtain rfl : k = a := by omega
      clear HA hlt
      obtain ⟨hz0, hsg⟩ := HS0.out
      have hab := HNB.out
      have hw := HWW.out
      have ha0 : (0 : Int) < (k : Int) := by omega
      have hwe : (k : Int) - (u : Int) - 1 = (wh : Int) := by omega
      have hnb : nb = k - 0 := by omega
      have hwk : (wh : Int) ≤ 1048576 := by omega
      have hu1 : (0 : Int) < (u : Int) := by omega
      obtain ⟨hzb, hxb⟩ := HX.out 0 (by omega) (by omega)
      rw [show 0 - 0 = 0 from rfl] at hxb
      have hx00 : Hid ((s[0].toNat : Int) = ((b.getD 0 0).toNat : Int)) := hxb
      obtain ⟨x0, hx0⟩ : ∃ x0 : Int, (s[0].toNat : Int) = x0 := ⟨_, rfl⟩
      have HX0 : Hid (x0 = ((b.getD 0 0).toNat : Int)) := by show _ = _; rw [← hx0]; exact hxb
      clear hxb hx00
      by_cases h48 : x0 = 48 ∧ 1 < wh
      · obtain ⟨rfl, hw1⟩ := h48
        have hw2 : (1 : Int) < (wh : Int) := by omega
        have HP := Lib.hid (H12.out (.inl (frm_no fun wh2 g1 g2 => .inl ⟨by rw [← wh_uniq HWB.out g1]; exact hw1, by
          have := HX0.out
          exact UInt8.toNat_inj.1 (by show _ = 48; omega)⟩)))
        clear HX H12 H14 HK0 HB HWB HNB HWW HS0 HX0 hab hw hnb
        go_wp2_with (go_at_call 18; ((with_reducible refine J1.out.mono ?_); rintro e w1 ⟨rfl, rfl⟩))
        go_ret3
        exact HP.out
      · have HN0 : Hid (1 < wh → b.getD 0 0 ≠ 48) := fun g e => h48 ⟨by rw [HX0.out, e]; rfl, g⟩
        have hd1 : (wh = 1 ∧ ¬ (1 : Int) < (wh : Int)) ∨ ((1 : Int) < (wh : Int) ∧ (x0 == 48) = false) := by
          rcases Nat.lt_or_ge 1 wh with g | g
          · exact .inr ⟨by omega, by rw [beq_eq_false_iff_ne]; intro e; exact h48 ⟨e, g⟩⟩
          · exact .inl ⟨by omega, by omega⟩
        have hw3 : (1 : Int) ≤ (wh : Int) := by omega
        have HW1 := Lib.hid hw0
        have HAB := Lib.hid hab
        have HNN := Lib.hid hnb
        clear h48 HX0 hab hnb hw HWW HNB HS0 hw0
        go_upto_region 16 with (go_at_call 18; ((with_reducible refine J1.out.mono ?_); rintro e w1 ⟨rfl, rfl⟩))
        go_cut [68] from 41 to 67 (fun v wc => v = .bool false ∧ wc = w)
        case first =>
          clear HWB HX H12 H14 HK0 HB HN0 HW1 HAB HNN
          rcases hd1 with ⟨h1, h2⟩ | ⟨h1, h2⟩
          · go_wp2
            all_goals (go_meet; first | exact ⟨rfl, rfl⟩ | exact ⟨congrArg Value.bool (decide_eq_false (by omega)), rfl⟩)
          · go_wp2
            all_goals (go_meet; first | exact ⟨rfl, rfl⟩ | exact ⟨congrArg Value.bool (decide_eq_false (by omega)), rfl⟩)
        case rest =>
          obtain ⟨rfl, rfl⟩ := hcut
          clear hd1 hx0 hsg hwe hE1 hC hzb
          go_wp2
          go_loop [11, 12, 13] (fun n g i => ∃ (m q : Nat) (B : Bool), 0 ≤ m ∧ m ≤ k ∧ i = .int .i64 m ∧ n = .int .i64 q ∧ g = .bool B ∧ q ≤ 1125899906842624 ∧ Hid (∀ j, j < m - 0 → (j ≠ wh → dgB (b.getD j 0) = true) ∧ (j = wh → u ≠ 0 → b.getD wh 0 = 46)) ∧ Hid ((q = nuM wh (m - 0) b ∧ nuM wh (m - 0) b ≤ 1125899906842624 ∧ B = false) ∨ (q = 1125899906842624 ∧ 1125899906842624 < nuM wh (m - 0) b ∧ B = true))) (fun _ _ i => k - (intOf i).toNat)
          case atStart => exact ⟨0, 0, false, by omega, by omega, rfl, rfl, rfl, by omega, fun j hj => by omega, .inl ⟨by rw [Nat.sub_self, nu_zero], by rw [Nat.sub_self, nu_zero]; omega, rfl⟩⟩
          case round =>
            obtain ⟨m, q, B, hm0, hm1, rfl, rfl, rfl, hq, HI, HQ⟩ := hrel
            by_cases hlt : m < k
            · obtain ⟨hzm, hxm⟩ := HX.out m hm0 hlt
              obtain ⟨x, hx⟩ : ∃ x : Int, (s[m].toNat : Int) = x := ⟨_, rfl⟩
              have hX : x = ((b.getD (m - 0) 0).toNat : Int) := by rw [← hx]; exact hxm
              have hkb : m - 0 < b.length := by have := HB.out; have := HAB.out; omega
              obtain ⟨dg1, dg2⟩ := dgB_iffM (b.getD (m - 0) 0) x hX.symm
              have hx0 : 0 ≤ x ∧ x ≤ 255 := by have := (b.getD (m - 0) 0).toNat_lt; omega
              obtain ⟨hx1, hx2⟩ := hx0
              have hm2 : (m : Int) < (k : Int) := by omega
              have hm3 : (m : Int) < (s.size : Int) := by omega
              have HDG1 := Lib.hid dg1
              have HDG2 := Lib.hid dg2
              have HXX := Lib.hid hX
              have HKB := Lib.hid hkb
              have HIN : Hid (∀ j, j < m + 1 - 0 → j < m - 0 ∨ j = m - 0) := fun j hj => by omega
              clear dg1 dg2 hX hkb hxm
              by_cases hp : m - 0 = wh
              · have e3 : ((m : Int) == (wh : Int)) = true := by rw [beq_iff_eq]; omega
                by_cases h46 : x = 46
                · subst h46
                  have HI2 : Hid (∀ j, j < m + 1 - 0 → (j ≠ wh → dgB (b.getD j 0) = true) ∧ (j = wh → u ≠ 0 → b.getD wh 0 = 46)) := fun j hj => by
                    rcases HIN.out j hj with g | rfl
                    · exact HI.out j g
                    · exact ⟨fun e => absurd hp e, fun _ _ => by rw [← hp]; exact UInt8.toNat_inj.1 (by have := HXX.out; show _ = 46; omega)⟩
                  have HQ2 : Hid ((q = nuM wh (m + 1 - 0) b ∧ nuM wh (m + 1 - 0) b ≤ 1125899906842624 ∧ B = false) ∨ (q = 1125899906842624 ∧ 1125899906842624 < nuM wh (m + 1 - 0) b ∧ B = true)) := by
                    have h := HQ.out
                    rw [hp, ← nu_pt, show wh + 1 = m + 1 - 0 by omega] at h
                    exact h
                  clear HX HKB HIN HDG1 HDG2 HXX H12 H14 HK0 HWB HB HAB HN0 HW1 HNN
                  clear hp HQ HI
                  go_wp2
                  go_round
                  case rel => exact ⟨m + 1, q, B, by omega, by omega, by go_num, rfl, rfl, hq, HI2, HQ2⟩
                  case measure => simp [intOf]; omega
                · have h47 : (x != 46) = true := by rw [bne_iff_ne]; exact h46
                  have HP := Lib.hid (H12.out (.inl (frm_no fun wh2 g1 g2 => .inr (.inr ⟨by omega, fun e => h46 (by rw [HXX.out, hp, wh_uniq HWB.out g1, e]; rfl)⟩))))
                  clear HX HKB HIN HDG1 HDG2 HXX H12 H14 HK0 HWB HB HAB HN0 HW1 HNN
                  clear hp h46
                  go_wp2
                  go_ret3
                  exact HP.out
              · have e3 : ((m : Int) == (wh : Int)) = false := by rw [beq_eq_false_iff_ne]; omega
                rcases (show x < 48 ∨ 57 < x ∨ (48 ≤ x ∧ x ≤ 57) by omega) with hc | hc | ⟨hc1, hc2⟩
                · have HP := Lib.hid (H12.out (.inl (frm_no fun wh2 g1 g2 => .inr (.inl ⟨m - 0, HKB.out, fun e => hp (e.trans (wh_uniq g1 HWB.out)), by rw [Bool.eq_false_iff]; intro e; have := HDG1.out.1 e; omega⟩))))
                  clear HX HKB HIN HDG1 HDG2 HXX H12 H14 HK0 HWB HB HAB HN0 HW1 HNN
                  clear hp
                  go_wp2
                  go_ret3
                  exact HP.out
                · have HP := Lib.hid (H12.out (.inl (frm_no fun wh2 g1 g2 => .inr (.inl ⟨m - 0, HKB.out, fun e => hp (e.trans (wh_uniq g1 HWB.out)), by rw [Bool.eq_false_iff]; intro e; have := HDG1.out.1 e; omega⟩))))
                  clear HX HKB HIN HDG1 HDG2 HXX H12 H14 HK0 HWB HB HAB HN0 HW1 HNN
                  clear hp
                  go_wp2
                  go_ret3
                  exact HP.out
                · obtain ⟨q2, hq2⟩ : ∃ q2 : Nat, 10 * (q : Int) + x - 48 = (q2 : Int) := ⟨(10 * (q : Int) + x - 48).toNat, by omega⟩
                  have hdv := HDG2.out hc1
                  have hst := nu_step HKB.out hp
                  rw [show m - 0 + 1 = m + 1 - 0 by omega] at hst
                  have HI2 : Hid (∀ j, j < m + 1 - 0 → (j ≠ wh → dgB (b.getD j 0) = true) ∧ (j = wh → u ≠ 0 → b.getD wh 0 = 46)) := fun j hj => by
                    rcases HIN.out j hj with g | rfl
                    · exact HI.out j g
                    · exact ⟨fun _ => HDG1.out.2 ⟨hc1, hc2⟩, fun e => absurd e hp⟩
                  by_cases hbig : 1125899906842624 < q2
                  · have hb1 : (1125899906842624 : Int) < (q2 : Int) := by omega
                    have HQ2 : Hid (1125899906842624 < nuM wh (m + 1 - 0) b) := by
                      show _ < _
                      rw [hst]
                      rcases HQ.out with ⟨g1, g2, -⟩ | ⟨g1, g2, -⟩ <;> omega
                    clear HX HKB HIN HDG1 HDG2 HXX H12 H14 HK0 HWB HB HAB HN0 HW1 HNN
                    clear hp hbig hdv hst HQ HI
                    go_wp2
                    go_round
                    case rel => exact ⟨m + 1, 1125899906842624, true, by omega, by omega, by go_num, rfl, rfl, by omega, HI2, .inr ⟨rfl, HQ2.out, rfl⟩⟩
                    case measure => simp [intOf]; omega
                  · have hb1 : ¬ (1125899906842624 : Int) < (q2 : Int) := by omega
                    have HQ2 : Hid ((q2 = nuM wh (m + 1 - 0) b ∧ nuM wh (m + 1 - 0) b ≤ 1125899906842624 ∧ B = false) ∨ (q2 = 1125899906842624 ∧ 1125899906842624 < nuM wh (m + 1 - 0) b ∧ B = true)) := by
                      show _ ∨ _
                      rw [hst]
                      rcases HQ.out with ⟨g1, g2, g3⟩ | ⟨g1, g2, g3⟩
                      · exact .inl ⟨by omega, by omega, g3⟩
                      · exfalso; omega
                    have hq3 : q2 ≤ 1125899906842624 := by omega
                    clear HX HKB HIN HDG1 HDG2 HXX H12 H14 HK0 HWB HB HAB HN0 HW1 HNN
                    clear hp hbig hdv hst HQ HI
                    go_wp2
                    go_round
                    case rel => exact ⟨m + 1, q2, B, by omega, by omega, by go_num, rfl, rfl, hq3, HI2, HQ2⟩
                    case measure => simp [intOf]; omega
            · obtain rfl : m = k := by omega
              have hlen : m - 0 = b.length := by have := HB.out; have := HAB.out; omega
              have hHI := HI.out
              have hHQ := HQ.out
              rw [hlen] at hHI hHQ
              have hwl : u ≠ 0 → wh < b.length := fun h => by have := HWB.out; unfold WhB at this; omega
              have HF : Hid (frmB u b = true) := frm_of HWB.out HW1.out HN0.out (fun j hj hne => (hHI j hj).1 hne) (fun h => (hHI wh (hwl h)).2 rfl h)
              have HFN := frmN_eN HWB.out
              rw [show vl 10 (dgs (eN wh b.length b)) = nuM wh b.length b from rfl] at HFN
              rw [← HFN] at hHQ
              clear HQ HI hHI hlen HFN HX hwl
              have hml : ¬ (m : Int) < (m : Int) := by omega
              rcases hHQ with ⟨g1, g2, rfl⟩ | ⟨rfl, g2, rfl⟩
              · have HP := Lib.hid (HK0.out q HF.out g1.symm hq (.inl (by first | rfl | trivial)))
                clear HF H12 H14 HK0 HWB HB HAB HN0 HW1 HNN
                clear g1 g2
                go_wp2
                go_ret3
                exact HP.out
              · have HP := Lib.hid (H14.out HF.out g2)
                clear HF H12 H14 HK0 HWB HB HAB HN0 HW1 HNN
                clear g2
                go_wp2
                go_ret3
                exact HP.out
theorem rread_1z (s C : ByteArray) (a  nb wh : Nat) (b : List UInt8) (hb : b.length = nb) (hab : a = nb + 1) (ha : a < s.size) (hC : s.extract (a + 1) s.size = C) (hs : s.size ≤ 1048576)  (hw0 : 1 ≤ wh) (hw : wh = nb) (Q : Ending → World → Prop) (w : World)
    (hA : ∀ k, k < a → ∃ h : k < s.size, (s[k].toNat : Int) ≠ 32) (hE : (s[a].toNat : Int) = 32)
    (hX : ∀ i, 1 ≤ i → i < a → ∃ h : i < s.size, (s[i].toNat : Int) = ((b.getD (i - 1) 0).toNat : Int)) (hS : ∃ h : 0 < s.size, ((s[0].toNat : Int) == 45) = true)
    (H1 : Calls Tryz.prog 18 #[.string C] w fun e w' => e = .returned (.tuple #[.int .i64 0, .int .i64 0]) ∧ w = w')
    (K12 : frmB 0 b = false ∨ (1 = 1 ∧ frmN 0 b = 0) → Q (RdV 0 ⟨#[]⟩ 12) w)
    (K14 : frmB 0 b = true → 1125899906842624 < frmN 0 b → Q (RdV 0 ⟨#[]⟩ 14) w)
    (K0 : ∀ q : Nat, frmB 0 b = true → frmN 0 b = q → q ≤ 1125899906842624 → (1 = 0 ∨ q ≠ 0) → Q (RdV (-(q : Int)) C 0) w) :
    Calls Tryz.prog 24 #[.string s] w Q := by
  have hWB : WhB 0 wh b := by unfold WhB; omega
  have HWB := Lib.hid hWB
  have HA := Lib.hid hA
  have J1 := Lib.hid H1
  have HX := Lib.hid hX
  have H12 := Lib.hid K12
  have H14 := Lib.hid K14
  have HK0 := Lib.hid K0
  have HB := Lib.hid hb
  have q1 : ((a : Int) == (s.size : Int)) = false := by rw [beq_eq_false_iff_ne]; omega
  have q2 : (a : Int) < (s.size : Int) := by omega
  have hE1 : ((s[a].toNat : Int) != 32) = false := by rw [hE]; rfl
  have HNB := Lib.hid hab
  have HWW := Lib.hid hw
  have HS0 := Lib.hid hS
  clear hA H1 hX K12 K14 K0 hb hE hWB hab hw hS
  go_enter Tryz.func24, Tryz.ntmps24
  go_wp2
  go_loop [5] (fun i => ∃ k : Nat, k ≤ a ∧ i = .int .i64 k) (fun i => a - (intOf i).toNat)
  case atStart => exact ⟨0, by omega, rfl⟩
  case round =>
    obtain ⟨k, hk, rfl⟩ := hrel
    by_cases hlt : k < a
    · obtain ⟨hz, hx⟩ := HA.out k hlt
      have hk1 : (k : Int) < (s.size : Int) := by omega
      have hx1 : ((s[k].toNat : Int) != 32) = true := by rw [bne_iff_ne]; exact hx
      clear hx HWB HX H12 H14 HK0 HB HNB HWW HS0
      go_wp2
      go_round
      case rel => exact ⟨k + 1, by omega, by go_num⟩
      case measure => simp [intOf]; omega
    · obtain rfl : k = a := by omega
      clear HA hlt
      obtain ⟨hz0, hsg⟩ := HS0.out
      have hab := HNB.out
      have hw := HWW.out
      have ha0 : (0 : Int) < (k : Int) := by omega
      have hwe : (k : Int) - 1 = (wh : Int) := by omega
      have hnb : nb = k - 1 := by omega
      have hwk : (wh : Int) ≤ 1048576 := by omega
      obtain ⟨hzb, hxb⟩ := HX.out 1 (by omega) (by omega)
      rw [show 1 - 1 = 0 from rfl] at hxb
      have hx00 : Hid ((s[1].toNat : Int) = ((b.getD 0 0).toNat : Int)) := hxb
      obtain ⟨x0, hx0⟩ : ∃ x0 : Int, (s[1].toNat : Int) = x0 := ⟨_, rfl⟩
      have HX0 : Hid (x0 = ((b.getD 0 0).toNat : Int)) := by show _ = _; rw [← hx0]; exact hxb
      clear hxb hx00
      by_cases h48 : x0 = 48 ∧ 1 < wh
      · obtain ⟨rfl, hw1⟩ := h48
        have hw2 : (1 : Int) < (wh : Int) := by omega
        have HP := Lib.hid (H12.out (.inl (frm_no fun wh2 g1 g2 => .inl ⟨by rw [← wh_uniq HWB.out g1]; exact hw1, by
          have := HX0.out
          exact UInt8.toNat_inj.1 (by show _ = 48; omega)⟩)))
        clear HX H12 H14 HK0 HB HWB HNB HWW HS0 HX0 hab hw hnb
        go_wp2_with (go_at_call 18; ((with_reducible refine J1.out.mono ?_); rintro e w1 ⟨rfl, rfl⟩))
        go_ret3
        exact HP.out
      · have HN0 : Hid (1 < wh → b.getD 0 0 ≠ 48) := fun g e => h48 ⟨by rw [HX0.out, e]; rfl, g⟩
        have hd1 : (wh = 1 ∧ ¬ (1 : Int) < (wh : Int)) ∨ ((1 : Int) < (wh : Int) ∧ (x0 == 48) = false) := by
          rcases Nat.lt_or_ge 1 wh with g | g
          · exact .inr ⟨by omega, by rw [beq_eq_false_iff_ne]; intro e; exact h48 ⟨e, g⟩⟩
          · exact .inl ⟨by omega, by omega⟩
        have hw3 : (1 : Int) ≤ (wh : Int) := by omega
        have HW1 := Lib.hid hw0
        have HAB := Lib.hid hab
        have HNN := Lib.hid hnb
        clear h48 HX0 hab hnb hw HWW HNB HS0 hw0
        go_upto_region 16 with (go_at_call 18; ((with_reducible refine J1.out.mono ?_); rintro e w1 ⟨rfl, rfl⟩))
        go_cut [68] from 41 to 67 (fun v wc => v = .bool false ∧ wc = w)
        case first =>
          clear HWB HX H12 H14 HK0 HB HN0 HW1 HAB HNN
          rcases hd1 with ⟨h1, h2⟩ | ⟨h1, h2⟩
          · go_wp2
            all_goals (go_meet; first | exact ⟨rfl, rfl⟩ | exact ⟨congrArg Value.bool (decide_eq_false (by omega)), rfl⟩)
          · go_wp2
            all_goals (go_meet; first | exact ⟨rfl, rfl⟩ | exact ⟨congrArg Value.bool (decide_eq_false (by omega)), rfl⟩)
        case rest =>
          obtain ⟨rfl, rfl⟩ := hcut
          clear hd1 hx0 hsg hwe hE1 hC hzb
          go_wp2
          go_loop [11, 12, 13] (fun n g i => ∃ (m q : Nat) (B : Bool), 1 ≤ m ∧ m ≤ k ∧ i = .int .i64 m ∧ n = .int .i64 q ∧ g = .bool B ∧ q ≤ 1125899906842624 ∧ Hid (∀ j, j < m - 1 → (j ≠ wh → dgB (b.getD j 0) = true) ∧ (j = wh → 0 ≠ 0 → b.getD wh 0 = 46)) ∧ Hid ((q = nuM wh (m - 1) b ∧ nuM wh (m - 1) b ≤ 1125899906842624 ∧ B = false) ∨ (q = 1125899906842624 ∧ 1125899906842624 < nuM wh (m - 1) b ∧ B = true))) (fun _ _ i => k - (intOf i).toNat)
          case atStart => exact ⟨1, 0, false, by omega, by omega, rfl, rfl, rfl, by omega, fun j hj => by omega, .inl ⟨by rw [Nat.sub_self, nu_zero], by rw [Nat.sub_self, nu_zero]; omega, rfl⟩⟩
          case round =>
            obtain ⟨m, q, B, hm0, hm1, rfl, rfl, rfl, hq, HI, HQ⟩ := hrel
            by_cases hlt : m < k
            · obtain ⟨hzm, hxm⟩ := HX.out m hm0 hlt
              obtain ⟨x, hx⟩ : ∃ x : Int, (s[m].toNat : Int) = x := ⟨_, rfl⟩
              have hX : x = ((b.getD (m - 1) 0).toNat : Int) := by rw [← hx]; exact hxm
              have hkb : m - 1 < b.length := by have := HB.out; have := HAB.out; omega
              obtain ⟨dg1, dg2⟩ := dgB_iffM (b.getD (m - 1) 0) x hX.symm
              have hx0 : 0 ≤ x ∧ x ≤ 255 := by have := (b.getD (m - 1) 0).toNat_lt; omega
              obtain ⟨hx1, hx2⟩ := hx0
              have hm2 : (m : Int) < (k : Int) := by omega
              have hm3 : (m : Int) < (s.size : Int) := by omega
              have HDG1 := Lib.hid dg1
              have HDG2 := Lib.hid dg2
              have HXX := Lib.hid hX
              have HKB := Lib.hid hkb
              have HIN : Hid (∀ j, j < m + 1 - 1 → j < m - 1 ∨ j = m - 1) := fun j hj => by omega
              clear dg1 dg2 hX hkb hxm
              by_cases hp : m - 1 = wh
              · exfalso; have := HKB.out; have := HWB.out; unfold WhB at this; omega
              · skip
                rcases (show x < 48 ∨ 57 < x ∨ (48 ≤ x ∧ x ≤ 57) by omega) with hc | hc | ⟨hc1, hc2⟩
                · have HP := Lib.hid (H12.out (.inl (frm_no fun wh2 g1 g2 => .inr (.inl ⟨m - 1, HKB.out, fun e => hp (e.trans (wh_uniq g1 HWB.out)), by rw [Bool.eq_false_iff]; intro e; have := HDG1.out.1 e; omega⟩))))
                  clear HX HKB HIN HDG1 HDG2 HXX H12 H14 HK0 HWB HB HAB HN0 HW1 HNN
                  clear hp
                  go_wp2
                  go_ret3
                  exact HP.out
                · have HP := Lib.hid (H12.out (.inl (frm_no fun wh2 g1 g2 => .inr (.inl ⟨m - 1, HKB.out, fun e => hp (e.trans (wh_uniq g1 HWB.out)), by rw [Bool.eq_false_iff]; intro e; have := HDG1.out.1 e; omega⟩))))
                  clear HX HKB HIN HDG1 HDG2 HXX H12 H14 HK0 HWB HB HAB HN0 HW1 HNN
                  clear hp
                  go_wp2
                  go_ret3
                  exact HP.out
                · obtain ⟨q2, hq2⟩ : ∃ q2 : Nat, 10 * (q : Int) + x - 48 = (q2 : Int) := ⟨(10 * (q : Int) + x - 48).toNat, by omega⟩
                  have hdv := HDG2.out hc1
                  have hst := nu_step HKB.out hp
                  rw [show m - 1 + 1 = m + 1 - 1 by omega] at hst
                  have HI2 : Hid (∀ j, j < m + 1 - 1 → (j ≠ wh → dgB (b.getD j 0) = true) ∧ (j = wh → 0 ≠ 0 → b.getD wh 0 = 46)) := fun j hj => by
                    rcases HIN.out j hj with g | rfl
                    · exact HI.out j g
                    · exact ⟨fun _ => HDG1.out.2 ⟨hc1, hc2⟩, fun e => absurd e hp⟩
                  by_cases hbig : 1125899906842624 < q2
                  · have hb1 : (1125899906842624 : Int) < (q2 : Int) := by omega
                    have HQ2 : Hid (1125899906842624 < nuM wh (m + 1 - 1) b) := by
                      show _ < _
                      rw [hst]
                      rcases HQ.out with ⟨g1, g2, -⟩ | ⟨g1, g2, -⟩ <;> omega
                    clear HX HKB HIN HDG1 HDG2 HXX H12 H14 HK0 HWB HB HAB HN0 HW1 HNN
                    clear hp hbig hdv hst HQ HI
                    go_wp2
                    go_round
                    case rel => exact ⟨m + 1, 1125899906842624, true, by omega, by omega, by go_num, rfl, rfl, by omega, HI2, .inr ⟨rfl, HQ2.out, rfl⟩⟩
                    case measure => simp [intOf]; omega
                  · have hb1 : ¬ (1125899906842624 : Int) < (q2 : Int) := by omega
                    have HQ2 : Hid ((q2 = nuM wh (m + 1 - 1) b ∧ nuM wh (m + 1 - 1) b ≤ 1125899906842624 ∧ B = false) ∨ (q2 = 1125899906842624 ∧ 1125899906842624 < nuM wh (m + 1 - 1) b ∧ B = true)) := by
                      show _ ∨ _
                      rw [hst]
                      rcases HQ.out with ⟨g1, g2, g3⟩ | ⟨g1, g2, g3⟩
                      · exact .inl ⟨by omega, by omega, g3⟩
                      · exfalso; omega
                    have hq3 : q2 ≤ 1125899906842624 := by omega
                    clear HX HKB HIN HDG1 HDG2 HXX H12 H14 HK0 HWB HB HAB HN0 HW1 HNN
                    clear hp hbig hdv hst HQ HI
                    go_wp2
                    go_round
                    case rel => exact ⟨m + 1, q2, B, by omega, by omega, by go_num, rfl, rfl, hq3, HI2, HQ2⟩
                    case measure => simp [intOf]; omega
            · obtain rfl : m = k := by omega
              have hlen : m - 1 = b.length := by have := HB.out; have := HAB.out; omega
              have hHI := HI.out
              have hHQ := HQ.out
              rw [hlen] at hHI hHQ
              have hwl : 0 ≠ 0 → wh < b.length := fun h => by have := HWB.out; unfold WhB at this; omega
              have HF : Hid (frmB 0 b = true) := frm_of HWB.out HW1.out HN0.out (fun j hj hne => (hHI j hj).1 hne) (fun h => (hHI wh (hwl h)).2 rfl h)
              have HFN := frmN_eN HWB.out
              rw [show vl 10 (dgs (eN wh b.length b)) = nuM wh b.length b from rfl] at HFN
              rw [← HFN] at hHQ
              clear HQ HI hHI hlen HFN HX hwl
              have hml : ¬ (m : Int) < (m : Int) := by omega
              rcases hHQ with ⟨g1, g2, rfl⟩ | ⟨rfl, g2, rfl⟩
              · by_cases hq0 : q = 0
                · subst hq0
                  have HP := Lib.hid (H12.out (.inr ⟨by first | rfl | trivial, g1.symm⟩))
                  clear HF H12 H14 HK0 HWB HB HAB HN0 HW1 HNN
                  clear g1 g2
                  go_wp2
                  go_ret3
                  exact HP.out
                · have hq1 : ((q : Int) == 0) = false := by rw [beq_eq_false_iff_ne]; omega
                  have HP := Lib.hid (HK0.out q HF.out g1.symm hq (.inr hq0))
                  clear HF H12 H14 HK0 HWB HB HAB HN0 HW1 HNN
                  clear g1 g2 hq0
                  go_wp2
                  go_ret3
                  exact HP.out
              · have HP := Lib.hid (H14.out HF.out g2)
                clear HF H12 H14 HK0 HWB HB HAB HN0 HW1 HNN
                clear g2
                go_wp2
                go_ret3
                exact HP.out
theorem rread_1u (s C : ByteArray) (a u nb wh : Nat) (b : List UInt8) (hb : b.length = nb) (hab : a = nb + 1) (ha : a < s.size) (hC : s.extract (a + 1) s.size = C) (hs : s.size ≤ 1048576) (hu0 : 0 < u) (hu3 : u ≤ 3) (hw0 : 1 ≤ wh) (hw : wh + u + 1 = nb) (Q : Ending → World → Prop) (w : World)
    (hA : ∀ k, k < a → ∃ h : k < s.size, (s[k].toNat : Int) ≠ 32) (hE : (s[a].toNat : Int) = 32)
    (hX : ∀ i, 1 ≤ i → i < a → ∃ h : i < s.size, (s[i].toNat : Int) = ((b.getD (i - 1) 0).toNat : Int)) (hS : ∃ h : 0 < s.size, ((s[0].toNat : Int) == 45) = true)
    (H1 : Calls Tryz.prog 18 #[.string C] w fun e w' => e = .returned (.tuple #[.int .i64 u, .int .i64 0]) ∧ w = w')
    (K12 : frmB u b = false ∨ (1 = 1 ∧ frmN u b = 0) → Q (RdV 0 ⟨#[]⟩ 12) w)
    (K14 : frmB u b = true → 1125899906842624 < frmN u b → Q (RdV 0 ⟨#[]⟩ 14) w)
    (K0 : ∀ q : Nat, frmB u b = true → frmN u b = q → q ≤ 1125899906842624 → (1 = 0 ∨ q ≠ 0) → Q (RdV (-(q : Int)) C 0) w) :
    Calls Tryz.prog 24 #[.string s] w Q := by
  have hWB : WhB u wh b := by unfold WhB; omega
  have HWB := Lib.hid hWB
  have HA := Lib.hid hA
  have J1 := Lib.hid H1
  have HX := Lib.hid hX
  have H12 := Lib.hid K12
  have H14 := Lib.hid K14
  have HK0 := Lib.hid K0
  have HB := Lib.hid hb
  have q1 : ((a : Int) == (s.size : Int)) = false := by rw [beq_eq_false_iff_ne]; omega
  have q2 : (a : Int) < (s.size : Int) := by omega
  have hE1 : ((s[a].toNat : Int) != 32) = false := by rw [hE]; rfl
  have HNB := Lib.hid hab
  have HWW := Lib.hid hw
  have HS0 := Lib.hid hS
  clear hA H1 hX K12 K14 K0 hb hE hWB hab hw hS
  go_enter Tryz.func24, Tryz.ntmps24
  go_wp2
  go_loop [5] (fun i => ∃ k : Nat, k ≤ a ∧ i = .int .i64 k) (fun i => a - (intOf i).toNat)
  case atStart => exact ⟨0, by omega, rfl⟩
  case round =>
    obtain ⟨k, hk, rfl⟩ := hrel
    by_cases hlt : k < a
    · obtain ⟨hz, hx⟩ := HA.out k hlt
      have hk1 : (k : Int) < (s.size : Int) := by omega
      have hx1 : ((s[k].toNat : Int) != 32) = true := by rw [bne_iff_ne]; exact hx
      clear hx HWB HX H12 H14 HK0 HB HNB HWW HS0
      go_wp2
      go_round
      case rel => exact ⟨k + 1, by omega, by go_num⟩
      case measure => simp [intOf]; omega
    · obtain rfl : k = a := by omega
      clear HA hlt
      obtain ⟨hz0, hsg⟩ := HS0.out
      have hab := HNB.out
      have hw := HWW.out
      have ha0 : (0 : Int) < (k : Int) := by omega
      have hwe : (k : Int) - 1 - (u : Int) - 1 = (wh : Int) := by omega
      have hnb : nb = k - 1 := by omega
      have hwk : (wh : Int) ≤ 1048576 := by omega
      have hu1 : (0 : Int) < (u : Int) := by omega
      obtain ⟨hzb, hxb⟩ := HX.out 1 (by omega) (by omega)
      rw [show 1 - 1 = 0 from rfl] at hxb
      have hx00 : Hid ((s[1].toNat : Int) = ((b.getD 0 0).toNat : Int)) := hxb
      obtain ⟨x0, hx0⟩ : ∃ x0 : Int, (s[1].toNat : Int) = x0 := ⟨_, rfl⟩
      have HX0 : Hid (x0 = ((b.getD 0 0).toNat : Int)) := by show _ = _; rw [← hx0]; exact hxb
      clear hxb hx00
      by_cases h48 : x0 = 48 ∧ 1 < wh
      · obtain ⟨rfl, hw1⟩ := h48
        have hw2 : (1 : Int) < (wh : Int) := by omega
        have HP := Lib.hid (H12.out (.inl (frm_no fun wh2 g1 g2 => .inl ⟨by rw [← wh_uniq HWB.out g1]; exact hw1, by
          have := HX0.out
          exact UInt8.toNat_inj.1 (by show _ = 48; omega)⟩)))
        clear HX H12 H14 HK0 HB HWB HNB HWW HS0 HX0 hab hw hnb
        go_wp2_with (go_at_call 18; ((with_reducible refine J1.out.mono ?_); rintro e w1 ⟨rfl, rfl⟩))
        go_ret3
        exact HP.out
      · have HN0 : Hid (1 < wh → b.getD 0 0 ≠ 48) := fun g e => h48 ⟨by rw [HX0.out, e]; rfl, g⟩
        have hd1 : (wh = 1 ∧ ¬ (1 : Int) < (wh : Int)) ∨ ((1 : Int) < (wh : Int) ∧ (x0 == 48) = false) := by
          rcases Nat.lt_or_ge 1 wh with g | g
          · exact .inr ⟨by omega, by rw [beq_eq_false_iff_ne]; intro e; exact h48 ⟨e, g⟩⟩
          · exact .inl ⟨by omega, by omega⟩
        have hw3 : (1 : Int) ≤ (wh : Int) := by omega
        have HW1 := Lib.hid hw0
        have HAB := Lib.hid hab
        have HNN := Lib.hid hnb
        clear h48 HX0 hab hnb hw HWW HNB HS0 hw0
        go_upto_region 16 with (go_at_call 18; ((with_reducible refine J1.out.mono ?_); rintro e w1 ⟨rfl, rfl⟩))
        go_cut [68] from 41 to 67 (fun v wc => v = .bool false ∧ wc = w)
        case first =>
          clear HWB HX H12 H14 HK0 HB HN0 HW1 HAB HNN
          rcases hd1 with ⟨h1, h2⟩ | ⟨h1, h2⟩
          · go_wp2
            all_goals (go_meet; first | exact ⟨rfl, rfl⟩ | exact ⟨congrArg Value.bool (decide_eq_false (by omega)), rfl⟩)
          · go_wp2
            all_goals (go_meet; first | exact ⟨rfl, rfl⟩ | exact ⟨congrArg Value.bool (decide_eq_false (by omega)), rfl⟩)
        case rest =>
          obtain ⟨rfl, rfl⟩ := hcut
          clear hd1 hx0 hsg hwe hE1 hC hzb
          go_wp2
          go_loop [11, 12, 13] (fun n g i => ∃ (m q : Nat) (B : Bool), 1 ≤ m ∧ m ≤ k ∧ i = .int .i64 m ∧ n = .int .i64 q ∧ g = .bool B ∧ q ≤ 1125899906842624 ∧ Hid (∀ j, j < m - 1 → (j ≠ wh → dgB (b.getD j 0) = true) ∧ (j = wh → u ≠ 0 → b.getD wh 0 = 46)) ∧ Hid ((q = nuM wh (m - 1) b ∧ nuM wh (m - 1) b ≤ 1125899906842624 ∧ B = false) ∨ (q = 1125899906842624 ∧ 1125899906842624 < nuM wh (m - 1) b ∧ B = true))) (fun _ _ i => k - (intOf i).toNat)
          case atStart => exact ⟨1, 0, false, by omega, by omega, rfl, rfl, rfl, by omega, fun j hj => by omega, .inl ⟨by rw [Nat.sub_self, nu_zero], by rw [Nat.sub_self, nu_zero]; omega, rfl⟩⟩
          case round =>
            obtain ⟨m, q, B, hm0, hm1, rfl, rfl, rfl, hq, HI, HQ⟩ := hrel
            by_cases hlt : m < k
            · obtain ⟨hzm, hxm⟩ := HX.out m hm0 hlt
              obtain ⟨x, hx⟩ : ∃ x : Int, (s[m].toNat : Int) = x := ⟨_, rfl⟩
              have hX : x = ((b.getD (m - 1) 0).toNat : Int) := by rw [← hx]; exact hxm
              have hkb : m - 1 < b.length := by have := HB.out; have := HAB.out; omega
              obtain ⟨dg1, dg2⟩ := dgB_iffM (b.getD (m - 1) 0) x hX.symm
              have hx0 : 0 ≤ x ∧ x ≤ 255 := by have := (b.getD (m - 1) 0).toNat_lt; omega
              obtain ⟨hx1, hx2⟩ := hx0
              have hm2 : (m : Int) < (k : Int) := by omega
              have hm3 : (m : Int) < (s.size : Int) := by omega
              have HDG1 := Lib.hid dg1
              have HDG2 := Lib.hid dg2
              have HXX := Lib.hid hX
              have HKB := Lib.hid hkb
              have HIN : Hid (∀ j, j < m + 1 - 1 → j < m - 1 ∨ j = m - 1) := fun j hj => by omega
              clear dg1 dg2 hX hkb hxm
              by_cases hp : m - 1 = wh
              · have e3 : ((m : Int) == 1 + (wh : Int)) = true := by rw [beq_iff_eq]; omega
                by_cases h46 : x = 46
                · subst h46
                  have HI2 : Hid (∀ j, j < m + 1 - 1 → (j ≠ wh → dgB (b.getD j 0) = true) ∧ (j = wh → u ≠ 0 → b.getD wh 0 = 46)) := fun j hj => by
                    rcases HIN.out j hj with g | rfl
                    · exact HI.out j g
                    · exact ⟨fun e => absurd hp e, fun _ _ => by rw [← hp]; exact UInt8.toNat_inj.1 (by have := HXX.out; show _ = 46; omega)⟩
                  have HQ2 : Hid ((q = nuM wh (m + 1 - 1) b ∧ nuM wh (m + 1 - 1) b ≤ 1125899906842624 ∧ B = false) ∨ (q = 1125899906842624 ∧ 1125899906842624 < nuM wh (m + 1 - 1) b ∧ B = true)) := by
                    have h := HQ.out
                    rw [hp, ← nu_pt, show wh + 1 = m + 1 - 1 by omega] at h
                    exact h
                  clear HX HKB HIN HDG1 HDG2 HXX H12 H14 HK0 HWB HB HAB HN0 HW1 HNN
                  clear hp HQ HI
                  go_wp2
                  go_round
                  case rel => exact ⟨m + 1, q, B, by omega, by omega, by go_num, rfl, rfl, hq, HI2, HQ2⟩
                  case measure => simp [intOf]; omega
                · have h47 : (x != 46) = true := by rw [bne_iff_ne]; exact h46
                  have HP := Lib.hid (H12.out (.inl (frm_no fun wh2 g1 g2 => .inr (.inr ⟨by omega, fun e => h46 (by rw [HXX.out, hp, wh_uniq HWB.out g1, e]; rfl)⟩))))
                  clear HX HKB HIN HDG1 HDG2 HXX H12 H14 HK0 HWB HB HAB HN0 HW1 HNN
                  clear hp h46
                  go_wp2
                  go_ret3
                  exact HP.out
              · have e3 : ((m : Int) == 1 + (wh : Int)) = false := by rw [beq_eq_false_iff_ne]; omega
                rcases (show x < 48 ∨ 57 < x ∨ (48 ≤ x ∧ x ≤ 57) by omega) with hc | hc | ⟨hc1, hc2⟩
                · have HP := Lib.hid (H12.out (.inl (frm_no fun wh2 g1 g2 => .inr (.inl ⟨m - 1, HKB.out, fun e => hp (e.trans (wh_uniq g1 HWB.out)), by rw [Bool.eq_false_iff]; intro e; have := HDG1.out.1 e; omega⟩))))
                  clear HX HKB HIN HDG1 HDG2 HXX H12 H14 HK0 HWB HB HAB HN0 HW1 HNN
                  clear hp
                  go_wp2
                  go_ret3
                  exact HP.out
                · have HP := Lib.hid (H12.out (.inl (frm_no fun wh2 g1 g2 => .inr (.inl ⟨m - 1, HKB.out, fun e => hp (e.trans (wh_uniq g1 HWB.out)), by rw [Bool.eq_false_iff]; intro e; have := HDG1.out.1 e; omega⟩))))
                  clear HX HKB HIN HDG1 HDG2 HXX H12 H14 HK0 HWB HB HAB HN0 HW1 HNN
                  clear hp
                  go_wp2
                  go_ret3
                  exact HP.out
                · obtain ⟨q2, hq2⟩ : ∃ q2 : Nat, 10 * (q : Int) + x - 48 = (q2 : Int) := ⟨(10 * (q : Int) + x - 48).toNat, by omega⟩
                  have hdv := HDG2.out hc1
                  have hst := nu_step HKB.out hp
                  rw [show m - 1 + 1 = m + 1 - 1 by omega] at hst
                  have HI2 : Hid (∀ j, j < m + 1 - 1 → (j ≠ wh → dgB (b.getD j 0) = true) ∧ (j = wh → u ≠ 0 → b.getD wh 0 = 46)) := fun j hj => by
                    rcases HIN.out j hj with g | rfl
                    · exact HI.out j g
                    · exact ⟨fun _ => HDG1.out.2 ⟨hc1, hc2⟩, fun e => absurd e hp⟩
                  by_cases hbig : 1125899906842624 < q2
                  · have hb1 : (1125899906842624 : Int) < (q2 : Int) := by omega
                    have HQ2 : Hid (1125899906842624 < nuM wh (m + 1 - 1) b) := by
                      show _ < _
                      rw [hst]
                      rcases HQ.out with ⟨g1, g2, -⟩ | ⟨g1, g2, -⟩ <;> omega
                    clear HX HKB HIN HDG1 HDG2 HXX H12 H14 HK0 HWB HB HAB HN0 HW1 HNN
                    clear hp hbig hdv hst HQ HI
                    go_wp2
                    go_round
                    case rel => exact ⟨m + 1, 1125899906842624, true, by omega, by omega, by go_num, rfl, rfl, by omega, HI2, .inr ⟨rfl, HQ2.out, rfl⟩⟩
                    case measure => simp [intOf]; omega
                  · have hb1 : ¬ (1125899906842624 : Int) < (q2 : Int) := by omega
                    have HQ2 : Hid ((q2 = nuM wh (m + 1 - 1) b ∧ nuM wh (m + 1 - 1) b ≤ 1125899906842624 ∧ B = false) ∨ (q2 = 1125899906842624 ∧ 1125899906842624 < nuM wh (m + 1 - 1) b ∧ B = true)) := by
                      show _ ∨ _
                      rw [hst]
                      rcases HQ.out with ⟨g1, g2, g3⟩ | ⟨g1, g2, g3⟩
                      · exact .inl ⟨by omega, by omega, g3⟩
                      · exfalso; omega
                    have hq3 : q2 ≤ 1125899906842624 := by omega
                    clear HX HKB HIN HDG1 HDG2 HXX H12 H14 HK0 HWB HB HAB HN0 HW1 HNN
                    clear hp hbig hdv hst HQ HI
                    go_wp2
                    go_round
                    case rel => exact ⟨m + 1, q2, B, by omega, by omega, by go_num, rfl, rfl, hq3, HI2, HQ2⟩
                    case measure => simp [intOf]; omega
            · obtain rfl : m = k := by omega
              have hlen : m - 1 = b.length := by have := HB.out; have := HAB.out; omega
              have hHI := HI.out
              have hHQ := HQ.out
              rw [hlen] at hHI hHQ
              have hwl : u ≠ 0 → wh < b.length := fun h => by have := HWB.out; unfold WhB at this; omega
              have HF : Hid (frmB u b = true) := frm_of HWB.out HW1.out HN0.out (fun j hj hne => (hHI j hj).1 hne) (fun h => (hHI wh (hwl h)).2 rfl h)
              have HFN := frmN_eN HWB.out
              rw [show vl 10 (dgs (eN wh b.length b)) = nuM wh b.length b from rfl] at HFN
              rw [← HFN] at hHQ
              clear HQ HI hHI hlen HFN HX hwl
              have hml : ¬ (m : Int) < (m : Int) := by omega
              rcases hHQ with ⟨g1, g2, rfl⟩ | ⟨rfl, g2, rfl⟩
              · by_cases hq0 : q = 0
                · subst hq0
                  have HP := Lib.hid (H12.out (.inr ⟨by first | rfl | trivial, g1.symm⟩))
                  clear HF H12 H14 HK0 HWB HB HAB HN0 HW1 HNN
                  clear g1 g2
                  go_wp2
                  go_ret3
                  exact HP.out
                · have hq1 : ((q : Int) == 0) = false := by rw [beq_eq_false_iff_ne]; omega
                  have HP := Lib.hid (HK0.out q HF.out g1.symm hq (.inr hq0))
                  clear HF H12 H14 HK0 HWB HB HAB HN0 HW1 HNN
                  clear g1 g2 hq0
                  go_wp2
                  go_ret3
                  exact HP.out
              · have HP := Lib.hid (H14.out HF.out g2)
                clear HF H12 H14 HK0 HWB HB HAB HN0 HW1 HNN
                clear g2
                go_wp2
                go_ret3
                exact HP.out
end
end Go.Proofs.YtalnfbgaiegicaaGreatDoor
