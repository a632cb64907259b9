/- Layer 6: the laws ScheduleFinds, ScheduleTells; what alive answers. -/
import Derived.Test.YtfheeipggedaiaaDoorScY
import Derived.Test.YtfheeipggedaiaaDoorScL1
import Derived.Test.YtfheeipggedaiaaDoorScJ
import Derived.Test.YtfheeipggedaiaaDoorScO
import Derived.Lib.LaidTab
import Derived.LaidMore
import Derived.LaidHandle
import Derived.MakeChecks
namespace Go.Proofs.YtfheeipggedaiaaDoor
open Go Go.ChangeShapes Go.WideShapes Go.RowKit

theorem tri_ex (st en mo : Int) (bk : Bool) (sb ro we : Int) (hs : List Int) : ∃ y m d, schB st en mo sb ro we hs = true → IsDate y m d (bsd st en bk) := by
  cases h : schB st en mo sb ro we hs
  · exact ⟨0, 0, 0, fun g => by cases g⟩
  · obtain ⟨-, s0, e0, -⟩ := (schB_iff st en mo sb ro we hs).1 h
    obtain ⟨y, m, d, hd⟩ := isDate_of (bsd st en bk) (by unfold bsd; split <;> omega)
    exact ⟨y, m, d, fun _ => hd⟩
theorem smF_ex : ∃ S : Int → Int → Bool, ∀ day, 0 ≤ day → SmIs day (S day) := by
  have h : ∀ day : Int, ∃ S : Int → Bool, 0 ≤ day → SmIs day S := fun day => by
    by_cases h0 : 0 ≤ day
    · obtain ⟨S, hS⟩ := smIs_ex day h0
      exact ⟨S, fun _ => hS⟩
    · exact ⟨fun _ => false, fun g => absurd g h0⟩
  exact ⟨fun day => Classical.choose (h day), fun day => Classical.choose_spec (h day)⟩
/-- A call of a law: true, and whatever lay lies as it lay. -/
def OkS (w : World) (e : Ending) (w' : World) : Prop := e = .returned (.bool true) ∧ Below w.heap.size w w'
theorem dates_at (st en mo : Int) (bk la : Bool) (sb : Int) (y m d : Int) (L : List Int) (hd : IsDate y m d (bsd st en bk)) (hL : rdL st en mo bk la sb 0 0 [] y m d = L) (hE : rdE st en mo bk la sb 0 0 [] y m d = 0) (w : World) (hV : VarD w) :
    Calls Tryd.prog 11 #[.agg #[.int .i64 st, .int .i64 en, .int .i64 mo, .bool bk, .bool la, .int .u8 sb, .int .u8 0, .int .u8 0, .slice none 0 0]] w (DtsR L 0 w) := by
  have := pdates_any st en mo bk la sb 0 0 none 0 [] y m d w ⟨by omega, by omega, .inl rfl, by simp, fun _ => rfl⟩ hV (fun _ => hd)
  rw [hL, hE] at this
  exact this
theorem isd {y m d n : Int} (h : (decide (1900 ≤ y) && decide (1 ≤ m) && decide (m ≤ 12) && decide (1 ≤ d) && decide (d ≤ mlen y m) && decide (n + 1 = foy y + mo y (m - 1).toNat + d)) = true) : IsDate y m d n := by
  simp only [Bool.and_eq_true, decide_eq_true_eq] at h
  exact ⟨h.1.1.1.1.1, h.1.1.1.1.2, h.1.1.1.2, h.1.1.2, h.1.2, h.2⟩
/-- The chapter's examples hold. -/
theorem alive_any6 (w : World) (hV : VarD w) : Calls Tryd.prog 17 #[] w (BolS true w) :=
  alive6 w
    (fun W hW => dates_at 45320 45502 1 false true 0 2024 1 31 _ (isd (by decide +kernel)) (by decide +kernel) (by decide +kernel) W (hV.below hW))
    (fun W hW => dates_at 45304 45472 2 false false 0 2024 1 15 _ (isd (by decide +kernel)) (by decide +kernel) (by decide +kernel) W (hV.below hW))
    (fun W hW => dates_at 45304 45472 2 false false 1 2024 1 15 _ (isd (by decide +kernel)) (by decide +kernel) (by decide +kernel) W (hV.below hW))
    (fun W hW => dates_at 45304 45472 2 true false 0 2024 7 1 _ (isd (by decide +kernel)) (by decide +kernel) (by decide +kernel) W (hV.below hW))
    (fun W hW => dates_at 45304 45472 2 true false 1 2024 7 1 _ (isd (by decide +kernel)) (by decide +kernel) (by decide +kernel) W (hV.below hW))
section
variable (st en mo : Int) (bk la : Bool) (sb ro we : Int) (A : Option Addr) (c : Nat) (hs : List Int)
theorem finds_law6 (day : Int) (w : World) (h : CalIn w we A c hs) (hV : VarD w) :
    Calls Tryd.prog 5 #[.agg #[.int .i64 st, .int .i64 en, .int .i64 mo, .bool bk, .bool la, .int .u8 sb, .int .u8 ro, .int .u8 we, .slice A hs.length c], .int .i64 day] w (OkS w) := by
  cases hg : grtB hs
  · obtain ⟨y, m, d, hD⟩ := tri_ex st en mo bk sb ro we hs
    exact sfinds_walk st en mo bk la sb ro we A c hs day _ _ w h hg (fun W hW => pfind_any st en mo bk la sb ro we A c hs y m d day W (h.below hW) (hV.below hW) hD) (fun W hW => rfind_any st en mo bk la sb ro we A c hs y m d day W (h.below hW) hD)
  · exact sfinds_great st en mo bk la sb ro we A c hs day w h hg
theorem rdL_le (y m d : Int) : (rdL st en mo bk la sb ro we hs y m d).length ≤ 100 := by
  by_cases h0 : rdE st en mo bk la sb ro we hs y m d = 0
  · obtain ⟨-, hL, hn, -⟩ := rdL_ok st en mo bk la sb ro we hs y m d h0
    rw [hL, dtL_len]; omega
  · rw [rdL_bad st en mo bk la sb ro we hs y m d h0]; simp
theorem tells_law6 (w : World) (h : CalIn w we A c hs) (r0 : 0 ≤ ro) (hV : VarD w) :
    Calls Tryd.prog 4 #[.agg #[.int .i64 st, .int .i64 en, .int .i64 mo, .bool bk, .bool la, .int .u8 sb, .int .u8 ro, .int .u8 we, .slice A hs.length c]] w (OkS w) := by
  cases hg : grtB hs
  · obtain ⟨y, m, d, hD⟩ := tri_ex st en mo bk sb ro we hs
    obtain ⟨S, hS⟩ := smF_ex
    have hl := rdL_le st en mo bk la sb ro we hs y m d
    refine stells_walk st en mo bk la sb ro we A c hs (rdL st en mo bk la sb ro we hs y m d) (rdE st en mo bk la sb ro we hs y m d) (prR st en mo bk la sb ro we hs y m d S) (prE st en mo bk la sb ro we hs y m d S) (ckE st en mo sb ro we hs) (schB st en mo sb ro we hs) ?_ (by omega) ?_ w h hg
      (fun W hW => pdates_any st en mo bk la sb ro we A c hs y m d W (h.below hW) (hV.below hW) hD) (fun W hW => rdates_any st en mo bk la sb ro we A c hs y m d W (h.below hW) hD)
      (fun W hW => pper_any st en mo bk la sb ro we A c hs y m d S W (h.below hW) (hV.below hW) r0 hS hD) (fun W hW => rper_any st en mo bk la sb ro we A c hs y m d S W (h.below hW) r0 hS hD)
      (fun W hW => pcheck_any st en mo bk la sb ro we A c hs W (h.below hW)) (fun W hW => rvalid_all st en mo bk la sb ro we A c hs W (h.below hW))
    · unfold ckE
      cases schB st en mo sb ro we hs <;> rfl
    · unfold prR
      split
      · rw [pmkL_len]; omega
      · simp
  · exact stells_great st en mo bk la sb ro we A c hs w h hg
end
end Go.Proofs.YtfheeipggedaiaaDoor
