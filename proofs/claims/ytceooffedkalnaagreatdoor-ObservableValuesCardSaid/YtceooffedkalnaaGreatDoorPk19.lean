/- Joined: RatAc, RatAf, RatAi. -/
import Derived.Test.YtceooffedkalnaaGreatDoorPk17
import Derived.Laws.EntriesVeiled
/- Joined: RatAc, RatAd, RatAe. -/
/- The walks of layer 2: the rules of rounding. -/
namespace Go.Proofs.YtceooffedkalnaaGreatDoor
open Go Go.RowKit
end Go.Proofs.YtceooffedkalnaaGreatDoor
/- The walks of layer 2: round, Round. -/
namespace Go.Proofs.YtceooffedkalnaaGreatDoor
open Go Go.RowKit
end Go.Proofs.YtceooffedkalnaaGreatDoor
/- Layer 2: rounding: what it answers. -/
namespace Go.Proofs.YtceooffedkalnaaGreatDoor
open Go Go.RowKit
end Go.Proofs.YtceooffedkalnaaGreatDoor
/- Joined: RatAf, RatAg, RatAh. -/
/- The walks of layer 2: what the laws share: op, fits, the examples. -/
namespace Go.Proofs.YtceooffedkalnaaGreatDoor
open Go Go.RowKit
end Go.Proofs.YtceooffedkalnaaGreatDoor
/- Layer 2: rationals of few digits. No walk. -/
namespace Go.Proofs.YtceooffedkalnaaGreatDoor
open Go Go.RowKit
theorem rq_zero : rq 0 = ⟨#[48]⟩ := by decide +kernel
theorem rq_is_zero (q : Rat) (s : ByteArray) (h : rq q = s) : (s.toList == [48]) = decide (q = 0) := by
  rw [← h, Lib.toList_data, Bool.eq_iff_iff, beq_iff_eq, decide_eq_true_iff]
  constructor
  · intro e
    have : rq q = rq 0 := by rw [rq_zero]; exact WideShapes.bytes_inj e
    exact rq_inj this
  · rintro rfl; rw [rq_zero]
end Go.Proofs.YtceooffedkalnaaGreatDoor
/- Layer 2: how far rounding goes. No walk. -/
namespace Go.Proofs.YtceooffedkalnaaGreatDoor
open Go Go.RowKit
def absQ (q : Rat) : Rat := if q.num < 0 then -q else q
theorem absQ_parts (q : Rat) : (absQ q).num = (q.num.natAbs : Int) ∧ (absQ q).den = q.den := by
  unfold absQ
  split
  · exact ⟨by rw [Rat.neg_num]; omega, rfl⟩
  · exact ⟨by omega, rfl⟩
theorem rq_neg_text (q : Rat) (h : q.num < 0) (s : ByteArray) (hs : rq q = s) : (∃ h0 : 0 < s.size, ((s[0].toNat : Int) == 45) = true) ∧ s.extract 1 s.size = rq (absQ q) := by
  obtain ⟨u, hu⟩ := Int.eq_ofNat_of_zero_le (show 0 ≤ -q.num by omega)
  have hn : q.num = -(u : Int) := by omega
  have e1 : (rq q) = ⟨⟨45 :: txtL (Lib.decDigits u) (Lib.itoa (q.den : Int))⟩⟩ := by
    unfold rq
    rw [hn, itoa_neg u (by omega)]
    unfold txtL
    split <;> rfl
  have e2 : rq (absQ q) = ⟨⟨txtL (Lib.decDigits u) (Lib.itoa (q.den : Int))⟩⟩ := by
    unfold rq
    obtain ⟨a1, a2⟩ := absQ_parts q
    rw [a1, a2, hn]
    rw [show (((-(u : Int)).natAbs : Nat) : Int) = (u : Int) by omega, itoa_pos]
  rw [e1] at hs
  subst hs
  rw [e2]
  exact ⟨⟨Nat.succ_pos _, beq_of 45 45 true rfl (by omega)⟩, extract_tail _ _⟩
theorem rq_pos_text (q : Rat) (h : 0 ≤ q.num) (s : ByteArray) (hs : rq q = s) : ∃ h0 : 0 < s.size, ((s[0].toNat : Int) == 45) = false := by
  obtain ⟨c, r, e, hc⟩ := itoa_head_pos q.num h
  have e1 : ∃ r', rq q = ⟨⟨c :: r'⟩⟩ := by
    unfold rq txtL
    rw [e]
    split
    · exact ⟨_, rfl⟩
    · exact ⟨_, rfl⟩
  obtain ⟨r', e1⟩ := e1
  rw [e1] at hs
  subst hs
  exact ⟨Nat.succ_pos _, beq_of 45 c false (by rw [beq_eq_false_iff_ne]; exact hc) (by omega)⟩
end Go.Proofs.YtceooffedkalnaaGreatDoor
/- Joined: RatAi, RatAj. -/
/- The walks of layer 2: powers. -/
namespace Go.Proofs.YtceooffedkalnaaGreatDoor
open Go Go.RowKit
end Go.Proofs.YtceooffedkalnaaGreatDoor
/- The walks of layer 2: Power. -/
namespace Go.Proofs.YtceooffedkalnaaGreatDoor
open Go Go.RowKit
end Go.Proofs.YtceooffedkalnaaGreatDoor
