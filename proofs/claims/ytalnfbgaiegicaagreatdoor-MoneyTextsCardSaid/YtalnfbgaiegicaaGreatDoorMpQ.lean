/- Layer 7: the reference's Read; the walk of MoneyTexts. -/
import Derived.Test.YtalnfbgaiegicaaGreatDoorMpS
namespace Go.Proofs.YtalnfbgaiegicaaGreatDoor
open Go Go.RowKit

def BoT (b : Bool) (w : World) (e : Ending) (w' : World) : Prop := e = .returned (.bool b) ∧ Below w.heap.size w w'

theorem rread_any (s : ByteArray) (hs : s.size ≤ 1048576) (w : World) :
    Calls Tryz.prog 24 #[.string s] w (RdR (rdN7 s.data.toList) ⟨(rdC7 s.data.toList).toArray⟩ (rdE7 s.data.toList) w) := by
  have hl : s.data.toList.length = s.size := by simp
  have hg : ∀ k (h : k < s.size), s.data.toList.getD k 0 = s[k] := fun k h => by
    rw [List.getD_eq_getElem?_getD, getElem_toList s k h]; rfl
  have hC : ∀ a, (s.extract (a + 1) s.size).data.toList = s.data.toList.drop (a + 1) := fun a => by
    rw [ba_ext, List.take_of_length_le (by rw [List.length_drop]; omega)]
  have E12 : rdE7 s.data.toList = 12 → RdR (rdN7 s.data.toList) ⟨(rdC7 s.data.toList).toArray⟩ (rdE7 s.data.toList) w (RdV 0 ⟨#[]⟩ 12) w := fun h => by
    unfold rdN7 rdC7
    rw [h, if_neg (by decide), if_neg (by decide)]
    exact ⟨rfl, Below.refl _ _⟩
  have E14 : rdE7 s.data.toList = 14 → RdR (rdN7 s.data.toList) ⟨(rdC7 s.data.toList).toArray⟩ (rdE7 s.data.toList) w (RdV 0 ⟨#[]⟩ 14) w := fun h => by
    unfold rdN7 rdC7
    rw [h, if_neg (by decide), if_neg (by decide)]
    exact ⟨rfl, Below.refl _ _⟩
  have E0 : ∀ C : ByteArray, C.data.toList = (dr32 s.data.toList).tail → rdE7 s.data.toList = 0 → RdR (rdN7 s.data.toList) ⟨(rdC7 s.data.toList).toArray⟩ (rdE7 s.data.toList) w (RdV (sgn (ngB (tk32 s.data.toList)) (frmN (unU (dr32 s.data.toList).tail) (bod (tk32 s.data.toList)))) C 0) w := fun C hC h => by
    unfold rdN7 rdC7
    rw [h, if_pos rfl, if_pos rfl, ← hC, ← ba_eq rfl]
    exact ⟨rfl, Below.refl _ _⟩
  generalize s.data.toList = l at *
  obtain ⟨t1, t2, t3, t4⟩ := tk_at l
  have hA : ∀ k, k < (tk32 l).length → ∃ h : k < s.size, (s[k].toNat : Int) ≠ 32 := fun k hk => by
    obtain ⟨h1, h2, -⟩ := t1 k hk
    refine ⟨by omega, fun e => h2 ?_⟩
    rw [hg k (by omega)]
    exact UInt8.toNat_inj.1 (by show _ = 32; omega)
  by_cases ha : (tk32 l).length = s.size
  · refine (rread_end s _ ha hs w hA).mono ?_
    rintro e w' ⟨rfl, rfl⟩
    exact E12 (rd_no_dr (t4 (by omega)))
  obtain ⟨hE, hd⟩ := t3 (by omega)
  have ha2 : (tk32 l).length < s.size := by omega
  rw [hg _ ha2] at hE
  have hE2 : (s[(tk32 l).length].toNat : Int) = 32 := by rw [hE]; rfl
  have hCC := hC (tk32 l).length
  have htl : (dr32 l).tail = l.drop ((tk32 l).length + 1) := by rw [hd]; rfl
  obtain ⟨C, hCe⟩ : ∃ C, s.extract ((tk32 l).length + 1) s.size = C := ⟨_, rfl⟩
  rw [hCe] at hCC
  have hU := runit_any C w
  rw [hCC] at hU
  rw [htl] at E0
  generalize l.drop ((tk32 l).length + 1) = c at *
  unfold unV unE at hU
  cases hn : nameB c
  · rw [hn, if_neg (by decide), if_neg (by decide)] at hU
    refine (rread_name s C _ ha2 hCe hs _ w hA hE2 hU).mono ?_
    rintro e w' ⟨rfl, rfl⟩
    exact E12 (rd_no_name hd hn)
  rw [hn, if_pos rfl, if_pos rfl] at hU
  have hu3 : unU c ≤ 3 := by rcases unU_cases c with h | h | h <;> rw [h] <;> omega
  have E0' := E0 C hCC
  have HN12 : frmB (unU c) (bod (tk32 l)) = false → RdR (rdN7 l) ⟨(rdC7 l).toArray⟩ (rdE7 l) w (RdV 0 ⟨#[]⟩ 12) w := fun h => E12 (rd_no_frm hd h)
  cases hng : ngB (tk32 l)
  · have hb : bod (tk32 l) = tk32 l := bod_pos _ hng
    have hX : ∀ i, 0 ≤ i → i < (tk32 l).length → ∃ h : i < s.size, (s[i].toNat : Int) = (((tk32 l).getD (i - 0) 0).toNat : Int) := fun i _ hi => by
      obtain ⟨h1, -, h2⟩ := t1 i hi
      exact ⟨by omega, by rw [← hg i (by omega), h2]; rfl⟩
    have hY := fun hf => rd_yes (l := l) hd hn hf (.inl hng)
    have hS : ∀ h : 0 < (tk32 l).length, ∃ h : 0 < s.size, ((s[0].toNat : Int) == 45) = false := fun h => by
      obtain ⟨h1, h2⟩ := hX 0 (by omega) h
      refine ⟨h1, ?_⟩
      rw [h2, beq_eq_false_iff_ne]
      intro e
      have e2 : (tk32 l).getD 0 0 = 45 := UInt8.toNat_inj.1 (by show _ = 45; simp only [Nat.sub_zero] at e; omega)
      unfold ngB at hng
      cases hT : tk32 l with
      | nil => rw [hT] at h; simp at h
      | cons x r =>
        rw [hT] at hng e2
        have e3 : x = 45 := e2
        rw [e3] at hng
        simp at hng
    rw [hng] at E0'
    by_cases hsh : (tk32 l).length < (if unU c = 0 then 1 else unU c + 2)
    · refine (rread_short s C _ (unU c) 0 (.inl rfl) ha2 hCe hs (by omega) hu3 (by split at hsh <;> (rename_i h; first | rw [if_pos h] | rw [if_neg h]) <;> omega) w hA hE2 ?_ hU).mono ?_
      · rcases Nat.eq_zero_or_pos (tk32 l).length with h | h
        · exact .inl ⟨rfl, h⟩
        · exact .inr ⟨h, hS h⟩
      · rintro e w' ⟨rfl, rfl⟩
        refine HN12 (frm_no fun wh g1 g2 => ?_)
        exfalso
        rw [hb] at g1
        unfold WhB at g1
        split at hsh <;> omega
    · rw [hb] at HN12 E0' hY
      rcases Nat.eq_zero_or_pos (unU c) with hu | hu
      · rw [if_pos hu] at hsh
        rw [hu] at hU HN12 E0' hY
        refine rread_0z s C _ _ _ (tk32 l) rfl rfl ha2 hCe hs (by omega) rfl _ w hA hE2 hX (hS (by omega)) hU ?_ ?_ ?_
        · rintro (h | ⟨h, -⟩)
          · exact HN12 h
          · cases h
        · intro h1 h2
          exact E14 ((hY h1).trans (if_pos h2))
        · rintro q h1 rfl h2 -
          exact E0' ((hY h1).trans (if_neg (by omega)))
      · rw [if_neg (by omega)] at hsh
        refine rread_0u s C _ (unU c) _ ((tk32 l).length - unU c - 1) (tk32 l) rfl rfl ha2 hCe hs hu hu3 (by omega) (by omega) _ w hA hE2 hX (hS (by omega)) hU ?_ ?_ ?_
        · rintro (h | ⟨h, -⟩)
          · exact HN12 h
          · cases h
        · intro h1 h2
          exact E14 ((hY h1).trans (if_pos h2))
        · rintro q h1 rfl h2 -
          exact E0' ((hY h1).trans (if_neg (by omega)))
  · obtain ⟨r, hT⟩ : ∃ r, tk32 l = 45 :: r := by
      unfold ngB at hng
      cases hT : tk32 l with
      | nil => rw [hT] at hng; simp at hng
      | cons x r =>
        rw [hT] at hng
        simp at hng
        exact ⟨r, by rw [hng]⟩
    have hb : bod (tk32 l) = r := by rw [hT, bod_neg]
    have hlen : (tk32 l).length = r.length + 1 := by rw [hT]; rfl
    have hX : ∀ i, 1 ≤ i → i < (tk32 l).length → ∃ h : i < s.size, (s[i].toNat : Int) = ((r.getD (i - 1) 0).toNat : Int) := fun i h0 hi => by
      obtain ⟨h1, -, h2⟩ := t1 i hi
      obtain ⟨j, rfl⟩ : ∃ j, i = j + 1 := ⟨i - 1, by omega⟩
      exact ⟨by omega, by rw [← hg _ (by omega), h2, hT]; rfl⟩
    have hS : ∃ h : 0 < s.size, ((s[0].toNat : Int) == 45) = true := by
      obtain ⟨h1, -, h2⟩ := t1 0 (by omega)
      refine ⟨by omega, ?_⟩
      rw [← hg 0 (by omega), h2, hT]; rfl
    have hY := fun hf hnz => rd_yes (l := l) hd hn hf (.inr hnz)
    have hZ := fun hz => rd_no_zero (l := l) hd hng hz
    rw [hng] at E0'
    by_cases hsh : r.length < (if unU c = 0 then 1 else unU c + 2)
    · refine (rread_short s C _ (unU c) 1 (.inr rfl) ha2 hCe hs (by omega) hu3 (by split at hsh <;> (rename_i h; first | rw [if_pos h] | rw [if_neg h]) <;> omega) w hA hE2 (.inr ⟨by omega, hS⟩) hU).mono ?_
      rintro e w' ⟨rfl, rfl⟩
      refine HN12 (frm_no fun wh g1 g2 => ?_)
      exfalso
      rw [hb] at g1
      unfold WhB at g1
      split at hsh <;> omega
    · rw [hb] at HN12 E0' hY hZ
      rcases Nat.eq_zero_or_pos (unU c) with hu | hu
      · rw [if_pos hu] at hsh
        rw [hu] at hU HN12 E0' hY hZ
        refine rread_1z s C _ _ _ r rfl hlen ha2 hCe hs (by omega) rfl _ w hA hE2 hX hS hU ?_ ?_ ?_
        · rintro (h | ⟨-, h⟩)
          · exact HN12 h
          · exact E12 (hZ h)
        · intro h1 h2
          exact E14 ((hY h1 (by omega)).trans (if_pos h2))
        · rintro q h1 rfl h2 h3
          exact E0' ((hY h1 (by omega)).trans (if_neg (by omega)))
      · rw [if_neg (by omega)] at hsh
        refine rread_1u s C _ (unU c) _ (r.length - unU c - 1) r rfl hlen ha2 hCe hs hu hu3 (by omega) (by omega) _ w hA hE2 hX hS hU ?_ ?_ ?_
        · rintro (h | ⟨-, h⟩)
          · exact HN12 h
          · exact E12 (hZ h)
        · intro h1 h2
          exact E14 ((hY h1 (by omega)).trans (if_pos h2))
        · rintro q h1 rfl h2 h3
          exact E0' ((hY h1 (by omega)).trans (if_neg (by omega)))
section
set_option maxRecDepth 100000
set_option maxHeartbeats 3200000
theorem texts_big (n : Int) (c s : ByteArray) (hb : 1000 < c.size ∨ c.size ≤ 1000 ∧ 1000 < s.size) (w : World) :
    Calls Tryz.prog 5 #[.int .i64 n, .string c, .string s] w (BoT true w) := by
  rcases hb with hb | ⟨h1, hb⟩
  · have hsz : (1000 : Int) < (c.size : Int) := by omega
    clear hb
    go_enter Tryz.func5, Tryz.ntmps5
    go_wp2
    go_ret
    exact ⟨rfl, Below.refl _ _⟩
  · have hsz : ¬ (1000 : Int) < (c.size : Int) := by omega
    have hsz2 : (1000 : Int) < (s.size : Int) := by omega
    clear hb h1
    go_enter Tryz.func5, Tryz.ntmps5
    go_wp2
    go_ret
    exact ⟨rfl, Below.refl _ _⟩
theorem texts_walk (n k e f : Int) (c s x d : ByteArray) (hc : c.size ≤ 1000) (hs : s.size ≤ 1000) (w : World) (hv : VarM w)
    (H1 : ∀ W, VarM W → Calls Tryz.prog 21 #[.int .i64 n, .string c] W (StE x e W))
    (H2 : ∀ W, Calls Tryz.prog 22 #[.int .i64 n, .string c] W (StE x e W))
    (H3 : ∀ W, VarM W → Calls Tryz.prog 23 #[.string s] W (RdR k d f W))
    (H4 : ∀ W, Calls Tryz.prog 24 #[.string s] W (RdR k d f W)) :
    Calls Tryz.prog 5 #[.int .i64 n, .string c, .string s] w (BoT true w) := by
  have HV := Lib.hid hv
  have J1 := Lib.hid H1
  have J2 := Lib.hid H2
  have J3 := Lib.hid H3
  have J4 := Lib.hid H4
  have hsz : ¬ (1000 : Int) < (c.size : Int) := by omega
  have hsz2 : ¬ (1000 : Int) < (s.size : Int) := by omega
  have q1 : (x.toList == x.toList) = true := by simp
  have q2 : (e == e) = true := by simp
  have q3 : (k == k) = true := by simp
  have q4 : (d.toList == d.toList) = true := by simp
  have q5 : (f == f) = true := by simp
  clear hv H1 H2 H3 H4 hc hs
  go_enter Tryz.func5, Tryz.ntmps5
  go_wp2_with (first
    | (go_at_call 21; ((with_reducible refine (J1.out _ HV.out).mono ?_); rintro e w1 ⟨rfl, b⟩; have B1 := Lib.hid b; clear b))
    | (go_at_call 22; ((with_reducible refine (J2.out _).mono ?_); rintro e w2 ⟨rfl, b⟩; have B2 := Lib.hid (btM B1.out b); clear b))
    | (go_at_call 23; ((with_reducible refine (J3.out _ (HV.out.below B2.out)).mono ?_); rintro e w3 ⟨rfl, b⟩; have B3 := Lib.hid (btM B2.out b); clear b))
    | (go_at_call 24; ((with_reducible refine (J4.out _).mono ?_); rintro e w4 ⟨rfl, b⟩; have B4 := Lib.hid (btM B3.out b); clear b)))
  go_ret
  exact ⟨rfl, B4.out⟩
end
theorem texts_law (n : Int) (c s : ByteArray) (w : World) (hv : VarM w) :
    Calls Tryz.prog 5 #[.int .i64 n, .string c, .string s] w (BoT true w) := by
  by_cases hc : c.size ≤ 1000
  · by_cases hs : s.size ≤ 1000
    · exact texts_walk n _ _ _ c s _ _ hc hs w hv (fun W hW => pshow_any n c W hW) (fun W => rshow_any n c W) (fun W hW => pread_any s (by omega) W hW) (fun W => rread_any s (by omega) W)
    · exact texts_big n c s (.inr ⟨hc, by omega⟩) w
  · exact texts_big n c s (.inl (by omega)) w
end Go.Proofs.YtalnfbgaiegicaaGreatDoor
