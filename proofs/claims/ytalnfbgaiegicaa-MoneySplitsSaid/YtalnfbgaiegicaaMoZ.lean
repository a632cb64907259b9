/- Layer 7: walks of the library's stable sort, as a whole. -/
import Derived.Test.YtalnfbgaiegicaaMoY
import Derived.Test.YtalnfbgaiegicaaShelf3
import Derived.Lib.Hide
namespace Go.Proofs.Ytalnfbgaiegicaa
open Go Go.Shelf Go.RowKit Go.Lib Go.Sort Go.Proofs

section
variable {α : Type} [Inhabited α]
def InsOK (enc : α → Value) (cf : α → α → Int) (g : Nat) (cb : Array Value) (blk off cap N : Nat) (w0 : World) : Prop :=
  ∀ (a b : Nat) (aI bI : Int) (d : Array α) (w : World), aI = (a : Int) → bI = (b : Int) → a ≤ b → b ≤ N → d.size = N → SW enc w0 blk off d w →
    Calls Try.prog 18 #[.slice (some ⟨blk, off, none⟩) N cap, .int .i64 aI, .int .i64 bI, .func (.func g) #[] cb] w fun e w' => e = .returned (.tuple #[]) ∧ SW enc w0 blk off (insertionSort (ltOf cf) d a b) w'
theorem insOK_any (enc : α → Value) (cf : α → α → Int) (g : Nat) (cb : Array Value) (blk off cap N : Nat) (d0 : Array α) (w0 : World) (eg : ∀ args w, (callFunc g args).run Try.prog w = .ok (.enter g args) w) (hcmp : CmpLays1 Try.prog g cb enc cf blk off d0.size w0) (R : Row1 enc w0 blk off d0) (hN : d0.size = N) (hsz : N < 1152921504606846976) : InsOK enc cf g cb blk off cap N w0 := fun a b aI bI d w ha hb hab hbN hs S => by
  subst ha hb
  have := Try.insertionSortCmpFunc_s enc cf g cb blk off cap a b d0 d w0 w eg hcmp R (by omega) S hab (by omega) (by omega)
  rw [hs] at this
  exact this
/-- All parts of length s, from multiples of s on, are sorted. -/
def AllS (bt : α → α → Prop) (pos : α → Nat) (N s : Nat) (d : Array α) : Prop := ∀ y, s ∣ y → SgI bt pos y (min (y + s) N) d
theorem SgI.none {bt : α → α → Prop} {pos : α → Nat} {a b : Nat} {d : Array α} (h : b ≤ a) : SgI bt pos a b d := ⟨fun i j h1 h2 h3 => by omega, fun i h1 h2 => by omega⟩
theorem mult_next {s a y : Nat} (hs : 0 < s) (ha : s ∣ a) (hy : s ∣ y) (h1 : a ≤ y) (h2 : y < a + s) : y = a := by
  obtain ⟨u, rfl⟩ := ha
  obtain ⟨v, rfl⟩ := hy
  have h3 : u ≤ v := Nat.le_of_mul_le_mul_left h1 hs
  have h4 : s * v < s * (u + 1) := by rw [Nat.mul_add, Nat.mul_one]; exact h2
  have h5 : v < u + 1 := Nat.lt_of_mul_lt_mul_left h4
  rw [show v = u by omega]
theorem mult_less {s a y : Nat} (hs : 0 < s) (ha : s ∣ a) (hy : s ∣ y) (h1 : y < a) : y + s ≤ a := by
  rcases Nat.lt_or_ge a (y + s) with g | g
  · have := mult_next hs hy ha (by omega) g; omega
  · exact g
/-- One more part sorted, the last one. -/
theorem ins_blk {bt : α → α → Prop} {lt : α → α → Bool} {pos : α → Nat} (H : OrdS bt lt pos) {N a b : Nat} {d0 d : Array α} (hab : a ≤ b) (hb : b ≤ N) (hs : d.size = N) (h0 : ∀ i, i < N → pos d0[i]! = i) (hk : ∀ i, a ≤ i → d[i]! = d0[i]!) :
    SgI bt pos a b (insertionSort lt d a b) ∧ (∀ i, i < a ∨ b ≤ i → (insertionSort lt d a b)[i]! = d[i]!) ∧ (insertionSort lt d a b).size = N := by
  have hp : ∀ i, a ≤ i → i < b → pos d[i]! = i := fun i h1 h2 => by rw [hk i h1]; exact h0 i (by omega)
  obtain ⟨h1, h2⟩ := insertion_st H d hab (by omega) (fun i j h1 h2 h3 => by rw [hp i h1 (by omega), hp j (by omega) h3]; exact h2)
  exact ⟨⟨h1, h2.all (fun x => a ≤ pos x ∧ pos x < b) (fun j j1 j2 => by rw [hp j j1 j2]; exact ⟨j1, j2⟩)⟩, h2.2.1, by rw [h2.1]; exact hs⟩
set_option maxHeartbeats 8000000 in
set_option maxRecDepth 1000000 in
theorem stable_any (enc : α → Value) (cf : α → α → Int) (bt : α → α → Prop) (pos : α → Nat) (H : OrdS bt (ltOf cf) pos) (g : Nat) (cb : Array Value) (blk off cap N : Nat) (d0 : Array α) (w : World)
    (eg : ∀ args w, (callFunc g args).run Try.prog w = .ok (.enter g args) w) (hcmp : CmpLays1 Try.prog g cb enc cf blk off d0.size w) (R : Row1 enc w blk off d0) (hN : d0.size = N) (hsz : N < 1152921504606846976) (h0 : ∀ i, i < N → pos d0[i]! = i) :
    Calls Try.prog 16 #[.slice (some ⟨blk, off, none⟩) N cap, .int .i64 N, .func (.func g) #[] cb] w fun e w' => e = .returned (.tuple #[]) ∧ ∃ d' : Array α, d'.size = N ∧ SgI bt pos 0 N d' ∧ SW enc w blk off d' w' := by
  have HI : Aside _ := insOK_any enc cf g cb blk off cap N d0 w eg hcmp R hN hsz
  have HS : Aside _ := sym_ok enc cf bt pos H g cb blk off cap N d0 w eg hcmp R hN hsz (N + 1)
  have HH : Aside _ := H
  have H0 : Aside (∀ i, i < N → pos d0[i]! = i) := h0
  have HD : Aside (d0.size = N) := hN
  have S0 : Aside (SW enc w blk off d0 w) := SW.start R.hH
  clear hcmp h0 hN H R eg
  go_enter Try.func16, Try.ntmps16
  go_wp2
  go_loopg [7, 8] N (fun kx s7 s8 wr => ∃ (a : Nat) (bI : Int) (dk : Array α), s7 = .int .i64 a ∧ s8 = .int .i64 bI ∧ bI = (a : Int) + 20 ∧ a ≤ N ∧ N - a ≤ kx ∧ dk.size = N ∧ Aside (20 ∣ a) ∧ Aside (SW enc w blk off dk wr) ∧ Aside ((∀ y, y < a → 20 ∣ y → SgI bt pos y (y + 20) dk) ∧ ∀ i, a ≤ i → dk[i]! = d0[i]!))
  case atStart => exact ⟨0, 20, d0, rfl, rfl, by omega, by omega, by omega, HD.out, (⟨0, rfl⟩ : 20 ∣ 0), S0, (⟨fun y hy => by omega, fun _ _ => rfl⟩ : (∀ y, y < 0 → 20 ∣ y → SgI bt pos y (y + 20) d0) ∧ ∀ i, 0 ≤ i → d0[i]! = d0[i]!)⟩
  case round =>
    clear S0
    obtain ⟨a, bI, dk, rfl, rfl, hbI, haN, hkx, hds, HA, S1, I⟩ := hrel
    by_cases hlt : a + 20 ≤ N
    · have hltz : bI ≤ (N : Int) := by omega
      have HQ := HI.out a (a + 20) (a : Int) bI dk wr rfl (by omega) (by omega) hlt hds S1.out
      obtain ⟨i1, i2, i3⟩ := ins_blk HH.out (show a ≤ a + 20 by omega) hlt hds H0.out I.out.2
      obtain ⟨d', hd'⟩ : ∃ d', insertionSort (ltOf cf) dk a (a + 20) = d' := ⟨_, rfl⟩
      rw [hd'] at HQ i1 i2 i3
      have I2 : Aside ((∀ y, y < a + 20 → 20 ∣ y → SgI bt pos y (y + 20) d') ∧ ∀ i, a + 20 ≤ i → d'[i]! = d0[i]!) := by
        refine ⟨fun y hy h20 => ?_, fun i hi => ?_⟩
        · have ha := HA.out
          rcases Nat.lt_or_ge y a with k | k
          · exact (I.out.1 y k h20).congr fun i _ h2 => i2 i (by omega)
          · obtain rfl : y = a := by omega
            exact i1
        · rw [i2 i (by omega)]; exact I.out.2 i (by omega)
      have HA2 : Aside (20 ∣ a + 20) := by have := HA.out; show 20 ∣ a + 20; omega
      have HB : Aside _ := hbI
      have hb0 : 0 ≤ bI := by omega
      clear hd' i1 i2 I S1 HA hbI
      go_wp2_with (go_at_call 18; ((with_reducible refine HQ.mono ?_); rintro e w2 ⟨rfl, sw2⟩))
      have S2 : Aside (SW enc w blk off d' w2) := sw2
      clear sw2
      go_wp2
      go_roundg (N - (a + 20))
      case measure => omega
      case rel => exact ⟨a + 20, bI + 20, d', by rw [HB.out]; congr 1, rfl, by rw [HB.out]; omega, hlt, Nat.le_refl _, i3, HA2, S2, I2⟩
    · have hltz : ¬ bI ≤ (N : Int) := by omega
      have HQ := HI.out a N (a : Int) (N : Int) dk wr rfl rfl haN (Nat.le_refl _) hds S1.out
      obtain ⟨i1, i2, i3⟩ := ins_blk HH.out haN (Nat.le_refl _) hds H0.out I.out.2
      obtain ⟨d', hd'⟩ : ∃ d', insertionSort (ltOf cf) dk a N = d' := ⟨_, rfl⟩
      rw [hd'] at HQ i1 i2 i3
      have J : Aside (AllS bt pos N 20 d') := by
        intro y hy
        have ha := HA.out
        rcases Nat.lt_or_ge y a with k | k
        · rw [show min (y + 20) N = y + 20 by omega]
          exact (I.out.1 y k hy).congr fun i _ h2 => i2 i (by omega)
        · rcases Nat.lt_or_ge y (a + 20) with k2 | k2
          · obtain rfl : y = a := by omega
            rw [show min (y + 20) N = N by omega]; exact i1
          · exact SgI.none (by omega)
      clear hd' i1 i2 I S1 HA hbI
      go_wp2_with (go_at_call 18; ((with_reducible refine HQ.mono ?_); rintro e w2 ⟨rfl, sw2⟩))
      have S2 : Aside (SW enc w blk off d' w2) := sw2
      clear sw2
      go_loopg [6] N (fun kx s6 wr => ∃ (s : Nat) (dk : Array α), s6 = .int .i64 s ∧ 1 ≤ s ∧ s ≤ 2 * N + 20 ∧ N - s ≤ kx ∧ dk.size = N ∧ Aside (SW enc w blk off dk wr) ∧ Aside (AllS bt pos N s dk))
      case atStart => exact ⟨20, d', rfl, by omega, by omega, by omega, i3, S2, J⟩
      case round =>
        clear S2 J
        obtain ⟨s, dk, rfl, hs1, hs2, hkx2, hds2, S1, J⟩ := hrel
        by_cases hsN : s < N
        · have hsz : (s : Int) < (N : Int) := by omega
          go_wp2
          go_loopg [7, 8] N (fun kx s7 s8 wr => ∃ (a : Nat) (bI : Int) (dk : Array α), s7 = .int .i64 a ∧ s8 = .int .i64 bI ∧ bI = (a : Int) + 2 * (s : Int) ∧ a ≤ N ∧ N - a ≤ kx ∧ dk.size = N ∧ Aside (2 * s ∣ a) ∧ Aside (SW enc w blk off dk wr) ∧ Aside ((∀ y, y < a → 2 * s ∣ y → SgI bt pos y (y + 2 * s) dk) ∧ ∀ y, a ≤ y → s ∣ y → SgI bt pos y (min (y + s) N) dk))
          case atStart => exact ⟨0, _, dk, rfl, rfl, by omega, by omega, by omega, hds2, (⟨0, rfl⟩ : 2 * s ∣ 0), S1, (⟨fun y hy => by omega, fun y _ h => J.out y h⟩ : (∀ y, y < 0 → 2 * s ∣ y → SgI bt pos y (y + 2 * s) dk) ∧ ∀ y, 0 ≤ y → s ∣ y → SgI bt pos y (min (y + s) N) dk)⟩
          case round =>
            clear S1 J hds2 dk
            obtain ⟨a, bI, dk, rfl, rfl, hbI, haN, hkx3, hds, HA, S1, I⟩ := hrel
            have hsa : Aside (s ∣ a) := Nat.dvd_trans ⟨2, by omega⟩ HA.out
            have hsa2 : Aside (s ∣ a + s) := (Nat.dvd_add_right hsa.out).2 (Nat.dvd_refl s)
            by_cases hlt : a + 2 * s ≤ N
            · have hltz : bI ≤ (N : Int) := by omega
              have m1 : SgI bt pos a (a + s) dk := by have := I.out.2 a (Nat.le_refl _) hsa.out; rwa [show min (a + s) N = a + s by omega] at this
              have m2 : SgI bt pos (a + s) (a + 2 * s) dk := by have := I.out.2 (a + s) (by omega) hsa2.out; rwa [show min (a + s + s) N = a + 2 * s by omega] at this
              have HQ := HS.out a (a + s) (a + 2 * s) (a : Int) ((a : Int) + (s : Int)) bI dk wr rfl (by omega) (by omega) (by omega) (by omega) (by omega) hlt hds (m1.merge m2 (by omega) (by omega) (by omega)) S1.out
              have I2 : Aside (∀ d' : Array α, MvI a (a + 2 * s) dk d' → SrI bt a (a + 2 * s) d' → d'.size = N ∧ (∀ y, y < a + 2 * s → 2 * s ∣ y → SgI bt pos y (y + 2 * s) d') ∧ ∀ y, a + 2 * s ≤ y → s ∣ y → SgI bt pos y (min (y + s) N) d') := by
                intro d' mv sr
                refine ⟨by rw [mv.1]; exact hds, fun y hy hd => ?_, fun y hy hd => ?_⟩
                · rcases Nat.lt_or_ge y a with k | k
                  · have := mult_less (show 0 < 2 * s by omega) HA.out hd k
                    exact (I.out.1 y k hd).congr fun i _ h2 => mv.2.1 i (by omega)
                  · obtain rfl := mult_next (by omega) HA.out hd k hy
                    exact m1.merged m2 (by omega) (by omega) mv sr
                · exact (I.out.2 y (by omega) hd).congr fun i h1 _ => mv.2.1 i (by omega)
              have HA2 : Aside (2 * s ∣ a + 2 * s) := (Nat.dvd_add_right HA.out).2 (Nat.dvd_refl _)
              have HB : Aside _ := hbI
              have hb0 : 0 ≤ bI := by omega
              clear m1 m2 I S1 HA hsa hsa2 hbI
              go_wp2_with (go_at_call 19; ((with_reducible refine HQ.mono ?_); rintro e w2 ⟨rfl, d2, mv2, sr2, sw2⟩))
              have S2 : Aside (SW enc w blk off d2 w2) := sw2
              have I3 := I2.out d2 mv2 sr2
              have hd3 := I3.1
              have I4 : Aside _ := I3.2
              clear sw2 mv2 sr2 I3 I2
              go_wp2
              go_roundg (N - (a + 2 * s))
              case measure => omega
              case rel => exact ⟨a + 2 * s, bI + 2 * (s : Int), d2, by rw [HB.out]; first | (congr 1; done) | (congr 1; omega), rfl, by rw [HB.out]; omega, hlt, Nat.le_refl _, hd3, HA2, S2, I4⟩
            · have hltz : ¬ bI ≤ (N : Int) := by omega
              have I2 : Aside (∀ d' : Array α, (∀ i, i < a → d'[i]! = dk[i]!) → SgI bt pos a N d' → AllS bt pos N (2 * s) d') := by
                intro d' mv sg y hd
                rcases Nat.lt_or_ge y a with k | k
                · have := mult_less (show 0 < 2 * s by omega) HA.out hd k
                  rw [show min (y + 2 * s) N = y + 2 * s by omega]
                  exact (I.out.1 y k hd).congr fun i _ h2 => mv i (by omega)
                · rcases Nat.lt_or_ge y (a + 2 * s) with k2 | k2
                  · obtain rfl := mult_next (by omega) HA.out hd k k2
                    rw [show min (y + 2 * s) N = N by omega]; exact sg
                  · exact SgI.none (by omega)
              have m1 : SgI bt pos a (min (a + s) N) dk := I.out.2 a (Nat.le_refl _) hsa.out
              by_cases hm : a + s < N
              · have hmz : (a : Int) + (s : Int) < (N : Int) := by omega
                rw [show min (a + s) N = a + s by omega] at m1
                have m2 : SgI bt pos (a + s) N dk := by have := I.out.2 (a + s) (by omega) hsa2.out; rwa [show min (a + s + s) N = N by omega] at this
                have HQ := HS.out a (a + s) N (a : Int) ((a : Int) + (s : Int)) (N : Int) dk wr rfl (by omega) rfl (by omega) (by omega) (by omega) (Nat.le_refl _) hds (m1.merge m2 (by omega) (by omega) (by omega)) S1.out
                have I3 : Aside (∀ d' : Array α, MvI a N dk d' → SrI bt a N d' → d'.size = N ∧ AllS bt pos N (2 * s) d') := fun d' mv sr => ⟨by rw [mv.1]; exact hds, I2.out d' (fun i hi => mv.2.1 i (.inl hi)) (m1.merged m2 (by omega) (by omega) mv sr)⟩
                clear m1 m2 I S1 HA hsa hsa2 I2
                go_wp2_with (go_at_call 19; ((with_reducible refine HQ.mono ?_); rintro e w2 ⟨rfl, d2, mv2, sr2, sw2⟩))
                have S2 : Aside (SW enc w blk off d2 w2) := sw2
                have I4 := I3.out d2 mv2 sr2
                have hd3 := I4.1
                have I5 : Aside _ := I4.2
                clear sw2 mv2 sr2 I3 I4
                go_wp2
                go_roundg (N - 2 * s)
                case measure => omega
                case rel => exact ⟨2 * s, d2, by first | rfl | go_num | (congr 1; omega), by omega, by omega, Nat.le_refl _, hd3, S2, I5⟩
              · have hmz : ¬ (a : Int) + (s : Int) < (N : Int) := by omega
                rw [show min (a + s) N = N by omega] at m1
                have I5 : Aside (AllS bt pos N (2 * s) dk) := I2.out dk (fun _ _ => rfl) m1
                clear m1 I HA hsa hsa2 I2
                go_wp2
                go_roundg (N - 2 * s)
                case measure => omega
                case rel => exact ⟨2 * s, dk, by first | rfl | go_num | (congr 1; omega), by omega, by omega, Nat.le_refl _, hds, S1, I5⟩
        · have hsz : ¬ (s : Int) < (N : Int) := by omega
          have J0 : Aside (SgI bt pos 0 N dk) := by have := J.out 0 ⟨0, rfl⟩; rwa [show min (0 + s) N = N by omega] at this
          go_wp2
          go_end0
          exact ⟨rfl, dk, hds2, J0.out, S1.out⟩
set_option maxHeartbeats 4000000 in
theorem sortStable_any (enc : α → Value) (cf : α → α → Int) (bt : α → α → Prop) (pos : α → Nat) (H : OrdS bt (ltOf cf) pos) (g : Nat) (cb : Array Value) (blk off cap N : Nat) (d0 : Array α) (w : World)
    (eg : ∀ args w, (callFunc g args).run Try.prog w = .ok (.enter g args) w) (hcmp : CmpLays1 Try.prog g cb enc cf blk off d0.size w) (R : Row1 enc w blk off d0) (hN : d0.size = N) (hsz : N < 1152921504606846976) (h0 : ∀ i, i < N → pos d0[i]! = i) :
    Calls Try.prog 13 #[.slice (some ⟨blk, off, none⟩) N cap, .func (.func g) #[] cb] w fun e w' => e = .returned (.tuple #[]) ∧ ∃ d' : Array α, d'.size = N ∧ SgI bt pos 0 N d' ∧ SW enc w blk off d' w' := by
  have HQ := Lib.hid (stable_any enc cf bt pos H g cb blk off cap N d0 w eg hcmp R hN hsz h0)
  clear hcmp h0 hN H R eg hsz
  go_enter Try.func13, Try.ntmps13
  go_wp2_with (go_at_call 16; ((with_reducible refine HQ.out.mono ?_); rintro e w2 ⟨rfl, d2, hd2, sg2, sw2⟩))
  go_end0
  exact ⟨rfl, d2, hd2, sg2, sw2⟩
end
end Go.Proofs.Ytalnfbgaiegicaa
