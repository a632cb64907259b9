/- The walk of the law DateWords. -/
import Derived.Test.YteigcgncbkjmaaaDoorDatW
namespace Go.Proofs.YteigcgncbkjmaaaDoor
open Go Go.RowKit Go.Op

theorem text_str (y m d n : Int) (s : ByteArray) (h : IsDate y m d n) (hn : n ≤ 99999) (hs : txt y m d = s.data.toList) (w : World) (hv : VarS w) :
    Calls Tryd.prog 26 #[.int .i64 n] w fun r w' => r = .returned (.tuple #[.string s, .int .i64 0]) ∧ Below w.heap.size w w' :=
  text_at y m d n s.data.toList h hn hs w hv
theorem text_some (n : Int) : ∃ s e, ∀ (w : World), VarS w → Calls Tryd.prog 26 #[.int .i64 n] w fun r w' => r = .returned (.tuple #[.string s, .int .i64 e]) ∧ Below w.heap.size w w' := by
  by_cases h : n < 0 ∨ 99999 < n
  · exact ⟨_, _, fun w _ => (text2_out n h w).mono fun e w' ⟨a, b⟩ => ⟨a, by rw [← b]; exact Below.refl _ _⟩⟩
  · obtain ⟨y, m, d, hd⟩ := isDate_of n (by omega)
    exact ⟨_, _, fun w hv => text2_in y m d n hd (by omega) w hv⟩
/-- What Parse answers, in three cases. -/
theorem parse_cases (s : ByteArray) : (paV s.data.toList = 0 ∧ paE s.data.toList = 12) ∨ (paV s.data.toList = 0 ∧ paE s.data.toList = 2) ∨
    (paE s.data.toList = 0 ∧ ∃ y m d, IsDate y m d (paV s.data.toList) ∧ paV s.data.toList ≤ 99999 ∧ txt y m d = s.data.toList) := by
  unfold paV paE
  cases hf : fmB s.data.toList
  · exact .inl ⟨rfl, rfl⟩
  · right
    cases ho : okB (pY s.data.toList) (pM s.data.toList) (pD s.data.toList)
    · left; unfold ofV ofE; rw [ho]; exact ⟨rfl, rfl⟩
    · right
      obtain ⟨hi, hl⟩ := okB_date ho
      unfold ofV ofE; rw [ho]
      exact ⟨rfl, _, _, _, hi, hl, txt_back _ hf⟩

set_option maxRecDepth 100000 in
set_option maxHeartbeats 3200000 in
theorem words_out (n : Int) (s : ByteArray) (v g : Int) (ho : n < 0 ∨ 99999 < n)
    (hp : ∀ w : World, VarS w → Calls Tryd.prog 17 #[.string s] w fun r w' => r = .returned (.tuple #[.int .i64 v, .int .i64 g]) ∧ Below w.heap.size w w')
    (hc : (v = 0 ∧ g = 12) ∨ (v = 0 ∧ g = 2) ∨ (g = 0 ∧ Hid (∀ w : World, VarS w → Calls Tryd.prog 26 #[.int .i64 v] w fun r w' => r = .returned (.tuple #[.string s, .int .i64 0]) ∧ Below w.heap.size w w')))
    (w : World) (hv : VarS w) :
    Calls Tryd.prog 10 #[.int .i64 n, .string s] w fun e w' => e = .returned (.bool true) ∧ Below w.heap.size w w' := by
  have HV := Lib.hid hv
  have HA := Lib.hid (alive_any w hv)
  have HP := Lib.hid hp
  have HT := Lib.hid (text2_out n ho)
  clear hp hv
  have ho' : n < 0 ∨ (0 ≤ n ∧ 99999 < n) := by omega
  clear ho
  rcases ho' with ho | ⟨ho0, ho⟩
  · obtain ⟨S, f, hb⟩ := text_some (wrap64 (n.tdiv 2))
    have HB := Lib.hid hb
    clear hb
    rcases hc with ⟨rfl, rfl⟩ | ⟨rfl, rfl⟩ | ⟨rfl, HS⟩
    all_goals
      go_enter Tryd.func10, Tryd.ntmps10
      go_wp2_with (first
        | (go_at_call 19; ((with_reducible refine HA.out.mono ?_); rintro e w1 ⟨rfl, b⟩; have B1 := Lib.hid b; clear b))
        | (go_at_call 26; ((with_reducible refine (HT.out _).mono ?_); rintro e w2 ⟨rfl, rfl⟩))
        | (go_at_call 26; ((with_reducible refine (HB.out _ (HV.out.below B1.out)).mono ?_); rintro e w2 ⟨rfl, b⟩; have B2 := Lib.hid (bt B1.out b); clear b))
        | (go_at_call 17; ((with_reducible refine (HP.out _ (HV.out.below B2.out)).mono ?_); rintro e w3 ⟨rfl, b⟩; have B3 := Lib.hid (bt B2.out b); clear b))
        | (go_at_call 26; ((with_reducible refine (HS.out _ (HV.out.below B3.out)).mono ?_); rintro e w4 ⟨rfl, b⟩; have B4 := Lib.hid (bt B3.out b); clear b)))
      go_ret
      first | exact ⟨rfl, B4.out⟩ | exact ⟨rfl, B3.out⟩
  · obtain ⟨S, f, hb⟩ := text_some (wrap64 (n.tdiv 2))
    have HB := Lib.hid hb
    clear hb
    rcases hc with ⟨rfl, rfl⟩ | ⟨rfl, rfl⟩ | ⟨rfl, HS⟩
    all_goals
      go_enter Tryd.func10, Tryd.ntmps10
      go_wp2_with (first
        | (go_at_call 19; ((with_reducible refine HA.out.mono ?_); rintro e w1 ⟨rfl, b⟩; have B1 := Lib.hid b; clear b))
        | (go_at_call 26; ((with_reducible refine (HT.out _).mono ?_); rintro e w2 ⟨rfl, rfl⟩))
        | (go_at_call 26; ((with_reducible refine (HB.out _ (HV.out.below B1.out)).mono ?_); rintro e w2 ⟨rfl, b⟩; have B2 := Lib.hid (bt B1.out b); clear b))
        | (go_at_call 17; ((with_reducible refine (HP.out _ (HV.out.below B2.out)).mono ?_); rintro e w3 ⟨rfl, b⟩; have B3 := Lib.hid (bt B2.out b); clear b))
        | (go_at_call 26; ((with_reducible refine (HS.out _ (HV.out.below B3.out)).mono ?_); rintro e w4 ⟨rfl, b⟩; have B4 := Lib.hid (bt B3.out b); clear b)))
      go_ret
      first | exact ⟨rfl, B4.out⟩ | exact ⟨rfl, B3.out⟩

set_option maxRecDepth 100000 in
set_option maxHeartbeats 3200000 in
theorem words_in (n : Int) (s A B : ByteArray) (v g : Int) (h0 : 0 ≤ n) (h1 : n ≤ 99999) (hA : A.size = 10) (hAB : bytesLess B.toList A.toList = decide (n / 2 < n))
    (ha : ∀ w : World, VarS w → Calls Tryd.prog 26 #[.int .i64 n] w fun r w' => r = .returned (.tuple #[.string A, .int .i64 0]) ∧ Below w.heap.size w w')
    (hb : ∀ w : World, VarS w → Calls Tryd.prog 26 #[.int .i64 (n / 2)] w fun r w' => r = .returned (.tuple #[.string B, .int .i64 0]) ∧ Below w.heap.size w w')
    (hpa : ∀ w : World, VarS w → Calls Tryd.prog 17 #[.string A] w fun r w' => r = .returned (.tuple #[.int .i64 n, .int .i64 0]) ∧ Below w.heap.size w w')
    (hp : ∀ w : World, VarS w → Calls Tryd.prog 17 #[.string s] w fun r w' => r = .returned (.tuple #[.int .i64 v, .int .i64 g]) ∧ Below w.heap.size w w')
    (hc : (v = 0 ∧ g = 12) ∨ (v = 0 ∧ g = 2) ∨ (g = 0 ∧ Hid (∀ w : World, VarS w → Calls Tryd.prog 26 #[.int .i64 v] w fun r w' => r = .returned (.tuple #[.string s, .int .i64 0]) ∧ Below w.heap.size w w')))
    (w : World) (hv : VarS w) :
    Calls Tryd.prog 10 #[.int .i64 n, .string s] w fun e w' => e = .returned (.bool true) ∧ Below w.heap.size w w' := by
  have HV := Lib.hid hv
  have HA := Lib.hid (alive_any w hv)
  have HP := Lib.hid hp
  have HPA := Lib.hid hpa
  have HT := Lib.hid ha
  have HB := Lib.hid hb
  clear hp hpa ha hb hv
  by_cases hz : n / 2 < n
  · rw [decide_eq_true hz] at hAB
    rcases hc with ⟨rfl, rfl⟩ | ⟨rfl, rfl⟩ | ⟨rfl, HS⟩
    all_goals
      go_enter Tryd.func10, Tryd.ntmps10
      go_wp2_with (first
        | (go_at_call 19; ((with_reducible refine HA.out.mono ?_); rintro e w1 ⟨rfl, b⟩; have B1 := Lib.hid b; clear b))
        | (go_at_call 26; ((with_reducible refine (HT.out _ (HV.out.below B1.out)).mono ?_); rintro e w2 ⟨rfl, b⟩; have B2 := Lib.hid (bt B1.out b); clear b))
        | (go_at_call 26; ((with_reducible refine (HB.out _ (HV.out.below B2.out)).mono ?_); rintro e w3 ⟨rfl, b⟩; have B3 := Lib.hid (bt B2.out b); clear b))
        | (go_at_call 17; ((with_reducible refine (HPA.out _ (HV.out.below B3.out)).mono ?_); rintro e w4 ⟨rfl, b⟩; have B4 := Lib.hid (bt B3.out b); clear b))
        | (go_at_call 17; ((with_reducible refine (HP.out _ (HV.out.below B4.out)).mono ?_); rintro e w5 ⟨rfl, b⟩; have B5 := Lib.hid (bt B4.out b); clear b))
        | (go_at_call 26; ((with_reducible refine (HS.out _ (HV.out.below B5.out)).mono ?_); rintro e w6 ⟨rfl, b⟩; have B6 := Lib.hid (bt B5.out b); clear b)))
      go_ret
      first | exact ⟨rfl, B6.out⟩ | exact ⟨rfl, B5.out⟩
  · rw [decide_eq_false hz] at hAB
    rcases hc with ⟨rfl, rfl⟩ | ⟨rfl, rfl⟩ | ⟨rfl, HS⟩
    all_goals
      go_enter Tryd.func10, Tryd.ntmps10
      go_wp2_with (first
        | (go_at_call 19; ((with_reducible refine HA.out.mono ?_); rintro e w1 ⟨rfl, b⟩; have B1 := Lib.hid b; clear b))
        | (go_at_call 26; ((with_reducible refine (HT.out _ (HV.out.below B1.out)).mono ?_); rintro e w2 ⟨rfl, b⟩; have B2 := Lib.hid (bt B1.out b); clear b))
        | (go_at_call 26; ((with_reducible refine (HB.out _ (HV.out.below B2.out)).mono ?_); rintro e w3 ⟨rfl, b⟩; have B3 := Lib.hid (bt B2.out b); clear b))
        | (go_at_call 17; ((with_reducible refine (HPA.out _ (HV.out.below B3.out)).mono ?_); rintro e w4 ⟨rfl, b⟩; have B4 := Lib.hid (bt B3.out b); clear b))
        | (go_at_call 17; ((with_reducible refine (HP.out _ (HV.out.below B4.out)).mono ?_); rintro e w5 ⟨rfl, b⟩; have B5 := Lib.hid (bt B4.out b); clear b))
        | (go_at_call 26; ((with_reducible refine (HS.out _ (HV.out.below B5.out)).mono ?_); rintro e w6 ⟨rfl, b⟩; have B6 := Lib.hid (bt B5.out b); clear b)))
      go_ret
      first | exact ⟨rfl, B6.out⟩ | exact ⟨rfl, B5.out⟩

theorem words_law (n : Int) (s : ByteArray) (w : World) (hv : VarS w) :
    Calls Tryd.prog 10 #[.int .i64 n, .string s] w fun e w' => e = .returned (.bool true) ∧ Below w.heap.size w w' := by
  have hp := fun (w : World) (hv : VarS w) => parse_at s _ _ rfl rfl w hv.d
  have hc : (paV s.data.toList = 0 ∧ paE s.data.toList = 12) ∨ (paV s.data.toList = 0 ∧ paE s.data.toList = 2) ∨ (paE s.data.toList = 0 ∧ Hid (∀ w : World, VarS w → Calls Tryd.prog 26 #[.int .i64 (paV s.data.toList)] w fun r w' => r = .returned (.tuple #[.string s, .int .i64 0]) ∧ Below w.heap.size w w')) := by
    rcases parse_cases s with h | h | ⟨h, y, m, d, h1, h2, h3⟩
    · exact .inl h
    · exact .inr (.inl h)
    · exact .inr (.inr ⟨h, fun w hv => text_str y m d _ s h1 h2 h3 w hv⟩)
  by_cases ho : n < 0 ∨ 99999 < n
  · exact words_out n s _ _ ho hp hc w hv
  · obtain ⟨y, m, d, h⟩ := isDate_of n (by omega)
    obtain ⟨y', m', d', h'⟩ := isDate_of (n / 2) (by omega)
    have hn : n ≤ 99999 := by omega
    have hn' : n / 2 ≤ 99999 := by omega
    have ht := txt_date h hn
    exact words_in n s ⟨(txt y m d).toArray⟩ ⟨(txt y' m' d').toArray⟩ _ _ (by omega) hn rfl (by
        rw [ByteArray.toList_eq, ByteArray.toList_eq]
        exact txt_less h' hn' h hn)
      (fun w hv => text2_in y m d n h hn w hv) (fun w hv => text2_in y' m' d' (n / 2) h' hn' w hv) (fun w hv => parse_at _ n 0 ht.1 ht.2 w hv.d) hp hc w hv
end Go.Proofs.YteigcgncbkjmaaaDoor
