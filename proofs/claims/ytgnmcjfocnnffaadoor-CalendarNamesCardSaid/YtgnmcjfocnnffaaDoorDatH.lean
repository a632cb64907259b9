/- Layer 3: the program's walks: the text of a date. -/
import Derived.Test.YtgnmcjfocnnffaaDoorDatG
namespace Go.Proofs.YtgnmcjfocnnffaaDoor
open Go Go.RowKit

theorem below_grow (w : World) (k : Nat) (os : Array Obj) : Below w.heap.size w («Sort».grow (w.drewN k) os) := by
  refine ⟨rfl, rfl, rfl, ?_, fun i hi => ?_⟩
  · show w.heap.size ≤ (w.heap ++ os).size
    simp
  · show (w.heap ++ os)[i]? = w.heap[i]?
    rw [Array.getElem?_append_left hi]
theorem itoa_any (n : Int) (h0 : 0 ≤ n) (h1 : n ≤ 99999) (w : World) (hv : VarS w) :
    Calls Tryd.prog 59 #[.int .i64 n] w fun e w' => e = .returned (.string ⟨(Lib.itoa n).toArray⟩) ∧ Below w.heap.size w w' :=
  (Tryd.strconv_Itoa n (by omega) (by omega) w hv.tab).mono fun e w' h => by
    obtain ⟨rfl, k, os, rfl⟩ := h
    exact ⟨rfl, below_grow _ _ _⟩

theorem ret_ba {a b : ByteArray} (h : a.data.toList = b.data.toList) : Ending.returned (.string a) = .returned (.string b) := by
  obtain ⟨⟨x⟩⟩ := a; obtain ⟨⟨y⟩⟩ := b
  have h' : x = y := h
  rw [h']
theorem app_list (a b : ByteArray) : (a ++ b).data.toList = a.data.toList ++ b.data.toList := by
  rw [ByteArray.data_append, Array.toList_append]

set_option maxHeartbeats 400000 in
theorem twoDigits_any (n : Int) (h0 : 0 ≤ n) (h1 : n < 100) (w : World) (hv : VarS w) :
    Calls Tryd.prog 60 #[.int .i64 n] w fun e w' => e = .returned (.string ⟨(two n).toArray⟩) ∧ Below w.heap.size w w' := by
  have HI := Lib.hid (itoa_any n h0 (by omega) w hv)
  obtain ⟨k, rfl⟩ : ∃ k : Nat, n = k := ⟨n.toNat, by omega⟩
  have HT := Lib.hid (itoa_two k (by omega))
  clear hv
  obtain ⟨l, hl⟩ : ∃ l, Lib.itoa (k : Int) = l := ⟨_, rfl⟩
  rw [hl] at HI HT
  have hsz : l.length ≤ 2 := by
    have := congrArg List.length HT.out
    split at this <;> simp [two] at this <;> omega
  clear hl
  by_cases h : (k : Int) < 10
  · have HT2 : Hid (48 :: l = two k) := by have := HT.out; rw [if_pos (by omega)] at this; exact this
    have hs : (⟨#[48]⟩ : ByteArray).size + (⟨l.toArray⟩ : ByteArray).size ≤ 9223372036854775807 := by show 1 + l.toArray.size ≤ _; rw [List.size_toArray]; omega
    clear HT hsz
    obtain ⟨s, hs2⟩ : ∃ s : ByteArray, s = ⟨l.toArray⟩ := ⟨_, rfl⟩
    rw [← hs2] at HI hs
    have HS := Lib.hid hs2
    clear hs2
    go_enter Tryd.func60, Tryd.ntmps60
    go_wp2_with (go_at_call 59; ((with_reducible refine HI.out.mono ?_); rintro e w1 ⟨rfl, hb⟩))
    go_ret
    exact ⟨ret_ba (by rw [app_list, HS.out, ← HT2.out]; rfl), hb⟩
  · have HT2 : Hid (l = two k) := by have := HT.out; rw [if_neg (by omega)] at this; exact this
    clear HT hsz
    go_enter Tryd.func60, Tryd.ntmps60
    go_wp2_with (go_at_call 59; ((with_reducible refine HI.out.mono ?_); rintro e w1 ⟨rfl, hb⟩))
    go_ret
    exact ⟨by rw [HT2.out]; rfl, hb⟩

theorem bt {a b c : World} (h : Below a.heap.size a b) (k : Below b.heap.size b c) : Below a.heap.size a c := h.trans (k.mono h.size)
set_option maxHeartbeats 800000 in
theorem text_any (y m d : Int) (y0 : 1900 ≤ y) (y1 : y ≤ 2173) (m0 : 0 ≤ m) (m1 : m < 100) (d0 : 0 ≤ d) (d1 : d < 100) (w : World) (hv : VarS w) :
    Calls Tryd.prog 48 #[.int .i64 y, .int .i64 m, .int .i64 d] w fun e w' => e = .returned (.string ⟨(txt y m d).toArray⟩) ∧ Below w.heap.size w w' := by
  have H1 := Lib.hid (itoa_any y (by omega) (by omega) w hv)
  have H2 := Lib.hid (twoDigits_any m m0 m1)
  have H3 := Lib.hid (twoDigits_any d d0 d1)
  have HV := Lib.hid hv
  have ey : Lib.itoa y = four y := by
    obtain ⟨k, rfl⟩ : ∃ k : Nat, y = k := ⟨y.toNat, by omega⟩
    exact itoa_four k (by omega) (by omega)
  rw [ey] at H1
  have HT : Hid (four y ++ [45] ++ two m ++ [45] ++ two d = txt y m d) := rfl
  obtain ⟨sy, hy⟩ : ∃ s : ByteArray, s = ⟨(four y).toArray⟩ := ⟨_, rfl⟩
  obtain ⟨sm, hm⟩ : ∃ s : ByteArray, s = ⟨(two m).toArray⟩ := ⟨_, rfl⟩
  obtain ⟨sd, hd⟩ : ∃ s : ByteArray, s = ⟨(two d).toArray⟩ := ⟨_, rfl⟩
  have zy : sy.size ≤ 4 := by rw [hy]; exact Nat.le_refl _
  have zm : sm.size ≤ 2 := by rw [hm]; exact Nat.le_refl _
  have zd : sd.size ≤ 2 := by rw [hd]; exact Nat.le_refl _
  rw [← hy] at H1
  rw [← hm] at H2
  rw [← hd] at H3
  have HY := Lib.hid hy
  have HM := Lib.hid hm
  have HD := Lib.hid hd
  have hs1 : sy.size + (⟨#[45]⟩ : ByteArray).size ≤ 9223372036854775807 := by show sy.size + 1 ≤ _; omega
  have hs2 : (sy ++ ⟨#[45]⟩).size + sm.size ≤ 9223372036854775807 := by rw [ByteArray.size_append]; show sy.size + 1 + _ ≤ _; omega
  have hs3 : (sy ++ ⟨#[45]⟩ ++ sm).size + (⟨#[45]⟩ : ByteArray).size ≤ 9223372036854775807 := by rw [ByteArray.size_append, ByteArray.size_append]; show sy.size + 1 + _ + 1 ≤ _; omega
  have hs4 : (sy ++ ⟨#[45]⟩ ++ sm ++ ⟨#[45]⟩).size + sd.size ≤ 9223372036854775807 := by rw [ByteArray.size_append, ByteArray.size_append, ByteArray.size_append]; show sy.size + 1 + _ + 1 + _ ≤ _; omega
  clear hy hm hd ey hv
  go_enter Tryd.func48, Tryd.ntmps48
  go_wp2_with (first
    | (go_at_call 59; ((with_reducible refine H1.out.mono ?_); rintro e w1 ⟨rfl, b⟩; have B1 := Lib.hid b; clear b))
    | (go_at_call 60; ((with_reducible refine (H2.out _ (HV.out.below B1.out)).mono ?_); rintro e w2 ⟨rfl, b⟩; have B2 := Lib.hid (bt B1.out b); clear b))
    | (go_at_call 60; ((with_reducible refine (H3.out _ (HV.out.below B2.out)).mono ?_); rintro e w3 ⟨rfl, b⟩; have B3 := Lib.hid (bt B2.out b); clear b)))
  go_ret
  exact ⟨ret_ba (by simp only [app_list, HY.out, HM.out, HD.out]; exact HT.out), B3.out⟩

set_option maxHeartbeats 400000 in
theorem text2_in (Y M D n : Int) (h : IsDate Y M D n) (hn : n ≤ 99999) (w : World) (hv : VarS w) :
    Calls Tryd.prog 31 #[.int .i64 n] w fun e w' => e = .returned (.tuple #[.string ⟨(txt Y M D).toArray⟩, .int .i64 0]) ∧ Below w.heap.size w w' := by
  have HP := Lib.hid (parts4_in Y M D n h hn w hv.d)
  have HT := Lib.hid (text_any Y M D h.y0 (h.y1 hn) (by have := h.m0; omega) (by have := h.m1; omega) (by have := h.d0; omega) (by have := h.d31; omega) w hv)
  clear h hn hv
  go_enter Tryd.func31, Tryd.ntmps31
  go_wp2_with (first
    | (go_at_call 23; ((with_reducible refine HP.out.mono ?_); rintro e w1 ⟨rfl, rfl⟩))
    | (go_at_call 48; ((with_reducible refine HT.out.mono ?_); rintro e w1 ⟨rfl, b⟩)))
  go_ret2
  exact ⟨rfl, b⟩
set_option maxHeartbeats 400000 in
theorem text2_out (n : Int) (h : n < 0 ∨ 99999 < n) (w : World) :
    Calls Tryd.prog 31 #[.int .i64 n] w fun e w' => e = .returned (.tuple #[.string ⟨#[]⟩, .int .i64 2]) ∧ w = w' := by
  have HP := Lib.hid (parts4_out n h w)
  clear h
  go_enter Tryd.func31, Tryd.ntmps31
  go_wp2_with (go_at_call 23; ((with_reducible refine HP.out.mono ?_); rintro e w1 ⟨rfl, rfl⟩))
  go_ret2
  exact ⟨rfl, rfl⟩
end Go.Proofs.YtgnmcjfocnnffaaDoor
