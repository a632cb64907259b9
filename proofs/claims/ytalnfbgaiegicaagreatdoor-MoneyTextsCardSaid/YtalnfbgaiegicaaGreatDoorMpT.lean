/- Layer 7: the reference's Show. -/
import Derived.Test.YtalnfbgaiegicaaGreatDoorMoU
import Derived.Test.YtalnfbgaiegicaaGreatDoorMoC
import Derived.Test.YtalnfbgaiegicaaGreatDoorIntA9
namespace Go.Proofs.YtalnfbgaiegicaaGreatDoor
open Go Go.RowKit

theorem dch_nat (d : Nat) (h : d < 10) : ((dch d).toNat : Int) = 48 + (d : Int) := by
  have : ∀ d : Fin 10, ((dch d.val).toNat : Int) = 48 + (d.val : Int) := by decide
  exact this ⟨d, h⟩
theorem conv_digitM (w : World) (z : Nat) :
    (convert 79 9 (.slice (some ⟨w.heap.size, 0, none⟩) 1 1)).run Tryz.prog (w.alloc (.cells #[.int .u8 (48 + (z : Int) % 10)] 5)) = .ok (.string ⟨[dch (z % 10)].toArray⟩) (w.alloc (.cells #[.int .u8 (48 + (z : Int) % 10)] 5)) := by
  refine run_convert_bytes_back _ 79 9 5 ⟨w.heap.size, 0, none⟩ 1 [dch (z % 10)] Tryz.underlying79 Tryz.underlying5 Tryz.underlying9 fun j hj => ?_
  obtain rfl : j = 0 := by simpa using hj
  have h := dch_nat (z % 10) (Nat.mod_lt _ (by omega))
  show (w.alloc _).cell? ⟨w.heap.size, 0, none⟩ = some (.int .u8 ((dch (z % 10)).toNat : Int))
  rw [World.cell?_alloc_at _ _ _ _ rfl, h, Int.natCast_emod]
  rfl
theorem runit_unT (c : ByteArray) (w : World) : Calls Tryz.prog 18 #[.string c] w (UnR (unV c.data.toList) (unE c.data.toList) w) :=
  (runit_any c w).mono fun _ _ ⟨h1, h2⟩ => ⟨h1, h2 ▸ Below.refl _ _⟩
def ShwR (T : List UInt8) (w : World) (e : Ending) (w' : World) : Prop := ∃ R : ByteArray, e = .returned (.tuple #[.string R, .int .i64 0]) ∧ R.data.toList = T ∧ Below w.heap.size w w'
section
set_option maxRecDepth 100000
set_option maxHeartbeats 3200000
theorem rshow_bad (c : ByteArray) (n uv ue : Int) (w : World) (hb : ue = 2 ∨ ue = 0 ∧ amB n = false)
    (H1 : Calls Tryz.prog 18 #[.string c] w (UnR uv ue w)) :
    Calls Tryz.prog 22 #[.int .i64 n, .string c] w (StE ⟨#[]⟩ 2 w) := by
  have J1 := Lib.hid H1
  clear H1
  rcases hb with rfl | ⟨rfl, hm⟩
  · go_enter Tryz.func22, Tryz.ntmps22
    go_wp2_with (go_at_call 18; ((with_reducible refine J1.out.mono ?_); rintro e w1 ⟨rfl, b⟩; have B1 := Lib.hid b; clear b))
    go_ret2
    exact ⟨rfl, B1.out⟩
  · have J2 := Lib.hid (fun W => ramount_any n false hm W)
    clear hm
    go_enter Tryz.func22, Tryz.ntmps22
    go_wp2_with (first
      | (go_at_call 18; ((with_reducible refine J1.out.mono ?_); rintro e w1 ⟨rfl, b⟩; have B1 := Lib.hid b; clear b))
      | (go_at_call 48; ((with_reducible refine (J2.out _).mono ?_); rintro e w2 ⟨rfl, rfl⟩)))
    go_ret2
    exact ⟨rfl, B1.out⟩
theorem rshow_walk (c : ByteArray) (n : Int) (u m : Nat) (hm : n.natAbs = m) (hu : u ≤ 3) (hc : c.size ≤ 40) (hn : amB n = true) (w : World)
    (H1 : Calls Tryz.prog 18 #[.string c] w (UnR u 0 w)) :
    Calls Tryz.prog 22 #[.int .i64 n, .string c] w (ShwR (shN u n ++ 32 :: c.data.toList) w) := by
  have J1 := Lib.hid H1
  have J2 := Lib.hid (fun W => ramount_any n true hn W)
  obtain ⟨n0, n1⟩ := (amB_iff n).1 hn
  have hm1 : (m : Int) ≤ 1125899906842624 := by omega
  have hsn : (n < 0 ∧ -n = (m : Int)) ∨ (¬ n < 0 ∧ n = (m : Int)) := by omega
  have HN : Hid (shN u n = (if n < 0 then [45] else []) ++ (Lib.itoa ((m / 10 ^ u : Nat) : Int) ++ (if u = 0 then [] else 46 :: lasD u m))) := by show _ = _; unfold shN shM; rw [hm]
  clear H1 hm hn
  rcases hsn with ⟨h0, hs⟩ | ⟨h0, rfl⟩
  · have HH := Lib.hid h0
    go_enter Tryz.func22, Tryz.ntmps22
    go_wp2_with (first
      | (go_at_call 18; ((with_reducible refine J1.out.mono ?_); rintro e w1 ⟨rfl, b⟩; have B1 := Lib.hid b; clear b))
      | (go_at_call 48; ((with_reducible refine (J2.out _).mono ?_); rintro e w2 ⟨rfl, rfl⟩)))
    go_loopw [8, 9, 10] (fun q s i wr => ∃ (j : Nat) (S : ByteArray) (z : Nat), j ≤ u ∧ i = .int .i64 j ∧ q = .int .i64 z ∧ (z : Int) ≤ 1125899906842624 ∧ s = .string S ∧ S.size = j ∧ Hid (z = m / 10 ^ j) ∧ Hid (lasD (u - j) z ++ S.data.toList = lasD u m) ∧ Hid (Below w.heap.size w wr)) (fun _ _ i _ => u - (intOf i).toNat)
    case atStart => exact ⟨0, ⟨#[]⟩, m, by omega, rfl, rfl, by omega, rfl, rfl, by show m = m / 1; omega, by show _ = _; simp, B1⟩
    case round =>
      clear B1
      obtain ⟨j, S, z, hj, rfl, rfl, z1, rfl, hn, hz, hl, hb⟩ := hrel
      by_cases hlt : j < u
      · have hlt' : (j : Int) < (u : Int) := by omega
        have hcv := conv_digitM wr z
        obtain ⟨D, hD⟩ : ∃ D : ByteArray, ⟨[dch (z % 10)].toArray⟩ = D := ⟨_, rfl⟩
        rw [hD] at hcv
        have hDs : D.size = 1 := by rw [← hD]; rfl
        have hfit : ¬ 9223372036854775807 < D.size + S.size := by omega
        have HL : Hid (lasD (u - (j + 1)) (z / 10) ++ (D ++ S).data.toList = lasD u m) := by
          show _ = _
          rw [ba_app, ← hD, ← hl.out, show u - j = (u - (j + 1)) + 1 by omega]
          show _ = (lasD (u - (j + 1)) (z / 10) ++ [dch (z % 10)]) ++ _
          rw [List.append_assoc]
        have HZ : Hid (z / 10 = m / 10 ^ (j + 1)) := by show _ = _; rw [hz.out, Nat.pow_succ, Nat.div_div_eq_div_mul]
        have hsz : (D ++ S).size = j + 1 := by rw [ByteArray.size_append]; omega
        have HB : Hid (Below w.heap.size w (wr.alloc (.cells #[.int .u8 (48 + (z : Int) % 10)] 5))) := hb.out.alloc hb.out.size _
        clear hl hb hD hz
        go_wp2
        go_round
        case rel => exact ⟨j + 1, D ++ S, z / 10, by omega, by go_num, by rw [Int.natCast_ediv]; rfl, by omega, rfl, hsz, HZ, HL, HB⟩
        case measure => simp [intOf]; omega
      · obtain rfl : j = u := by omega
        have HL : Hid (S.data.toList = lasD j m) := by
          show _ = _
          rw [← hl.out, Nat.sub_self]; rfl
        obtain ⟨I, hI⟩ : ∃ I : ByteArray, I = ⟨(Lib.itoa (z : Int)).toArray⟩ := ⟨_, rfl⟩
        have J3 := Lib.hid (fun W => refOf_any (z : Int) (by omega) (by omega) W)
        rw [← hI] at J3
        have hIs : I.size ≤ 1099511627776 := by
          rw [hI]
          exact rep_len (z := (z : Int)) (by have := lim_big; omega)
        have HI : Hid (I.data.toList = Lib.itoa ((m / 10 ^ j : Nat) : Int)) := by show _ = _; rw [hI, ← hz.out]
        clear hl hI hz
        rcases Nat.eq_zero_or_pos j with hu0 | hu0
        · have HU := Lib.hid hu0
          have t1 : ¬ 9223372036854775807 < I.size + S.size := by omega
          have hA : (I ++ S).size ≤ 2199023255552 := by rw [ByteArray.size_append]; omega
          have t2 : ¬ 9223372036854775807 < (⟨#[45]⟩ : ByteArray).size + (I ++ S).size := by show ¬ _ < 1 + _; omega
          have hB : ((⟨#[45]⟩ : ByteArray) ++ (I ++ S)).size ≤ 2199023255553 := by rw [ByteArray.size_append]; show 1 + _ ≤ _; omega
          have t3 : ¬ 9223372036854775807 < ((⟨#[45]⟩ : ByteArray) ++ (I ++ S)).size + (⟨#[32]⟩ : ByteArray).size := by show ¬ _ < _ + 1; omega
          have hC : (((⟨#[45]⟩ : ByteArray) ++ (I ++ S)) ++ (⟨#[32]⟩ : ByteArray)).size ≤ 2199023255554 := by rw [ByteArray.size_append]; show _ + 1 ≤ _; omega
          have t4 : ¬ 9223372036854775807 < (((⟨#[45]⟩ : ByteArray) ++ (I ++ S)) ++ (⟨#[32]⟩ : ByteArray)).size + c.size := by omega
          have HT : Hid (((((⟨#[45]⟩ : ByteArray) ++ (I ++ S)) ++ (⟨#[32]⟩ : ByteArray)) ++ c).data.toList = shN j n ++ 32 :: c.data.toList) := by
            show _ = _
            rw [HN.out, if_pos HH.out, if_pos HU.out]
            simp only [ba_app, HI.out, HL.out, show lasD j m = [] by rw [HU.out]; rfl]
            simp
          clear HN HI HL HU
          go_wp2_with (go_at_call 51; ((with_reducible refine (J3.out _).mono ?_); rintro e w5 ⟨rfl, b⟩; have B5 := Lib.hid (hb.out.trans (b.mono hb.out.size)); clear b))
          go_ret2
          exact ⟨_, rfl, HT.out, B5.out⟩
        · have hu1 : (0 : Int) < (j : Int) := by omega
          have HU : Hid (¬ j = 0) := by show ¬ _; omega
          have hPt : ((⟨#[46]⟩ : ByteArray) ++ S).size = 1 + j := by rw [ByteArray.size_append, hn]; rfl
          have t0 : ¬ 9223372036854775807 < (⟨#[46]⟩ : ByteArray).size + S.size := by rw [hn]; show ¬ _ < 1 + j; omega
          have t1 : ¬ 9223372036854775807 < I.size + ((⟨#[46]⟩ : ByteArray) ++ S).size := by omega
          have hA : (I ++ ((⟨#[46]⟩ : ByteArray) ++ S)).size ≤ 2199023255552 := by rw [ByteArray.size_append]; omega
          have t2 : ¬ 9223372036854775807 < (⟨#[45]⟩ : ByteArray).size + (I ++ ((⟨#[46]⟩ : ByteArray) ++ S)).size := by show ¬ _ < 1 + _; omega
          have hB : ((⟨#[45]⟩ : ByteArray) ++ (I ++ ((⟨#[46]⟩ : ByteArray) ++ S))).size ≤ 2199023255553 := by rw [ByteArray.size_append]; show 1 + _ ≤ _; omega
          have t3 : ¬ 9223372036854775807 < ((⟨#[45]⟩ : ByteArray) ++ (I ++ ((⟨#[46]⟩ : ByteArray) ++ S))).size + (⟨#[32]⟩ : ByteArray).size := by show ¬ _ < _ + 1; omega
          have hC : (((⟨#[45]⟩ : ByteArray) ++ (I ++ ((⟨#[46]⟩ : ByteArray) ++ S))) ++ (⟨#[32]⟩ : ByteArray)).size ≤ 2199023255554 := by rw [ByteArray.size_append]; show _ + 1 ≤ _; omega
          have t4 : ¬ 9223372036854775807 < (((⟨#[45]⟩ : ByteArray) ++ (I ++ ((⟨#[46]⟩ : ByteArray) ++ S))) ++ (⟨#[32]⟩ : ByteArray)).size + c.size := by omega
          have HT : Hid (((((⟨#[45]⟩ : ByteArray) ++ (I ++ ((⟨#[46]⟩ : ByteArray) ++ S))) ++ (⟨#[32]⟩ : ByteArray)) ++ c).data.toList = shN j n ++ 32 :: c.data.toList) := by
            show _ = _
            rw [HN.out, if_pos HH.out, if_neg HU.out]
            simp only [ba_app, HI.out, HL.out]
            simp
          clear HN HI HL HU
          go_wp2_with (go_at_call 51; ((with_reducible refine (J3.out _).mono ?_); rintro e w5 ⟨rfl, b⟩; have B5 := Lib.hid (hb.out.trans (b.mono hb.out.size)); clear b))
          go_ret2
          exact ⟨_, rfl, HT.out, B5.out⟩
  · have HH := Lib.hid h0
    go_enter Tryz.func22, Tryz.ntmps22
    go_wp2_with (first
      | (go_at_call 18; ((with_reducible refine J1.out.mono ?_); rintro e w1 ⟨rfl, b⟩; have B1 := Lib.hid b; clear b))
      | (go_at_call 48; ((with_reducible refine (J2.out _).mono ?_); rintro e w2 ⟨rfl, rfl⟩)))
    go_loopw [8, 9, 10] (fun q s i wr => ∃ (j : Nat) (S : ByteArray) (z : Nat), j ≤ u ∧ i = .int .i64 j ∧ q = .int .i64 z ∧ (z : Int) ≤ 1125899906842624 ∧ s = .string S ∧ S.size = j ∧ Hid (z = m / 10 ^ j) ∧ Hid (lasD (u - j) z ++ S.data.toList = lasD u m) ∧ Hid (Below w.heap.size w wr)) (fun _ _ i _ => u - (intOf i).toNat)
    case atStart => exact ⟨0, ⟨#[]⟩, m, by omega, rfl, rfl, by omega, rfl, rfl, by show m = m / 1; omega, by show _ = _; simp, B1⟩
    case round =>
      clear B1
      obtain ⟨j, S, z, hj, rfl, rfl, z1, rfl, hn, hz, hl, hb⟩ := hrel
      by_cases hlt : j < u
      · have hlt' : (j : Int) < (u : Int) := by omega
        have hcv := conv_digitM wr z
        obtain ⟨D, hD⟩ : ∃ D : ByteArray, ⟨[dch (z % 10)].toArray⟩ = D := ⟨_, rfl⟩
        rw [hD] at hcv
        have hDs : D.size = 1 := by rw [← hD]; rfl
        have hfit : ¬ 9223372036854775807 < D.size + S.size := by omega
        have HL : Hid (lasD (u - (j + 1)) (z / 10) ++ (D ++ S).data.toList = lasD u m) := by
          show _ = _
          rw [ba_app, ← hD, ← hl.out, show u - j = (u - (j + 1)) + 1 by omega]
          show _ = (lasD (u - (j + 1)) (z / 10) ++ [dch (z % 10)]) ++ _
          rw [List.append_assoc]
        have HZ : Hid (z / 10 = m / 10 ^ (j + 1)) := by show _ = _; rw [hz.out, Nat.pow_succ, Nat.div_div_eq_div_mul]
        have hsz : (D ++ S).size = j + 1 := by rw [ByteArray.size_append]; omega
        have HB : Hid (Below w.heap.size w (wr.alloc (.cells #[.int .u8 (48 + (z : Int) % 10)] 5))) := hb.out.alloc hb.out.size _
        clear hl hb hD hz
        go_wp2
        go_round
        case rel => exact ⟨j + 1, D ++ S, z / 10, by omega, by go_num, by rw [Int.natCast_ediv]; rfl, by omega, rfl, hsz, HZ, HL, HB⟩
        case measure => simp [intOf]; omega
      · obtain rfl : j = u := by omega
        have HL : Hid (S.data.toList = lasD j m) := by
          show _ = _
          rw [← hl.out, Nat.sub_self]; rfl
        obtain ⟨I, hI⟩ : ∃ I : ByteArray, I = ⟨(Lib.itoa (z : Int)).toArray⟩ := ⟨_, rfl⟩
        have J3 := Lib.hid (fun W => refOf_any (z : Int) (by omega) (by omega) W)
        rw [← hI] at J3
        have hIs : I.size ≤ 1099511627776 := by
          rw [hI]
          exact rep_len (z := (z : Int)) (by have := lim_big; omega)
        have HI : Hid (I.data.toList = Lib.itoa ((m / 10 ^ j : Nat) : Int)) := by show _ = _; rw [hI, ← hz.out]
        clear hl hI hz
        rcases Nat.eq_zero_or_pos j with hu0 | hu0
        · have HU := Lib.hid hu0
          have t1 : ¬ 9223372036854775807 < I.size + S.size := by omega
          have hA : (I ++ S).size ≤ 2199023255552 := by rw [ByteArray.size_append]; omega
          have t3 : ¬ 9223372036854775807 < (I ++ S).size + (⟨#[32]⟩ : ByteArray).size := by show ¬ _ < _ + 1; omega
          have hC : ((I ++ S) ++ (⟨#[32]⟩ : ByteArray)).size ≤ 2199023255554 := by rw [ByteArray.size_append]; show _ + 1 ≤ _; omega
          have t4 : ¬ 9223372036854775807 < ((I ++ S) ++ (⟨#[32]⟩ : ByteArray)).size + c.size := by omega
          have HT : Hid ((((I ++ S) ++ (⟨#[32]⟩ : ByteArray)) ++ c).data.toList = shN j (m : Int) ++ 32 :: c.data.toList) := by
            show _ = _
            rw [HN.out, if_neg (by omega), if_pos HU.out]
            simp only [ba_app, HI.out, HL.out, show lasD j m = [] by rw [HU.out]; rfl]
            simp
          clear HN HI HL HU
          go_wp2_with (go_at_call 51; ((with_reducible refine (J3.out _).mono ?_); rintro e w5 ⟨rfl, b⟩; have B5 := Lib.hid (hb.out.trans (b.mono hb.out.size)); clear b))
          go_ret2
          exact ⟨_, rfl, HT.out, B5.out⟩
        · have hu1 : (0 : Int) < (j : Int) := by omega
          have HU : Hid (¬ j = 0) := by show ¬ _; omega
          have hPt : ((⟨#[46]⟩ : ByteArray) ++ S).size = 1 + j := by rw [ByteArray.size_append, hn]; rfl
          have t0 : ¬ 9223372036854775807 < (⟨#[46]⟩ : ByteArray).size + S.size := by rw [hn]; show ¬ _ < 1 + j; omega
          have t1 : ¬ 9223372036854775807 < I.size + ((⟨#[46]⟩ : ByteArray) ++ S).size := by omega
          have hA : (I ++ ((⟨#[46]⟩ : ByteArray) ++ S)).size ≤ 2199023255552 := by rw [ByteArray.size_append]; omega
          have t3 : ¬ 9223372036854775807 < (I ++ ((⟨#[46]⟩ : ByteArray) ++ S)).size + (⟨#[32]⟩ : ByteArray).size := by show ¬ _ < _ + 1; omega
          have hC : ((I ++ ((⟨#[46]⟩ : ByteArray) ++ S)) ++ (⟨#[32]⟩ : ByteArray)).size ≤ 2199023255554 := by rw [ByteArray.size_append]; show _ + 1 ≤ _; omega
          have t4 : ¬ 9223372036854775807 < ((I ++ ((⟨#[46]⟩ : ByteArray) ++ S)) ++ (⟨#[32]⟩ : ByteArray)).size + c.size := by omega
          have HT : Hid ((((I ++ ((⟨#[46]⟩ : ByteArray) ++ S)) ++ (⟨#[32]⟩ : ByteArray)) ++ c).data.toList = shN j (m : Int) ++ 32 :: c.data.toList) := by
            show _ = _
            rw [HN.out, if_neg (by omega), if_neg HU.out]
            simp only [ba_app, HI.out, HL.out]
            simp
          clear HN HI HL HU
          go_wp2_with (go_at_call 51; ((with_reducible refine (J3.out _).mono ?_); rintro e w5 ⟨rfl, b⟩; have B5 := Lib.hid (hb.out.trans (b.mono hb.out.size)); clear b))
          go_ret2
          exact ⟨_, rfl, HT.out, B5.out⟩
end
theorem rshow_any (n : Int) (c : ByteArray) (w : World) :
    Calls Tryz.prog 22 #[.int .i64 n, .string c] w (StE ⟨(shV n c.data.toList).toArray⟩ (shE n c.data.toList) w) := by
  have hU := runit_unT c w
  unfold shV shE
  cases hn : nameB c.data.toList
  · rw [Bool.false_and, if_neg (by decide), if_neg (by decide)]
    unfold unE at hU
    rw [if_neg (by rw [hn]; decide)] at hU
    exact rshow_bad c n _ _ w (.inl rfl) hU
  unfold unE unV at hU
  rw [if_pos hn, if_pos hn] at hU
  cases hm : amB n
  · rw [Bool.and_false, if_neg (by decide), if_neg (by decide)]
    exact rshow_bad c n _ _ w (.inr ⟨rfl, hm⟩) hU
  · rw [Bool.and_true, if_pos rfl, if_pos rfl]
    have hc : c.size ≤ 40 := by
      unfold nameB at hn
      rw [Bool.and_eq_true, decide_eq_true_eq] at hn
      have : c.data.toList.length = c.size := by simp
      omega
    refine (rshow_walk c n (unU c.data.toList) n.natAbs rfl (by rcases unU_cases c.data.toList with h | h | h <;> rw [h] <;> omega) hc hm w hU).mono ?_
    rintro e w' ⟨R, rfl, hR, hb⟩
    exact ⟨by rw [ba_eq hR]; rfl, hb⟩
end Go.Proofs.YtalnfbgaiegicaaGreatDoor
