/- Joined: ObK3, ObK4, ObK5, ObL, ObR, ObS, ObT, ObU, ObV. -/
import Derived.Test.YtnomccgdajcfiaaDoorPk25
import Derived.Test.YtnomccgdajcfiaaDoorPk24
/- Layer 8: Sort of the reference: comparisons. -/
namespace Go.Proofs.YtnomccgdajcfiaaDoor
open Go Go.RowKit Go.BigFrame
set_option maxRecDepth 100000 in
set_option maxHeartbeats 25600000 in
theorem rsort_k11 (kk : Int) (HK1 : Hid (kk = 11)) (rr nn : ByteArray) (dd : Int) (A : Option Addr) (c : Nat) (s : List Ex) (w : World) (hin : Ex.In w (.mk kk rr nn dd A c s)) (hz : Ex.siz (.mk kk rr nn dd A c s) ≤ 600) (hby : Ex.byt (.mk kk rr nn dd A c s) ≤ 12000)
    (ih : ∀ t ∈ s, ∀ W, t.In W → Calls Tryd.prog 26 #[t.val] W (IntRO t.srt W)) :
    Calls Tryd.prog 26 #[.agg #[.int .u8 kk, .string rr, .string nn, .int .i64 dd, .slice A s.length c]] w (IntRO (Ex.srt (.mk kk rr nn dd A c s)) w) := by
  obtain ⟨i0, hi, hz0, hz1, hz2⟩ := info_parts infoI8
  have HB1 := belO w (.cells #[.int .u8 kk, .string rr, .string nn, .int .i64 dd, .slice A s.length c] 25)
  have hI1 := hin.below HB1
  have hC : Ex.Box (w.alloc (.cells #[.int .u8 kk, .string rr, .string nn, .int .i64 dd, .slice A s.length c] 25)) w.heap.size (.mk kk rr nn dd A c s) := Ex.Box.new w (.mk kk rr nn dd A c s) 25
  obtain ⟨w1, hw1⟩ : ∃ w1, w.alloc (.cells #[.int .u8 kk, .string rr, .string nn, .int .i64 dd, .slice A s.length c] 25) = w1 := ⟨_, rfl⟩
  rw [hw1] at HB1 hI1 hC
  have HI := Lib.hid hI1
  have HC := Lib.hid hC
  have HB := Lib.hid HB1
  have IH := Lib.hid ih
  have hbd := hin.bd
  have hlen : s.length ≤ 600 := by have := Ex.len_lt (k := kk) (r := rr) (n := nn) (d := dd) (A := A) (c := c) (s := s); omega
  have hrr : rr.size ≤ 1048576 := by rw [Ex.byt_mk] at hby; omega
  have HK := Lib.hid (fun W => refRCheck_any rr hrr W)
  have HN := Lib.hid (fun W => rname8_any nn _ rfl W)
  have HD := Lib.hid (fun W => rday_any dd W)
  have hk0 : 0 ≤ kk := hbd.k0
  have hsrt : Ex.srt (.mk kk rr nn dd A c s) = srtF kk rr nn dd (s.map Ex.srt) := Ex.srt_mk ..
  rw [hsrt]
  obtain ⟨Z, hZ⟩ : ∃ Z, srtF kk rr nn dd (s.map Ex.srt) = Z := ⟨_, rfl⟩
  have HZ := Lib.hid hZ
  rw [hZ]
  have k0 : w1.cell? ⟨w.heap.size, 0, none⟩ = some (.int .u8 kk) := hC.c0
  have k1 : w1.cell? ⟨w.heap.size, 1, none⟩ = some (.string rr) := hC.c1
  have k2 : w1.cell? ⟨w.heap.size, 2, none⟩ = some (.string nn) := hC.c2
  have k3 : w1.cell? ⟨w.heap.size, 3, none⟩ = some (.int .i64 dd) := hC.c3
  have k4 : w1.cell? ⟨w.heap.size, 4, none⟩ = some (.slice A s.length c) := hC.c4
  have hws : w1.heap.size = w.heap.size + 1 := by rw [← hw1, World.size_alloc]
  have HWS := Lib.hid hws
  have hbc : (emB rr = false ∧ (rr.toList == ([] : List UInt8)) = false) ∨ (emB rr = true ∧ rr = ⟨#[]⟩ ∧ emB nn = false ∧ (nn.toList == ([] : List UInt8)) = false) ∨ (emB rr = true ∧ rr = ⟨#[]⟩ ∧ emB nn = true ∧ nn = ⟨#[]⟩ ∧ (dd == 0) = false) ∨ (emB rr = true ∧ rr = ⟨#[]⟩ ∧ emB nn = true ∧ nn = ⟨#[]⟩ ∧ dd = 0) := by
    rcases em_cases rr with ⟨a, b⟩ | ⟨a, b⟩
    · rcases em_cases nn with ⟨a2, b2⟩ | ⟨a2, b2⟩
      · by_cases h : dd = 0
        · exact .inr (.inr (.inr ⟨b, a, b2, a2, h⟩))
        · exact .inr (.inr (.inl ⟨b, a, b2, a2, by rw [beq_eq_false_iff_ne]; exact h⟩))
      · exact .inr (.inl ⟨b, a, b2, a2⟩)
    · exact .inl ⟨b, a⟩
  have HBC := Lib.hid hbc
  obtain ⟨B, hB⟩ : ∃ B, bareB rr nn dd = B := ⟨_, rfl⟩
  have HBB := Lib.hid hB
  clear ih hin hz hby hbd hrr hsrt hZ hI1 hC HB1 hws hbc hB
  go_enter Tryd.func26, Tryd.ntmps26
  go_upto_region 1 with fail
  clear hw1
  go_cut [3] from 7 to 19 (fun s wc => s = .bool B ∧ wc = w1)
  case first =>
    rcases HBC.out with ⟨e1, e2⟩ | ⟨e1, rfl, e2, e3⟩ | ⟨e1, rfl, e2, rfl, e3⟩ | ⟨e1, rfl, e2, rfl, rfl⟩
    · obtain rfl : B = false := by rw [← HBB.out]; unfold bareB; rw [e1]; rfl
      go_wp2_with fail
      go_meet
      exact ⟨rfl, rfl⟩
    · obtain rfl : B = false := by rw [← HBB.out]; unfold bareB; rw [e1, e2]; rfl
      go_wp2_with fail
      go_meet
      exact ⟨rfl, rfl⟩
    · obtain rfl : B = false := by rw [← HBB.out]; unfold bareB; rw [beq_eq_false_iff_ne] at e3; simp [e1, e3]
      go_wp2_with fail
      go_meet
      exact ⟨rfl, rfl⟩
    · obtain rfl : B = true := by rw [← HBB.out]; unfold bareB; simp [e1]
      go_wp2_with fail
      go_meet
      exact ⟨rfl, rfl⟩
  case rest =>
    obtain ⟨rfl, hwc⟩ := hcut
    replace hwc := hwc.symm
    subst hwc
    go_wp2_with fail
    clear HBC
    go_loopw [4, 5] (fun l i wr => ∃ (k : Nat) (v : Value), k ≤ s.length ∧ i = .int .i64 k ∧ l = v ∧ Hid (wr.ownsRow (w.heap.size + 1) 3 1 v k (((s.take k).map Ex.srt).map i64V)) ∧ Hid (Below (w.heap.size + 1) w1 wr)) (fun _ i _ => s.length - (intOf i).toNat)
    case atStart => exact ⟨0, _, by omega, rfl, rfl, World.ownsRow_nil _ _ _ _, Below.refl _ _⟩
    case round =>
      obtain ⟨k, v, hk, rfl, rfl, HO, HW⟩ := hrel
      have HWb := Lib.hid (show Below w1.heap.size w1 wr by rw [HWS.out]; exact HW.out)
      obtain ⟨b0, b1, b2, b3, b4⟩ := HC.out.below HWb.out
      simp only [Ex.k, Ex.r, Ex.n, Ex.d, Ex.A, Ex.c, Ex.sub] at b0 b1 b2 b3 b4
      by_cases hlt : k < s.length
      · have HIW := Lib.hid (HI.out.below HWb.out)
        obtain ⟨bb, o, rfl, -, hpi, d0, d1, d2, d3, d4⟩ := HIW.out.part hlt
        have hm : s[k] ∈ s := List.getElem_mem hlt
        have HQ := Lib.hid (IH.out s[k] hm _ hpi)
        have HX : Hid (∀ (W : World) v', W.ownsRow (w.heap.size + 1) 3 1 v' (k + 1) (((s.take k).map Ex.srt).map i64V ++ [.int .i64 s[k].srt]) → W.ownsRow (w.heap.size + 1) 3 1 v' (k + 1) (((s.take (k + 1)).map Ex.srt).map i64V)) := fun W v' h => by
          rw [take_snoc s k hlt, List.map_append, List.map_append]; exact h
        have hsz1 : w.heap.size + 1 ≤ wr.heap.size := by rw [← HWS.out]; exact HWb.out.size
        generalize s[k] = t at *
        obtain ⟨x, hx⟩ : ∃ x, t.srt = x := ⟨_, rfl⟩
        rw [hx] at HQ HX
        obtain ⟨A', c', hv, -, -⟩ := SlA.of_own HO.out
        subst hv
        clear hpi hm HI IH HIW HWb hx
        go_wp2_with (first
          | (go_at_call 26; ((with_reducible refine HQ.out.mono ?_); rintro x w4 ⟨rfl, b⟩; have O4 := Lib.hid (own_belO HO.out b); have B4 := Lib.hid (HW.out.trans (b.mono hsz1)); have s4 := Nat.le_trans hsz1 b.size; clear b))
          | (at_builtin; refine wpList_app1 O4.out _ rfl _ _ 45 rfl i0 (.int .i64 0) 8 Tryd.underlying45 hi hz0 hz1 hz2 rfl rfl rfl rfl (by unfold maxLen; omega) (by omega) s4 ?_; intro v' w6 hown hb; have O6 := Lib.hid (HX.out _ _ hown); have B6 := Lib.hid (B4.out.trans hb); clear hown hb))
        go_roundw
        case rel => exact ⟨k + 1, _, by omega, by go_num, rfl, O6, B6⟩
        case measure => simp [intOf]; omega
      · obtain rfl : k = s.length := by omega
        obtain ⟨A', c', hv, -, hA⟩ := SlA.of_own HO.out
        subst hv
        rw [List.take_length] at hA
        have HBw := Lib.hid (btO HB.out HWb.out)
        have HL := Lib.hid hA
        obtain ⟨L, hL⟩ : ∃ L, s.map Ex.srt = L := ⟨_, rfl⟩
        rw [hL] at HL HZ
        obtain ⟨N, hN⟩ : ∃ N, s.length = N := ⟨_, rfl⟩
        have hN2 : L.length = N := by rw [← hL, List.length_map]; exact hN
        have HNN := Lib.hid hN2
        rw [hN] at hlen b4 ⊢
        clear hA hL hN hN2 HO HW HWb HI HC IH HB HWS hk hlt k0 k1 k2 k3 k4
        have h1 := HK1.out
        clear HK1
        subst h1
        have hp : prtL 11 = [1, 1] := by decide
        have hs : srtB 11 = 2 := by decide
        have hfK := (fldB_bare (k := 11) (r := rr) (n := nn) (d := dd) (by decide) (by decide) (by decide)).trans HBB.out
        cases B
        ·
          obtain rfl : Z = 0 := srt_no_fld HZ.out hfK
          clear HZ HL HNN HBB hfK hp hs
          go_wp2_with (first
            | (go_at_call 32; ((with_reducible refine (HK.out _).mono ?_); rintro x w4 ⟨rfl, hb⟩; have e0 := cellO hb b0; have e1 := cellO hb b1; have e2 := cellO hb b2; have e3 := cellO hb b3; have HY := Lib.hid (btO HBw.out hb); clear hb))
            | (go_at_call 7; ((with_reducible refine (HN.out _).mono ?_); rintro x w4 ⟨rfl, rfl⟩))
            | (go_at_call 33; ((with_reducible refine (HD.out _).mono ?_); rintro x w4 ⟨rfl, rfl⟩)))
          go_ret
          exact ⟨rfl, HBw.out⟩
        by_cases hNm : N = 2
        · obtain ⟨x0, x1, rfl⟩ := list2O (HNN.out.trans hNm)
          subst hNm
          obtain ⟨bb, oo, rfl, g0, g1⟩ := row2O HL.out
          by_cases hx0 : x0 = 1
          rotate_left
          · have hy0 : (x0 == 1) = false := by rw [beq_eq_false_iff_ne]; exact hx0
            obtain rfl : Z = 0 := srt_no_el HZ.out hp (by simp [hx0])
            clear HZ HL HNN HBB hfK hp hs hx0
            go_wp2_with (first
              | (go_at_call 32; ((with_reducible refine (HK.out _).mono ?_); rintro x w4 ⟨rfl, hb⟩; have e0 := cellO hb b0; have e1 := cellO hb b1; have e2 := cellO hb b2; have e3 := cellO hb b3; have HY := Lib.hid (btO HBw.out hb); clear hb))
              | (go_at_call 7; ((with_reducible refine (HN.out _).mono ?_); rintro x w4 ⟨rfl, rfl⟩))
              | (go_at_call 33; ((with_reducible refine (HD.out _).mono ?_); rintro x w4 ⟨rfl, rfl⟩)))
            go_ret
            exact ⟨rfl, HBw.out⟩
          subst hx0
          by_cases hx1 : x1 = 1
          rotate_left
          · have hy1 : (x1 == 1) = false := by rw [beq_eq_false_iff_ne]; exact hx1
            obtain rfl : Z = 0 := srt_no_el HZ.out hp (by simp [hx1])
            clear HZ HL HNN HBB hfK hp hs hx1
            go_wp2_with (first
              | (go_at_call 32; ((with_reducible refine (HK.out _).mono ?_); rintro x w4 ⟨rfl, hb⟩; have e0 := cellO hb b0; have e1 := cellO hb b1; have e2 := cellO hb b2; have e3 := cellO hb b3; have HY := Lib.hid (btO HBw.out hb); clear hb))
              | (go_at_call 7; ((with_reducible refine (HN.out _).mono ?_); rintro x w4 ⟨rfl, rfl⟩))
              | (go_at_call 33; ((with_reducible refine (HD.out _).mono ?_); rintro x w4 ⟨rfl, rfl⟩)))
            go_ret
            exact ⟨rfl, HBw.out⟩
          subst hx1
          obtain rfl : Z = 2 := srt_ok HZ.out hp hs (by decide) hfK rfl
          clear HZ HL HNN HBB hfK hp hs
          go_wp2_with (first
            | (go_at_call 32; ((with_reducible refine (HK.out _).mono ?_); rintro x w4 ⟨rfl, hb⟩; have e0 := cellO hb b0; have e1 := cellO hb b1; have e2 := cellO hb b2; have e3 := cellO hb b3; have HY := Lib.hid (btO HBw.out hb); clear hb))
            | (go_at_call 7; ((with_reducible refine (HN.out _).mono ?_); rintro x w4 ⟨rfl, rfl⟩))
            | (go_at_call 33; ((with_reducible refine (HD.out _).mono ?_); rintro x w4 ⟨rfl, rfl⟩)))
          go_ret
          exact ⟨rfl, HBw.out⟩
        · have hn : ((N : Int) == 2) = false := by rw [beq_eq_false_iff_ne]; omega
          obtain rfl : Z = 0 := srt_no_len HZ.out hp (by rw [HNN.out]; exact hNm)
          clear HZ HL HNN HBB hfK hp hs hNm
          go_wp2_with (first
            | (go_at_call 32; ((with_reducible refine (HK.out _).mono ?_); rintro x w4 ⟨rfl, hb⟩; have e0 := cellO hb b0; have e1 := cellO hb b1; have e2 := cellO hb b2; have e3 := cellO hb b3; have HY := Lib.hid (btO HBw.out hb); clear hb))
            | (go_at_call 7; ((with_reducible refine (HN.out _).mono ?_); rintro x w4 ⟨rfl, rfl⟩))
            | (go_at_call 33; ((with_reducible refine (HD.out _).mono ?_); rintro x w4 ⟨rfl, rfl⟩)))
          go_ret
          exact ⟨rfl, HBw.out⟩
set_option maxRecDepth 100000 in
set_option maxHeartbeats 25600000 in
theorem rsort_k12 (kk : Int) (HK1 : Hid (kk = 12)) (rr nn : ByteArray) (dd : Int) (A : Option Addr) (c : Nat) (s : List Ex) (w : World) (hin : Ex.In w (.mk kk rr nn dd A c s)) (hz : Ex.siz (.mk kk rr nn dd A c s) ≤ 600) (hby : Ex.byt (.mk kk rr nn dd A c s) ≤ 12000)
    (ih : ∀ t ∈ s, ∀ W, t.In W → Calls Tryd.prog 26 #[t.val] W (IntRO t.srt W)) :
    Calls Tryd.prog 26 #[.agg #[.int .u8 kk, .string rr, .string nn, .int .i64 dd, .slice A s.length c]] w (IntRO (Ex.srt (.mk kk rr nn dd A c s)) w) := by
  obtain ⟨i0, hi, hz0, hz1, hz2⟩ := info_parts infoI8
  have HB1 := belO w (.cells #[.int .u8 kk, .string rr, .string nn, .int .i64 dd, .slice A s.length c] 25)
  have hI1 := hin.below HB1
  have hC : Ex.Box (w.alloc (.cells #[.int .u8 kk, .string rr, .string nn, .int .i64 dd, .slice A s.length c] 25)) w.heap.size (.mk kk rr nn dd A c s) := Ex.Box.new w (.mk kk rr nn dd A c s) 25
  obtain ⟨w1, hw1⟩ : ∃ w1, w.alloc (.cells #[.int .u8 kk, .string rr, .string nn, .int .i64 dd, .slice A s.length c] 25) = w1 := ⟨_, rfl⟩
  rw [hw1] at HB1 hI1 hC
  have HI := Lib.hid hI1
  have HC := Lib.hid hC
  have HB := Lib.hid HB1
  have IH := Lib.hid ih
  have hbd := hin.bd
  have hlen : s.length ≤ 600 := by have := Ex.len_lt (k := kk) (r := rr) (n := nn) (d := dd) (A := A) (c := c) (s := s); omega
  have hrr : rr.size ≤ 1048576 := by rw [Ex.byt_mk] at hby; omega
  have HK := Lib.hid (fun W => refRCheck_any rr hrr W)
  have HN := Lib.hid (fun W => rname8_any nn _ rfl W)
  have HD := Lib.hid (fun W => rday_any dd W)
  have hk0 : 0 ≤ kk := hbd.k0
  have hsrt : Ex.srt (.mk kk rr nn dd A c s) = srtF kk rr nn dd (s.map Ex.srt) := Ex.srt_mk ..
  rw [hsrt]
  obtain ⟨Z, hZ⟩ : ∃ Z, srtF kk rr nn dd (s.map Ex.srt) = Z := ⟨_, rfl⟩
  have HZ := Lib.hid hZ
  rw [hZ]
  have k0 : w1.cell? ⟨w.heap.size, 0, none⟩ = some (.int .u8 kk) := hC.c0
  have k1 : w1.cell? ⟨w.heap.size, 1, none⟩ = some (.string rr) := hC.c1
  have k2 : w1.cell? ⟨w.heap.size, 2, none⟩ = some (.string nn) := hC.c2
  have k3 : w1.cell? ⟨w.heap.size, 3, none⟩ = some (.int .i64 dd) := hC.c3
  have k4 : w1.cell? ⟨w.heap.size, 4, none⟩ = some (.slice A s.length c) := hC.c4
  have hws : w1.heap.size = w.heap.size + 1 := by rw [← hw1, World.size_alloc]
  have HWS := Lib.hid hws
  have hbc : (emB rr = false ∧ (rr.toList == ([] : List UInt8)) = false) ∨ (emB rr = true ∧ rr = ⟨#[]⟩ ∧ emB nn = false ∧ (nn.toList == ([] : List UInt8)) = false) ∨ (emB rr = true ∧ rr = ⟨#[]⟩ ∧ emB nn = true ∧ nn = ⟨#[]⟩ ∧ (dd == 0) = false) ∨ (emB rr = true ∧ rr = ⟨#[]⟩ ∧ emB nn = true ∧ nn = ⟨#[]⟩ ∧ dd = 0) := by
    rcases em_cases rr with ⟨a, b⟩ | ⟨a, b⟩
    · rcases em_cases nn with ⟨a2, b2⟩ | ⟨a2, b2⟩
      · by_cases h : dd = 0
        · exact .inr (.inr (.inr ⟨b, a, b2, a2, h⟩))
        · exact .inr (.inr (.inl ⟨b, a, b2, a2, by rw [beq_eq_false_iff_ne]; exact h⟩))
      · exact .inr (.inl ⟨b, a, b2, a2⟩)
    · exact .inl ⟨b, a⟩
  have HBC := Lib.hid hbc
  obtain ⟨B, hB⟩ : ∃ B, bareB rr nn dd = B := ⟨_, rfl⟩
  have HBB := Lib.hid hB
  clear ih hin hz hby hbd hrr hsrt hZ hI1 hC HB1 hws hbc hB
  go_enter Tryd.func26, Tryd.ntmps26
  go_upto_region 1 with fail
  clear hw1
  go_cut [3] from 7 to 19 (fun s wc => s = .bool B ∧ wc = w1)
  case first =>
    rcases HBC.out with ⟨e1, e2⟩ | ⟨e1, rfl, e2, e3⟩ | ⟨e1, rfl, e2, rfl, e3⟩ | ⟨e1, rfl, e2, rfl, rfl⟩
    · obtain rfl : B = false := by rw [← HBB.out]; unfold bareB; rw [e1]; rfl
      go_wp2_with fail
      go_meet
      exact ⟨rfl, rfl⟩
    · obtain rfl : B = false := by rw [← HBB.out]; unfold bareB; rw [e1, e2]; rfl
      go_wp2_with fail
      go_meet
      exact ⟨rfl, rfl⟩
    · obtain rfl : B = false := by rw [← HBB.out]; unfold bareB; rw [beq_eq_false_iff_ne] at e3; simp [e1, e3]
      go_wp2_with fail
      go_meet
      exact ⟨rfl, rfl⟩
    · obtain rfl : B = true := by rw [← HBB.out]; unfold bareB; simp [e1]
      go_wp2_with fail
      go_meet
      exact ⟨rfl, rfl⟩
  case rest =>
    obtain ⟨rfl, hwc⟩ := hcut
    replace hwc := hwc.symm
    subst hwc
    go_wp2_with fail
    clear HBC
    go_loopw [4, 5] (fun l i wr => ∃ (k : Nat) (v : Value), k ≤ s.length ∧ i = .int .i64 k ∧ l = v ∧ Hid (wr.ownsRow (w.heap.size + 1) 3 1 v k (((s.take k).map Ex.srt).map i64V)) ∧ Hid (Below (w.heap.size + 1) w1 wr)) (fun _ i _ => s.length - (intOf i).toNat)
    case atStart => exact ⟨0, _, by omega, rfl, rfl, World.ownsRow_nil _ _ _ _, Below.refl _ _⟩
    case round =>
      obtain ⟨k, v, hk, rfl, rfl, HO, HW⟩ := hrel
      have HWb := Lib.hid (show Below w1.heap.size w1 wr by rw [HWS.out]; exact HW.out)
      obtain ⟨b0, b1, b2, b3, b4⟩ := HC.out.below HWb.out
      simp only [Ex.k, Ex.r, Ex.n, Ex.d, Ex.A, Ex.c, Ex.sub] at b0 b1 b2 b3 b4
      by_cases hlt : k < s.length
      · have HIW := Lib.hid (HI.out.below HWb.out)
        obtain ⟨bb, o, rfl, -, hpi, d0, d1, d2, d3, d4⟩ := HIW.out.part hlt
        have hm : s[k] ∈ s := List.getElem_mem hlt
        have HQ := Lib.hid (IH.out s[k] hm _ hpi)
        have HX : Hid (∀ (W : World) v', W.ownsRow (w.heap.size + 1) 3 1 v' (k + 1) (((s.take k).map Ex.srt).map i64V ++ [.int .i64 s[k].srt]) → W.ownsRow (w.heap.size + 1) 3 1 v' (k + 1) (((s.take (k + 1)).map Ex.srt).map i64V)) := fun W v' h => by
          rw [take_snoc s k hlt, List.map_append, List.map_append]; exact h
        have hsz1 : w.heap.size + 1 ≤ wr.heap.size := by rw [← HWS.out]; exact HWb.out.size
        generalize s[k] = t at *
        obtain ⟨x, hx⟩ : ∃ x, t.srt = x := ⟨_, rfl⟩
        rw [hx] at HQ HX
        obtain ⟨A', c', hv, -, -⟩ := SlA.of_own HO.out
        subst hv
        clear hpi hm HI IH HIW HWb hx
        go_wp2_with (first
          | (go_at_call 26; ((with_reducible refine HQ.out.mono ?_); rintro x w4 ⟨rfl, b⟩; have O4 := Lib.hid (own_belO HO.out b); have B4 := Lib.hid (HW.out.trans (b.mono hsz1)); have s4 := Nat.le_trans hsz1 b.size; clear b))
          | (at_builtin; refine wpList_app1 O4.out _ rfl _ _ 45 rfl i0 (.int .i64 0) 8 Tryd.underlying45 hi hz0 hz1 hz2 rfl rfl rfl rfl (by unfold maxLen; omega) (by omega) s4 ?_; intro v' w6 hown hb; have O6 := Lib.hid (HX.out _ _ hown); have B6 := Lib.hid (B4.out.trans hb); clear hown hb))
        go_roundw
        case rel => exact ⟨k + 1, _, by omega, by go_num, rfl, O6, B6⟩
        case measure => simp [intOf]; omega
      · obtain rfl : k = s.length := by omega
        obtain ⟨A', c', hv, -, hA⟩ := SlA.of_own HO.out
        subst hv
        rw [List.take_length] at hA
        have HBw := Lib.hid (btO HB.out HWb.out)
        have HL := Lib.hid hA
        obtain ⟨L, hL⟩ : ∃ L, s.map Ex.srt = L := ⟨_, rfl⟩
        rw [hL] at HL HZ
        obtain ⟨N, hN⟩ : ∃ N, s.length = N := ⟨_, rfl⟩
        have hN2 : L.length = N := by rw [← hL, List.length_map]; exact hN
        have HNN := Lib.hid hN2
        rw [hN] at hlen b4 ⊢
        clear hA hL hN hN2 HO HW HWb HI HC IH HB HWS hk hlt k0 k1 k2 k3 k4
        have h1 := HK1.out
        clear HK1
        subst h1
        have hp : prtL 12 = [1, 1] := by decide
        have hs : srtB 12 = 2 := by decide
        have hfK := (fldB_bare (k := 12) (r := rr) (n := nn) (d := dd) (by decide) (by decide) (by decide)).trans HBB.out
        cases B
        ·
          obtain rfl : Z = 0 := srt_no_fld HZ.out hfK
          clear HZ HL HNN HBB hfK hp hs
          go_wp2_with (first
            | (go_at_call 32; ((with_reducible refine (HK.out _).mono ?_); rintro x w4 ⟨rfl, hb⟩; have e0 := cellO hb b0; have e1 := cellO hb b1; have e2 := cellO hb b2; have e3 := cellO hb b3; have HY := Lib.hid (btO HBw.out hb); clear hb))
            | (go_at_call 7; ((with_reducible refine (HN.out _).mono ?_); rintro x w4 ⟨rfl, rfl⟩))
            | (go_at_call 33; ((with_reducible refine (HD.out _).mono ?_); rintro x w4 ⟨rfl, rfl⟩)))
          go_ret
          exact ⟨rfl, HBw.out⟩
        by_cases hNm : N = 2
        · obtain ⟨x0, x1, rfl⟩ := list2O (HNN.out.trans hNm)
          subst hNm
          obtain ⟨bb, oo, rfl, g0, g1⟩ := row2O HL.out
          by_cases hx0 : x0 = 1
          rotate_left
          · have hy0 : (x0 == 1) = false := by rw [beq_eq_false_iff_ne]; exact hx0
            obtain rfl : Z = 0 := srt_no_el HZ.out hp (by simp [hx0])
            clear HZ HL HNN HBB hfK hp hs hx0
            go_wp2_with (first
              | (go_at_call 32; ((with_reducible refine (HK.out _).mono ?_); rintro x w4 ⟨rfl, hb⟩; have e0 := cellO hb b0; have e1 := cellO hb b1; have e2 := cellO hb b2; have e3 := cellO hb b3; have HY := Lib.hid (btO HBw.out hb); clear hb))
              | (go_at_call 7; ((with_reducible refine (HN.out _).mono ?_); rintro x w4 ⟨rfl, rfl⟩))
              | (go_at_call 33; ((with_reducible refine (HD.out _).mono ?_); rintro x w4 ⟨rfl, rfl⟩)))
            go_ret
            exact ⟨rfl, HBw.out⟩
          subst hx0
          by_cases hx1 : x1 = 1
          rotate_left
          · have hy1 : (x1 == 1) = false := by rw [beq_eq_false_iff_ne]; exact hx1
            obtain rfl : Z = 0 := srt_no_el HZ.out hp (by simp [hx1])
            clear HZ HL HNN HBB hfK hp hs hx1
            go_wp2_with (first
              | (go_at_call 32; ((with_reducible refine (HK.out _).mono ?_); rintro x w4 ⟨rfl, hb⟩; have e0 := cellO hb b0; have e1 := cellO hb b1; have e2 := cellO hb b2; have e3 := cellO hb b3; have HY := Lib.hid (btO HBw.out hb); clear hb))
              | (go_at_call 7; ((with_reducible refine (HN.out _).mono ?_); rintro x w4 ⟨rfl, rfl⟩))
              | (go_at_call 33; ((with_reducible refine (HD.out _).mono ?_); rintro x w4 ⟨rfl, rfl⟩)))
            go_ret
            exact ⟨rfl, HBw.out⟩
          subst hx1
          obtain rfl : Z = 2 := srt_ok HZ.out hp hs (by decide) hfK rfl
          clear HZ HL HNN HBB hfK hp hs
          go_wp2_with (first
            | (go_at_call 32; ((with_reducible refine (HK.out _).mono ?_); rintro x w4 ⟨rfl, hb⟩; have e0 := cellO hb b0; have e1 := cellO hb b1; have e2 := cellO hb b2; have e3 := cellO hb b3; have HY := Lib.hid (btO HBw.out hb); clear hb))
            | (go_at_call 7; ((with_reducible refine (HN.out _).mono ?_); rintro x w4 ⟨rfl, rfl⟩))
            | (go_at_call 33; ((with_reducible refine (HD.out _).mono ?_); rintro x w4 ⟨rfl, rfl⟩)))
          go_ret
          exact ⟨rfl, HBw.out⟩
        · have hn : ((N : Int) == 2) = false := by rw [beq_eq_false_iff_ne]; omega
          obtain rfl : Z = 0 := srt_no_len HZ.out hp (by rw [HNN.out]; exact hNm)
          clear HZ HL HNN HBB hfK hp hs hNm
          go_wp2_with (first
            | (go_at_call 32; ((with_reducible refine (HK.out _).mono ?_); rintro x w4 ⟨rfl, hb⟩; have e0 := cellO hb b0; have e1 := cellO hb b1; have e2 := cellO hb b2; have e3 := cellO hb b3; have HY := Lib.hid (btO HBw.out hb); clear hb))
            | (go_at_call 7; ((with_reducible refine (HN.out _).mono ?_); rintro x w4 ⟨rfl, rfl⟩))
            | (go_at_call 33; ((with_reducible refine (HD.out _).mono ?_); rintro x w4 ⟨rfl, rfl⟩)))
          go_ret
          exact ⟨rfl, HBw.out⟩
end Go.Proofs.YtnomccgdajcfiaaDoor
/- Layer 8: Sort of the reference: connectives. -/
namespace Go.Proofs.YtnomccgdajcfiaaDoor
open Go Go.RowKit Go.BigFrame
set_option maxRecDepth 100000 in
set_option maxHeartbeats 25600000 in
theorem rsort_k13 (kk : Int) (HK1 : Hid (kk = 13)) (rr nn : ByteArray) (dd : Int) (A : Option Addr) (c : Nat) (s : List Ex) (w : World) (hin : Ex.In w (.mk kk rr nn dd A c s)) (hz : Ex.siz (.mk kk rr nn dd A c s) ≤ 600) (hby : Ex.byt (.mk kk rr nn dd A c s) ≤ 12000)
    (ih : ∀ t ∈ s, ∀ W, t.In W → Calls Tryd.prog 26 #[t.val] W (IntRO t.srt W)) :
    Calls Tryd.prog 26 #[.agg #[.int .u8 kk, .string rr, .string nn, .int .i64 dd, .slice A s.length c]] w (IntRO (Ex.srt (.mk kk rr nn dd A c s)) w) := by
  obtain ⟨i0, hi, hz0, hz1, hz2⟩ := info_parts infoI8
  have HB1 := belO w (.cells #[.int .u8 kk, .string rr, .string nn, .int .i64 dd, .slice A s.length c] 25)
  have hI1 := hin.below HB1
  have hC : Ex.Box (w.alloc (.cells #[.int .u8 kk, .string rr, .string nn, .int .i64 dd, .slice A s.length c] 25)) w.heap.size (.mk kk rr nn dd A c s) := Ex.Box.new w (.mk kk rr nn dd A c s) 25
  obtain ⟨w1, hw1⟩ : ∃ w1, w.alloc (.cells #[.int .u8 kk, .string rr, .string nn, .int .i64 dd, .slice A s.length c] 25) = w1 := ⟨_, rfl⟩
  rw [hw1] at HB1 hI1 hC
  have HI := Lib.hid hI1
  have HC := Lib.hid hC
  have HB := Lib.hid HB1
  have IH := Lib.hid ih
  have hbd := hin.bd
  have hlen : s.length ≤ 600 := by have := Ex.len_lt (k := kk) (r := rr) (n := nn) (d := dd) (A := A) (c := c) (s := s); omega
  have hrr : rr.size ≤ 1048576 := by rw [Ex.byt_mk] at hby; omega
  have HK := Lib.hid (fun W => refRCheck_any rr hrr W)
  have HN := Lib.hid (fun W => rname8_any nn _ rfl W)
  have HD := Lib.hid (fun W => rday_any dd W)
  have hk0 : 0 ≤ kk := hbd.k0
  have hsrt : Ex.srt (.mk kk rr nn dd A c s) = srtF kk rr nn dd (s.map Ex.srt) := Ex.srt_mk ..
  rw [hsrt]
  obtain ⟨Z, hZ⟩ : ∃ Z, srtF kk rr nn dd (s.map Ex.srt) = Z := ⟨_, rfl⟩
  have HZ := Lib.hid hZ
  rw [hZ]
  have k0 : w1.cell? ⟨w.heap.size, 0, none⟩ = some (.int .u8 kk) := hC.c0
  have k1 : w1.cell? ⟨w.heap.size, 1, none⟩ = some (.string rr) := hC.c1
  have k2 : w1.cell? ⟨w.heap.size, 2, none⟩ = some (.string nn) := hC.c2
  have k3 : w1.cell? ⟨w.heap.size, 3, none⟩ = some (.int .i64 dd) := hC.c3
  have k4 : w1.cell? ⟨w.heap.size, 4, none⟩ = some (.slice A s.length c) := hC.c4
  have hws : w1.heap.size = w.heap.size + 1 := by rw [← hw1, World.size_alloc]
  have HWS := Lib.hid hws
  have hbc : (emB rr = false ∧ (rr.toList == ([] : List UInt8)) = false) ∨ (emB rr = true ∧ rr = ⟨#[]⟩ ∧ emB nn = false ∧ (nn.toList == ([] : List UInt8)) = false) ∨ (emB rr = true ∧ rr = ⟨#[]⟩ ∧ emB nn = true ∧ nn = ⟨#[]⟩ ∧ (dd == 0) = false) ∨ (emB rr = true ∧ rr = ⟨#[]⟩ ∧ emB nn = true ∧ nn = ⟨#[]⟩ ∧ dd = 0) := by
    rcases em_cases rr with ⟨a, b⟩ | ⟨a, b⟩
    · rcases em_cases nn with ⟨a2, b2⟩ | ⟨a2, b2⟩
      · by_cases h : dd = 0
        · exact .inr (.inr (.inr ⟨b, a, b2, a2, h⟩))
        · exact .inr (.inr (.inl ⟨b, a, b2, a2, by rw [beq_eq_false_iff_ne]; exact h⟩))
      · exact .inr (.inl ⟨b, a, b2, a2⟩)
    · exact .inl ⟨b, a⟩
  have HBC := Lib.hid hbc
  obtain ⟨B, hB⟩ : ∃ B, bareB rr nn dd = B := ⟨_, rfl⟩
  have HBB := Lib.hid hB
  clear ih hin hz hby hbd hrr hsrt hZ hI1 hC HB1 hws hbc hB
  go_enter Tryd.func26, Tryd.ntmps26
  go_upto_region 1 with fail
  clear hw1
  go_cut [3] from 7 to 19 (fun s wc => s = .bool B ∧ wc = w1)
  case first =>
    rcases HBC.out with ⟨e1, e2⟩ | ⟨e1, rfl, e2, e3⟩ | ⟨e1, rfl, e2, rfl, e3⟩ | ⟨e1, rfl, e2, rfl, rfl⟩
    · obtain rfl : B = false := by rw [← HBB.out]; unfold bareB; rw [e1]; rfl
      go_wp2_with fail
      go_meet
      exact ⟨rfl, rfl⟩
    · obtain rfl : B = false := by rw [← HBB.out]; unfold bareB; rw [e1, e2]; rfl
      go_wp2_with fail
      go_meet
      exact ⟨rfl, rfl⟩
    · obtain rfl : B = false := by rw [← HBB.out]; unfold bareB; rw [beq_eq_false_iff_ne] at e3; simp [e1, e3]
      go_wp2_with fail
      go_meet
      exact ⟨rfl, rfl⟩
    · obtain rfl : B = true := by rw [← HBB.out]; unfold bareB; simp [e1]
      go_wp2_with fail
      go_meet
      exact ⟨rfl, rfl⟩
  case rest =>
    obtain ⟨rfl, hwc⟩ := hcut
    replace hwc := hwc.symm
    subst hwc
    go_wp2_with fail
    clear HBC
    go_loopw [4, 5] (fun l i wr => ∃ (k : Nat) (v : Value), k ≤ s.length ∧ i = .int .i64 k ∧ l = v ∧ Hid (wr.ownsRow (w.heap.size + 1) 3 1 v k (((s.take k).map Ex.srt).map i64V)) ∧ Hid (Below (w.heap.size + 1) w1 wr)) (fun _ i _ => s.length - (intOf i).toNat)
    case atStart => exact ⟨0, _, by omega, rfl, rfl, World.ownsRow_nil _ _ _ _, Below.refl _ _⟩
    case round =>
      obtain ⟨k, v, hk, rfl, rfl, HO, HW⟩ := hrel
      have HWb := Lib.hid (show Below w1.heap.size w1 wr by rw [HWS.out]; exact HW.out)
      obtain ⟨b0, b1, b2, b3, b4⟩ := HC.out.below HWb.out
      simp only [Ex.k, Ex.r, Ex.n, Ex.d, Ex.A, Ex.c, Ex.sub] at b0 b1 b2 b3 b4
      by_cases hlt : k < s.length
      · have HIW := Lib.hid (HI.out.below HWb.out)
        obtain ⟨bb, o, rfl, -, hpi, d0, d1, d2, d3, d4⟩ := HIW.out.part hlt
        have hm : s[k] ∈ s := List.getElem_mem hlt
        have HQ := Lib.hid (IH.out s[k] hm _ hpi)
        have HX : Hid (∀ (W : World) v', W.ownsRow (w.heap.size + 1) 3 1 v' (k + 1) (((s.take k).map Ex.srt).map i64V ++ [.int .i64 s[k].srt]) → W.ownsRow (w.heap.size + 1) 3 1 v' (k + 1) (((s.take (k + 1)).map Ex.srt).map i64V)) := fun W v' h => by
          rw [take_snoc s k hlt, List.map_append, List.map_append]; exact h
        have hsz1 : w.heap.size + 1 ≤ wr.heap.size := by rw [← HWS.out]; exact HWb.out.size
        generalize s[k] = t at *
        obtain ⟨x, hx⟩ : ∃ x, t.srt = x := ⟨_, rfl⟩
        rw [hx] at HQ HX
        obtain ⟨A', c', hv, -, -⟩ := SlA.of_own HO.out
        subst hv
        clear hpi hm HI IH HIW HWb hx
        go_wp2_with (first
          | (go_at_call 26; ((with_reducible refine HQ.out.mono ?_); rintro x w4 ⟨rfl, b⟩; have O4 := Lib.hid (own_belO HO.out b); have B4 := Lib.hid (HW.out.trans (b.mono hsz1)); have s4 := Nat.le_trans hsz1 b.size; clear b))
          | (at_builtin; refine wpList_app1 O4.out _ rfl _ _ 45 rfl i0 (.int .i64 0) 8 Tryd.underlying45 hi hz0 hz1 hz2 rfl rfl rfl rfl (by unfold maxLen; omega) (by omega) s4 ?_; intro v' w6 hown hb; have O6 := Lib.hid (HX.out _ _ hown); have B6 := Lib.hid (B4.out.trans hb); clear hown hb))
        go_roundw
        case rel => exact ⟨k + 1, _, by omega, by go_num, rfl, O6, B6⟩
        case measure => simp [intOf]; omega
      · obtain rfl : k = s.length := by omega
        obtain ⟨A', c', hv, -, hA⟩ := SlA.of_own HO.out
        subst hv
        rw [List.take_length] at hA
        have HBw := Lib.hid (btO HB.out HWb.out)
        have HL := Lib.hid hA
        obtain ⟨L, hL⟩ : ∃ L, s.map Ex.srt = L := ⟨_, rfl⟩
        rw [hL] at HL HZ
        obtain ⟨N, hN⟩ : ∃ N, s.length = N := ⟨_, rfl⟩
        have hN2 : L.length = N := by rw [← hL, List.length_map]; exact hN
        have HNN := Lib.hid hN2
        rw [hN] at hlen b4 ⊢
        clear hA hL hN hN2 HO HW HWb HI HC IH HB HWS hk hlt k0 k1 k2 k3 k4
        have h1 := HK1.out
        clear HK1
        subst h1
        have hp : prtL 13 = [2, 2] := by decide
        have hs : srtB 13 = 2 := by decide
        have hfK := (fldB_bare (k := 13) (r := rr) (n := nn) (d := dd) (by decide) (by decide) (by decide)).trans HBB.out
        cases B
        ·
          obtain rfl : Z = 0 := srt_no_fld HZ.out hfK
          clear HZ HL HNN HBB hfK hp hs
          go_wp2_with (first
            | (go_at_call 32; ((with_reducible refine (HK.out _).mono ?_); rintro x w4 ⟨rfl, hb⟩; have e0 := cellO hb b0; have e1 := cellO hb b1; have e2 := cellO hb b2; have e3 := cellO hb b3; have HY := Lib.hid (btO HBw.out hb); clear hb))
            | (go_at_call 7; ((with_reducible refine (HN.out _).mono ?_); rintro x w4 ⟨rfl, rfl⟩))
            | (go_at_call 33; ((with_reducible refine (HD.out _).mono ?_); rintro x w4 ⟨rfl, rfl⟩)))
          go_ret
          exact ⟨rfl, HBw.out⟩
        by_cases hNm : N = 2
        · obtain ⟨x0, x1, rfl⟩ := list2O (HNN.out.trans hNm)
          subst hNm
          obtain ⟨bb, oo, rfl, g0, g1⟩ := row2O HL.out
          by_cases hx0 : x0 = 2
          rotate_left
          · have hy0 : (x0 == 2) = false := by rw [beq_eq_false_iff_ne]; exact hx0
            obtain rfl : Z = 0 := srt_no_el HZ.out hp (by simp [hx0])
            clear HZ HL HNN HBB hfK hp hs hx0
            go_wp2_with (first
              | (go_at_call 32; ((with_reducible refine (HK.out _).mono ?_); rintro x w4 ⟨rfl, hb⟩; have e0 := cellO hb b0; have e1 := cellO hb b1; have e2 := cellO hb b2; have e3 := cellO hb b3; have HY := Lib.hid (btO HBw.out hb); clear hb))
              | (go_at_call 7; ((with_reducible refine (HN.out _).mono ?_); rintro x w4 ⟨rfl, rfl⟩))
              | (go_at_call 33; ((with_reducible refine (HD.out _).mono ?_); rintro x w4 ⟨rfl, rfl⟩)))
            go_ret
            exact ⟨rfl, HBw.out⟩
          subst hx0
          by_cases hx1 : x1 = 2
          rotate_left
          · have hy1 : (x1 == 2) = false := by rw [beq_eq_false_iff_ne]; exact hx1
            obtain rfl : Z = 0 := srt_no_el HZ.out hp (by simp [hx1])
            clear HZ HL HNN HBB hfK hp hs hx1
            go_wp2_with (first
              | (go_at_call 32; ((with_reducible refine (HK.out _).mono ?_); rintro x w4 ⟨rfl, hb⟩; have e0 := cellO hb b0; have e1 := cellO hb b1; have e2 := cellO hb b2; have e3 := cellO hb b3; have HY := Lib.hid (btO HBw.out hb); clear hb))
              | (go_at_call 7; ((with_reducible refine (HN.out _).mono ?_); rintro x w4 ⟨rfl, rfl⟩))
              | (go_at_call 33; ((with_reducible refine (HD.out _).mono ?_); rintro x w4 ⟨rfl, rfl⟩)))
            go_ret
            exact ⟨rfl, HBw.out⟩
          subst hx1
          obtain rfl : Z = 2 := srt_ok HZ.out hp hs (by decide) hfK rfl
          clear HZ HL HNN HBB hfK hp hs
          go_wp2_with (first
            | (go_at_call 32; ((with_reducible refine (HK.out _).mono ?_); rintro x w4 ⟨rfl, hb⟩; have e0 := cellO hb b0; have e1 := cellO hb b1; have e2 := cellO hb b2; have e3 := cellO hb b3; have HY := Lib.hid (btO HBw.out hb); clear hb))
            | (go_at_call 7; ((with_reducible refine (HN.out _).mono ?_); rintro x w4 ⟨rfl, rfl⟩))
            | (go_at_call 33; ((with_reducible refine (HD.out _).mono ?_); rintro x w4 ⟨rfl, rfl⟩)))
          go_ret
          exact ⟨rfl, HBw.out⟩
        · have hn : ((N : Int) == 2) = false := by rw [beq_eq_false_iff_ne]; omega
          obtain rfl : Z = 0 := srt_no_len HZ.out hp (by rw [HNN.out]; exact hNm)
          clear HZ HL HNN HBB hfK hp hs hNm
          go_wp2_with (first
            | (go_at_call 32; ((with_reducible refine (HK.out _).mono ?_); rintro x w4 ⟨rfl, hb⟩; have e0 := cellO hb b0; have e1 := cellO hb b1; have e2 := cellO hb b2; have e3 := cellO hb b3; have HY := Lib.hid (btO HBw.out hb); clear hb))
            | (go_at_call 7; ((with_reducible refine (HN.out _).mono ?_); rintro x w4 ⟨rfl, rfl⟩))
            | (go_at_call 33; ((with_reducible refine (HD.out _).mono ?_); rintro x w4 ⟨rfl, rfl⟩)))
          go_ret
          exact ⟨rfl, HBw.out⟩
set_option maxRecDepth 100000 in
set_option maxHeartbeats 25600000 in
theorem rsort_k14 (kk : Int) (HK1 : Hid (kk = 14)) (rr nn : ByteArray) (dd : Int) (A : Option Addr) (c : Nat) (s : List Ex) (w : World) (hin : Ex.In w (.mk kk rr nn dd A c s)) (hz : Ex.siz (.mk kk rr nn dd A c s) ≤ 600) (hby : Ex.byt (.mk kk rr nn dd A c s) ≤ 12000)
    (ih : ∀ t ∈ s, ∀ W, t.In W → Calls Tryd.prog 26 #[t.val] W (IntRO t.srt W)) :
    Calls Tryd.prog 26 #[.agg #[.int .u8 kk, .string rr, .string nn, .int .i64 dd, .slice A s.length c]] w (IntRO (Ex.srt (.mk kk rr nn dd A c s)) w) := by
  obtain ⟨i0, hi, hz0, hz1, hz2⟩ := info_parts infoI8
  have HB1 := belO w (.cells #[.int .u8 kk, .string rr, .string nn, .int .i64 dd, .slice A s.length c] 25)
  have hI1 := hin.below HB1
  have hC : Ex.Box (w.alloc (.cells #[.int .u8 kk, .string rr, .string nn, .int .i64 dd, .slice A s.length c] 25)) w.heap.size (.mk kk rr nn dd A c s) := Ex.Box.new w (.mk kk rr nn dd A c s) 25
  obtain ⟨w1, hw1⟩ : ∃ w1, w.alloc (.cells #[.int .u8 kk, .string rr, .string nn, .int .i64 dd, .slice A s.length c] 25) = w1 := ⟨_, rfl⟩
  rw [hw1] at HB1 hI1 hC
  have HI := Lib.hid hI1
  have HC := Lib.hid hC
  have HB := Lib.hid HB1
  have IH := Lib.hid ih
  have hbd := hin.bd
  have hlen : s.length ≤ 600 := by have := Ex.len_lt (k := kk) (r := rr) (n := nn) (d := dd) (A := A) (c := c) (s := s); omega
  have hrr : rr.size ≤ 1048576 := by rw [Ex.byt_mk] at hby; omega
  have HK := Lib.hid (fun W => refRCheck_any rr hrr W)
  have HN := Lib.hid (fun W => rname8_any nn _ rfl W)
  have HD := Lib.hid (fun W => rday_any dd W)
  have hk0 : 0 ≤ kk := hbd.k0
  have hsrt : Ex.srt (.mk kk rr nn dd A c s) = srtF kk rr nn dd (s.map Ex.srt) := Ex.srt_mk ..
  rw [hsrt]
  obtain ⟨Z, hZ⟩ : ∃ Z, srtF kk rr nn dd (s.map Ex.srt) = Z := ⟨_, rfl⟩
  have HZ := Lib.hid hZ
  rw [hZ]
  have k0 : w1.cell? ⟨w.heap.size, 0, none⟩ = some (.int .u8 kk) := hC.c0
  have k1 : w1.cell? ⟨w.heap.size, 1, none⟩ = some (.string rr) := hC.c1
  have k2 : w1.cell? ⟨w.heap.size, 2, none⟩ = some (.string nn) := hC.c2
  have k3 : w1.cell? ⟨w.heap.size, 3, none⟩ = some (.int .i64 dd) := hC.c3
  have k4 : w1.cell? ⟨w.heap.size, 4, none⟩ = some (.slice A s.length c) := hC.c4
  have hws : w1.heap.size = w.heap.size + 1 := by rw [← hw1, World.size_alloc]
  have HWS := Lib.hid hws
  have hbc : (emB rr = false ∧ (rr.toList == ([] : List UInt8)) = false) ∨ (emB rr = true ∧ rr = ⟨#[]⟩ ∧ emB nn = false ∧ (nn.toList == ([] : List UInt8)) = false) ∨ (emB rr = true ∧ rr = ⟨#[]⟩ ∧ emB nn = true ∧ nn = ⟨#[]⟩ ∧ (dd == 0) = false) ∨ (emB rr = true ∧ rr = ⟨#[]⟩ ∧ emB nn = true ∧ nn = ⟨#[]⟩ ∧ dd = 0) := by
    rcases em_cases rr with ⟨a, b⟩ | ⟨a, b⟩
    · rcases em_cases nn with ⟨a2, b2⟩ | ⟨a2, b2⟩
      · by_cases h : dd = 0
        · exact .inr (.inr (.inr ⟨b, a, b2, a2, h⟩))
        · exact .inr (.inr (.inl ⟨b, a, b2, a2, by rw [beq_eq_false_iff_ne]; exact h⟩))
      · exact .inr (.inl ⟨b, a, b2, a2⟩)
    · exact .inl ⟨b, a⟩
  have HBC := Lib.hid hbc
  obtain ⟨B, hB⟩ : ∃ B, bareB rr nn dd = B := ⟨_, rfl⟩
  have HBB := Lib.hid hB
  clear ih hin hz hby hbd hrr hsrt hZ hI1 hC HB1 hws hbc hB
  go_enter Tryd.func26, Tryd.ntmps26
  go_upto_region 1 with fail
  clear hw1
  go_cut [3] from 7 to 19 (fun s wc => s = .bool B ∧ wc = w1)
  case first =>
    rcases HBC.out with ⟨e1, e2⟩ | ⟨e1, rfl, e2, e3⟩ | ⟨e1, rfl, e2, rfl, e3⟩ | ⟨e1, rfl, e2, rfl, rfl⟩
    · obtain rfl : B = false := by rw [← HBB.out]; unfold bareB; rw [e1]; rfl
      go_wp2_with fail
      go_meet
      exact ⟨rfl, rfl⟩
    · obtain rfl : B = false := by rw [← HBB.out]; unfold bareB; rw [e1, e2]; rfl
      go_wp2_with fail
      go_meet
      exact ⟨rfl, rfl⟩
    · obtain rfl : B = false := by rw [← HBB.out]; unfold bareB; rw [beq_eq_false_iff_ne] at e3; simp [e1, e3]
      go_wp2_with fail
      go_meet
      exact ⟨rfl, rfl⟩
    · obtain rfl : B = true := by rw [← HBB.out]; unfold bareB; simp [e1]
      go_wp2_with fail
      go_meet
      exact ⟨rfl, rfl⟩
  case rest =>
    obtain ⟨rfl, hwc⟩ := hcut
    replace hwc := hwc.symm
    subst hwc
    go_wp2_with fail
    clear HBC
    go_loopw [4, 5] (fun l i wr => ∃ (k : Nat) (v : Value), k ≤ s.length ∧ i = .int .i64 k ∧ l = v ∧ Hid (wr.ownsRow (w.heap.size + 1) 3 1 v k (((s.take k).map Ex.srt).map i64V)) ∧ Hid (Below (w.heap.size + 1) w1 wr)) (fun _ i _ => s.length - (intOf i).toNat)
    case atStart => exact ⟨0, _, by omega, rfl, rfl, World.ownsRow_nil _ _ _ _, Below.refl _ _⟩
    case round =>
      obtain ⟨k, v, hk, rfl, rfl, HO, HW⟩ := hrel
      have HWb := Lib.hid (show Below w1.heap.size w1 wr by rw [HWS.out]; exact HW.out)
      obtain ⟨b0, b1, b2, b3, b4⟩ := HC.out.below HWb.out
      simp only [Ex.k, Ex.r, Ex.n, Ex.d, Ex.A, Ex.c, Ex.sub] at b0 b1 b2 b3 b4
      by_cases hlt : k < s.length
      · have HIW := Lib.hid (HI.out.below HWb.out)
        obtain ⟨bb, o, rfl, -, hpi, d0, d1, d2, d3, d4⟩ := HIW.out.part hlt
        have hm : s[k] ∈ s := List.getElem_mem hlt
        have HQ := Lib.hid (IH.out s[k] hm _ hpi)
        have HX : Hid (∀ (W : World) v', W.ownsRow (w.heap.size + 1) 3 1 v' (k + 1) (((s.take k).map Ex.srt).map i64V ++ [.int .i64 s[k].srt]) → W.ownsRow (w.heap.size + 1) 3 1 v' (k + 1) (((s.take (k + 1)).map Ex.srt).map i64V)) := fun W v' h => by
          rw [take_snoc s k hlt, List.map_append, List.map_append]; exact h
        have hsz1 : w.heap.size + 1 ≤ wr.heap.size := by rw [← HWS.out]; exact HWb.out.size
        generalize s[k] = t at *
        obtain ⟨x, hx⟩ : ∃ x, t.srt = x := ⟨_, rfl⟩
        rw [hx] at HQ HX
        obtain ⟨A', c', hv, -, -⟩ := SlA.of_own HO.out
        subst hv
        clear hpi hm HI IH HIW HWb hx
        go_wp2_with (first
          | (go_at_call 26; ((with_reducible refine HQ.out.mono ?_); rintro x w4 ⟨rfl, b⟩; have O4 := Lib.hid (own_belO HO.out b); have B4 := Lib.hid (HW.out.trans (b.mono hsz1)); have s4 := Nat.le_trans hsz1 b.size; clear b))
          | (at_builtin; refine wpList_app1 O4.out _ rfl _ _ 45 rfl i0 (.int .i64 0) 8 Tryd.underlying45 hi hz0 hz1 hz2 rfl rfl rfl rfl (by unfold maxLen; omega) (by omega) s4 ?_; intro v' w6 hown hb; have O6 := Lib.hid (HX.out _ _ hown); have B6 := Lib.hid (B4.out.trans hb); clear hown hb))
        go_roundw
        case rel => exact ⟨k + 1, _, by omega, by go_num, rfl, O6, B6⟩
        case measure => simp [intOf]; omega
      · obtain rfl : k = s.length := by omega
        obtain ⟨A', c', hv, -, hA⟩ := SlA.of_own HO.out
        subst hv
        rw [List.take_length] at hA
        have HBw := Lib.hid (btO HB.out HWb.out)
        have HL := Lib.hid hA
        obtain ⟨L, hL⟩ : ∃ L, s.map Ex.srt = L := ⟨_, rfl⟩
        rw [hL] at HL HZ
        obtain ⟨N, hN⟩ : ∃ N, s.length = N := ⟨_, rfl⟩
        have hN2 : L.length = N := by rw [← hL, List.length_map]; exact hN
        have HNN := Lib.hid hN2
        rw [hN] at hlen b4 ⊢
        clear hA hL hN hN2 HO HW HWb HI HC IH HB HWS hk hlt k0 k1 k2 k3 k4
        have h1 := HK1.out
        clear HK1
        subst h1
        have hp : prtL 14 = [2, 2] := by decide
        have hs : srtB 14 = 2 := by decide
        have hfK := (fldB_bare (k := 14) (r := rr) (n := nn) (d := dd) (by decide) (by decide) (by decide)).trans HBB.out
        cases B
        ·
          obtain rfl : Z = 0 := srt_no_fld HZ.out hfK
          clear HZ HL HNN HBB hfK hp hs
          go_wp2_with (first
            | (go_at_call 32; ((with_reducible refine (HK.out _).mono ?_); rintro x w4 ⟨rfl, hb⟩; have e0 := cellO hb b0; have e1 := cellO hb b1; have e2 := cellO hb b2; have e3 := cellO hb b3; have HY := Lib.hid (btO HBw.out hb); clear hb))
            | (go_at_call 7; ((with_reducible refine (HN.out _).mono ?_); rintro x w4 ⟨rfl, rfl⟩))
            | (go_at_call 33; ((with_reducible refine (HD.out _).mono ?_); rintro x w4 ⟨rfl, rfl⟩)))
          go_ret
          exact ⟨rfl, HBw.out⟩
        by_cases hNm : N = 2
        · obtain ⟨x0, x1, rfl⟩ := list2O (HNN.out.trans hNm)
          subst hNm
          obtain ⟨bb, oo, rfl, g0, g1⟩ := row2O HL.out
          by_cases hx0 : x0 = 2
          rotate_left
          · have hy0 : (x0 == 2) = false := by rw [beq_eq_false_iff_ne]; exact hx0
            obtain rfl : Z = 0 := srt_no_el HZ.out hp (by simp [hx0])
            clear HZ HL HNN HBB hfK hp hs hx0
            go_wp2_with (first
              | (go_at_call 32; ((with_reducible refine (HK.out _).mono ?_); rintro x w4 ⟨rfl, hb⟩; have e0 := cellO hb b0; have e1 := cellO hb b1; have e2 := cellO hb b2; have e3 := cellO hb b3; have HY := Lib.hid (btO HBw.out hb); clear hb))
              | (go_at_call 7; ((with_reducible refine (HN.out _).mono ?_); rintro x w4 ⟨rfl, rfl⟩))
              | (go_at_call 33; ((with_reducible refine (HD.out _).mono ?_); rintro x w4 ⟨rfl, rfl⟩)))
            go_ret
            exact ⟨rfl, HBw.out⟩
          subst hx0
          by_cases hx1 : x1 = 2
          rotate_left
          · have hy1 : (x1 == 2) = false := by rw [beq_eq_false_iff_ne]; exact hx1
            obtain rfl : Z = 0 := srt_no_el HZ.out hp (by simp [hx1])
            clear HZ HL HNN HBB hfK hp hs hx1
            go_wp2_with (first
              | (go_at_call 32; ((with_reducible refine (HK.out _).mono ?_); rintro x w4 ⟨rfl, hb⟩; have e0 := cellO hb b0; have e1 := cellO hb b1; have e2 := cellO hb b2; have e3 := cellO hb b3; have HY := Lib.hid (btO HBw.out hb); clear hb))
              | (go_at_call 7; ((with_reducible refine (HN.out _).mono ?_); rintro x w4 ⟨rfl, rfl⟩))
              | (go_at_call 33; ((with_reducible refine (HD.out _).mono ?_); rintro x w4 ⟨rfl, rfl⟩)))
            go_ret
            exact ⟨rfl, HBw.out⟩
          subst hx1
          obtain rfl : Z = 2 := srt_ok HZ.out hp hs (by decide) hfK rfl
          clear HZ HL HNN HBB hfK hp hs
          go_wp2_with (first
            | (go_at_call 32; ((with_reducible refine (HK.out _).mono ?_); rintro x w4 ⟨rfl, hb⟩; have e0 := cellO hb b0; have e1 := cellO hb b1; have e2 := cellO hb b2; have e3 := cellO hb b3; have HY := Lib.hid (btO HBw.out hb); clear hb))
            | (go_at_call 7; ((with_reducible refine (HN.out _).mono ?_); rintro x w4 ⟨rfl, rfl⟩))
            | (go_at_call 33; ((with_reducible refine (HD.out _).mono ?_); rintro x w4 ⟨rfl, rfl⟩)))
          go_ret
          exact ⟨rfl, HBw.out⟩
        · have hn : ((N : Int) == 2) = false := by rw [beq_eq_false_iff_ne]; omega
          obtain rfl : Z = 0 := srt_no_len HZ.out hp (by rw [HNN.out]; exact hNm)
          clear HZ HL HNN HBB hfK hp hs hNm
          go_wp2_with (first
            | (go_at_call 32; ((with_reducible refine (HK.out _).mono ?_); rintro x w4 ⟨rfl, hb⟩; have e0 := cellO hb b0; have e1 := cellO hb b1; have e2 := cellO hb b2; have e3 := cellO hb b3; have HY := Lib.hid (btO HBw.out hb); clear hb))
            | (go_at_call 7; ((with_reducible refine (HN.out _).mono ?_); rintro x w4 ⟨rfl, rfl⟩))
            | (go_at_call 33; ((with_reducible refine (HD.out _).mono ?_); rintro x w4 ⟨rfl, rfl⟩)))
          go_ret
          exact ⟨rfl, HBw.out⟩
end Go.Proofs.YtnomccgdajcfiaaDoor
/- Layer 8: Sort of the reference. -/
namespace Go.Proofs.YtnomccgdajcfiaaDoor
open Go Go.RowKit Go.BigFrame
theorem rsort_any (T : Ex) : ∀ (w : World), T.In w → T.siz ≤ 600 → T.byt ≤ 12000 → Calls Tryd.prog 26 #[T.val] w (IntRO T.srt w) := by
  induction T using Ex.ind with
  | h kk rr nn dd A c s ih =>
  intro w hin hz hby
  have hIH : ∀ t ∈ s, ∀ W, t.In W → Calls Tryd.prog 26 #[t.val] W (IntRO t.srt W) := fun t ht W h => ih t ht W h (by have := Ex.siz_sub (k := kk) (r := rr) (n := nn) (d := dd) (A := A) (c := c) ht; omega) (Nat.le_trans (Ex.byt_sub (k := kk) (r := rr) (n := nn) (d := dd) (A := A) (c := c) ht) hby)
  have hk0 : 0 ≤ kk := hin.bd.k0
  have hc : kk = 1 ∨ kk = 2 ∨ kk = 3 ∨ (4 ≤ kk ∧ kk ≤ 8) ∨ kk = 9 ∨ kk = 11 ∨ kk = 12 ∨ kk = 13 ∨ kk = 14 ∨ kk = 15 ∨ (kk = 0 ∨ kk = 10 ∨ 15 < kk) := by omega
  rcases hc with h | h | h | h | h | h | h | h | h | h | h
  · exact rsort_k1 kk h rr nn dd A c s w hin hz hby hIH
  · exact rsort_k2 kk h rr nn dd A c s w hin hz hby hIH
  · exact rsort_k3 kk h rr nn dd A c s w hin hz hby hIH
  · exact rsort_k4 kk h rr nn dd A c s w hin hz hby hIH
  · exact rsort_k9 kk h rr nn dd A c s w hin hz hby hIH
  · exact rsort_k11 kk h rr nn dd A c s w hin hz hby hIH
  · exact rsort_k12 kk h rr nn dd A c s w hin hz hby hIH
  · exact rsort_k13 kk h rr nn dd A c s w hin hz hby hIH
  · exact rsort_k14 kk h rr nn dd A c s w hin hz hby hIH
  · exact rsort_k15 kk h rr nn dd A c s w hin hz hby hIH
  · exact rsort_no kk h rr nn dd A c s w hin hz hby hIH
end Go.Proofs.YtnomccgdajcfiaaDoor
/- Layer 8: Check of the reference. -/
namespace Go.Proofs.YtnomccgdajcfiaaDoor
open Go Go.RowKit Go.BigFrame
set_option maxRecDepth 100000 in
set_option maxHeartbeats 3200000 in
theorem rcheck8_any (T : Ex) (w : World) (hin : T.In w) (hz : T.siz ≤ 600) (hby : T.byt ≤ 12000) : Calls Tryd.prog 9 #[T.val] w (IntRO T.chk w) := by
  have HB1 := belO w (.cells #[.int .u8 T.k, .string T.r, .string T.n, .int .i64 T.d, .slice T.A T.sub.length T.c] 25)
  have hC : Ex.Box (w.alloc (.cells #[.int .u8 T.k, .string T.r, .string T.n, .int .i64 T.d, .slice T.A T.sub.length T.c] 25)) w.heap.size T := Ex.Box.new w T 25
  have hI1 := hin.below HB1
  obtain ⟨w1, hw1⟩ : ∃ w1, w.alloc (.cells #[.int .u8 T.k, .string T.r, .string T.n, .int .i64 T.d, .slice T.A T.sub.length T.c] 25) = w1 := ⟨_, rfl⟩
  rw [hw1] at HB1 hC hI1
  have HS := Lib.hid (fun W (hW : Below w1.heap.size w1 W) => rsize8_any T W (hI1.below hW) hz)
  have HD := Lib.hid (fun W (hW : Below w1.heap.size w1 W) => rdepth8_any T W (hI1.below hW) hz)
  have HT := Lib.hid (fun W (hW : Below w1.heap.size w1 W) => rsort_any T W (hI1.below hW) hz hby)
  have HB := Lib.hid HB1
  have HC := Lib.hid hC
  have HR := Lib.hid (Below.refl w1.heap.size w1)
  obtain ⟨c0, c1, c2, c3, c4⟩ := hC
  have hch : T.chk = if (decide (500 < T.siz) || decide (60 < T.dep)) = true then 4 else if T.srt = 0 then 8 else 0 := rfl
  rw [hch]
  clear hin hz hby HB1 hI1 hch
  by_cases h1 : 500 < (T.siz : Int)
  · have e : (decide (500 < T.siz) || decide (60 < T.dep)) = true := by simp; omega
    rw [if_pos e]
    clear e
    go_enter Tryd.func9, Tryd.ntmps9
    go_wp2_with (first
      | (go_at_call 15; ((with_reducible refine (HS.out _ HR.out).mono ?_); rintro x w3 ⟨rfl, hb⟩; have HY := Lib.hid hb; clear hb)))
    go_ret
    exact ⟨rfl, btO HB.out HY.out⟩
  · by_cases h2 : 60 < (T.dep : Int)
    · have e : (decide (500 < T.siz) || decide (60 < T.dep)) = true := by simp; omega
      rw [if_pos e]
      clear e
      go_enter Tryd.func9, Tryd.ntmps9
      go_wp2_with (first
        | (go_at_call 15; ((with_reducible refine (HS.out _ HR.out).mono ?_); rintro x w3 ⟨rfl, hb⟩; have HY := Lib.hid hb; obtain ⟨e0, e1, e2, e3, e4⟩ := HC.out.below hb; clear hb))
        | (go_at_call 25; ((with_reducible refine (HD.out _ HY.out).mono ?_); rintro x w4 ⟨rfl, hb⟩; have HY2 := Lib.hid (btO HY.out hb); obtain ⟨f0, f1, f2, f3, f4⟩ := HC.out.below HY2.out; clear hb)))
      go_ret
      exact ⟨rfl, btO HB.out HY2.out⟩
    · have e : ¬ (decide (500 < T.siz) || decide (60 < T.dep)) = true := by simp; omega
      rw [if_neg e]
      clear e
      by_cases h3 : T.srt = 0
      · rw [if_pos h3]
        have hz0 : (T.srt == 0) = true := by rw [beq_iff_eq]; exact h3
        clear h3
        go_enter Tryd.func9, Tryd.ntmps9
        go_wp2_with (first
          | (go_at_call 15; ((with_reducible refine (HS.out _ HR.out).mono ?_); rintro x w3 ⟨rfl, hb⟩; have HY := Lib.hid hb; obtain ⟨e0, e1, e2, e3, e4⟩ := HC.out.below hb; clear hb))
          | (go_at_call 25; ((with_reducible refine (HD.out _ HY.out).mono ?_); rintro x w4 ⟨rfl, hb⟩; have HY2 := Lib.hid (btO HY.out hb); obtain ⟨f0, f1, f2, f3, f4⟩ := HC.out.below HY2.out; clear hb))
          | (go_at_call 26; ((with_reducible refine (HT.out _ HY2.out).mono ?_); rintro x w5 ⟨rfl, hb⟩; have HY3 := Lib.hid (btO HY2.out hb); clear hb)))
        go_ret
        exact ⟨rfl, btO HB.out HY3.out⟩
      · rw [if_neg h3]
        have hz0 : (T.srt == 0) = false := by rw [beq_eq_false_iff_ne]; exact h3
        clear h3
        go_enter Tryd.func9, Tryd.ntmps9
        go_wp2_with (first
          | (go_at_call 15; ((with_reducible refine (HS.out _ HR.out).mono ?_); rintro x w3 ⟨rfl, hb⟩; have HY := Lib.hid hb; obtain ⟨e0, e1, e2, e3, e4⟩ := HC.out.below hb; clear hb))
          | (go_at_call 25; ((with_reducible refine (HD.out _ HY.out).mono ?_); rintro x w4 ⟨rfl, hb⟩; have HY2 := Lib.hid (btO HY.out hb); obtain ⟨f0, f1, f2, f3, f4⟩ := HC.out.below HY2.out; clear hb))
          | (go_at_call 26; ((with_reducible refine (HT.out _ HY2.out).mono ?_); rintro x w5 ⟨rfl, hb⟩; have HY3 := Lib.hid (btO HY2.out hb); clear hb)))
        go_ret
        exact ⟨rfl, btO HB.out HY3.out⟩
end Go.Proofs.YtnomccgdajcfiaaDoor
/- Layer 8: cmp.Compare, cmp.Or; compareFixings, compareChoices of the program. -/
namespace Go.Proofs.YtnomccgdajcfiaaDoor
open Go Go.RowKit Go.BigFrame
end Go.Proofs.YtnomccgdajcfiaaDoor
/- Layer 8: compareFixings, compareChoices, isFixing, isChoice of the program. -/
namespace Go.Proofs.YtnomccgdajcfiaaDoor
open Go Go.RowKit Go.BigFrame
end Go.Proofs.YtnomccgdajcfiaaDoor
/- Layer 8: inOrder, CheckEnv of the program. -/
namespace Go.Proofs.YtnomccgdajcfiaaDoor
open Go Go.RowKit Go.BigFrame
end Go.Proofs.YtnomccgdajcfiaaDoor
/- Layer 8: Find, Chosen of the reference and of the program. -/
namespace Go.Proofs.YtnomccgdajcfiaaDoor
open Go Go.RowKit Go.BigFrame
end Go.Proofs.YtnomccgdajcfiaaDoor
/- Layer 8: Find, Chosen of the program. -/
namespace Go.Proofs.YtnomccgdajcfiaaDoor
open Go Go.RowKit Go.BigFrame
theorem row_cell {w : World} {q : Nat} {cs : Array Value} {t : TypeId} {j : Nat} {v : Value} (h : w.heap[q]? = some (.cells cs t (0, 0))) (hv : cs[j]? = some v) : w.cell? ⟨q, j, none⟩ = some v := by
  simp [World.cell?, h, hv]
theorem row_frz {w : World} {q : Nat} {cs : Array Value} {t : TypeId} {j : Nat} (h : w.heap[q]? = some (.cells cs t (0, 0))) : w.frozen? ⟨q, j, none⟩ = false := by
  simp [World.frozen?, h]
end Go.Proofs.YtnomccgdajcfiaaDoor
