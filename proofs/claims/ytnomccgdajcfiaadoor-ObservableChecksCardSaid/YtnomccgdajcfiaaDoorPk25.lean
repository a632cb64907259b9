/- Joined: ObK, ObK1, ObK2. -/
import Derived.Test.YtnomccgdajcfiaaDoorPk21
import Derived.Test.YtnomccgdajcfiaaDoorPk23
import Derived.Deep.CutRange
/- Layer 8: Sort of the reference. -/
namespace Go.Proofs.YtnomccgdajcfiaaDoor
open Go Go.RowKit Go.BigFrame
def i64V (x : Int) : Value := .int .i64 x
theorem own_belO {w w' : World} {base : Nat} {e : TypeId} {size : Nat} {v : Value} {n : Nat} {xs : List Value} (h : w.ownsRow base e size v n xs) (b : Below w.heap.size w w') : w'.ownsRow base e size v n xs := by
  refine ⟨h.1, ?_⟩
  rcases h.2 with h0 | ⟨g, cap, cur, hv, hg, hh, r⟩
  · exact .inl h0
  · exact .inr ⟨g, cap, cur, hv, hg, (b.block _ (lt_of_block hh)).trans hh, r⟩
theorem infoI8 : (Tryd.prog.info? 3).map (fun i => (i.zero, i.size, i.bytes)) = some (some (.int .i64 0), 1, 8) := by kernel_rfl
def bareB (r n : ByteArray) (d : Int) : Bool := emB r && emB n && decide (d = 0)
theorem srtF_no {k : Int} {r n : ByteArray} {d : Int} {l : List Int} (h : ¬ (srtB k ≠ 0 ∧ fldB k r n d = true ∧ l = prtL k)) : srtF k r n d l = 0 := if_neg h
theorem srtF_ok {k : Int} {r n : ByteArray} {d : Int} {l : List Int} (h : srtB k ≠ 0 ∧ fldB k r n d = true ∧ l = prtL k) : srtF k r n d l = srtB k := if_pos h
theorem fldB_bare {k : Int} {r n : ByteArray} {d : Int} (h1 : k ≠ 1) (h2 : k ≠ 2) (h3 : k ≠ 3) : fldB k r n d = bareB r n d := by
  unfold fldB; rw [if_neg h1, if_neg h2, if_neg h3]; rfl
theorem srt_no_fld {k : Int} {r n : ByteArray} {d : Int} {l : List Int} {Z : Int} (h : srtF k r n d l = Z) (hf : fldB k r n d = false) : Z = 0 := by
  rw [← h]; exact srtF_no (fun g => by rw [hf] at g; exact Bool.false_ne_true g.2.1)
theorem srt_no_len {k : Int} {r n : ByteArray} {d : Int} {l : List Int} {Z : Int} (h : srtF k r n d l = Z) {p : List Int} (hp : prtL k = p) (hf : l.length ≠ p.length) : Z = 0 := by
  rw [← h]; exact srtF_no (fun g => hf (by rw [g.2.2, hp]))
theorem srt_no_el {k : Int} {r n : ByteArray} {d : Int} {l : List Int} {Z : Int} (h : srtF k r n d l = Z) {p : List Int} (hp : prtL k = p) (hf : l ≠ p) : Z = 0 := by
  rw [← h]; exact srtF_no (fun g => hf (by rw [g.2.2, hp]))
theorem srt_ok {k : Int} {r n : ByteArray} {d : Int} {l : List Int} {Z : Int} (h : srtF k r n d l = Z) {p : List Int} (hp : prtL k = p) {z : Int} (hz : srtB k = z) (h0 : z ≠ 0) (hf : fldB k r n d = true) (hl : l = p) : Z = z := by
  rw [← h, srtF_ok ⟨by rw [hz]; exact h0, hf, by rw [hl, hp]⟩, hz]
theorem srt_no_kind {k : Int} {r n : ByteArray} {d : Int} {l : List Int} {Z : Int} (h : srtF k r n d l = Z) (hz : srtB k = 0) : Z = 0 := by
  rw [← h]; exact srtF_no (fun g => g.1 hz)
theorem list1O {l : List Int} (h : l.length = 1) : ∃ a, l = [a] := by
  match l, h with
  | [a], _ => exact ⟨a, rfl⟩
theorem list2O {l : List Int} (h : l.length = 2) : ∃ a b, l = [a, b] := by
  match l, h with
  | [a, b], _ => exact ⟨a, b, rfl⟩
theorem list3O {l : List Int} (h : l.length = 3) : ∃ a b c, l = [a, b, c] := by
  match l, h with
  | [a, b, c], _ => exact ⟨a, b, c, rfl⟩
theorem row1O {w : World} {A : Option Addr} {a : Int} (h : SlA i64V w A [a]) : ∃ b o, A = some ⟨b, o, none⟩ ∧ w.cell? ⟨b, o, none⟩ = some (.int .i64 a) := by
  obtain ⟨b, o, h1, -, h2⟩ := h 0 a rfl
  exact ⟨b, o, h1, h2⟩
theorem row2O {w : World} {A : Option Addr} {a a1 : Int} (h : SlA i64V w A [a, a1]) : ∃ b o, A = some ⟨b, o, none⟩ ∧ w.cell? ⟨b, o, none⟩ = some (.int .i64 a) ∧ w.cell? ⟨b, o + 1, none⟩ = some (.int .i64 a1) := by
  obtain ⟨b, o, h1, -, h2⟩ := h 0 a rfl
  obtain ⟨b', o', h3, -, h4⟩ := h 1 a1 rfl
  rw [h1] at h3
  injection h3 with h3
  injection h3 with e1 e2
  subst e1 e2
  exact ⟨b, o, h1, h2, h4⟩
theorem row3O {w : World} {A : Option Addr} {a a1 a2 : Int} (h : SlA i64V w A [a, a1, a2]) : ∃ b o, A = some ⟨b, o, none⟩ ∧ w.cell? ⟨b, o, none⟩ = some (.int .i64 a) ∧ w.cell? ⟨b, o + 1, none⟩ = some (.int .i64 a1) ∧ w.cell? ⟨b, o + 2, none⟩ = some (.int .i64 a2) := by
  obtain ⟨b, o, h1, -, h2⟩ := h 0 a rfl
  obtain ⟨b', o', h3, -, h4⟩ := h 1 a1 rfl
  obtain ⟨b'', o'', h5, -, h6⟩ := h 2 a2 rfl
  rw [h1] at h3 h5
  injection h3 with h3
  injection h3 with e1 e2
  injection h5 with h5
  injection h5 with e3 e4
  subst e1 e2 e3 e4
  exact ⟨b, o, h1, h2, h4, h6⟩
end Go.Proofs.YtnomccgdajcfiaaDoor
/- Layer 8: Sort of the reference: kinds without parts. -/
namespace Go.Proofs.YtnomccgdajcfiaaDoor
open Go Go.RowKit Go.BigFrame
set_option maxRecDepth 100000 in
set_option maxHeartbeats 25600000 in
theorem rsort_k1 (kk : Int) (HK1 : Hid (kk = 1)) (rr nn : ByteArray) (dd : Int) (A : Option Addr) (c : Nat) (s : List Ex) (w : World) (hin : Ex.In w (.mk kk rr nn dd A c s)) (hz : Ex.siz (.mk kk rr nn dd A c s) ≤ 600) (hby : Ex.byt (.mk kk rr nn dd A c s) ≤ 12000)
    (ih : ∀ t ∈ s, ∀ W, t.In W → Calls Tryd.prog 26 #[t.val] W (IntRO t.srt W)) :
    Calls Tryd.prog 26 #[.agg #[.int .u8 kk, .string rr, .string nn, .int .i64 dd, .slice A s.length c]] w (IntRO (Ex.srt (.mk kk rr nn dd A c s)) w) := by
  obtain ⟨i0, hi, hz0, hz1, hz2⟩ := info_parts infoI8
  have HB1 := belO w (.cells #[.int .u8 kk, .string rr, .string nn, .int .i64 dd, .slice A s.length c] 25)
  have hI1 := hin.below HB1
  have hC : Ex.Box (w.alloc (.cells #[.int .u8 kk, .string rr, .string nn, .int .i64 dd, .slice A s.length c] 25)) w.heap.size (.mk kk rr nn dd A c s) := Ex.Box.new w (.mk kk rr nn dd A c s) 25
  obtain ⟨w1, hw1⟩ : ∃ w1, w.alloc (.cells #[.int .u8 kk, .string rr, .string nn, .int .i64 dd, .slice A s.length c] 25) = w1 := ⟨_, rfl⟩
  rw [hw1] at HB1 hI1 hC
  have HI := Lib.hid hI1
  have HC := Lib.hid hC
  have HB := Lib.hid HB1
  have IH := Lib.hid ih
  have hbd := hin.bd
  have hlen : s.length ≤ 600 := by have := Ex.len_lt (k := kk) (r := rr) (n := nn) (d := dd) (A := A) (c := c) (s := s); omega
  have hrr : rr.size ≤ 1048576 := by rw [Ex.byt_mk] at hby; omega
  have HK := Lib.hid (fun W => refRCheck_any rr hrr W)
  have HN := Lib.hid (fun W => rname8_any nn _ rfl W)
  have HD := Lib.hid (fun W => rday_any dd W)
  have hk0 : 0 ≤ kk := hbd.k0
  have hsrt : Ex.srt (.mk kk rr nn dd A c s) = srtF kk rr nn dd (s.map Ex.srt) := Ex.srt_mk ..
  rw [hsrt]
  obtain ⟨Z, hZ⟩ : ∃ Z, srtF kk rr nn dd (s.map Ex.srt) = Z := ⟨_, rfl⟩
  have HZ := Lib.hid hZ
  rw [hZ]
  have k0 : w1.cell? ⟨w.heap.size, 0, none⟩ = some (.int .u8 kk) := hC.c0
  have k1 : w1.cell? ⟨w.heap.size, 1, none⟩ = some (.string rr) := hC.c1
  have k2 : w1.cell? ⟨w.heap.size, 2, none⟩ = some (.string nn) := hC.c2
  have k3 : w1.cell? ⟨w.heap.size, 3, none⟩ = some (.int .i64 dd) := hC.c3
  have k4 : w1.cell? ⟨w.heap.size, 4, none⟩ = some (.slice A s.length c) := hC.c4
  have hws : w1.heap.size = w.heap.size + 1 := by rw [← hw1, World.size_alloc]
  have HWS := Lib.hid hws
  have hbc : (emB rr = false ∧ (rr.toList == ([] : List UInt8)) = false) ∨ (emB rr = true ∧ rr = ⟨#[]⟩ ∧ emB nn = false ∧ (nn.toList == ([] : List UInt8)) = false) ∨ (emB rr = true ∧ rr = ⟨#[]⟩ ∧ emB nn = true ∧ nn = ⟨#[]⟩ ∧ (dd == 0) = false) ∨ (emB rr = true ∧ rr = ⟨#[]⟩ ∧ emB nn = true ∧ nn = ⟨#[]⟩ ∧ dd = 0) := by
    rcases em_cases rr with ⟨a, b⟩ | ⟨a, b⟩
    · rcases em_cases nn with ⟨a2, b2⟩ | ⟨a2, b2⟩
      · by_cases h : dd = 0
        · exact .inr (.inr (.inr ⟨b, a, b2, a2, h⟩))
        · exact .inr (.inr (.inl ⟨b, a, b2, a2, by rw [beq_eq_false_iff_ne]; exact h⟩))
      · exact .inr (.inl ⟨b, a, b2, a2⟩)
    · exact .inl ⟨b, a⟩
  have HBC := Lib.hid hbc
  obtain ⟨B, hB⟩ : ∃ B, bareB rr nn dd = B := ⟨_, rfl⟩
  have HBB := Lib.hid hB
  clear ih hin hz hby hbd hrr hsrt hZ hI1 hC HB1 hws hbc hB
  go_enter Tryd.func26, Tryd.ntmps26
  go_upto_region 1 with fail
  clear hw1
  go_cut [3] from 7 to 19 (fun s wc => s = .bool B ∧ wc = w1)
  case first =>
    rcases HBC.out with ⟨e1, e2⟩ | ⟨e1, rfl, e2, e3⟩ | ⟨e1, rfl, e2, rfl, e3⟩ | ⟨e1, rfl, e2, rfl, rfl⟩
    · obtain rfl : B = false := by rw [← HBB.out]; unfold bareB; rw [e1]; rfl
      go_wp2_with fail
      go_meet
      exact ⟨rfl, rfl⟩
    · obtain rfl : B = false := by rw [← HBB.out]; unfold bareB; rw [e1, e2]; rfl
      go_wp2_with fail
      go_meet
      exact ⟨rfl, rfl⟩
    · obtain rfl : B = false := by rw [← HBB.out]; unfold bareB; rw [beq_eq_false_iff_ne] at e3; simp [e1, e3]
      go_wp2_with fail
      go_meet
      exact ⟨rfl, rfl⟩
    · obtain rfl : B = true := by rw [← HBB.out]; unfold bareB; simp [e1]
      go_wp2_with fail
      go_meet
      exact ⟨rfl, rfl⟩
  case rest =>
    obtain ⟨rfl, hwc⟩ := hcut
    replace hwc := hwc.symm
    subst hwc
    go_wp2_with fail
    clear HBC
    go_loopw [4, 5] (fun l i wr => ∃ (k : Nat) (v : Value), k ≤ s.length ∧ i = .int .i64 k ∧ l = v ∧ Hid (wr.ownsRow (w.heap.size + 1) 3 1 v k (((s.take k).map Ex.srt).map i64V)) ∧ Hid (Below (w.heap.size + 1) w1 wr)) (fun _ i _ => s.length - (intOf i).toNat)
    case atStart => exact ⟨0, _, by omega, rfl, rfl, World.ownsRow_nil _ _ _ _, Below.refl _ _⟩
    case round =>
      obtain ⟨k, v, hk, rfl, rfl, HO, HW⟩ := hrel
      have HWb := Lib.hid (show Below w1.heap.size w1 wr by rw [HWS.out]; exact HW.out)
      obtain ⟨b0, b1, b2, b3, b4⟩ := HC.out.below HWb.out
      simp only [Ex.k, Ex.r, Ex.n, Ex.d, Ex.A, Ex.c, Ex.sub] at b0 b1 b2 b3 b4
      by_cases hlt : k < s.length
      · have HIW := Lib.hid (HI.out.below HWb.out)
        obtain ⟨bb, o, rfl, -, hpi, d0, d1, d2, d3, d4⟩ := HIW.out.part hlt
        have hm : s[k] ∈ s := List.getElem_mem hlt
        have HQ := Lib.hid (IH.out s[k] hm _ hpi)
        have HX : Hid (∀ (W : World) v', W.ownsRow (w.heap.size + 1) 3 1 v' (k + 1) (((s.take k).map Ex.srt).map i64V ++ [.int .i64 s[k].srt]) → W.ownsRow (w.heap.size + 1) 3 1 v' (k + 1) (((s.take (k + 1)).map Ex.srt).map i64V)) := fun W v' h => by
          rw [take_snoc s k hlt, List.map_append, List.map_append]; exact h
        have hsz1 : w.heap.size + 1 ≤ wr.heap.size := by rw [← HWS.out]; exact HWb.out.size
        generalize s[k] = t at *
        obtain ⟨x, hx⟩ : ∃ x, t.srt = x := ⟨_, rfl⟩
        rw [hx] at HQ HX
        obtain ⟨A', c', hv, -, -⟩ := SlA.of_own HO.out
        subst hv
        clear hpi hm HI IH HIW HWb hx
        go_wp2_with (first
          | (go_at_call 26; ((with_reducible refine HQ.out.mono ?_); rintro x w4 ⟨rfl, b⟩; have O4 := Lib.hid (own_belO HO.out b); have B4 := Lib.hid (HW.out.trans (b.mono hsz1)); have s4 := Nat.le_trans hsz1 b.size; clear b))
          | (at_builtin; refine wpList_app1 O4.out _ rfl _ _ 45 rfl i0 (.int .i64 0) 8 Tryd.underlying45 hi hz0 hz1 hz2 rfl rfl rfl rfl (by unfold maxLen; omega) (by omega) s4 ?_; intro v' w6 hown hb; have O6 := Lib.hid (HX.out _ _ hown); have B6 := Lib.hid (B4.out.trans hb); clear hown hb))
        go_roundw
        case rel => exact ⟨k + 1, _, by omega, by go_num, rfl, O6, B6⟩
        case measure => simp [intOf]; omega
      · obtain rfl : k = s.length := by omega
        obtain ⟨A', c', hv, -, hA⟩ := SlA.of_own HO.out
        subst hv
        rw [List.take_length] at hA
        have HBw := Lib.hid (btO HB.out HWb.out)
        have HL := Lib.hid hA
        obtain ⟨L, hL⟩ : ∃ L, s.map Ex.srt = L := ⟨_, rfl⟩
        rw [hL] at HL HZ
        obtain ⟨N, hN⟩ : ∃ N, s.length = N := ⟨_, rfl⟩
        have hN2 : L.length = N := by rw [← hL, List.length_map]; exact hN
        have HNN := Lib.hid hN2
        rw [hN] at hlen b4 ⊢
        clear hA hL hN hN2 HO HW HWb HI HC IH HB HWS hk hlt k0 k1 k2 k3 k4
        have h1 := HK1.out
        clear HK1
        subst h1
        have hp : prtL 1 = [] := by decide
        by_cases hN0 : N = 0
        · have hL0 : L = [] := List.eq_nil_of_length_eq_zero (HNN.out.trans hN0)
          subst hN0
          rcases em_cases nn with ⟨rfl, en⟩ | ⟨g, en⟩
          · by_cases hd : dd = 0
            · subst hd
              obtain ⟨cc, hcc⟩ : ∃ cc, chkR rr.data.toList = cc := ⟨_, rfl⟩
              rw [hcc] at HK
              by_cases hc : cc = 0
              · subst hc
                obtain rfl : Z = 1 := srt_ok HZ.out hp (by decide) (by decide) (by unfold fldB; simp [hcc, en]) hL0
                clear HZ HL HNN HBB
                go_wp2_with (first
                  | (go_at_call 32; ((with_reducible refine (HK.out _).mono ?_); rintro x w4 ⟨rfl, hb⟩; have e0 := cellO hb b0; have e1 := cellO hb b1; have e2 := cellO hb b2; have e3 := cellO hb b3; have HY := Lib.hid (btO HBw.out hb); clear hb))
                  | (go_at_call 7; ((with_reducible refine (HN.out _).mono ?_); rintro x w4 ⟨rfl, rfl⟩))
                  | (go_at_call 33; ((with_reducible refine (HD.out _).mono ?_); rintro x w4 ⟨rfl, rfl⟩)))
                go_ret
                exact ⟨rfl, HY.out⟩
              · have hz : (cc == 0) = false := by rw [beq_eq_false_iff_ne]; exact hc
                obtain rfl : Z = 0 := srt_no_fld HZ.out (by unfold fldB; simp [hcc, hc, en])
                clear HZ HL HNN HBB hc
                go_wp2_with (first
                  | (go_at_call 32; ((with_reducible refine (HK.out _).mono ?_); rintro x w4 ⟨rfl, hb⟩; have e0 := cellO hb b0; have e1 := cellO hb b1; have e2 := cellO hb b2; have e3 := cellO hb b3; have HY := Lib.hid (btO HBw.out hb); clear hb))
                  | (go_at_call 7; ((with_reducible refine (HN.out _).mono ?_); rintro x w4 ⟨rfl, rfl⟩))
                  | (go_at_call 33; ((with_reducible refine (HD.out _).mono ?_); rintro x w4 ⟨rfl, rfl⟩)))
                go_ret
                exact ⟨rfl, HY.out⟩
            · have hz : (dd == 0) = false := by rw [beq_eq_false_iff_ne]; exact hd
              obtain rfl : Z = 0 := srt_no_fld HZ.out (by unfold fldB; simp [hd, en])
              clear HZ HL HNN HBB hd
              go_wp2_with (first
                | (go_at_call 32; ((with_reducible refine (HK.out _).mono ?_); rintro x w4 ⟨rfl, hb⟩; have e0 := cellO hb b0; have e1 := cellO hb b1; have e2 := cellO hb b2; have e3 := cellO hb b3; have HY := Lib.hid (btO HBw.out hb); clear hb))
                | (go_at_call 7; ((with_reducible refine (HN.out _).mono ?_); rintro x w4 ⟨rfl, rfl⟩))
                | (go_at_call 33; ((with_reducible refine (HD.out _).mono ?_); rintro x w4 ⟨rfl, rfl⟩)))
              go_ret
              exact ⟨rfl, HBw.out⟩
          ·
            obtain rfl : Z = 0 := srt_no_fld HZ.out (by unfold fldB; simp [en])
            clear HZ HL HNN HBB
            go_wp2_with (first
              | (go_at_call 32; ((with_reducible refine (HK.out _).mono ?_); rintro x w4 ⟨rfl, hb⟩; have e0 := cellO hb b0; have e1 := cellO hb b1; have e2 := cellO hb b2; have e3 := cellO hb b3; have HY := Lib.hid (btO HBw.out hb); clear hb))
              | (go_at_call 7; ((with_reducible refine (HN.out _).mono ?_); rintro x w4 ⟨rfl, rfl⟩))
              | (go_at_call 33; ((with_reducible refine (HD.out _).mono ?_); rintro x w4 ⟨rfl, rfl⟩)))
            go_ret
            exact ⟨rfl, HBw.out⟩
        · have hn : ((N : Int) == 0) = false := by rw [beq_eq_false_iff_ne]; omega
          obtain rfl : Z = 0 := srt_no_len HZ.out hp (by rw [HNN.out]; exact hN0)
          clear HZ HL HNN HBB hN0
          go_wp2_with (first
            | (go_at_call 32; ((with_reducible refine (HK.out _).mono ?_); rintro x w4 ⟨rfl, hb⟩; have e0 := cellO hb b0; have e1 := cellO hb b1; have e2 := cellO hb b2; have e3 := cellO hb b3; have HY := Lib.hid (btO HBw.out hb); clear hb))
            | (go_at_call 7; ((with_reducible refine (HN.out _).mono ?_); rintro x w4 ⟨rfl, rfl⟩))
            | (go_at_call 33; ((with_reducible refine (HD.out _).mono ?_); rintro x w4 ⟨rfl, rfl⟩)))
          go_ret
          exact ⟨rfl, HBw.out⟩
set_option maxRecDepth 100000 in
set_option maxHeartbeats 25600000 in
theorem rsort_k2 (kk : Int) (HK1 : Hid (kk = 2)) (rr nn : ByteArray) (dd : Int) (A : Option Addr) (c : Nat) (s : List Ex) (w : World) (hin : Ex.In w (.mk kk rr nn dd A c s)) (hz : Ex.siz (.mk kk rr nn dd A c s) ≤ 600) (hby : Ex.byt (.mk kk rr nn dd A c s) ≤ 12000)
    (ih : ∀ t ∈ s, ∀ W, t.In W → Calls Tryd.prog 26 #[t.val] W (IntRO t.srt W)) :
    Calls Tryd.prog 26 #[.agg #[.int .u8 kk, .string rr, .string nn, .int .i64 dd, .slice A s.length c]] w (IntRO (Ex.srt (.mk kk rr nn dd A c s)) w) := by
  obtain ⟨i0, hi, hz0, hz1, hz2⟩ := info_parts infoI8
  have HB1 := belO w (.cells #[.int .u8 kk, .string rr, .string nn, .int .i64 dd, .slice A s.length c] 25)
  have hI1 := hin.below HB1
  have hC : Ex.Box (w.alloc (.cells #[.int .u8 kk, .string rr, .string nn, .int .i64 dd, .slice A s.length c] 25)) w.heap.size (.mk kk rr nn dd A c s) := Ex.Box.new w (.mk kk rr nn dd A c s) 25
  obtain ⟨w1, hw1⟩ : ∃ w1, w.alloc (.cells #[.int .u8 kk, .string rr, .string nn, .int .i64 dd, .slice A s.length c] 25) = w1 := ⟨_, rfl⟩
  rw [hw1] at HB1 hI1 hC
  have HI := Lib.hid hI1
  have HC := Lib.hid hC
  have HB := Lib.hid HB1
  have IH := Lib.hid ih
  have hbd := hin.bd
  have hlen : s.length ≤ 600 := by have := Ex.len_lt (k := kk) (r := rr) (n := nn) (d := dd) (A := A) (c := c) (s := s); omega
  have hrr : rr.size ≤ 1048576 := by rw [Ex.byt_mk] at hby; omega
  have HK := Lib.hid (fun W => refRCheck_any rr hrr W)
  have HN := Lib.hid (fun W => rname8_any nn _ rfl W)
  have HD := Lib.hid (fun W => rday_any dd W)
  have hk0 : 0 ≤ kk := hbd.k0
  have hsrt : Ex.srt (.mk kk rr nn dd A c s) = srtF kk rr nn dd (s.map Ex.srt) := Ex.srt_mk ..
  rw [hsrt]
  obtain ⟨Z, hZ⟩ : ∃ Z, srtF kk rr nn dd (s.map Ex.srt) = Z := ⟨_, rfl⟩
  have HZ := Lib.hid hZ
  rw [hZ]
  have k0 : w1.cell? ⟨w.heap.size, 0, none⟩ = some (.int .u8 kk) := hC.c0
  have k1 : w1.cell? ⟨w.heap.size, 1, none⟩ = some (.string rr) := hC.c1
  have k2 : w1.cell? ⟨w.heap.size, 2, none⟩ = some (.string nn) := hC.c2
  have k3 : w1.cell? ⟨w.heap.size, 3, none⟩ = some (.int .i64 dd) := hC.c3
  have k4 : w1.cell? ⟨w.heap.size, 4, none⟩ = some (.slice A s.length c) := hC.c4
  have hws : w1.heap.size = w.heap.size + 1 := by rw [← hw1, World.size_alloc]
  have HWS := Lib.hid hws
  have hbc : (emB rr = false ∧ (rr.toList == ([] : List UInt8)) = false) ∨ (emB rr = true ∧ rr = ⟨#[]⟩ ∧ emB nn = false ∧ (nn.toList == ([] : List UInt8)) = false) ∨ (emB rr = true ∧ rr = ⟨#[]⟩ ∧ emB nn = true ∧ nn = ⟨#[]⟩ ∧ (dd == 0) = false) ∨ (emB rr = true ∧ rr = ⟨#[]⟩ ∧ emB nn = true ∧ nn = ⟨#[]⟩ ∧ dd = 0) := by
    rcases em_cases rr with ⟨a, b⟩ | ⟨a, b⟩
    · rcases em_cases nn with ⟨a2, b2⟩ | ⟨a2, b2⟩
      · by_cases h : dd = 0
        · exact .inr (.inr (.inr ⟨b, a, b2, a2, h⟩))
        · exact .inr (.inr (.inl ⟨b, a, b2, a2, by rw [beq_eq_false_iff_ne]; exact h⟩))
      · exact .inr (.inl ⟨b, a, b2, a2⟩)
    · exact .inl ⟨b, a⟩
  have HBC := Lib.hid hbc
  obtain ⟨B, hB⟩ : ∃ B, bareB rr nn dd = B := ⟨_, rfl⟩
  have HBB := Lib.hid hB
  clear ih hin hz hby hbd hrr hsrt hZ hI1 hC HB1 hws hbc hB
  go_enter Tryd.func26, Tryd.ntmps26
  go_upto_region 1 with fail
  clear hw1
  go_cut [3] from 7 to 19 (fun s wc => s = .bool B ∧ wc = w1)
  case first =>
    rcases HBC.out with ⟨e1, e2⟩ | ⟨e1, rfl, e2, e3⟩ | ⟨e1, rfl, e2, rfl, e3⟩ | ⟨e1, rfl, e2, rfl, rfl⟩
    · obtain rfl : B = false := by rw [← HBB.out]; unfold bareB; rw [e1]; rfl
      go_wp2_with fail
      go_meet
      exact ⟨rfl, rfl⟩
    · obtain rfl : B = false := by rw [← HBB.out]; unfold bareB; rw [e1, e2]; rfl
      go_wp2_with fail
      go_meet
      exact ⟨rfl, rfl⟩
    · obtain rfl : B = false := by rw [← HBB.out]; unfold bareB; rw [beq_eq_false_iff_ne] at e3; simp [e1, e3]
      go_wp2_with fail
      go_meet
      exact ⟨rfl, rfl⟩
    · obtain rfl : B = true := by rw [← HBB.out]; unfold bareB; simp [e1]
      go_wp2_with fail
      go_meet
      exact ⟨rfl, rfl⟩
  case rest =>
    obtain ⟨rfl, hwc⟩ := hcut
    replace hwc := hwc.symm
    subst hwc
    go_wp2_with fail
    clear HBC
    go_loopw [4, 5] (fun l i wr => ∃ (k : Nat) (v : Value), k ≤ s.length ∧ i = .int .i64 k ∧ l = v ∧ Hid (wr.ownsRow (w.heap.size + 1) 3 1 v k (((s.take k).map Ex.srt).map i64V)) ∧ Hid (Below (w.heap.size + 1) w1 wr)) (fun _ i _ => s.length - (intOf i).toNat)
    case atStart => exact ⟨0, _, by omega, rfl, rfl, World.ownsRow_nil _ _ _ _, Below.refl _ _⟩
    case round =>
      obtain ⟨k, v, hk, rfl, rfl, HO, HW⟩ := hrel
      have HWb := Lib.hid (show Below w1.heap.size w1 wr by rw [HWS.out]; exact HW.out)
      obtain ⟨b0, b1, b2, b3, b4⟩ := HC.out.below HWb.out
      simp only [Ex.k, Ex.r, Ex.n, Ex.d, Ex.A, Ex.c, Ex.sub] at b0 b1 b2 b3 b4
      by_cases hlt : k < s.length
      · have HIW := Lib.hid (HI.out.below HWb.out)
        obtain ⟨bb, o, rfl, -, hpi, d0, d1, d2, d3, d4⟩ := HIW.out.part hlt
        have hm : s[k] ∈ s := List.getElem_mem hlt
        have HQ := Lib.hid (IH.out s[k] hm _ hpi)
        have HX : Hid (∀ (W : World) v', W.ownsRow (w.heap.size + 1) 3 1 v' (k + 1) (((s.take k).map Ex.srt).map i64V ++ [.int .i64 s[k].srt]) → W.ownsRow (w.heap.size + 1) 3 1 v' (k + 1) (((s.take (k + 1)).map Ex.srt).map i64V)) := fun W v' h => by
          rw [take_snoc s k hlt, List.map_append, List.map_append]; exact h
        have hsz1 : w.heap.size + 1 ≤ wr.heap.size := by rw [← HWS.out]; exact HWb.out.size
        generalize s[k] = t at *
        obtain ⟨x, hx⟩ : ∃ x, t.srt = x := ⟨_, rfl⟩
        rw [hx] at HQ HX
        obtain ⟨A', c', hv, -, -⟩ := SlA.of_own HO.out
        subst hv
        clear hpi hm HI IH HIW HWb hx
        go_wp2_with (first
          | (go_at_call 26; ((with_reducible refine HQ.out.mono ?_); rintro x w4 ⟨rfl, b⟩; have O4 := Lib.hid (own_belO HO.out b); have B4 := Lib.hid (HW.out.trans (b.mono hsz1)); have s4 := Nat.le_trans hsz1 b.size; clear b))
          | (at_builtin; refine wpList_app1 O4.out _ rfl _ _ 45 rfl i0 (.int .i64 0) 8 Tryd.underlying45 hi hz0 hz1 hz2 rfl rfl rfl rfl (by unfold maxLen; omega) (by omega) s4 ?_; intro v' w6 hown hb; have O6 := Lib.hid (HX.out _ _ hown); have B6 := Lib.hid (B4.out.trans hb); clear hown hb))
        go_roundw
        case rel => exact ⟨k + 1, _, by omega, by go_num, rfl, O6, B6⟩
        case measure => simp [intOf]; omega
      · obtain rfl : k = s.length := by omega
        obtain ⟨A', c', hv, -, hA⟩ := SlA.of_own HO.out
        subst hv
        rw [List.take_length] at hA
        have HBw := Lib.hid (btO HB.out HWb.out)
        have HL := Lib.hid hA
        obtain ⟨L, hL⟩ : ∃ L, s.map Ex.srt = L := ⟨_, rfl⟩
        rw [hL] at HL HZ
        obtain ⟨N, hN⟩ : ∃ N, s.length = N := ⟨_, rfl⟩
        have hN2 : L.length = N := by rw [← hL, List.length_map]; exact hN
        have HNN := Lib.hid hN2
        rw [hN] at hlen b4 ⊢
        clear hA hL hN hN2 HO HW HWb HI HC IH HB HWS hk hlt k0 k1 k2 k3 k4
        have h1 := HK1.out
        clear HK1
        subst h1
        have hp : prtL 2 = [] := by decide
        by_cases hN0 : N = 0
        · have hL0 : L = [] := List.eq_nil_of_length_eq_zero (HNN.out.trans hN0)
          subst hN0
          rcases em_cases rr with ⟨rfl, er⟩ | ⟨g, er⟩
          · cases hnm : nameO nn.data.toList
            · rw [hnm] at HN
              obtain rfl : Z = 0 := srt_no_fld HZ.out (by unfold fldB; simp [hnm])
              clear HZ HL HNN HBB
              go_wp2_with (first
                | (go_at_call 32; ((with_reducible refine (HK.out _).mono ?_); rintro x w4 ⟨rfl, hb⟩; have e0 := cellO hb b0; have e1 := cellO hb b1; have e2 := cellO hb b2; have e3 := cellO hb b3; have HY := Lib.hid (btO HBw.out hb); clear hb))
                | (go_at_call 7; ((with_reducible refine (HN.out _).mono ?_); rintro x w4 ⟨rfl, rfl⟩))
                | (go_at_call 33; ((with_reducible refine (HD.out _).mono ?_); rintro x w4 ⟨rfl, rfl⟩)))
              go_ret
              exact ⟨rfl, HBw.out⟩
            · rw [hnm] at HN
              cases hdd : dayO dd
              · rw [hdd] at HD
                obtain rfl : Z = 0 := srt_no_fld HZ.out (by unfold fldB; simp [hdd])
                clear HZ HL HNN HBB
                go_wp2_with (first
                  | (go_at_call 32; ((with_reducible refine (HK.out _).mono ?_); rintro x w4 ⟨rfl, hb⟩; have e0 := cellO hb b0; have e1 := cellO hb b1; have e2 := cellO hb b2; have e3 := cellO hb b3; have HY := Lib.hid (btO HBw.out hb); clear hb))
                  | (go_at_call 7; ((with_reducible refine (HN.out _).mono ?_); rintro x w4 ⟨rfl, rfl⟩))
                  | (go_at_call 33; ((with_reducible refine (HD.out _).mono ?_); rintro x w4 ⟨rfl, rfl⟩)))
                go_ret
                exact ⟨rfl, HBw.out⟩
              · rw [hdd] at HD
                obtain rfl : Z = 1 := srt_ok HZ.out hp (by decide) (by decide) (by unfold fldB; simp [hdd, hnm, er]) hL0
                clear HZ HL HNN HBB
                go_wp2_with (first
                  | (go_at_call 32; ((with_reducible refine (HK.out _).mono ?_); rintro x w4 ⟨rfl, hb⟩; have e0 := cellO hb b0; have e1 := cellO hb b1; have e2 := cellO hb b2; have e3 := cellO hb b3; have HY := Lib.hid (btO HBw.out hb); clear hb))
                  | (go_at_call 7; ((with_reducible refine (HN.out _).mono ?_); rintro x w4 ⟨rfl, rfl⟩))
                  | (go_at_call 33; ((with_reducible refine (HD.out _).mono ?_); rintro x w4 ⟨rfl, rfl⟩)))
                go_ret
                exact ⟨rfl, HBw.out⟩
          ·
            obtain rfl : Z = 0 := srt_no_fld HZ.out (by unfold fldB; simp [er])
            clear HZ HL HNN HBB
            go_wp2_with (first
              | (go_at_call 32; ((with_reducible refine (HK.out _).mono ?_); rintro x w4 ⟨rfl, hb⟩; have e0 := cellO hb b0; have e1 := cellO hb b1; have e2 := cellO hb b2; have e3 := cellO hb b3; have HY := Lib.hid (btO HBw.out hb); clear hb))
              | (go_at_call 7; ((with_reducible refine (HN.out _).mono ?_); rintro x w4 ⟨rfl, rfl⟩))
              | (go_at_call 33; ((with_reducible refine (HD.out _).mono ?_); rintro x w4 ⟨rfl, rfl⟩)))
            go_ret
            exact ⟨rfl, HBw.out⟩
        · have hn : ((N : Int) == 0) = false := by rw [beq_eq_false_iff_ne]; omega
          obtain rfl : Z = 0 := srt_no_len HZ.out hp (by rw [HNN.out]; exact hN0)
          clear HZ HL HNN HBB hN0
          go_wp2_with (first
            | (go_at_call 32; ((with_reducible refine (HK.out _).mono ?_); rintro x w4 ⟨rfl, hb⟩; have e0 := cellO hb b0; have e1 := cellO hb b1; have e2 := cellO hb b2; have e3 := cellO hb b3; have HY := Lib.hid (btO HBw.out hb); clear hb))
            | (go_at_call 7; ((with_reducible refine (HN.out _).mono ?_); rintro x w4 ⟨rfl, rfl⟩))
            | (go_at_call 33; ((with_reducible refine (HD.out _).mono ?_); rintro x w4 ⟨rfl, rfl⟩)))
          go_ret
          exact ⟨rfl, HBw.out⟩
set_option maxRecDepth 100000 in
set_option maxHeartbeats 25600000 in
theorem rsort_k3 (kk : Int) (HK1 : Hid (kk = 3)) (rr nn : ByteArray) (dd : Int) (A : Option Addr) (c : Nat) (s : List Ex) (w : World) (hin : Ex.In w (.mk kk rr nn dd A c s)) (hz : Ex.siz (.mk kk rr nn dd A c s) ≤ 600) (hby : Ex.byt (.mk kk rr nn dd A c s) ≤ 12000)
    (ih : ∀ t ∈ s, ∀ W, t.In W → Calls Tryd.prog 26 #[t.val] W (IntRO t.srt W)) :
    Calls Tryd.prog 26 #[.agg #[.int .u8 kk, .string rr, .string nn, .int .i64 dd, .slice A s.length c]] w (IntRO (Ex.srt (.mk kk rr nn dd A c s)) w) := by
  obtain ⟨i0, hi, hz0, hz1, hz2⟩ := info_parts infoI8
  have HB1 := belO w (.cells #[.int .u8 kk, .string rr, .string nn, .int .i64 dd, .slice A s.length c] 25)
  have hI1 := hin.below HB1
  have hC : Ex.Box (w.alloc (.cells #[.int .u8 kk, .string rr, .string nn, .int .i64 dd, .slice A s.length c] 25)) w.heap.size (.mk kk rr nn dd A c s) := Ex.Box.new w (.mk kk rr nn dd A c s) 25
  obtain ⟨w1, hw1⟩ : ∃ w1, w.alloc (.cells #[.int .u8 kk, .string rr, .string nn, .int .i64 dd, .slice A s.length c] 25) = w1 := ⟨_, rfl⟩
  rw [hw1] at HB1 hI1 hC
  have HI := Lib.hid hI1
  have HC := Lib.hid hC
  have HB := Lib.hid HB1
  have IH := Lib.hid ih
  have hbd := hin.bd
  have hlen : s.length ≤ 600 := by have := Ex.len_lt (k := kk) (r := rr) (n := nn) (d := dd) (A := A) (c := c) (s := s); omega
  have hrr : rr.size ≤ 1048576 := by rw [Ex.byt_mk] at hby; omega
  have HK := Lib.hid (fun W => refRCheck_any rr hrr W)
  have HN := Lib.hid (fun W => rname8_any nn _ rfl W)
  have HD := Lib.hid (fun W => rday_any dd W)
  have hk0 : 0 ≤ kk := hbd.k0
  have hsrt : Ex.srt (.mk kk rr nn dd A c s) = srtF kk rr nn dd (s.map Ex.srt) := Ex.srt_mk ..
  rw [hsrt]
  obtain ⟨Z, hZ⟩ : ∃ Z, srtF kk rr nn dd (s.map Ex.srt) = Z := ⟨_, rfl⟩
  have HZ := Lib.hid hZ
  rw [hZ]
  have k0 : w1.cell? ⟨w.heap.size, 0, none⟩ = some (.int .u8 kk) := hC.c0
  have k1 : w1.cell? ⟨w.heap.size, 1, none⟩ = some (.string rr) := hC.c1
  have k2 : w1.cell? ⟨w.heap.size, 2, none⟩ = some (.string nn) := hC.c2
  have k3 : w1.cell? ⟨w.heap.size, 3, none⟩ = some (.int .i64 dd) := hC.c3
  have k4 : w1.cell? ⟨w.heap.size, 4, none⟩ = some (.slice A s.length c) := hC.c4
  have hws : w1.heap.size = w.heap.size + 1 := by rw [← hw1, World.size_alloc]
  have HWS := Lib.hid hws
  have hbc : (emB rr = false ∧ (rr.toList == ([] : List UInt8)) = false) ∨ (emB rr = true ∧ rr = ⟨#[]⟩ ∧ emB nn = false ∧ (nn.toList == ([] : List UInt8)) = false) ∨ (emB rr = true ∧ rr = ⟨#[]⟩ ∧ emB nn = true ∧ nn = ⟨#[]⟩ ∧ (dd == 0) = false) ∨ (emB rr = true ∧ rr = ⟨#[]⟩ ∧ emB nn = true ∧ nn = ⟨#[]⟩ ∧ dd = 0) := by
    rcases em_cases rr with ⟨a, b⟩ | ⟨a, b⟩
    · rcases em_cases nn with ⟨a2, b2⟩ | ⟨a2, b2⟩
      · by_cases h : dd = 0
        · exact .inr (.inr (.inr ⟨b, a, b2, a2, h⟩))
        · exact .inr (.inr (.inl ⟨b, a, b2, a2, by rw [beq_eq_false_iff_ne]; exact h⟩))
      · exact .inr (.inl ⟨b, a, b2, a2⟩)
    · exact .inl ⟨b, a⟩
  have HBC := Lib.hid hbc
  obtain ⟨B, hB⟩ : ∃ B, bareB rr nn dd = B := ⟨_, rfl⟩
  have HBB := Lib.hid hB
  clear ih hin hz hby hbd hrr hsrt hZ hI1 hC HB1 hws hbc hB
  go_enter Tryd.func26, Tryd.ntmps26
  go_upto_region 1 with fail
  clear hw1
  go_cut [3] from 7 to 19 (fun s wc => s = .bool B ∧ wc = w1)
  case first =>
    rcases HBC.out with ⟨e1, e2⟩ | ⟨e1, rfl, e2, e3⟩ | ⟨e1, rfl, e2, rfl, e3⟩ | ⟨e1, rfl, e2, rfl, rfl⟩
    · obtain rfl : B = false := by rw [← HBB.out]; unfold bareB; rw [e1]; rfl
      go_wp2_with fail
      go_meet
      exact ⟨rfl, rfl⟩
    · obtain rfl : B = false := by rw [← HBB.out]; unfold bareB; rw [e1, e2]; rfl
      go_wp2_with fail
      go_meet
      exact ⟨rfl, rfl⟩
    · obtain rfl : B = false := by rw [← HBB.out]; unfold bareB; rw [beq_eq_false_iff_ne] at e3; simp [e1, e3]
      go_wp2_with fail
      go_meet
      exact ⟨rfl, rfl⟩
    · obtain rfl : B = true := by rw [← HBB.out]; unfold bareB; simp [e1]
      go_wp2_with fail
      go_meet
      exact ⟨rfl, rfl⟩
  case rest =>
    obtain ⟨rfl, hwc⟩ := hcut
    replace hwc := hwc.symm
    subst hwc
    go_wp2_with fail
    clear HBC
    go_loopw [4, 5] (fun l i wr => ∃ (k : Nat) (v : Value), k ≤ s.length ∧ i = .int .i64 k ∧ l = v ∧ Hid (wr.ownsRow (w.heap.size + 1) 3 1 v k (((s.take k).map Ex.srt).map i64V)) ∧ Hid (Below (w.heap.size + 1) w1 wr)) (fun _ i _ => s.length - (intOf i).toNat)
    case atStart => exact ⟨0, _, by omega, rfl, rfl, World.ownsRow_nil _ _ _ _, Below.refl _ _⟩
    case round =>
      obtain ⟨k, v, hk, rfl, rfl, HO, HW⟩ := hrel
      have HWb := Lib.hid (show Below w1.heap.size w1 wr by rw [HWS.out]; exact HW.out)
      obtain ⟨b0, b1, b2, b3, b4⟩ := HC.out.below HWb.out
      simp only [Ex.k, Ex.r, Ex.n, Ex.d, Ex.A, Ex.c, Ex.sub] at b0 b1 b2 b3 b4
      by_cases hlt : k < s.length
      · have HIW := Lib.hid (HI.out.below HWb.out)
        obtain ⟨bb, o, rfl, -, hpi, d0, d1, d2, d3, d4⟩ := HIW.out.part hlt
        have hm : s[k] ∈ s := List.getElem_mem hlt
        have HQ := Lib.hid (IH.out s[k] hm _ hpi)
        have HX : Hid (∀ (W : World) v', W.ownsRow (w.heap.size + 1) 3 1 v' (k + 1) (((s.take k).map Ex.srt).map i64V ++ [.int .i64 s[k].srt]) → W.ownsRow (w.heap.size + 1) 3 1 v' (k + 1) (((s.take (k + 1)).map Ex.srt).map i64V)) := fun W v' h => by
          rw [take_snoc s k hlt, List.map_append, List.map_append]; exact h
        have hsz1 : w.heap.size + 1 ≤ wr.heap.size := by rw [← HWS.out]; exact HWb.out.size
        generalize s[k] = t at *
        obtain ⟨x, hx⟩ : ∃ x, t.srt = x := ⟨_, rfl⟩
        rw [hx] at HQ HX
        obtain ⟨A', c', hv, -, -⟩ := SlA.of_own HO.out
        subst hv
        clear hpi hm HI IH HIW HWb hx
        go_wp2_with (first
          | (go_at_call 26; ((with_reducible refine HQ.out.mono ?_); rintro x w4 ⟨rfl, b⟩; have O4 := Lib.hid (own_belO HO.out b); have B4 := Lib.hid (HW.out.trans (b.mono hsz1)); have s4 := Nat.le_trans hsz1 b.size; clear b))
          | (at_builtin; refine wpList_app1 O4.out _ rfl _ _ 45 rfl i0 (.int .i64 0) 8 Tryd.underlying45 hi hz0 hz1 hz2 rfl rfl rfl rfl (by unfold maxLen; omega) (by omega) s4 ?_; intro v' w6 hown hb; have O6 := Lib.hid (HX.out _ _ hown); have B6 := Lib.hid (B4.out.trans hb); clear hown hb))
        go_roundw
        case rel => exact ⟨k + 1, _, by omega, by go_num, rfl, O6, B6⟩
        case measure => simp [intOf]; omega
      · obtain rfl : k = s.length := by omega
        obtain ⟨A', c', hv, -, hA⟩ := SlA.of_own HO.out
        subst hv
        rw [List.take_length] at hA
        have HBw := Lib.hid (btO HB.out HWb.out)
        have HL := Lib.hid hA
        obtain ⟨L, hL⟩ : ∃ L, s.map Ex.srt = L := ⟨_, rfl⟩
        rw [hL] at HL HZ
        obtain ⟨N, hN⟩ : ∃ N, s.length = N := ⟨_, rfl⟩
        have hN2 : L.length = N := by rw [← hL, List.length_map]; exact hN
        have HNN := Lib.hid hN2
        rw [hN] at hlen b4 ⊢
        clear hA hL hN hN2 HO HW HWb HI HC IH HB HWS hk hlt k0 k1 k2 k3 k4
        have h1 := HK1.out
        clear HK1
        subst h1
        have hp : prtL 3 = [] := by decide
        by_cases hN0 : N = 0
        · have hL0 : L = [] := List.eq_nil_of_length_eq_zero (HNN.out.trans hN0)
          subst hN0
          rcases em_cases rr with ⟨rfl, er⟩ | ⟨g, er⟩
          · cases hnm : nameO nn.data.toList
            · rw [hnm] at HN
              obtain rfl : Z = 0 := srt_no_fld HZ.out (by unfold fldB; simp [hnm])
              clear HZ HL HNN HBB
              go_wp2_with (first
                | (go_at_call 32; ((with_reducible refine (HK.out _).mono ?_); rintro x w4 ⟨rfl, hb⟩; have e0 := cellO hb b0; have e1 := cellO hb b1; have e2 := cellO hb b2; have e3 := cellO hb b3; have HY := Lib.hid (btO HBw.out hb); clear hb))
                | (go_at_call 7; ((with_reducible refine (HN.out _).mono ?_); rintro x w4 ⟨rfl, rfl⟩))
                | (go_at_call 33; ((with_reducible refine (HD.out _).mono ?_); rintro x w4 ⟨rfl, rfl⟩)))
              go_ret
              exact ⟨rfl, HBw.out⟩
            · rw [hnm] at HN
              by_cases hd : dd = 0
              · subst hd
                obtain rfl : Z = 1 := srt_ok HZ.out hp (by decide) (by decide) (by unfold fldB; simp [hnm, er]) hL0
                clear HZ HL HNN HBB
                go_wp2_with (first
                  | (go_at_call 32; ((with_reducible refine (HK.out _).mono ?_); rintro x w4 ⟨rfl, hb⟩; have e0 := cellO hb b0; have e1 := cellO hb b1; have e2 := cellO hb b2; have e3 := cellO hb b3; have HY := Lib.hid (btO HBw.out hb); clear hb))
                  | (go_at_call 7; ((with_reducible refine (HN.out _).mono ?_); rintro x w4 ⟨rfl, rfl⟩))
                  | (go_at_call 33; ((with_reducible refine (HD.out _).mono ?_); rintro x w4 ⟨rfl, rfl⟩)))
                go_ret
                exact ⟨rfl, HBw.out⟩
              · have hz : (dd == 0) = false := by rw [beq_eq_false_iff_ne]; exact hd
                obtain rfl : Z = 0 := srt_no_fld HZ.out (by unfold fldB; simp [hd])
                clear HZ HL HNN HBB hd
                go_wp2_with (first
                  | (go_at_call 32; ((with_reducible refine (HK.out _).mono ?_); rintro x w4 ⟨rfl, hb⟩; have e0 := cellO hb b0; have e1 := cellO hb b1; have e2 := cellO hb b2; have e3 := cellO hb b3; have HY := Lib.hid (btO HBw.out hb); clear hb))
                  | (go_at_call 7; ((with_reducible refine (HN.out _).mono ?_); rintro x w4 ⟨rfl, rfl⟩))
                  | (go_at_call 33; ((with_reducible refine (HD.out _).mono ?_); rintro x w4 ⟨rfl, rfl⟩)))
                go_ret
                exact ⟨rfl, HBw.out⟩
          ·
            obtain rfl : Z = 0 := srt_no_fld HZ.out (by unfold fldB; simp [er])
            clear HZ HL HNN HBB
            go_wp2_with (first
              | (go_at_call 32; ((with_reducible refine (HK.out _).mono ?_); rintro x w4 ⟨rfl, hb⟩; have e0 := cellO hb b0; have e1 := cellO hb b1; have e2 := cellO hb b2; have e3 := cellO hb b3; have HY := Lib.hid (btO HBw.out hb); clear hb))
              | (go_at_call 7; ((with_reducible refine (HN.out _).mono ?_); rintro x w4 ⟨rfl, rfl⟩))
              | (go_at_call 33; ((with_reducible refine (HD.out _).mono ?_); rintro x w4 ⟨rfl, rfl⟩)))
            go_ret
            exact ⟨rfl, HBw.out⟩
        · have hn : ((N : Int) == 0) = false := by rw [beq_eq_false_iff_ne]; omega
          obtain rfl : Z = 0 := srt_no_len HZ.out hp (by rw [HNN.out]; exact hN0)
          clear HZ HL HNN HBB hN0
          go_wp2_with (first
            | (go_at_call 32; ((with_reducible refine (HK.out _).mono ?_); rintro x w4 ⟨rfl, hb⟩; have e0 := cellO hb b0; have e1 := cellO hb b1; have e2 := cellO hb b2; have e3 := cellO hb b3; have HY := Lib.hid (btO HBw.out hb); clear hb))
            | (go_at_call 7; ((with_reducible refine (HN.out _).mono ?_); rintro x w4 ⟨rfl, rfl⟩))
            | (go_at_call 33; ((with_reducible refine (HD.out _).mono ?_); rintro x w4 ⟨rfl, rfl⟩)))
          go_ret
          exact ⟨rfl, HBw.out⟩
set_option maxRecDepth 100000 in
set_option maxHeartbeats 25600000 in
theorem rsort_no (kk : Int) (HK1 : Hid (kk = 0 ∨ kk = 10 ∨ 15 < kk)) (rr nn : ByteArray) (dd : Int) (A : Option Addr) (c : Nat) (s : List Ex) (w : World) (hin : Ex.In w (.mk kk rr nn dd A c s)) (hz : Ex.siz (.mk kk rr nn dd A c s) ≤ 600) (hby : Ex.byt (.mk kk rr nn dd A c s) ≤ 12000)
    (ih : ∀ t ∈ s, ∀ W, t.In W → Calls Tryd.prog 26 #[t.val] W (IntRO t.srt W)) :
    Calls Tryd.prog 26 #[.agg #[.int .u8 kk, .string rr, .string nn, .int .i64 dd, .slice A s.length c]] w (IntRO (Ex.srt (.mk kk rr nn dd A c s)) w) := by
  obtain ⟨i0, hi, hz0, hz1, hz2⟩ := info_parts infoI8
  have HB1 := belO w (.cells #[.int .u8 kk, .string rr, .string nn, .int .i64 dd, .slice A s.length c] 25)
  have hI1 := hin.below HB1
  have hC : Ex.Box (w.alloc (.cells #[.int .u8 kk, .string rr, .string nn, .int .i64 dd, .slice A s.length c] 25)) w.heap.size (.mk kk rr nn dd A c s) := Ex.Box.new w (.mk kk rr nn dd A c s) 25
  obtain ⟨w1, hw1⟩ : ∃ w1, w.alloc (.cells #[.int .u8 kk, .string rr, .string nn, .int .i64 dd, .slice A s.length c] 25) = w1 := ⟨_, rfl⟩
  rw [hw1] at HB1 hI1 hC
  have HI := Lib.hid hI1
  have HC := Lib.hid hC
  have HB := Lib.hid HB1
  have IH := Lib.hid ih
  have hbd := hin.bd
  have hlen : s.length ≤ 600 := by have := Ex.len_lt (k := kk) (r := rr) (n := nn) (d := dd) (A := A) (c := c) (s := s); omega
  have hrr : rr.size ≤ 1048576 := by rw [Ex.byt_mk] at hby; omega
  have HK := Lib.hid (fun W => refRCheck_any rr hrr W)
  have HN := Lib.hid (fun W => rname8_any nn _ rfl W)
  have HD := Lib.hid (fun W => rday_any dd W)
  have hk0 : 0 ≤ kk := hbd.k0
  have hsrt : Ex.srt (.mk kk rr nn dd A c s) = srtF kk rr nn dd (s.map Ex.srt) := Ex.srt_mk ..
  rw [hsrt]
  obtain ⟨Z, hZ⟩ : ∃ Z, srtF kk rr nn dd (s.map Ex.srt) = Z := ⟨_, rfl⟩
  have HZ := Lib.hid hZ
  rw [hZ]
  have k0 : w1.cell? ⟨w.heap.size, 0, none⟩ = some (.int .u8 kk) := hC.c0
  have k1 : w1.cell? ⟨w.heap.size, 1, none⟩ = some (.string rr) := hC.c1
  have k2 : w1.cell? ⟨w.heap.size, 2, none⟩ = some (.string nn) := hC.c2
  have k3 : w1.cell? ⟨w.heap.size, 3, none⟩ = some (.int .i64 dd) := hC.c3
  have k4 : w1.cell? ⟨w.heap.size, 4, none⟩ = some (.slice A s.length c) := hC.c4
  have hws : w1.heap.size = w.heap.size + 1 := by rw [← hw1, World.size_alloc]
  have HWS := Lib.hid hws
  have hbc : (emB rr = false ∧ (rr.toList == ([] : List UInt8)) = false) ∨ (emB rr = true ∧ rr = ⟨#[]⟩ ∧ emB nn = false ∧ (nn.toList == ([] : List UInt8)) = false) ∨ (emB rr = true ∧ rr = ⟨#[]⟩ ∧ emB nn = true ∧ nn = ⟨#[]⟩ ∧ (dd == 0) = false) ∨ (emB rr = true ∧ rr = ⟨#[]⟩ ∧ emB nn = true ∧ nn = ⟨#[]⟩ ∧ dd = 0) := by
    rcases em_cases rr with ⟨a, b⟩ | ⟨a, b⟩
    · rcases em_cases nn with ⟨a2, b2⟩ | ⟨a2, b2⟩
      · by_cases h : dd = 0
        · exact .inr (.inr (.inr ⟨b, a, b2, a2, h⟩))
        · exact .inr (.inr (.inl ⟨b, a, b2, a2, by rw [beq_eq_false_iff_ne]; exact h⟩))
      · exact .inr (.inl ⟨b, a, b2, a2⟩)
    · exact .inl ⟨b, a⟩
  have HBC := Lib.hid hbc
  obtain ⟨B, hB⟩ : ∃ B, bareB rr nn dd = B := ⟨_, rfl⟩
  have HBB := Lib.hid hB
  clear ih hin hz hby hbd hrr hsrt hZ hI1 hC HB1 hws hbc hB
  go_enter Tryd.func26, Tryd.ntmps26
  go_upto_region 1 with fail
  clear hw1
  go_cut [3] from 7 to 19 (fun s wc => s = .bool B ∧ wc = w1)
  case first =>
    rcases HBC.out with ⟨e1, e2⟩ | ⟨e1, rfl, e2, e3⟩ | ⟨e1, rfl, e2, rfl, e3⟩ | ⟨e1, rfl, e2, rfl, rfl⟩
    · obtain rfl : B = false := by rw [← HBB.out]; unfold bareB; rw [e1]; rfl
      go_wp2_with fail
      go_meet
      exact ⟨rfl, rfl⟩
    · obtain rfl : B = false := by rw [← HBB.out]; unfold bareB; rw [e1, e2]; rfl
      go_wp2_with fail
      go_meet
      exact ⟨rfl, rfl⟩
    · obtain rfl : B = false := by rw [← HBB.out]; unfold bareB; rw [beq_eq_false_iff_ne] at e3; simp [e1, e3]
      go_wp2_with fail
      go_meet
      exact ⟨rfl, rfl⟩
    · obtain rfl : B = true := by rw [← HBB.out]; unfold bareB; simp [e1]
      go_wp2_with fail
      go_meet
      exact ⟨rfl, rfl⟩
  case rest =>
    obtain ⟨rfl, hwc⟩ := hcut
    replace hwc := hwc.symm
    subst hwc
    go_wp2_with fail
    clear HBC
    go_loopw [4, 5] (fun l i wr => ∃ (k : Nat) (v : Value), k ≤ s.length ∧ i = .int .i64 k ∧ l = v ∧ Hid (wr.ownsRow (w.heap.size + 1) 3 1 v k (((s.take k).map Ex.srt).map i64V)) ∧ Hid (Below (w.heap.size + 1) w1 wr)) (fun _ i _ => s.length - (intOf i).toNat)
    case atStart => exact ⟨0, _, by omega, rfl, rfl, World.ownsRow_nil _ _ _ _, Below.refl _ _⟩
    case round =>
      obtain ⟨k, v, hk, rfl, rfl, HO, HW⟩ := hrel
      have HWb := Lib.hid (show Below w1.heap.size w1 wr by rw [HWS.out]; exact HW.out)
      obtain ⟨b0, b1, b2, b3, b4⟩ := HC.out.below HWb.out
      simp only [Ex.k, Ex.r, Ex.n, Ex.d, Ex.A, Ex.c, Ex.sub] at b0 b1 b2 b3 b4
      by_cases hlt : k < s.length
      · have HIW := Lib.hid (HI.out.below HWb.out)
        obtain ⟨bb, o, rfl, -, hpi, d0, d1, d2, d3, d4⟩ := HIW.out.part hlt
        have hm : s[k] ∈ s := List.getElem_mem hlt
        have HQ := Lib.hid (IH.out s[k] hm _ hpi)
        have HX : Hid (∀ (W : World) v', W.ownsRow (w.heap.size + 1) 3 1 v' (k + 1) (((s.take k).map Ex.srt).map i64V ++ [.int .i64 s[k].srt]) → W.ownsRow (w.heap.size + 1) 3 1 v' (k + 1) (((s.take (k + 1)).map Ex.srt).map i64V)) := fun W v' h => by
          rw [take_snoc s k hlt, List.map_append, List.map_append]; exact h
        have hsz1 : w.heap.size + 1 ≤ wr.heap.size := by rw [← HWS.out]; exact HWb.out.size
        generalize s[k] = t at *
        obtain ⟨x, hx⟩ : ∃ x, t.srt = x := ⟨_, rfl⟩
        rw [hx] at HQ HX
        obtain ⟨A', c', hv, -, -⟩ := SlA.of_own HO.out
        subst hv
        clear hpi hm HI IH HIW HWb hx
        go_wp2_with (first
          | (go_at_call 26; ((with_reducible refine HQ.out.mono ?_); rintro x w4 ⟨rfl, b⟩; have O4 := Lib.hid (own_belO HO.out b); have B4 := Lib.hid (HW.out.trans (b.mono hsz1)); have s4 := Nat.le_trans hsz1 b.size; clear b))
          | (at_builtin; refine wpList_app1 O4.out _ rfl _ _ 45 rfl i0 (.int .i64 0) 8 Tryd.underlying45 hi hz0 hz1 hz2 rfl rfl rfl rfl (by unfold maxLen; omega) (by omega) s4 ?_; intro v' w6 hown hb; have O6 := Lib.hid (HX.out _ _ hown); have B6 := Lib.hid (B4.out.trans hb); clear hown hb))
        go_roundw
        case rel => exact ⟨k + 1, _, by omega, by go_num, rfl, O6, B6⟩
        case measure => simp [intOf]; omega
      · obtain rfl : k = s.length := by omega
        obtain ⟨A', c', hv, -, hA⟩ := SlA.of_own HO.out
        subst hv
        rw [List.take_length] at hA
        have HBw := Lib.hid (btO HB.out HWb.out)
        have HL := Lib.hid hA
        obtain ⟨L, hL⟩ : ∃ L, s.map Ex.srt = L := ⟨_, rfl⟩
        rw [hL] at HL HZ
        obtain ⟨N, hN⟩ : ∃ N, s.length = N := ⟨_, rfl⟩
        have hN2 : L.length = N := by rw [← hL, List.length_map]; exact hN
        have HNN := Lib.hid hN2
        rw [hN] at hlen b4 ⊢
        clear hA hL hN hN2 HO HW HWb HI HC IH HB HWS hk hlt k0 k1 k2 k3 k4
        have hk := HK1.out
        clear HK1
        have hs : srtB kk = 0 := by unfold srtB; rw [if_neg (by omega), if_neg (by omega)]
        have q1 : (kk == 1) = false := by rw [beq_eq_false_iff_ne]; omega
        have q2 : (kk == 2) = false := by rw [beq_eq_false_iff_ne]; omega
        have q3 : (kk == 3) = false := by rw [beq_eq_false_iff_ne]; omega
        have q9 : (kk == 9) = false := by rw [beq_eq_false_iff_ne]; omega
        have q11 : (kk == 11) = false := by rw [beq_eq_false_iff_ne]; omega
        have q12 : (kk == 12) = false := by rw [beq_eq_false_iff_ne]; omega
        have q13 : (kk == 13) = false := by rw [beq_eq_false_iff_ne]; omega
        have q14 : (kk == 14) = false := by rw [beq_eq_false_iff_ne]; omega
        have q15 : (kk == 15) = false := by rw [beq_eq_false_iff_ne]; omega
        by_cases l8 : 8 < kk
        ·
          obtain rfl : Z = 0 := srt_no_kind HZ.out hs
          clear HZ HL HNN HBB hs hk0 hk
          go_wp2_with (first
            | (go_at_call 32; ((with_reducible refine (HK.out _).mono ?_); rintro x w4 ⟨rfl, hb⟩; have e0 := cellO hb b0; have e1 := cellO hb b1; have e2 := cellO hb b2; have e3 := cellO hb b3; have HY := Lib.hid (btO HBw.out hb); clear hb))
            | (go_at_call 7; ((with_reducible refine (HN.out _).mono ?_); rintro x w4 ⟨rfl, rfl⟩))
            | (go_at_call 33; ((with_reducible refine (HD.out _).mono ?_); rintro x w4 ⟨rfl, rfl⟩)))
          go_ret
          exact ⟨rfl, HBw.out⟩
        · have l4 : kk < 4 := by omega
          obtain rfl : Z = 0 := srt_no_kind HZ.out hs
          clear HZ HL HNN HBB hs hk0 l8 hk
          go_wp2_with (first
            | (go_at_call 32; ((with_reducible refine (HK.out _).mono ?_); rintro x w4 ⟨rfl, hb⟩; have e0 := cellO hb b0; have e1 := cellO hb b1; have e2 := cellO hb b2; have e3 := cellO hb b3; have HY := Lib.hid (btO HBw.out hb); clear hb))
            | (go_at_call 7; ((with_reducible refine (HN.out _).mono ?_); rintro x w4 ⟨rfl, rfl⟩))
            | (go_at_call 33; ((with_reducible refine (HD.out _).mono ?_); rintro x w4 ⟨rfl, rfl⟩)))
          go_ret
          exact ⟨rfl, HBw.out⟩
end Go.Proofs.YtnomccgdajcfiaaDoor
/- Layer 8: Sort of the reference: operations. -/
namespace Go.Proofs.YtnomccgdajcfiaaDoor
open Go Go.RowKit Go.BigFrame
set_option maxRecDepth 100000 in
set_option maxHeartbeats 25600000 in
theorem rsort_k4 (kk : Int) (HK1 : Hid (4 ≤ kk ∧ kk ≤ 8)) (rr nn : ByteArray) (dd : Int) (A : Option Addr) (c : Nat) (s : List Ex) (w : World) (hin : Ex.In w (.mk kk rr nn dd A c s)) (hz : Ex.siz (.mk kk rr nn dd A c s) ≤ 600) (hby : Ex.byt (.mk kk rr nn dd A c s) ≤ 12000)
    (ih : ∀ t ∈ s, ∀ W, t.In W → Calls Tryd.prog 26 #[t.val] W (IntRO t.srt W)) :
    Calls Tryd.prog 26 #[.agg #[.int .u8 kk, .string rr, .string nn, .int .i64 dd, .slice A s.length c]] w (IntRO (Ex.srt (.mk kk rr nn dd A c s)) w) := by
  obtain ⟨i0, hi, hz0, hz1, hz2⟩ := info_parts infoI8
  have HB1 := belO w (.cells #[.int .u8 kk, .string rr, .string nn, .int .i64 dd, .slice A s.length c] 25)
  have hI1 := hin.below HB1
  have hC : Ex.Box (w.alloc (.cells #[.int .u8 kk, .string rr, .string nn, .int .i64 dd, .slice A s.length c] 25)) w.heap.size (.mk kk rr nn dd A c s) := Ex.Box.new w (.mk kk rr nn dd A c s) 25
  obtain ⟨w1, hw1⟩ : ∃ w1, w.alloc (.cells #[.int .u8 kk, .string rr, .string nn, .int .i64 dd, .slice A s.length c] 25) = w1 := ⟨_, rfl⟩
  rw [hw1] at HB1 hI1 hC
  have HI := Lib.hid hI1
  have HC := Lib.hid hC
  have HB := Lib.hid HB1
  have IH := Lib.hid ih
  have hbd := hin.bd
  have hlen : s.length ≤ 600 := by have := Ex.len_lt (k := kk) (r := rr) (n := nn) (d := dd) (A := A) (c := c) (s := s); omega
  have hrr : rr.size ≤ 1048576 := by rw [Ex.byt_mk] at hby; omega
  have HK := Lib.hid (fun W => refRCheck_any rr hrr W)
  have HN := Lib.hid (fun W => rname8_any nn _ rfl W)
  have HD := Lib.hid (fun W => rday_any dd W)
  have hk0 : 0 ≤ kk := hbd.k0
  have hsrt : Ex.srt (.mk kk rr nn dd A c s) = srtF kk rr nn dd (s.map Ex.srt) := Ex.srt_mk ..
  rw [hsrt]
  obtain ⟨Z, hZ⟩ : ∃ Z, srtF kk rr nn dd (s.map Ex.srt) = Z := ⟨_, rfl⟩
  have HZ := Lib.hid hZ
  rw [hZ]
  have k0 : w1.cell? ⟨w.heap.size, 0, none⟩ = some (.int .u8 kk) := hC.c0
  have k1 : w1.cell? ⟨w.heap.size, 1, none⟩ = some (.string rr) := hC.c1
  have k2 : w1.cell? ⟨w.heap.size, 2, none⟩ = some (.string nn) := hC.c2
  have k3 : w1.cell? ⟨w.heap.size, 3, none⟩ = some (.int .i64 dd) := hC.c3
  have k4 : w1.cell? ⟨w.heap.size, 4, none⟩ = some (.slice A s.length c) := hC.c4
  have hws : w1.heap.size = w.heap.size + 1 := by rw [← hw1, World.size_alloc]
  have HWS := Lib.hid hws
  have hbc : (emB rr = false ∧ (rr.toList == ([] : List UInt8)) = false) ∨ (emB rr = true ∧ rr = ⟨#[]⟩ ∧ emB nn = false ∧ (nn.toList == ([] : List UInt8)) = false) ∨ (emB rr = true ∧ rr = ⟨#[]⟩ ∧ emB nn = true ∧ nn = ⟨#[]⟩ ∧ (dd == 0) = false) ∨ (emB rr = true ∧ rr = ⟨#[]⟩ ∧ emB nn = true ∧ nn = ⟨#[]⟩ ∧ dd = 0) := by
    rcases em_cases rr with ⟨a, b⟩ | ⟨a, b⟩
    · rcases em_cases nn with ⟨a2, b2⟩ | ⟨a2, b2⟩
      · by_cases h : dd = 0
        · exact .inr (.inr (.inr ⟨b, a, b2, a2, h⟩))
        · exact .inr (.inr (.inl ⟨b, a, b2, a2, by rw [beq_eq_false_iff_ne]; exact h⟩))
      · exact .inr (.inl ⟨b, a, b2, a2⟩)
    · exact .inl ⟨b, a⟩
  have HBC := Lib.hid hbc
  obtain ⟨B, hB⟩ : ∃ B, bareB rr nn dd = B := ⟨_, rfl⟩
  have HBB := Lib.hid hB
  clear ih hin hz hby hbd hrr hsrt hZ hI1 hC HB1 hws hbc hB
  go_enter Tryd.func26, Tryd.ntmps26
  go_upto_region 1 with fail
  clear hw1
  go_cut [3] from 7 to 19 (fun s wc => s = .bool B ∧ wc = w1)
  case first =>
    rcases HBC.out with ⟨e1, e2⟩ | ⟨e1, rfl, e2, e3⟩ | ⟨e1, rfl, e2, rfl, e3⟩ | ⟨e1, rfl, e2, rfl, rfl⟩
    · obtain rfl : B = false := by rw [← HBB.out]; unfold bareB; rw [e1]; rfl
      go_wp2_with fail
      go_meet
      exact ⟨rfl, rfl⟩
    · obtain rfl : B = false := by rw [← HBB.out]; unfold bareB; rw [e1, e2]; rfl
      go_wp2_with fail
      go_meet
      exact ⟨rfl, rfl⟩
    · obtain rfl : B = false := by rw [← HBB.out]; unfold bareB; rw [beq_eq_false_iff_ne] at e3; simp [e1, e3]
      go_wp2_with fail
      go_meet
      exact ⟨rfl, rfl⟩
    · obtain rfl : B = true := by rw [← HBB.out]; unfold bareB; simp [e1]
      go_wp2_with fail
      go_meet
      exact ⟨rfl, rfl⟩
  case rest =>
    obtain ⟨rfl, hwc⟩ := hcut
    replace hwc := hwc.symm
    subst hwc
    go_wp2_with fail
    clear HBC
    go_loopw [4, 5] (fun l i wr => ∃ (k : Nat) (v : Value), k ≤ s.length ∧ i = .int .i64 k ∧ l = v ∧ Hid (wr.ownsRow (w.heap.size + 1) 3 1 v k (((s.take k).map Ex.srt).map i64V)) ∧ Hid (Below (w.heap.size + 1) w1 wr)) (fun _ i _ => s.length - (intOf i).toNat)
    case atStart => exact ⟨0, _, by omega, rfl, rfl, World.ownsRow_nil _ _ _ _, Below.refl _ _⟩
    case round =>
      obtain ⟨k, v, hk, rfl, rfl, HO, HW⟩ := hrel
      have HWb := Lib.hid (show Below w1.heap.size w1 wr by rw [HWS.out]; exact HW.out)
      obtain ⟨b0, b1, b2, b3, b4⟩ := HC.out.below HWb.out
      simp only [Ex.k, Ex.r, Ex.n, Ex.d, Ex.A, Ex.c, Ex.sub] at b0 b1 b2 b3 b4
      by_cases hlt : k < s.length
      · have HIW := Lib.hid (HI.out.below HWb.out)
        obtain ⟨bb, o, rfl, -, hpi, d0, d1, d2, d3, d4⟩ := HIW.out.part hlt
        have hm : s[k] ∈ s := List.getElem_mem hlt
        have HQ := Lib.hid (IH.out s[k] hm _ hpi)
        have HX : Hid (∀ (W : World) v', W.ownsRow (w.heap.size + 1) 3 1 v' (k + 1) (((s.take k).map Ex.srt).map i64V ++ [.int .i64 s[k].srt]) → W.ownsRow (w.heap.size + 1) 3 1 v' (k + 1) (((s.take (k + 1)).map Ex.srt).map i64V)) := fun W v' h => by
          rw [take_snoc s k hlt, List.map_append, List.map_append]; exact h
        have hsz1 : w.heap.size + 1 ≤ wr.heap.size := by rw [← HWS.out]; exact HWb.out.size
        generalize s[k] = t at *
        obtain ⟨x, hx⟩ : ∃ x, t.srt = x := ⟨_, rfl⟩
        rw [hx] at HQ HX
        obtain ⟨A', c', hv, -, -⟩ := SlA.of_own HO.out
        subst hv
        clear hpi hm HI IH HIW HWb hx
        go_wp2_with (first
          | (go_at_call 26; ((with_reducible refine HQ.out.mono ?_); rintro x w4 ⟨rfl, b⟩; have O4 := Lib.hid (own_belO HO.out b); have B4 := Lib.hid (HW.out.trans (b.mono hsz1)); have s4 := Nat.le_trans hsz1 b.size; clear b))
          | (at_builtin; refine wpList_app1 O4.out _ rfl _ _ 45 rfl i0 (.int .i64 0) 8 Tryd.underlying45 hi hz0 hz1 hz2 rfl rfl rfl rfl (by unfold maxLen; omega) (by omega) s4 ?_; intro v' w6 hown hb; have O6 := Lib.hid (HX.out _ _ hown); have B6 := Lib.hid (B4.out.trans hb); clear hown hb))
        go_roundw
        case rel => exact ⟨k + 1, _, by omega, by go_num, rfl, O6, B6⟩
        case measure => simp [intOf]; omega
      · obtain rfl : k = s.length := by omega
        obtain ⟨A', c', hv, -, hA⟩ := SlA.of_own HO.out
        subst hv
        rw [List.take_length] at hA
        have HBw := Lib.hid (btO HB.out HWb.out)
        have HL := Lib.hid hA
        obtain ⟨L, hL⟩ : ∃ L, s.map Ex.srt = L := ⟨_, rfl⟩
        rw [hL] at HL HZ
        obtain ⟨N, hN⟩ : ∃ N, s.length = N := ⟨_, rfl⟩
        have hN2 : L.length = N := by rw [← hL, List.length_map]; exact hN
        have HNN := Lib.hid hN2
        rw [hN] at hlen b4 ⊢
        clear hA hL hN hN2 HO HW HWb HI HC IH HB HWS hk hlt k0 k1 k2 k3 k4
        obtain ⟨l4, l8⟩ := HK1.out
        clear HK1
        have q1 : (kk == 1) = false := by rw [beq_eq_false_iff_ne]; omega
        have q2 : (kk == 2) = false := by rw [beq_eq_false_iff_ne]; omega
        have q3 : (kk == 3) = false := by rw [beq_eq_false_iff_ne]; omega
        have q9 : (kk == 9) = false := by rw [beq_eq_false_iff_ne]; omega
        have q11 : (kk == 11) = false := by rw [beq_eq_false_iff_ne]; omega
        have q12 : (kk == 12) = false := by rw [beq_eq_false_iff_ne]; omega
        have q13 : (kk == 13) = false := by rw [beq_eq_false_iff_ne]; omega
        have q14 : (kk == 14) = false := by rw [beq_eq_false_iff_ne]; omega
        have q15 : (kk == 15) = false := by rw [beq_eq_false_iff_ne]; omega
        have hp : prtL kk = [1, 1] := by unfold prtL; rw [if_pos (by omega)]
        have hs : srtB kk = 1 := by unfold srtB; rw [if_pos (by omega)]
        have hfK := (fldB_bare (k := kk) (r := rr) (n := nn) (d := dd) (by omega) (by omega) (by omega)).trans HBB.out
        cases B
        ·
          obtain rfl : Z = 0 := srt_no_fld HZ.out hfK
          clear HZ HL HNN HBB hfK hp hs
          go_wp2_with (first
            | (go_at_call 32; ((with_reducible refine (HK.out _).mono ?_); rintro x w4 ⟨rfl, hb⟩; have e0 := cellO hb b0; have e1 := cellO hb b1; have e2 := cellO hb b2; have e3 := cellO hb b3; have HY := Lib.hid (btO HBw.out hb); clear hb))
            | (go_at_call 7; ((with_reducible refine (HN.out _).mono ?_); rintro x w4 ⟨rfl, rfl⟩))
            | (go_at_call 33; ((with_reducible refine (HD.out _).mono ?_); rintro x w4 ⟨rfl, rfl⟩)))
          go_ret
          exact ⟨rfl, HBw.out⟩
        by_cases hNm : N = 2
        · obtain ⟨x0, x1, rfl⟩ := list2O (HNN.out.trans hNm)
          subst hNm
          obtain ⟨bb, oo, rfl, g0, g1⟩ := row2O HL.out
          by_cases hx0 : x0 = 1
          rotate_left
          · have hy0 : (x0 == 1) = false := by rw [beq_eq_false_iff_ne]; exact hx0
            obtain rfl : Z = 0 := srt_no_el HZ.out hp (by simp [hx0])
            clear HZ HL HNN HBB hfK hp hs hx0
            go_wp2_with (first
              | (go_at_call 32; ((with_reducible refine (HK.out _).mono ?_); rintro x w4 ⟨rfl, hb⟩; have e0 := cellO hb b0; have e1 := cellO hb b1; have e2 := cellO hb b2; have e3 := cellO hb b3; have HY := Lib.hid (btO HBw.out hb); clear hb))
              | (go_at_call 7; ((with_reducible refine (HN.out _).mono ?_); rintro x w4 ⟨rfl, rfl⟩))
              | (go_at_call 33; ((with_reducible refine (HD.out _).mono ?_); rintro x w4 ⟨rfl, rfl⟩)))
            go_ret
            exact ⟨rfl, HBw.out⟩
          subst hx0
          by_cases hx1 : x1 = 1
          rotate_left
          · have hy1 : (x1 == 1) = false := by rw [beq_eq_false_iff_ne]; exact hx1
            obtain rfl : Z = 0 := srt_no_el HZ.out hp (by simp [hx1])
            clear HZ HL HNN HBB hfK hp hs hx1
            go_wp2_with (first
              | (go_at_call 32; ((with_reducible refine (HK.out _).mono ?_); rintro x w4 ⟨rfl, hb⟩; have e0 := cellO hb b0; have e1 := cellO hb b1; have e2 := cellO hb b2; have e3 := cellO hb b3; have HY := Lib.hid (btO HBw.out hb); clear hb))
              | (go_at_call 7; ((with_reducible refine (HN.out _).mono ?_); rintro x w4 ⟨rfl, rfl⟩))
              | (go_at_call 33; ((with_reducible refine (HD.out _).mono ?_); rintro x w4 ⟨rfl, rfl⟩)))
            go_ret
            exact ⟨rfl, HBw.out⟩
          subst hx1
          obtain rfl : Z = 1 := srt_ok HZ.out hp hs (by decide) hfK rfl
          clear HZ HL HNN HBB hfK hp hs
          go_wp2_with (first
            | (go_at_call 32; ((with_reducible refine (HK.out _).mono ?_); rintro x w4 ⟨rfl, hb⟩; have e0 := cellO hb b0; have e1 := cellO hb b1; have e2 := cellO hb b2; have e3 := cellO hb b3; have HY := Lib.hid (btO HBw.out hb); clear hb))
            | (go_at_call 7; ((with_reducible refine (HN.out _).mono ?_); rintro x w4 ⟨rfl, rfl⟩))
            | (go_at_call 33; ((with_reducible refine (HD.out _).mono ?_); rintro x w4 ⟨rfl, rfl⟩)))
          go_ret
          exact ⟨rfl, HBw.out⟩
        · have hn : ((N : Int) == 2) = false := by rw [beq_eq_false_iff_ne]; omega
          obtain rfl : Z = 0 := srt_no_len HZ.out hp (by rw [HNN.out]; exact hNm)
          clear HZ HL HNN HBB hfK hp hs hNm
          go_wp2_with (first
            | (go_at_call 32; ((with_reducible refine (HK.out _).mono ?_); rintro x w4 ⟨rfl, hb⟩; have e0 := cellO hb b0; have e1 := cellO hb b1; have e2 := cellO hb b2; have e3 := cellO hb b3; have HY := Lib.hid (btO HBw.out hb); clear hb))
            | (go_at_call 7; ((with_reducible refine (HN.out _).mono ?_); rintro x w4 ⟨rfl, rfl⟩))
            | (go_at_call 33; ((with_reducible refine (HD.out _).mono ?_); rintro x w4 ⟨rfl, rfl⟩)))
          go_ret
          exact ⟨rfl, HBw.out⟩
set_option maxRecDepth 100000 in
set_option maxHeartbeats 25600000 in
theorem rsort_k9 (kk : Int) (HK1 : Hid (kk = 9)) (rr nn : ByteArray) (dd : Int) (A : Option Addr) (c : Nat) (s : List Ex) (w : World) (hin : Ex.In w (.mk kk rr nn dd A c s)) (hz : Ex.siz (.mk kk rr nn dd A c s) ≤ 600) (hby : Ex.byt (.mk kk rr nn dd A c s) ≤ 12000)
    (ih : ∀ t ∈ s, ∀ W, t.In W → Calls Tryd.prog 26 #[t.val] W (IntRO t.srt W)) :
    Calls Tryd.prog 26 #[.agg #[.int .u8 kk, .string rr, .string nn, .int .i64 dd, .slice A s.length c]] w (IntRO (Ex.srt (.mk kk rr nn dd A c s)) w) := by
  obtain ⟨i0, hi, hz0, hz1, hz2⟩ := info_parts infoI8
  have HB1 := belO w (.cells #[.int .u8 kk, .string rr, .string nn, .int .i64 dd, .slice A s.length c] 25)
  have hI1 := hin.below HB1
  have hC : Ex.Box (w.alloc (.cells #[.int .u8 kk, .string rr, .string nn, .int .i64 dd, .slice A s.length c] 25)) w.heap.size (.mk kk rr nn dd A c s) := Ex.Box.new w (.mk kk rr nn dd A c s) 25
  obtain ⟨w1, hw1⟩ : ∃ w1, w.alloc (.cells #[.int .u8 kk, .string rr, .string nn, .int .i64 dd, .slice A s.length c] 25) = w1 := ⟨_, rfl⟩
  rw [hw1] at HB1 hI1 hC
  have HI := Lib.hid hI1
  have HC := Lib.hid hC
  have HB := Lib.hid HB1
  have IH := Lib.hid ih
  have hbd := hin.bd
  have hlen : s.length ≤ 600 := by have := Ex.len_lt (k := kk) (r := rr) (n := nn) (d := dd) (A := A) (c := c) (s := s); omega
  have hrr : rr.size ≤ 1048576 := by rw [Ex.byt_mk] at hby; omega
  have HK := Lib.hid (fun W => refRCheck_any rr hrr W)
  have HN := Lib.hid (fun W => rname8_any nn _ rfl W)
  have HD := Lib.hid (fun W => rday_any dd W)
  have hk0 : 0 ≤ kk := hbd.k0
  have hsrt : Ex.srt (.mk kk rr nn dd A c s) = srtF kk rr nn dd (s.map Ex.srt) := Ex.srt_mk ..
  rw [hsrt]
  obtain ⟨Z, hZ⟩ : ∃ Z, srtF kk rr nn dd (s.map Ex.srt) = Z := ⟨_, rfl⟩
  have HZ := Lib.hid hZ
  rw [hZ]
  have k0 : w1.cell? ⟨w.heap.size, 0, none⟩ = some (.int .u8 kk) := hC.c0
  have k1 : w1.cell? ⟨w.heap.size, 1, none⟩ = some (.string rr) := hC.c1
  have k2 : w1.cell? ⟨w.heap.size, 2, none⟩ = some (.string nn) := hC.c2
  have k3 : w1.cell? ⟨w.heap.size, 3, none⟩ = some (.int .i64 dd) := hC.c3
  have k4 : w1.cell? ⟨w.heap.size, 4, none⟩ = some (.slice A s.length c) := hC.c4
  have hws : w1.heap.size = w.heap.size + 1 := by rw [← hw1, World.size_alloc]
  have HWS := Lib.hid hws
  have hbc : (emB rr = false ∧ (rr.toList == ([] : List UInt8)) = false) ∨ (emB rr = true ∧ rr = ⟨#[]⟩ ∧ emB nn = false ∧ (nn.toList == ([] : List UInt8)) = false) ∨ (emB rr = true ∧ rr = ⟨#[]⟩ ∧ emB nn = true ∧ nn = ⟨#[]⟩ ∧ (dd == 0) = false) ∨ (emB rr = true ∧ rr = ⟨#[]⟩ ∧ emB nn = true ∧ nn = ⟨#[]⟩ ∧ dd = 0) := by
    rcases em_cases rr with ⟨a, b⟩ | ⟨a, b⟩
    · rcases em_cases nn with ⟨a2, b2⟩ | ⟨a2, b2⟩
      · by_cases h : dd = 0
        · exact .inr (.inr (.inr ⟨b, a, b2, a2, h⟩))
        · exact .inr (.inr (.inl ⟨b, a, b2, a2, by rw [beq_eq_false_iff_ne]; exact h⟩))
      · exact .inr (.inl ⟨b, a, b2, a2⟩)
    · exact .inl ⟨b, a⟩
  have HBC := Lib.hid hbc
  obtain ⟨B, hB⟩ : ∃ B, bareB rr nn dd = B := ⟨_, rfl⟩
  have HBB := Lib.hid hB
  clear ih hin hz hby hbd hrr hsrt hZ hI1 hC HB1 hws hbc hB
  go_enter Tryd.func26, Tryd.ntmps26
  go_upto_region 1 with fail
  clear hw1
  go_cut [3] from 7 to 19 (fun s wc => s = .bool B ∧ wc = w1)
  case first =>
    rcases HBC.out with ⟨e1, e2⟩ | ⟨e1, rfl, e2, e3⟩ | ⟨e1, rfl, e2, rfl, e3⟩ | ⟨e1, rfl, e2, rfl, rfl⟩
    · obtain rfl : B = false := by rw [← HBB.out]; unfold bareB; rw [e1]; rfl
      go_wp2_with fail
      go_meet
      exact ⟨rfl, rfl⟩
    · obtain rfl : B = false := by rw [← HBB.out]; unfold bareB; rw [e1, e2]; rfl
      go_wp2_with fail
      go_meet
      exact ⟨rfl, rfl⟩
    · obtain rfl : B = false := by rw [← HBB.out]; unfold bareB; rw [beq_eq_false_iff_ne] at e3; simp [e1, e3]
      go_wp2_with fail
      go_meet
      exact ⟨rfl, rfl⟩
    · obtain rfl : B = true := by rw [← HBB.out]; unfold bareB; simp [e1]
      go_wp2_with fail
      go_meet
      exact ⟨rfl, rfl⟩
  case rest =>
    obtain ⟨rfl, hwc⟩ := hcut
    replace hwc := hwc.symm
    subst hwc
    go_wp2_with fail
    clear HBC
    go_loopw [4, 5] (fun l i wr => ∃ (k : Nat) (v : Value), k ≤ s.length ∧ i = .int .i64 k ∧ l = v ∧ Hid (wr.ownsRow (w.heap.size + 1) 3 1 v k (((s.take k).map Ex.srt).map i64V)) ∧ Hid (Below (w.heap.size + 1) w1 wr)) (fun _ i _ => s.length - (intOf i).toNat)
    case atStart => exact ⟨0, _, by omega, rfl, rfl, World.ownsRow_nil _ _ _ _, Below.refl _ _⟩
    case round =>
      obtain ⟨k, v, hk, rfl, rfl, HO, HW⟩ := hrel
      have HWb := Lib.hid (show Below w1.heap.size w1 wr by rw [HWS.out]; exact HW.out)
      obtain ⟨b0, b1, b2, b3, b4⟩ := HC.out.below HWb.out
      simp only [Ex.k, Ex.r, Ex.n, Ex.d, Ex.A, Ex.c, Ex.sub] at b0 b1 b2 b3 b4
      by_cases hlt : k < s.length
      · have HIW := Lib.hid (HI.out.below HWb.out)
        obtain ⟨bb, o, rfl, -, hpi, d0, d1, d2, d3, d4⟩ := HIW.out.part hlt
        have hm : s[k] ∈ s := List.getElem_mem hlt
        have HQ := Lib.hid (IH.out s[k] hm _ hpi)
        have HX : Hid (∀ (W : World) v', W.ownsRow (w.heap.size + 1) 3 1 v' (k + 1) (((s.take k).map Ex.srt).map i64V ++ [.int .i64 s[k].srt]) → W.ownsRow (w.heap.size + 1) 3 1 v' (k + 1) (((s.take (k + 1)).map Ex.srt).map i64V)) := fun W v' h => by
          rw [take_snoc s k hlt, List.map_append, List.map_append]; exact h
        have hsz1 : w.heap.size + 1 ≤ wr.heap.size := by rw [← HWS.out]; exact HWb.out.size
        generalize s[k] = t at *
        obtain ⟨x, hx⟩ : ∃ x, t.srt = x := ⟨_, rfl⟩
        rw [hx] at HQ HX
        obtain ⟨A', c', hv, -, -⟩ := SlA.of_own HO.out
        subst hv
        clear hpi hm HI IH HIW HWb hx
        go_wp2_with (first
          | (go_at_call 26; ((with_reducible refine HQ.out.mono ?_); rintro x w4 ⟨rfl, b⟩; have O4 := Lib.hid (own_belO HO.out b); have B4 := Lib.hid (HW.out.trans (b.mono hsz1)); have s4 := Nat.le_trans hsz1 b.size; clear b))
          | (at_builtin; refine wpList_app1 O4.out _ rfl _ _ 45 rfl i0 (.int .i64 0) 8 Tryd.underlying45 hi hz0 hz1 hz2 rfl rfl rfl rfl (by unfold maxLen; omega) (by omega) s4 ?_; intro v' w6 hown hb; have O6 := Lib.hid (HX.out _ _ hown); have B6 := Lib.hid (B4.out.trans hb); clear hown hb))
        go_roundw
        case rel => exact ⟨k + 1, _, by omega, by go_num, rfl, O6, B6⟩
        case measure => simp [intOf]; omega
      · obtain rfl : k = s.length := by omega
        obtain ⟨A', c', hv, -, hA⟩ := SlA.of_own HO.out
        subst hv
        rw [List.take_length] at hA
        have HBw := Lib.hid (btO HB.out HWb.out)
        have HL := Lib.hid hA
        obtain ⟨L, hL⟩ : ∃ L, s.map Ex.srt = L := ⟨_, rfl⟩
        rw [hL] at HL HZ
        obtain ⟨N, hN⟩ : ∃ N, s.length = N := ⟨_, rfl⟩
        have hN2 : L.length = N := by rw [← hL, List.length_map]; exact hN
        have HNN := Lib.hid hN2
        rw [hN] at hlen b4 ⊢
        clear hA hL hN hN2 HO HW HWb HI HC IH HB HWS hk hlt k0 k1 k2 k3 k4
        have h1 := HK1.out
        clear HK1
        subst h1
        have hp : prtL 9 = [2, 1, 1] := by decide
        have hs : srtB 9 = 1 := by decide
        have hfK := (fldB_bare (k := 9) (r := rr) (n := nn) (d := dd) (by decide) (by decide) (by decide)).trans HBB.out
        cases B
        ·
          obtain rfl : Z = 0 := srt_no_fld HZ.out hfK
          clear HZ HL HNN HBB hfK hp hs
          go_wp2_with (first
            | (go_at_call 32; ((with_reducible refine (HK.out _).mono ?_); rintro x w4 ⟨rfl, hb⟩; have e0 := cellO hb b0; have e1 := cellO hb b1; have e2 := cellO hb b2; have e3 := cellO hb b3; have HY := Lib.hid (btO HBw.out hb); clear hb))
            | (go_at_call 7; ((with_reducible refine (HN.out _).mono ?_); rintro x w4 ⟨rfl, rfl⟩))
            | (go_at_call 33; ((with_reducible refine (HD.out _).mono ?_); rintro x w4 ⟨rfl, rfl⟩)))
          go_ret
          exact ⟨rfl, HBw.out⟩
        by_cases hNm : N = 3
        · obtain ⟨x0, x1, x2, rfl⟩ := list3O (HNN.out.trans hNm)
          subst hNm
          obtain ⟨bb, oo, rfl, g0, g1, g2⟩ := row3O HL.out
          by_cases hx0 : x0 = 2
          rotate_left
          · have hy0 : (x0 == 2) = false := by rw [beq_eq_false_iff_ne]; exact hx0
            obtain rfl : Z = 0 := srt_no_el HZ.out hp (by simp [hx0])
            clear HZ HL HNN HBB hfK hp hs hx0
            go_wp2_with (first
              | (go_at_call 32; ((with_reducible refine (HK.out _).mono ?_); rintro x w4 ⟨rfl, hb⟩; have e0 := cellO hb b0; have e1 := cellO hb b1; have e2 := cellO hb b2; have e3 := cellO hb b3; have HY := Lib.hid (btO HBw.out hb); clear hb))
              | (go_at_call 7; ((with_reducible refine (HN.out _).mono ?_); rintro x w4 ⟨rfl, rfl⟩))
              | (go_at_call 33; ((with_reducible refine (HD.out _).mono ?_); rintro x w4 ⟨rfl, rfl⟩)))
            go_ret
            exact ⟨rfl, HBw.out⟩
          subst hx0
          by_cases hx1 : x1 = 1
          rotate_left
          · have hy1 : (x1 == 1) = false := by rw [beq_eq_false_iff_ne]; exact hx1
            obtain rfl : Z = 0 := srt_no_el HZ.out hp (by simp [hx1])
            clear HZ HL HNN HBB hfK hp hs hx1
            go_wp2_with (first
              | (go_at_call 32; ((with_reducible refine (HK.out _).mono ?_); rintro x w4 ⟨rfl, hb⟩; have e0 := cellO hb b0; have e1 := cellO hb b1; have e2 := cellO hb b2; have e3 := cellO hb b3; have HY := Lib.hid (btO HBw.out hb); clear hb))
              | (go_at_call 7; ((with_reducible refine (HN.out _).mono ?_); rintro x w4 ⟨rfl, rfl⟩))
              | (go_at_call 33; ((with_reducible refine (HD.out _).mono ?_); rintro x w4 ⟨rfl, rfl⟩)))
            go_ret
            exact ⟨rfl, HBw.out⟩
          subst hx1
          by_cases hx2 : x2 = 1
          rotate_left
          · have hy2 : (x2 == 1) = false := by rw [beq_eq_false_iff_ne]; exact hx2
            obtain rfl : Z = 0 := srt_no_el HZ.out hp (by simp [hx2])
            clear HZ HL HNN HBB hfK hp hs hx2
            go_wp2_with (first
              | (go_at_call 32; ((with_reducible refine (HK.out _).mono ?_); rintro x w4 ⟨rfl, hb⟩; have e0 := cellO hb b0; have e1 := cellO hb b1; have e2 := cellO hb b2; have e3 := cellO hb b3; have HY := Lib.hid (btO HBw.out hb); clear hb))
              | (go_at_call 7; ((with_reducible refine (HN.out _).mono ?_); rintro x w4 ⟨rfl, rfl⟩))
              | (go_at_call 33; ((with_reducible refine (HD.out _).mono ?_); rintro x w4 ⟨rfl, rfl⟩)))
            go_ret
            exact ⟨rfl, HBw.out⟩
          subst hx2
          obtain rfl : Z = 1 := srt_ok HZ.out hp hs (by decide) hfK rfl
          clear HZ HL HNN HBB hfK hp hs
          go_wp2_with (first
            | (go_at_call 32; ((with_reducible refine (HK.out _).mono ?_); rintro x w4 ⟨rfl, hb⟩; have e0 := cellO hb b0; have e1 := cellO hb b1; have e2 := cellO hb b2; have e3 := cellO hb b3; have HY := Lib.hid (btO HBw.out hb); clear hb))
            | (go_at_call 7; ((with_reducible refine (HN.out _).mono ?_); rintro x w4 ⟨rfl, rfl⟩))
            | (go_at_call 33; ((with_reducible refine (HD.out _).mono ?_); rintro x w4 ⟨rfl, rfl⟩)))
          go_ret
          exact ⟨rfl, HBw.out⟩
        · have hn : ((N : Int) == 3) = false := by rw [beq_eq_false_iff_ne]; omega
          obtain rfl : Z = 0 := srt_no_len HZ.out hp (by rw [HNN.out]; exact hNm)
          clear HZ HL HNN HBB hfK hp hs hNm
          go_wp2_with (first
            | (go_at_call 32; ((with_reducible refine (HK.out _).mono ?_); rintro x w4 ⟨rfl, hb⟩; have e0 := cellO hb b0; have e1 := cellO hb b1; have e2 := cellO hb b2; have e3 := cellO hb b3; have HY := Lib.hid (btO HBw.out hb); clear hb))
            | (go_at_call 7; ((with_reducible refine (HN.out _).mono ?_); rintro x w4 ⟨rfl, rfl⟩))
            | (go_at_call 33; ((with_reducible refine (HD.out _).mono ?_); rintro x w4 ⟨rfl, rfl⟩)))
          go_ret
          exact ⟨rfl, HBw.out⟩
set_option maxRecDepth 100000 in
set_option maxHeartbeats 25600000 in
theorem rsort_k15 (kk : Int) (HK1 : Hid (kk = 15)) (rr nn : ByteArray) (dd : Int) (A : Option Addr) (c : Nat) (s : List Ex) (w : World) (hin : Ex.In w (.mk kk rr nn dd A c s)) (hz : Ex.siz (.mk kk rr nn dd A c s) ≤ 600) (hby : Ex.byt (.mk kk rr nn dd A c s) ≤ 12000)
    (ih : ∀ t ∈ s, ∀ W, t.In W → Calls Tryd.prog 26 #[t.val] W (IntRO t.srt W)) :
    Calls Tryd.prog 26 #[.agg #[.int .u8 kk, .string rr, .string nn, .int .i64 dd, .slice A s.length c]] w (IntRO (Ex.srt (.mk kk rr nn dd A c s)) w) := by
  obtain ⟨i0, hi, hz0, hz1, hz2⟩ := info_parts infoI8
  have HB1 := belO w (.cells #[.int .u8 kk, .string rr, .string nn, .int .i64 dd, .slice A s.length c] 25)
  have hI1 := hin.below HB1
  have hC : Ex.Box (w.alloc (.cells #[.int .u8 kk, .string rr, .string nn, .int .i64 dd, .slice A s.length c] 25)) w.heap.size (.mk kk rr nn dd A c s) := Ex.Box.new w (.mk kk rr nn dd A c s) 25
  obtain ⟨w1, hw1⟩ : ∃ w1, w.alloc (.cells #[.int .u8 kk, .string rr, .string nn, .int .i64 dd, .slice A s.length c] 25) = w1 := ⟨_, rfl⟩
  rw [hw1] at HB1 hI1 hC
  have HI := Lib.hid hI1
  have HC := Lib.hid hC
  have HB := Lib.hid HB1
  have IH := Lib.hid ih
  have hbd := hin.bd
  have hlen : s.length ≤ 600 := by have := Ex.len_lt (k := kk) (r := rr) (n := nn) (d := dd) (A := A) (c := c) (s := s); omega
  have hrr : rr.size ≤ 1048576 := by rw [Ex.byt_mk] at hby; omega
  have HK := Lib.hid (fun W => refRCheck_any rr hrr W)
  have HN := Lib.hid (fun W => rname8_any nn _ rfl W)
  have HD := Lib.hid (fun W => rday_any dd W)
  have hk0 : 0 ≤ kk := hbd.k0
  have hsrt : Ex.srt (.mk kk rr nn dd A c s) = srtF kk rr nn dd (s.map Ex.srt) := Ex.srt_mk ..
  rw [hsrt]
  obtain ⟨Z, hZ⟩ : ∃ Z, srtF kk rr nn dd (s.map Ex.srt) = Z := ⟨_, rfl⟩
  have HZ := Lib.hid hZ
  rw [hZ]
  have k0 : w1.cell? ⟨w.heap.size, 0, none⟩ = some (.int .u8 kk) := hC.c0
  have k1 : w1.cell? ⟨w.heap.size, 1, none⟩ = some (.string rr) := hC.c1
  have k2 : w1.cell? ⟨w.heap.size, 2, none⟩ = some (.string nn) := hC.c2
  have k3 : w1.cell? ⟨w.heap.size, 3, none⟩ = some (.int .i64 dd) := hC.c3
  have k4 : w1.cell? ⟨w.heap.size, 4, none⟩ = some (.slice A s.length c) := hC.c4
  have hws : w1.heap.size = w.heap.size + 1 := by rw [← hw1, World.size_alloc]
  have HWS := Lib.hid hws
  have hbc : (emB rr = false ∧ (rr.toList == ([] : List UInt8)) = false) ∨ (emB rr = true ∧ rr = ⟨#[]⟩ ∧ emB nn = false ∧ (nn.toList == ([] : List UInt8)) = false) ∨ (emB rr = true ∧ rr = ⟨#[]⟩ ∧ emB nn = true ∧ nn = ⟨#[]⟩ ∧ (dd == 0) = false) ∨ (emB rr = true ∧ rr = ⟨#[]⟩ ∧ emB nn = true ∧ nn = ⟨#[]⟩ ∧ dd = 0) := by
    rcases em_cases rr with ⟨a, b⟩ | ⟨a, b⟩
    · rcases em_cases nn with ⟨a2, b2⟩ | ⟨a2, b2⟩
      · by_cases h : dd = 0
        · exact .inr (.inr (.inr ⟨b, a, b2, a2, h⟩))
        · exact .inr (.inr (.inl ⟨b, a, b2, a2, by rw [beq_eq_false_iff_ne]; exact h⟩))
      · exact .inr (.inl ⟨b, a, b2, a2⟩)
    · exact .inl ⟨b, a⟩
  have HBC := Lib.hid hbc
  obtain ⟨B, hB⟩ : ∃ B, bareB rr nn dd = B := ⟨_, rfl⟩
  have HBB := Lib.hid hB
  clear ih hin hz hby hbd hrr hsrt hZ hI1 hC HB1 hws hbc hB
  go_enter Tryd.func26, Tryd.ntmps26
  go_upto_region 1 with fail
  clear hw1
  go_cut [3] from 7 to 19 (fun s wc => s = .bool B ∧ wc = w1)
  case first =>
    rcases HBC.out with ⟨e1, e2⟩ | ⟨e1, rfl, e2, e3⟩ | ⟨e1, rfl, e2, rfl, e3⟩ | ⟨e1, rfl, e2, rfl, rfl⟩
    · obtain rfl : B = false := by rw [← HBB.out]; unfold bareB; rw [e1]; rfl
      go_wp2_with fail
      go_meet
      exact ⟨rfl, rfl⟩
    · obtain rfl : B = false := by rw [← HBB.out]; unfold bareB; rw [e1, e2]; rfl
      go_wp2_with fail
      go_meet
      exact ⟨rfl, rfl⟩
    · obtain rfl : B = false := by rw [← HBB.out]; unfold bareB; rw [beq_eq_false_iff_ne] at e3; simp [e1, e3]
      go_wp2_with fail
      go_meet
      exact ⟨rfl, rfl⟩
    · obtain rfl : B = true := by rw [← HBB.out]; unfold bareB; simp [e1]
      go_wp2_with fail
      go_meet
      exact ⟨rfl, rfl⟩
  case rest =>
    obtain ⟨rfl, hwc⟩ := hcut
    replace hwc := hwc.symm
    subst hwc
    go_wp2_with fail
    clear HBC
    go_loopw [4, 5] (fun l i wr => ∃ (k : Nat) (v : Value), k ≤ s.length ∧ i = .int .i64 k ∧ l = v ∧ Hid (wr.ownsRow (w.heap.size + 1) 3 1 v k (((s.take k).map Ex.srt).map i64V)) ∧ Hid (Below (w.heap.size + 1) w1 wr)) (fun _ i _ => s.length - (intOf i).toNat)
    case atStart => exact ⟨0, _, by omega, rfl, rfl, World.ownsRow_nil _ _ _ _, Below.refl _ _⟩
    case round =>
      obtain ⟨k, v, hk, rfl, rfl, HO, HW⟩ := hrel
      have HWb := Lib.hid (show Below w1.heap.size w1 wr by rw [HWS.out]; exact HW.out)
      obtain ⟨b0, b1, b2, b3, b4⟩ := HC.out.below HWb.out
      simp only [Ex.k, Ex.r, Ex.n, Ex.d, Ex.A, Ex.c, Ex.sub] at b0 b1 b2 b3 b4
      by_cases hlt : k < s.length
      · have HIW := Lib.hid (HI.out.below HWb.out)
        obtain ⟨bb, o, rfl, -, hpi, d0, d1, d2, d3, d4⟩ := HIW.out.part hlt
        have hm : s[k] ∈ s := List.getElem_mem hlt
        have HQ := Lib.hid (IH.out s[k] hm _ hpi)
        have HX : Hid (∀ (W : World) v', W.ownsRow (w.heap.size + 1) 3 1 v' (k + 1) (((s.take k).map Ex.srt).map i64V ++ [.int .i64 s[k].srt]) → W.ownsRow (w.heap.size + 1) 3 1 v' (k + 1) (((s.take (k + 1)).map Ex.srt).map i64V)) := fun W v' h => by
          rw [take_snoc s k hlt, List.map_append, List.map_append]; exact h
        have hsz1 : w.heap.size + 1 ≤ wr.heap.size := by rw [← HWS.out]; exact HWb.out.size
        generalize s[k] = t at *
        obtain ⟨x, hx⟩ : ∃ x, t.srt = x := ⟨_, rfl⟩
        rw [hx] at HQ HX
        obtain ⟨A', c', hv, -, -⟩ := SlA.of_own HO.out
        subst hv
        clear hpi hm HI IH HIW HWb hx
        go_wp2_with (first
          | (go_at_call 26; ((with_reducible refine HQ.out.mono ?_); rintro x w4 ⟨rfl, b⟩; have O4 := Lib.hid (own_belO HO.out b); have B4 := Lib.hid (HW.out.trans (b.mono hsz1)); have s4 := Nat.le_trans hsz1 b.size; clear b))
          | (at_builtin; refine wpList_app1 O4.out _ rfl _ _ 45 rfl i0 (.int .i64 0) 8 Tryd.underlying45 hi hz0 hz1 hz2 rfl rfl rfl rfl (by unfold maxLen; omega) (by omega) s4 ?_; intro v' w6 hown hb; have O6 := Lib.hid (HX.out _ _ hown); have B6 := Lib.hid (B4.out.trans hb); clear hown hb))
        go_roundw
        case rel => exact ⟨k + 1, _, by omega, by go_num, rfl, O6, B6⟩
        case measure => simp [intOf]; omega
      · obtain rfl : k = s.length := by omega
        obtain ⟨A', c', hv, -, hA⟩ := SlA.of_own HO.out
        subst hv
        rw [List.take_length] at hA
        have HBw := Lib.hid (btO HB.out HWb.out)
        have HL := Lib.hid hA
        obtain ⟨L, hL⟩ : ∃ L, s.map Ex.srt = L := ⟨_, rfl⟩
        rw [hL] at HL HZ
        obtain ⟨N, hN⟩ : ∃ N, s.length = N := ⟨_, rfl⟩
        have hN2 : L.length = N := by rw [← hL, List.length_map]; exact hN
        have HNN := Lib.hid hN2
        rw [hN] at hlen b4 ⊢
        clear hA hL hN hN2 HO HW HWb HI HC IH HB HWS hk hlt k0 k1 k2 k3 k4
        have h1 := HK1.out
        clear HK1
        subst h1
        have hp : prtL 15 = [2] := by decide
        have hs : srtB 15 = 2 := by decide
        have hfK := (fldB_bare (k := 15) (r := rr) (n := nn) (d := dd) (by decide) (by decide) (by decide)).trans HBB.out
        cases B
        ·
          obtain rfl : Z = 0 := srt_no_fld HZ.out hfK
          clear HZ HL HNN HBB hfK hp hs
          go_wp2_with (first
            | (go_at_call 32; ((with_reducible refine (HK.out _).mono ?_); rintro x w4 ⟨rfl, hb⟩; have e0 := cellO hb b0; have e1 := cellO hb b1; have e2 := cellO hb b2; have e3 := cellO hb b3; have HY := Lib.hid (btO HBw.out hb); clear hb))
            | (go_at_call 7; ((with_reducible refine (HN.out _).mono ?_); rintro x w4 ⟨rfl, rfl⟩))
            | (go_at_call 33; ((with_reducible refine (HD.out _).mono ?_); rintro x w4 ⟨rfl, rfl⟩)))
          go_ret
          exact ⟨rfl, HBw.out⟩
        by_cases hNm : N = 1
        · obtain ⟨x0, rfl⟩ := list1O (HNN.out.trans hNm)
          subst hNm
          obtain ⟨bb, oo, rfl, g0⟩ := row1O HL.out
          by_cases hx0 : x0 = 2
          rotate_left
          · have hy0 : (x0 == 2) = false := by rw [beq_eq_false_iff_ne]; exact hx0
            obtain rfl : Z = 0 := srt_no_el HZ.out hp (by simp [hx0])
            clear HZ HL HNN HBB hfK hp hs hx0
            go_wp2_with (first
              | (go_at_call 32; ((with_reducible refine (HK.out _).mono ?_); rintro x w4 ⟨rfl, hb⟩; have e0 := cellO hb b0; have e1 := cellO hb b1; have e2 := cellO hb b2; have e3 := cellO hb b3; have HY := Lib.hid (btO HBw.out hb); clear hb))
              | (go_at_call 7; ((with_reducible refine (HN.out _).mono ?_); rintro x w4 ⟨rfl, rfl⟩))
              | (go_at_call 33; ((with_reducible refine (HD.out _).mono ?_); rintro x w4 ⟨rfl, rfl⟩)))
            go_ret
            exact ⟨rfl, HBw.out⟩
          subst hx0
          obtain rfl : Z = 2 := srt_ok HZ.out hp hs (by decide) hfK rfl
          clear HZ HL HNN HBB hfK hp hs
          go_wp2_with (first
            | (go_at_call 32; ((with_reducible refine (HK.out _).mono ?_); rintro x w4 ⟨rfl, hb⟩; have e0 := cellO hb b0; have e1 := cellO hb b1; have e2 := cellO hb b2; have e3 := cellO hb b3; have HY := Lib.hid (btO HBw.out hb); clear hb))
            | (go_at_call 7; ((with_reducible refine (HN.out _).mono ?_); rintro x w4 ⟨rfl, rfl⟩))
            | (go_at_call 33; ((with_reducible refine (HD.out _).mono ?_); rintro x w4 ⟨rfl, rfl⟩)))
          go_ret
          exact ⟨rfl, HBw.out⟩
        · have hn : ((N : Int) == 1) = false := by rw [beq_eq_false_iff_ne]; omega
          obtain rfl : Z = 0 := srt_no_len HZ.out hp (by rw [HNN.out]; exact hNm)
          clear HZ HL HNN HBB hfK hp hs hNm
          go_wp2_with (first
            | (go_at_call 32; ((with_reducible refine (HK.out _).mono ?_); rintro x w4 ⟨rfl, hb⟩; have e0 := cellO hb b0; have e1 := cellO hb b1; have e2 := cellO hb b2; have e3 := cellO hb b3; have HY := Lib.hid (btO HBw.out hb); clear hb))
            | (go_at_call 7; ((with_reducible refine (HN.out _).mono ?_); rintro x w4 ⟨rfl, rfl⟩))
            | (go_at_call 33; ((with_reducible refine (HD.out _).mono ?_); rintro x w4 ⟨rfl, rfl⟩)))
          go_ret
          exact ⟨rfl, HBw.out⟩
end Go.Proofs.YtnomccgdajcfiaaDoor
