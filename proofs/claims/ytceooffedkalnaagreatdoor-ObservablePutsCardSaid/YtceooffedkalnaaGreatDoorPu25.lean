/- Joined: OeD, OeE. -/
import Derived.Test.YtceooffedkalnaaGreatDoorPu24
import Derived.Test.YtceooffedkalnaaGreatDoorPu22
import Derived.Test.YtceooffedkalnaaGreatDoorPu21
/- Layer 8: asked, Value, Holds of the reference; checkEvaluation, Value, Holds of the program: a theorem for each way. -/
namespace Go.Proofs.YtceooffedkalnaaGreatDoor
open Go Go.RowKit Go.BigFrame
set_option maxRecDepth 100000 in
set_option maxHeartbeats 12800000 in
theorem chkev_all (s kc sr ec R : Int) (bd : Bool) (T : Ex) (E : Ev) (day : Int) (w : World) (hin : T.In w) (hE : E.Inv w) (hc : ∀ W, T.In W → E.Inv W → Calls Tryz.prog 13 #[T.val] W (fun e w' => e = .returned (.int .i64 kc) ∧ Below W.heap.size W w')) (hs : ∀ W, T.In W → E.Inv W → Calls Tryz.prog 49 #[T.val] W (fun e w' => e = .returned (.int .u8 sr) ∧ Below W.heap.size W w')) (he : ∀ W, T.In W → E.Inv W → Calls Tryz.prog 22 #[E.val] W (fun e w' => e = .returned (.int .i64 ec) ∧ Below W.heap.size W w')) (hd : ∀ W, T.In W → E.Inv W → Calls Tryz.prog 87 #[.int .i64 day] W (fun e w' => e = .returned (.bool bd) ∧ Below W.heap.size W w')) (key : ((kc != 0) = true ∧ R = kc) ∨ (kc = 0 ∧ (sr != s) = true ∧ R = 32) ∨ (kc = 0 ∧ (sr != s) = false ∧ (ec != 0) = true ∧ R = ec) ∨ (kc = 0 ∧ (sr != s) = false ∧ ec = 0 ∧ bd = false ∧ R = 2) ∨ (kc = 0 ∧ (sr != s) = false ∧ ec = 0 ∧ bd = true ∧ R = 0)) :
    Calls Tryz.prog 50 #[T.val, .int .u8 s, .int .i64 day, E.val] w (IntRO R w) := by
  obtain ⟨fA, fs, fc, cA, cs, cc⟩ := E
  obtain ⟨w1, hw1, hB, hS⟩ := rv_begin w T.k T.r T.n T.d T.A T.sub.length T.c fA fs.length fc cA cs.length cc
  have HB := Lib.hid hB
  have HG := Lib.hid (fun W (hW : Below w1.heap.size w1 W) => hS.below hW)
  have Hc := Lib.hid (fun W (hW : Below w1.heap.size w1 W) => hc W (hin.below (btO hB hW)) (hE.below (btO hB hW)))
  have Hs := Lib.hid (fun W (hW : Below w1.heap.size w1 W) => hs W (hin.below (btO hB hW)) (hE.below (btO hB hW)))
  have He := Lib.hid (fun W (hW : Below w1.heap.size w1 W) => he W (hin.below (btO hB hW)) (hE.below (btO hB hW)))
  have Hd := Lib.hid (fun W (hW : Below w1.heap.size w1 W) => hd W (hin.below (btO hB hW)) (hE.below (btO hB hW)))
  have HW1 := Lib.hid (Below.refl w1.heap.size w1)
  show Calls Tryz.prog 50 #[.agg #[.int .u8 T.k, .string T.r, .string T.n, .int .i64 T.d, .slice T.A T.sub.length T.c], .int .u8 s, .int .i64 day, .agg #[.slice fA fs.length fc, .slice cA cs.length cc]] w _
  clear hin hE hB hS hc hs he hd
  obtain ⟨c0, c1, c2, c3, c4, e0, e1⟩ := HG.out _ HW1.out
  rcases key with ⟨q1, rfl⟩ | ⟨rfl, q2, rfl⟩ | ⟨rfl, q2, q3, rfl⟩ | ⟨rfl, q2, rfl, rfl, rfl⟩ | ⟨rfl, q2, rfl, rfl, rfl⟩
  all_goals go_enter Tryz.func50, Tryz.ntmps50
  all_goals go_wp2_with (first
    | (go_at_call 87; have _t := HW4; ((with_reducible refine (Hd.out _ HW4.out).mono ?_); rintro x w5 ⟨rfl, hb⟩; have HW5 := Lib.hid (btO HW4.out hb); obtain ⟨c0, c1, c2, c3, c4, e0, e1⟩ := HG.out _ HW5.out; clear hb))
    | (go_at_call 22; have _t := HW3; ((with_reducible refine (He.out _ HW3.out).mono ?_); rintro x w4 ⟨rfl, hb⟩; have HW4 := Lib.hid (btO HW3.out hb); obtain ⟨c0, c1, c2, c3, c4, e0, e1⟩ := HG.out _ HW4.out; clear hb))
    | (go_at_call 49; have _t := HW2; ((with_reducible refine (Hs.out _ HW2.out).mono ?_); rintro x w3 ⟨rfl, hb⟩; have HW3 := Lib.hid (btO HW2.out hb); obtain ⟨c0, c1, c2, c3, c4, e0, e1⟩ := HG.out _ HW3.out; clear hb))
    | (go_at_call 13; have _t := HW1; ((with_reducible refine (Hc.out _ HW1.out).mono ?_); rintro x w2 ⟨rfl, hb⟩; have HW2 := Lib.hid (btO HW1.out hb); obtain ⟨c0, c1, c2, c3, c4, e0, e1⟩ := HG.out _ HW2.out; clear hb)))
  all_goals go_ret
  all_goals exact ⟨rfl, btO HB.out (by first | exact HW5.out | exact HW4.out | exact HW3.out | exact HW2.out)⟩
set_option maxRecDepth 100000 in
set_option maxHeartbeats 12800000 in
theorem pvalue_all (V : ByteArray) (ea F : Int) (T : Ex) (E : Ev) (day : Int) (w : World) (hin : T.In w) (hE : E.Inv w) (ha : ∀ W, T.In W → E.Inv W → Calls Tryz.prog 50 #[T.val, .int .u8 1, .int .i64 day, E.val] W (fun e w' => e = .returned (.int .i64 ea) ∧ Below W.heap.size W w')) (key : ((ea != 0) = true ∧ V = ⟨#[]⟩ ∧ F = ea)) :
    Calls Tryz.prog 17 #[T.val, .int .i64 day, E.val] w (StE V F w) := by
  obtain ⟨fA, fs, fc, cA, cs, cc⟩ := E
  obtain ⟨w1, hw1, hB, hS⟩ := rv_begin w T.k T.r T.n T.d T.A T.sub.length T.c fA fs.length fc cA cs.length cc
  have HB := Lib.hid hB
  have HG := Lib.hid (fun W (hW : Below w1.heap.size w1 W) => hS.below hW)
  have Ha := Lib.hid (fun W (hW : Below w1.heap.size w1 W) => ha W (hin.below (btO hB hW)) (hE.below (btO hB hW)))
  have HW1 := Lib.hid (Below.refl w1.heap.size w1)
  show Calls Tryz.prog 17 #[.agg #[.int .u8 T.k, .string T.r, .string T.n, .int .i64 T.d, .slice T.A T.sub.length T.c], .int .i64 day, .agg #[.slice fA fs.length fc, .slice cA cs.length cc]] w _
  clear hin hE hB hS ha
  obtain ⟨c0, c1, c2, c3, c4, e0, e1⟩ := HG.out _ HW1.out
  obtain ⟨q1, rfl, rfl⟩ := key
  all_goals go_enter Tryz.func17, Tryz.ntmps17
  all_goals go_wp2_with (first
    | (go_at_call 50; have _t := HW1; ((with_reducible refine (Ha.out _ HW1.out).mono ?_); rintro x w2 ⟨rfl, hb⟩; have HW2 := Lib.hid (btO HW1.out hb); obtain ⟨c0, c1, c2, c3, c4, e0, e1⟩ := HG.out _ HW2.out; clear hb)))
  all_goals go_ret2
  all_goals exact ⟨rfl, btO HB.out (by first | exact HW2.out)⟩
set_option maxRecDepth 100000 in
set_option maxHeartbeats 12800000 in
theorem pvalue_o (v : ByteArray) (er : Int) (T : Ex) (E : Ev) (day : Int) (w : World) (hin : T.In w) (hE : E.Inv w) (ha : ∀ W, T.In W → E.Inv W → Calls Tryz.prog 50 #[T.val, .int .u8 1, .int .i64 day, E.val] W (fun e w' => e = .returned (.int .i64 0) ∧ Below W.heap.size W w')) (hv : ∀ W, T.In W → E.Inv W → Calls Tryz.prog 51 #[evV day E, T.val] W (fun e w' => e = .returned (.tuple #[.string v, .int .i64 er]) ∧ Below W.heap.size W w')) (key : (True)) :
    Calls Tryz.prog 17 #[T.val, .int .i64 day, E.val] w (StE v er w) := by
  obtain ⟨fA, fs, fc, cA, cs, cc⟩ := E
  obtain ⟨w1, hw1, hB, hS⟩ := rv_begin w T.k T.r T.n T.d T.A T.sub.length T.c fA fs.length fc cA cs.length cc
  have HB := Lib.hid hB
  have HG := Lib.hid (fun W (hW : Below w1.heap.size w1 W) => hS.below hW)
  have Ha := Lib.hid (fun W (hW : Below w1.heap.size w1 W) => ha W (hin.below (btO hB hW)) (hE.below (btO hB hW)))
  have Hv := Lib.hid (fun W (hW : Below w1.heap.size w1 W) => hv W (hin.below (btO hB hW)) (hE.below (btO hB hW)))
  have HW1 := Lib.hid (Below.refl w1.heap.size w1)
  show Calls Tryz.prog 17 #[.agg #[.int .u8 T.k, .string T.r, .string T.n, .int .i64 T.d, .slice T.A T.sub.length T.c], .int .i64 day, .agg #[.slice fA fs.length fc, .slice cA cs.length cc]] w _
  clear hin hE hB hS ha hv
  obtain ⟨c0, c1, c2, c3, c4, e0, e1⟩ := HG.out _ HW1.out
  clear key
  all_goals go_enter Tryz.func17, Tryz.ntmps17
  all_goals go_wp2_with (first
    | (go_at_call 51; have _t := HW2; ((with_reducible refine (Hv.out _ HW2.out).mono ?_); rintro x w3 ⟨rfl, hb⟩; have HW3 := Lib.hid (btO HW2.out hb); obtain ⟨c0, c1, c2, c3, c4, e0, e1⟩ := HG.out _ HW3.out; clear hb))
    | (go_at_call 50; have _t := HW1; ((with_reducible refine (Ha.out _ HW1.out).mono ?_); rintro x w2 ⟨rfl, hb⟩; have HW2 := Lib.hid (btO HW1.out hb); obtain ⟨c0, c1, c2, c3, c4, e0, e1⟩ := HG.out _ HW2.out; clear hb)))
  all_goals go_ret2
  all_goals exact ⟨rfl, btO HB.out (by first | exact HW3.out | exact HW2.out)⟩
end Go.Proofs.YtceooffedkalnaaGreatDoor
/- Layer 8: Value and Holds, both sides. -/
namespace Go.Proofs.YtceooffedkalnaaGreatDoor
open Go Go.RowKit
def askE (t : Ex) (s day : Int) (fs : List Fx) (cs : List Cx) : Int :=
  if t.chk ≠ 0 then t.chk else if srtB t.k ≠ s then 32 else if envE fs cs ≠ 0 then envE fs cs else if dayO day = true then 0 else 2
theorem ne_decS {x s : Int} (h : ¬ x = s) : (x != s) = true := bne_iff_ne.2 h
def valN (t : Ex) (day : Int) (fs : List Fx) (cs : List Cx) : NR := if askE t 1 day fs cs ≠ 0 then (⟨#[]⟩, askE t 1 day fs cs) else (t.ev fs day).1
theorem Ex.srt_k {t : Ex} (h : t.chk = 0) : t.srt = srtB t.k := by
  have h1 := ((Ex.chk_zero t).1 h).2
  rcases srtB_01 t.k with h2 | h2 | h2
  · obtain ⟨k, r, n, d, A, c, s⟩ := t
    exfalso
    apply h1
    rw [Ex.srt_mk]
    exact srtF_no (fun g => g.1 h2)
  · rw [h2]; exact (Ex.srt_iff t 1 (.inl rfl)).2 ⟨h2, h1⟩
  · rw [h2]; exact (Ex.srt_iff t 2 (.inr rfl)).2 ⟨h2, h1⟩
theorem askE_zero {t : Ex} {s day : Int} {fs : List Fx} {cs : List Cx} (h : askE t s day fs cs = 0) : t.chk = 0 ∧ srtB t.k = s ∧ envE fs cs = 0 ∧ dayO day = true := by
  unfold askE at h
  split at h
  · next g => exact absurd h g
  next g1 =>
  split at h
  · cases h
  next g2 =>
  split at h
  · next g => exact absurd h g
  next g3 =>
  split at h
  · next g4 => exact ⟨by simpa using g1, by simpa using g2, by simpa using g3, g4⟩
  · cases h
theorem ask_key {t : Ex} (s : Int) {day : Int} {fs : List Fx} {cs : List Cx} (h1 : t.chk = 0) :
    ((t.chk != 0) = true ∧ askE t s day fs cs = t.chk) ∨ (t.chk = 0 ∧ (srtB t.k != s) = true ∧ askE t s day fs cs = 32) ∨ (t.chk = 0 ∧ (srtB t.k != s) = false ∧ (envE fs cs != 0) = true ∧ askE t s day fs cs = envE fs cs) ∨
      (t.chk = 0 ∧ (srtB t.k != s) = false ∧ envE fs cs = 0 ∧ dayO day = false ∧ askE t s day fs cs = 2) ∨ (t.chk = 0 ∧ (srtB t.k != s) = false ∧ envE fs cs = 0 ∧ dayO day = true ∧ askE t s day fs cs = 0) := by
  unfold askE
  rw [if_neg (by simpa using h1)]
  by_cases h2 : srtB t.k = s
  · have q2 : (srtB t.k != s) = false := by rw [bne_eq_false_iff_eq]; exact h2
    rw [if_neg (by simpa using h2)]
    by_cases h3 : envE fs cs = 0
    · rw [if_neg (by simpa using h3)]
      cases h4 : dayO day
      · exact .inr (.inr (.inr (.inl ⟨h1, q2, h3, rfl, rfl⟩)))
      · exact .inr (.inr (.inr (.inr ⟨h1, q2, h3, rfl, rfl⟩)))
    · rw [if_pos h3]
      exact .inr (.inr (.inl ⟨h1, q2, ne_decO h3, rfl⟩))
  · rw [if_pos h2]
    exact .inr (.inl ⟨h1, ne_decS h2, rfl⟩)
section
variable (T : Ex) (E : Ev) (day : Int) (w : World) (hin : T.In w) (hE : E.Inv w) (hz : T.siz ≤ 600) (hby : T.byt ≤ 3000) (hsf : ∀ f ∈ E.fs, f.2.2.size ≤ 1048576)
include hin hE hz hby hsf
theorem chkev_any (s : Int) : Calls Tryz.prog 50 #[T.val, .int .u8 s, .int .i64 day, E.val] w (IntRO (askE T s day E.fs E.cs) w) := by
  have _ := hz
  have hC : ∀ W, T.In W → E.Inv W → Calls Tryz.prog 13 #[T.val] W (IntRO T.chk W) := fun W h h2 => pcheck_anyO T W h hby h2.v
  have hS : ∀ W, T.In W → E.Inv W → Calls Tryz.prog 49 #[T.val] W (fun e w' => e = .returned (.int .u8 (srtB T.k)) ∧ Below W.heap.size W w') := fun W _ _ => sortOf_any T.k T.r T.n T.d T.A T.sub.length T.c W
  have hV : ∀ W, T.In W → E.Inv W → Calls Tryz.prog 22 #[E.val] W (IntRO (envE E.fs E.cs) W) := fun W _ h => pcheckEnv_any E W h.i h.v hsf
  have hD : ∀ W, T.In W → E.Inv W → Calls Tryz.prog 87 #[.int .i64 day] W (fun e w' => e = .returned (.bool (dayO day)) ∧ Below W.heap.size W w') := fun W _ _ => calls_bel (pday_any day W)
  refine chkev_all s _ _ _ _ _ T E day w hin hE hC hS hV hD ?_
  by_cases h1 : T.chk = 0
  · exact ask_key s h1
  · exact .inl ⟨ne_decO h1, by unfold askE; rw [if_pos h1]⟩
theorem pvalue_any : Calls Tryz.prog 17 #[T.val, .int .i64 day, E.val] w (StE (valN T day E.fs E.cs).1 (valN T day E.fs E.cs).2 w) := by
  have hA : ∀ W, T.In W → E.Inv W → Calls Tryz.prog 50 #[T.val, .int .u8 1, .int .i64 day, E.val] W (IntRO (askE T 1 day E.fs E.cs) W) := fun W h1 h2 => chkev_any T E day W h1 h2 hz hby hsf 1
  unfold valN
  by_cases h : askE T 1 day E.fs E.cs = 0
  · rw [if_neg (by simpa using h)]
    simp only [h] at hA
    obtain ⟨g1, g2, -, -⟩ := askE_zero h
    refine pvalue_o _ _ T E day w hin hE hA (fun W h1 h2 => (peval_any E day hsf T W h1 h2 hby).1 ((Ex.srt_k g1).trans g2)) trivial
  · rw [if_pos h]
    exact pvalue_all _ _ _ T E day w hin hE hA ⟨ne_decO h, rfl, rfl⟩
end
end Go.Proofs.YtceooffedkalnaaGreatDoor
