/- Layer 7: what the laws share: the chapter's examples. -/
import Derived.Test.YtalnfbgaiegicaaGreatDoorMoU
import Derived.Test.YtalnfbgaiegicaaGreatDoorMoJ
namespace Go.Proofs.YtalnfbgaiegicaaGreatDoor
open Go Go.RowKit

theorem hsA_own {w : World} {base b n cap : Nat} {xs : List Int} (h : w.ownsRow base 3 1 (.slice (some ⟨b, 0, none⟩) n cap) n (xs.map encM)) : HsA w (some ⟨b, 0, none⟩) xs := by
  have hl : xs.length = n := by have := h.1; simpa using this
  refine .inr ⟨b, 0, rfl, (own_ltM h).2, fun j hj => ?_⟩
  rw [Nat.zero_add]
  exact own_cellM h j hj
theorem hsA_lit (w : World) (b : Nat) (hb : b = w.heap.size) (vs : Array Value) (t : TypeId) (xs : List Int) (h : vs.toList = xs.map encM) : HsA (w.alloc (.cells vs t)) (some ⟨b, 0, none⟩) xs := by
  subst hb
  refine .inr ⟨w.heap.size, 0, rfl, by simp, fun j hj => ?_⟩
  rw [Nat.zero_add]
  refine box_cellM w vs t j ?_
  rw [← Array.getElem?_toList, h, List.getElem?_map, List.getElem?_eq_getElem hj, List.getD_eq_getElem?_getD, List.getElem?_eq_getElem hj]
  rfl
def BoM (b : Bool) (w : World) (e : Ending) (w' : World) : Prop := e = .returned (.bool b) ∧ Below w.heap.size w w'
def SplB (b : Nat) (n : Nat) : Value := .tuple #[.slice (some ⟨b, 0, none⟩) n n, .int .i64 0]
section
set_option maxRecDepth 100000
set_option maxHeartbeats 1600000
theorem splits_walk (t : Int) (A B : Option Addr) (n c k c2 : Nat) (ws want : List Int) (w : World) (hk : want.length = k) (hk2 : k ≤ 1000000) (_hn : ws.length = n) (hB : HsA w B want)
    (H1 : Calls Tryz.prog 13 #[.int .i64 t, .slice A n c] w fun e w' => ∃ b, e = .returned (SplB b k) ∧ HsA w' (some ⟨b, 0, none⟩) want ∧ Below w.heap.size w w') :
    Calls Tryz.prog 40 #[.int .i64 t, .slice A n c, .slice B k c2] w (BoM true w) := by
  have J1 := Lib.hid H1
  have HB := Lib.hid hB
  have H2 : Hid (∀ (b : Nat) (W : World), Below w.heap.size w W → HsA W (some ⟨b, 0, none⟩) want → Calls Tryz.prog 72 #[.slice (some ⟨b, 0, none⟩) k k, .slice B k c2] W (BoM true W)) := fun b W hb hA => by
    have := sameInts_anyM (some ⟨b, 0, none⟩) B k c2 want want true (decide_eq_true rfl) (by omega) W hA (hB.below hb)
    rw [hk] at this
    exact this
  clear H1 hB hk _hn
  go_enter Tryz.func40, Tryz.ntmps40
  go_wp2_with fail
  refine J1.out.mono ?_
  rintro e w1 ⟨b, rfl, ha, hb⟩
  have J2 := Lib.hid (H2.out b w1 hb ha)
  have B1 := Lib.hid hb
  clear ha hb H2 J1 HB
  unfold SplB
  go_wp2_with (go_at_call 72; ((with_reducible refine J2.out.mono ?_); rintro e w2 ⟨rfl, b2⟩; have B2 := Lib.hid (btM B1.out b2); clear b2))
  go_ret
  exact ⟨rfl, B2.out⟩
theorem shows_walk (n : Int) (c s : ByteArray) (w : World) (hv : VarM w)
    (H1 : ∀ W, VarM W → Calls Tryz.prog 21 #[.int .i64 n, .string c] W (StE s 0 W))
    (H2 : ∀ W, VarM W → Calls Tryz.prog 23 #[.string s] W (RdR n c 0 W)) :
    Calls Tryz.prog 16 #[.int .i64 n, .string c, .string s] w (BoM true w) := by
  have HV := Lib.hid hv
  have J1 := Lib.hid H1
  have J2 := Lib.hid H2
  have q1 : (s.toList == s.toList) = true := by simp
  have q2 : (c.toList == c.toList) = true := by simp
  have q3 : (n == n) = true := by simp
  clear hv H1 H2
  go_enter Tryz.func16, Tryz.ntmps16
  go_wp2_with (first
    | (go_at_call 21; ((with_reducible refine (J1.out _ HV.out).mono ?_); rintro e w1 ⟨rfl, b⟩; have B1 := Lib.hid b; clear b))
    | (go_at_call 23; ((with_reducible refine (J2.out _ (HV.out.below B1.out)).mono ?_); rintro e w2 ⟨rfl, b⟩; have B2 := Lib.hid (btM B1.out b); clear b)))
  go_ret
  exact ⟨rfl, B2.out⟩
end
/-- Split's answer, where it is one list. -/
theorem psplit_is (t : Int) (A : Option Addr) (c : Nat) (ws want : List Int) (hE : spE t ws = 0) (hC : ∀ C, Chs (sizI t) (wgS ws) (wgt ws) ws.length C → spL t ws C = want) (w : World) (hA : HsA w A ws) :
    Calls Tryz.prog 13 #[.int .i64 t, .slice A ws.length c] w fun e w' => ∃ b, e = .returned (SplB b ws.length) ∧ HsA w' (some ⟨b, 0, none⟩) want ∧ Below w.heap.size w w' := by
  refine (psplit_any t A c ws w hA).mono ?_
  rintro e w' (⟨h1, -⟩ | ⟨-, b, C, rfl, ho, hb, hc⟩)
  · rw [hE] at h1; cases h1
  · rw [hC C hc] at ho
    exact ⟨b, rfl, hsA_own ho, hb⟩
theorem shows_is (n : Int) (c s : ByteArray) (hc : nameB c.data.toList = true) (hn : amB n = true) (hs : s.data.toList = shL n c.data.toList) (hsz : s.size ≤ 1048575) (w : World) (hv : VarM w) :
    Calls Tryz.prog 16 #[.int .i64 n, .string c, .string s] w (BoM true w) := by
  obtain ⟨r1, r2, r3⟩ := read_show hc hn
  refine shows_walk n c s w hv (fun W hW => ?_) (fun W hW => ?_)
  · have := pshow_any n c W hW
    unfold shV shE at this
    rw [hc, hn, Bool.and_true, if_pos rfl, if_pos rfl, ← hs, ← ba_eq rfl] at this
    exact this
  · have := pread_any s hsz W hW
    rw [hs, r1, r2, r3, ← ba_eq rfl] at this
    exact this
/-- The examples of Split. -/
theorem ex_chs (t W : Int) (ws : List Int) (C : Nat → Bool) (want : List Int) (hn : ws.length = 3) (h1 : (cnF C 3 : Int) = leP (sizI t) W (wgt ws) 3) (h2 : ∀ i, i < 3 → ∀ j, j < 3 → C i = true → C j = false → btP (sizI t) W (wgt ws) i j) (hW : wgS ws = W) (hL : spL t ws C = want) :
    ∀ D, Chs (sizI t) (wgS ws) (wgt ws) ws.length D → spL t ws D = want := fun D hD => by
  rw [← hL]
  refine spL_uniq hD ?_
  rw [hW, hn]
  exact ⟨h1, fun i j hi hj => h2 i hi j hj⟩
instance (size W : Int) (w : Nat → Int) (i j : Nat) : Decidable (btP size W w i j) := by unfold btP; exact inferInstance
theorem ex1 : ∀ D, Chs (sizI 100) (wgS [1, 1, 1]) (wgt [1, 1, 1]) [1, 1, 1].length D → spL 100 [1, 1, 1] D = [34, 33, 33] :=
  ex_chs 100 3 [1, 1, 1] (fun i => i == 0) _ rfl (by decide +kernel) (by decide +kernel) (by decide +kernel) (by decide +kernel)
theorem ex2 : ∀ D, Chs (sizI (-100)) (wgS [1, 1, 1]) (wgt [1, 1, 1]) [1, 1, 1].length D → spL (-100) [1, 1, 1] D = [-34, -33, -33] :=
  ex_chs (-100) 3 [1, 1, 1] (fun i => i == 0) _ rfl (by decide +kernel) (by decide +kernel) (by decide +kernel) (by decide +kernel)
theorem ex3 : ∀ D, Chs (sizI 10) (wgS [3, 0, 4]) (wgt [3, 0, 4]) [3, 0, 4].length D → spL 10 [3, 0, 4] D = [4, 0, 6] :=
  ex_chs 10 7 [3, 0, 4] (fun i => i == 2) _ rfl (by decide +kernel) (by decide +kernel) (by decide +kernel) (by decide +kernel)
section
set_option maxRecDepth 100000
set_option maxHeartbeats 3200000
theorem alive7_any (w : World) (hv : VarM w) : Calls Tryz.prog 17 #[] w (BoM true w) := by
  have HV := Lib.hid hv
  have JA : Hid (∀ W, VarM W → Calls Tryz.prog 11 #[.string ⟨#[49, 47, 51]⟩, .string ⟨#[69, 85, 82]⟩, .int .u8 2] W (UnR 33 0 W)) := fun W hW => by
    have := ptounits_any ⟨#[49, 47, 51]⟩ ⟨#[69, 85, 82]⟩ (by decide) 2 (by decide) (by decide) W hW
    rw [show tuV (⟨#[49, 47, 51]⟩ : ByteArray).data.toList (⟨#[69, 85, 82]⟩ : ByteArray).data.toList 2 = 33 by decide +kernel, show tuE (⟨#[49, 47, 51]⟩ : ByteArray).data.toList (⟨#[69, 85, 82]⟩ : ByteArray).data.toList 2 = 0 by decide +kernel] at this
    exact this
  have JB : Hid (∀ W, VarM W → Calls Tryz.prog 11 #[.string ⟨#[49, 47, 51]⟩, .string ⟨#[69, 85, 82]⟩, .int .u8 1] W (UnR 34 0 W)) := fun W hW => by
    have := ptounits_any ⟨#[49, 47, 51]⟩ ⟨#[69, 85, 82]⟩ (by decide) 1 (by decide) (by decide) W hW
    rw [show tuV (⟨#[49, 47, 51]⟩ : ByteArray).data.toList (⟨#[69, 85, 82]⟩ : ByteArray).data.toList 1 = 34 by decide +kernel, show tuE (⟨#[49, 47, 51]⟩ : ByteArray).data.toList (⟨#[69, 85, 82]⟩ : ByteArray).data.toList 1 = 0 by decide +kernel] at this
    exact this
  have JS : ∀ (t : Int) (ws want : List Int) (vs us : Array Value), ws.length = 3 → want.length = 3 → vs.toList = ws.map encM → us.toList = want.map encM → spE t ws = 0 → (∀ D, Chs (sizI t) (wgS ws) (wgt ws) ws.length D → spL t ws D = want) → ∀ (W : World) (ty : TypeId),
      Calls Tryz.prog 40 #[.int .i64 t, .slice (some ⟨W.heap.size, 0, none⟩) 3 3, .slice (some ⟨W.heap.size + 1, 0, none⟩) 3 3] ((W.alloc (.cells vs ty)).alloc (.cells us ty)) fun e w' => e = .returned (.bool true) ∧ Below W.heap.size W w' := fun t ws want vs us h1 h2 h3 h4 h5 h6 W ty => by
    have b1 := belM W (.cells vs ty)
    have b2 := belM (W.alloc (.cells vs ty)) (.cells us ty)
    have hA : HsA ((W.alloc (.cells vs ty)).alloc (.cells us ty)) (some ⟨W.heap.size, 0, none⟩) ws := (hsA_lit W _ rfl vs ty ws h3).below b2
    have hB : HsA ((W.alloc (.cells vs ty)).alloc (.cells us ty)) (some ⟨W.heap.size + 1, 0, none⟩) want := hsA_lit (W.alloc (.cells vs ty)) _ (by simp) us ty want h4
    have hs := psplit_is t _ 3 ws want h5 h6 _ hA
    rw [h1] at hs
    refine (splits_walk t _ _ 3 3 3 3 ws want _ h2 (by omega) h1 hB hs).mono ?_
    rintro e w' ⟨rfl, hb⟩
    exact ⟨rfl, btM b1 (btM b2 hb)⟩
  have J1 := Lib.hid (JS 100 [1, 1, 1] [34, 33, 33] #[.int .i64 1, .int .i64 1, .int .i64 1] #[.int .i64 34, .int .i64 33, .int .i64 33] rfl rfl rfl rfl (by decide +kernel) ex1)
  have J2 := Lib.hid (JS (-100) [1, 1, 1] [-34, -33, -33] #[.int .i64 1, .int .i64 1, .int .i64 1] #[.int .i64 (-34), .int .i64 (-33), .int .i64 (-33)] rfl rfl rfl rfl (by decide +kernel) ex2)
  have J3 := Lib.hid (JS 10 [3, 0, 4] [4, 0, 6] #[.int .i64 3, .int .i64 0, .int .i64 4] #[.int .i64 4, .int .i64 0, .int .i64 6] rfl rfl rfl rfl (by decide +kernel) ex3)
  have K1 : Hid (∀ W, VarM W → Calls Tryz.prog 16 #[.int .i64 (-1205), .string ⟨#[69, 85, 82]⟩, .string ⟨#[45, 49, 50, 46, 48, 53, 32, 69, 85, 82]⟩] W (BoM true W)) := fun W hW => shows_is _ _ _ (by decide +kernel) (by decide +kernel) (by decide +kernel) (by decide) W hW
  have K2 : Hid (∀ W, VarM W → Calls Tryz.prog 16 #[.int .i64 7, .string ⟨#[74, 80, 89]⟩, .string ⟨#[55, 32, 74, 80, 89]⟩] W (BoM true W)) := fun W hW => shows_is _ _ _ (by decide +kernel) (by decide +kernel) (by decide +kernel) (by decide) W hW
  have K3 : Hid (∀ W, VarM W → Calls Tryz.prog 16 #[.int .i64 7, .string ⟨#[75, 87, 68]⟩, .string ⟨#[48, 46, 48, 48, 55, 32, 75, 87, 68]⟩] W (BoM true W)) := fun W hW => shows_is _ _ _ (by decide +kernel) (by decide +kernel) (by decide +kernel) (by decide) W hW
  clear hv JS
  go_enter Tryz.func17, Tryz.ntmps17
  go_wp2_with (first
    | (go_at_call 11; ((with_reducible refine (JA.out _ HV.out).mono ?_); rintro e w1 ⟨rfl, b⟩; have B1 := Lib.hid b; clear b))
    | (go_at_call 11; ((with_reducible refine (JB.out _ (HV.out.below B1.out)).mono ?_); rintro e w2 ⟨rfl, b⟩; have B2 := Lib.hid (btM B1.out b); clear b))
    | (go_at_call 40; ((with_reducible refine (J1.out _ _).mono ?_); rintro e w3 ⟨rfl, b⟩; have B3 := Lib.hid (btM B2.out b); clear b))
    | (go_at_call 40; ((with_reducible refine (J2.out _ _).mono ?_); rintro e w4 ⟨rfl, b⟩; have B4 := Lib.hid (btM B3.out b); clear b))
    | (go_at_call 40; ((with_reducible refine (J3.out _ _).mono ?_); rintro e w5 ⟨rfl, b⟩; have B5 := Lib.hid (btM B4.out b); clear b))
    | (go_at_call 16; ((with_reducible refine (K1.out _ (HV.out.below B5.out)).mono ?_); rintro e w6 ⟨rfl, b⟩; have B6 := Lib.hid (btM B5.out b); clear b))
    | (go_at_call 16; ((with_reducible refine (K2.out _ (HV.out.below B6.out)).mono ?_); rintro e w7 ⟨rfl, b⟩; have B7 := Lib.hid (btM B6.out b); clear b))
    | (go_at_call 16; ((with_reducible refine (K3.out _ (HV.out.below B7.out)).mono ?_); rintro e w8 ⟨rfl, b⟩; have B8 := Lib.hid (btM B7.out b); clear b)))
  go_ret
  exact ⟨rfl, B8.out⟩
end
end Go.Proofs.YtalnfbgaiegicaaGreatDoor
