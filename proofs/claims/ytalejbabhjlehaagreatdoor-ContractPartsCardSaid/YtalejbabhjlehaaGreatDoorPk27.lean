/- Joined: OeJ, OeK, OsR, OsA, OsC, OsD, CnW. -/
import Derived.Test.YtalejbabhjlehaaGreatDoorPk22
import Derived.Test.YtalejbabhjlehaaGreatDoorPk26
import Derived.Test.YtalejbabhjlehaaGreatDoorPk25
import Derived.Test.YtalejbabhjlehaaGreatDoorPk20
import Derived.Test.YtalejbabhjlehaaGreatDoorPk2
import Derived.Test.YtalejbabhjlehaaGreatDoorPk1
import Derived.Test.YtalejbabhjlehaaGreatDoorPk7
import Derived.Deep.RegionHeld3
import Derived.Deep.RegionLaw
/- Layer 8: a list of trees laid in an expression's box, one part at a time. -/
namespace Go.Proofs.YtalejbabhjlehaaGreatDoor
open Go Go.RowKit Go.BigFrame
section
variable {wq : World} {v0 v1 v2 v3 : Value} {wr wr' wy w' : World} {sv sv' : Value} {m : Nat} {Ts : List Ex}
end
end Go.Proofs.YtalejbabhjlehaaGreatDoor
/- Layer 8: the law's own function fixed. -/
namespace Go.Proofs.YtalejbabhjlehaaGreatDoor
open Go Go.RowKit Go.BigFrame
section
variable {wq : World} {v0 v1 v2 v3 : Value} {wr : World} {sv : Value} {m : Nat} {Ts : List Ex}
end
end Go.Proofs.YtalejbabhjlehaaGreatDoor
/- Layer 8: rows that a law writes into. -/
namespace Go.Proofs.YtalejbabhjlehaaGreatDoor
open Go Go.RowKit Go.BigFrame
section
variable {B N : Nat} {A : Option Addr} {n : Nat} {w w' : World}
end
end Go.Proofs.YtalejbabhjlehaaGreatDoor
/- Layer 8: the reference's Twin. -/
namespace Go.Proofs.YtalejbabhjlehaaGreatDoor
open Go Go.RowKit Go.BigFrame
section
variable {wq : World} {v0 v1 v2 v3 : Value} {wr : World} {sv : Value} {m : Nat} {Ts : List Ex}
end
end Go.Proofs.YtalejbabhjlehaaGreatDoor
/- Layer 8: the reference's Same. -/
namespace Go.Proofs.YtalejbabhjlehaaGreatDoor
open Go Go.RowKit Go.BigFrame
theorem er_iff {k k' : Int} {r r' n n' : ByteArray} {d d' : Int} {A A' : Option Addr} {c c' : Nat} {s s' : List Ex} : Ex.er (.mk k r n d A c s) = Ex.er (.mk k' r' n' d' A' c' s') ↔ k = k' ∧ r = r' ∧ n = n' ∧ d = d' ∧ s.map Ex.er = s'.map Ex.er := by
  rw [Ex.er_mk, Ex.er_mk]
  constructor
  · intro h
    injection h with h1 h2 h3 h4 h5 h6 h7
    exact ⟨h1, h2, h3, h4, h7⟩
  · rintro ⟨rfl, rfl, rfl, rfl, h⟩
    rw [h]
noncomputable def sameB (t u : Ex) : Bool := @decide (t.er = u.er) (Classical.propDecidable _)
theorem sameB_t {t u : Ex} (h : t.er = u.er) : sameB t u = true := by unfold sameB; rw [@decide_eq_true_iff _ (Classical.propDecidable _)]; exact h
theorem sameB_f {t u : Ex} (h : ¬ t.er = u.er) : sameB t u = false := by unfold sameB; rw [@decide_eq_false_iff_not _ (Classical.propDecidable _)]; exact h
theorem sameB_of {t u : Ex} (h : sameB t u = true) : t.er = u.er := by unfold sameB at h; rw [@decide_eq_true_iff _ (Classical.propDecidable _)] at h; exact h
theorem sameB_no {t u : Ex} (h : sameB t u = false) : ¬ t.er = u.er := by unfold sameB at h; rw [@decide_eq_false_iff_not _ (Classical.propDecidable _)] at h; exact h
structure SmG (Q : Nat) (kk : Int) (rr nn : ByteArray) (dd : Int) (A : Option Addr) (l c : Nat) (kk' : Int) (rr' nn' : ByteArray) (dd' : Int) (A' : Option Addr) (l' c' : Nat) (W : World) : Prop where
  a0 : W.cell? ⟨Q, 0, none⟩ = some (.int .u8 kk)
  a1 : W.cell? ⟨Q, 1, none⟩ = some (.string rr)
  a2 : W.cell? ⟨Q, 2, none⟩ = some (.string nn)
  a3 : W.cell? ⟨Q, 3, none⟩ = some (.int .i64 dd)
  a4 : W.cell? ⟨Q, 4, none⟩ = some (.slice A l c)
  b0 : W.cell? ⟨Q + 1, 0, none⟩ = some (.int .u8 kk')
  b1 : W.cell? ⟨Q + 1, 1, none⟩ = some (.string rr')
  b2 : W.cell? ⟨Q + 1, 2, none⟩ = some (.string nn')
  b3 : W.cell? ⟨Q + 1, 3, none⟩ = some (.int .i64 dd')
  b4 : W.cell? ⟨Q + 1, 4, none⟩ = some (.slice A' l' c')
section
variable {Q : Nat} {kk : Int} {rr nn : ByteArray} {dd : Int} {A : Option Addr} {l c : Nat} {kk' : Int} {rr' nn' : ByteArray} {dd' : Int} {A' : Option Addr} {l' c' : Nat} {W W' : World}
end
theorem sm_begin (w : World) (kk : Int) (rr nn : ByteArray) (dd : Int) (A : Option Addr) (l c : Nat) (kk' : Int) (rr' nn' : ByteArray) (dd' : Int) (A' : Option Addr) (l' c' : Nat) (t : TypeId) :
    ∃ w1, (w.alloc (.cells #[.int .u8 kk, .string rr, .string nn, .int .i64 dd, .slice A l c] t)).alloc (.cells #[.int .u8 kk', .string rr', .string nn', .int .i64 dd', .slice A' l' c'] t) = w1 ∧ Below w.heap.size w w1 ∧ SmG w.heap.size kk rr nn dd A l c kk' rr' nn' dd' A' l' c' w1 := by
  have r1 := heap_alloc_new w (.cells #[.int .u8 kk, .string rr, .string nn, .int .i64 dd, .slice A l c] t)
  have b1 := belO (w.alloc (.cells #[.int .u8 kk, .string rr, .string nn, .int .i64 dd, .slice A l c] t)) (.cells #[.int .u8 kk', .string rr', .string nn', .int .i64 dd', .slice A' l' c'] t)
  have r2 := heap_alloc_new (w.alloc (.cells #[.int .u8 kk, .string rr, .string nn, .int .i64 dd, .slice A l c] t)) (.cells #[.int .u8 kk', .string rr', .string nn', .int .i64 dd', .slice A' l' c'] t)
  rw [World.size_alloc] at r2
  exact ⟨_, rfl, btO (belO w _) b1, ⟨cellO b1 (row_cell (j := 0) r1 rfl), cellO b1 (row_cell (j := 1) r1 rfl), cellO b1 (row_cell (j := 2) r1 rfl), cellO b1 (row_cell (j := 3) r1 rfl), cellO b1 (row_cell (j := 4) r1 rfl), row_cell (j := 0) r2 rfl, row_cell (j := 1) r2 rfl, row_cell (j := 2) r2 rfl, row_cell (j := 3) r2 rfl, row_cell (j := 4) r2 rfl⟩⟩
theorem int_cases (a b : Int) : a = b ∨ (a == b) = false := by
  by_cases h : a = b
  · exact .inl h
  · exact .inr (beq_eq_false_iff_ne.2 h)
theorem bne_of {a b : Int} (h : (a == b) = false) : (a != b) = true := bne_iff_ne.2 (beq_eq_false_iff_ne.1 h)
theorem str_neS {a b : ByteArray} (h : (a.toList == b.toList) = false) : a ≠ b := fun e => by subst e; simp at h
end Go.Proofs.YtalejbabhjlehaaGreatDoor
/- Layer 8: the program's Same, and slices.EqualFunc with it. -/
namespace Go.Proofs.YtalejbabhjlehaaGreatDoor
open Go Go.RowKit Go.BigFrame
set_option maxRecDepth 100000 in
set_option maxHeartbeats 6400000 in
theorem eqf_any (kk : Int) (rr nn : ByteArray) (dd : Int) (A : Option Addr) (c : Nat) (s : List Ex) (kk' : Int) (rr' nn' : ByteArray) (dd' : Int) (A' : Option Addr) (c' : Nat) (s' : List Ex) (w : World) (hin : Ex.In w (.mk kk rr nn dd A c s)) (hin2 : Ex.In w (.mk kk' rr' nn' dd' A' c' s'))
    (ih : ∀ t ∈ s, ∀ (U : Ex) (W : World), t.In W → U.In W → Calls Tryz.prog 56 #[t.val, U.val] W (BoolRO (sameB t U) W)) (Y : Bool) (no : ¬ (s.map Ex.er = s'.map Ex.er) → false = Y) (yes : s.map Ex.er = s'.map Ex.er → true = Y) :
    Calls Tryz.prog 90 #[.slice A s.length c, .slice A' s'.length c', .func (.func 56) #[] #[]] w (BoolRO Y w) := by
  have HI := Lib.hid hin
  have HJ := Lib.hid hin2
  have IH := Lib.hid ih
  have hl63 : s.length ≤ 9223372036854775807 := by have := hin.bd.c1; have h2 : s.length ≤ 140737488351232 := this; omega
  have hl64 : s'.length ≤ 9223372036854775807 := by have := hin2.bd.c1; have h2 : s'.length ≤ 140737488351232 := this; omega
  clear hin hin2 ih
  by_cases q : (s.length : Int) = s'.length
  · have q2 : ((s.length : Int) != (s'.length : Int)) = false := by rw [q]; simp
    have HQl := Lib.hid (show s.length = s'.length by omega)
    have Yes := Lib.hid yes
    have No := Lib.hid no
    clear yes no q
    go_enter Tryz.func90, Tryz.ntmps90
    go_wp2_with (fail)
    clear q2
    go_loopw [17] (fun i wr => ∃ (k : Nat), k ≤ s.length ∧ i = .int .i64 k ∧ Hid ((s.take k).map Ex.er = (s'.take k).map Ex.er) ∧ Hid (Below w.heap.size w wr)) (fun i _ => s.length - (intOf i).toNat)
    case atStart => exact ⟨0, by omega, rfl, by show _ = _; simp, Below.refl _ _⟩
    case round =>
      obtain ⟨k, hk, rfl, HE, HW⟩ := hrel
      by_cases hlt : k < s.length
      · have hlt2 : k < s'.length := by have := HQl.out; omega
        obtain ⟨b, o, rfl, -, hpi, d0, d1, d2, d3, d4⟩ := (HI.out.below HW.out).part hlt
        obtain ⟨g, p, rfl, -, hpj, e0, e1, e2, e3, e4⟩ := (HJ.out.below HW.out).part hlt2
        have hm : s[k] ∈ s := List.getElem_mem hlt
        have HQ := Lib.hid (fun W (hW : Below wr.heap.size wr W) => IH.out s[k] hm s'[k] W (hpi.below hW) (hpj.below hW))
        have HN := Lib.hid (show s.map Ex.er = s'.map Ex.er → s[k].er = s'[k].er from fun e => by
          have h1 : (s.map Ex.er)[k]? = (s'.map Ex.er)[k]? := by rw [e]
          rw [List.getElem?_map, List.getElem?_map, List.getElem?_eq_getElem hlt, List.getElem?_eq_getElem hlt2] at h1
          simpa using h1)
        have HE2 := Lib.hid (show s[k].er = s'[k].er → (s.take (k + 1)).map Ex.er = (s'.take (k + 1)).map Ex.er from fun e => by
          rw [List.take_succ_eq_append_getElem hlt, List.take_succ_eq_append_getElem hlt2, List.map_append, List.map_append, HE.out]
          simp [e])
        generalize s[k] = t at *
        generalize s'[k] = u at *
        have hk0 : (0 : Int) ≤ (k : Int) := by omega
        have hk1 : (k : Int) < (s.length : Int) := by omega
        have hk2 : (k : Int) < (s'.length : Int) := by omega
        have hB1 := belO wr (.cells #[.int .u8 t.k, .string t.r, .string t.n, .int .i64 t.d, .slice t.A t.sub.length t.c] 29)
        have x0 := cellO hB1 e0
        have x1 := cellO hB1 e1
        have x2 := cellO hB1 e2
        have x3 := cellO hB1 e3
        have x4 := cellO hB1 e4
        have hB2 := belO (wr.alloc (.cells #[.int .u8 t.k, .string t.r, .string t.n, .int .i64 t.d, .slice t.A t.sub.length t.c] 29)) (.cells #[.int .u8 u.k, .string u.r, .string u.n, .int .i64 u.d, .slice u.A u.sub.length u.c] 29)
        have hr := heap_alloc_new wr (.cells #[.int .u8 t.k, .string t.r, .string t.n, .int .i64 t.d, .slice t.A t.sub.length t.c] 29)
        have t0 := cellO hB2 (row_cell (j := 0) hr rfl)
        have t1 := cellO hB2 (row_cell (j := 1) hr rfl)
        have t2 := cellO hB2 (row_cell (j := 2) hr rfl)
        have t3 := cellO hB2 (row_cell (j := 3) hr rfl)
        have t4 := cellO hB2 (row_cell (j := 4) hr rfl)
        have HB3 := Lib.hid (btO hB1 hB2)
        clear hpi hpj hm hB1 hB2 hr
        cases hb : sameB t u
        · rw [hb] at HQ
          have hne := sameB_no hb
          obtain rfl := No.out (fun h => hne (HN.out h))
          clear hb hne
          go_wp2_with (go_at_call 56; ((with_reducible refine (HQ.out _ HB3.out).mono ?_); rintro x w2 ⟨rfl, hb⟩; have HW2 := Lib.hid (btO HW.out (btO HB3.out hb)); clear hb))
          go_ret
          exact ⟨rfl, HW2.out⟩
        · rw [hb] at HQ
          have HE3 := Lib.hid (HE2.out (sameB_of hb))
          clear hb
          go_wp2_with (go_at_call 56; ((with_reducible refine (HQ.out _ HB3.out).mono ?_); rintro x w2 ⟨rfl, hb⟩; have HW2 := Lib.hid (btO HW.out (btO HB3.out hb)); clear hb))
          go_roundw
          all_goals first
            | exact ⟨k + 1, by omega, by go_num, HE3, HW2⟩
            | (simp [intOf]; omega)
      · obtain rfl : k = s.length := by omega
        obtain rfl := Yes.out (by have := HE.out; rw [List.take_length, HQl.out, List.take_length] at this; exact this)
        go_wp2_with (fail)
        go_ret
        exact ⟨rfl, HW.out⟩
  · obtain rfl := no (fun h => q (by have := congrArg List.length h; simp at this; omega))
    have q2 : ((s.length : Int) == (s'.length : Int)) = false := beq_eq_false_iff_ne.2 q
    have q3 := bne_of q2
    clear no yes q
    go_enter Tryz.func90, Tryz.ntmps90
    go_wp2_with (fail)
    go_ret
    exact ⟨rfl, Below.refl _ _⟩
set_option maxRecDepth 100000 in
set_option maxHeartbeats 6400000 in
theorem psame8_any (T : Ex) : ∀ (U : Ex) (w : World), T.In w → U.In w → Calls Tryz.prog 56 #[T.val, U.val] w (BoolRO (sameB T U) w) := by
  induction T using Ex.ind with
  | h kk rr nn dd A c s ih =>
  intro U w hin hin2
  obtain ⟨kk', rr', nn', dd', A', c', s'⟩ := U
  obtain ⟨w1, hw1, hB, hS⟩ := sm_begin w kk rr nn dd A s.length c kk' rr' nn' dd' A' s'.length c' 29
  have HB := Lib.hid hB
  obtain ⟨Y, hY⟩ : ∃ Y, sameB (.mk kk rr nn dd A c s) (.mk kk' rr' nn' dd' A' c' s') = Y := ⟨_, rfl⟩
  have no : ¬ (kk = kk' ∧ rr = rr' ∧ nn = nn' ∧ dd = dd' ∧ s.map Ex.er = s'.map Ex.er) → false = Y := fun h => by rw [← hY, sameB_f (fun e => h (er_iff.1 e))]
  have yes : (kk = kk' ∧ rr = rr' ∧ nn = nn' ∧ dd = dd' ∧ s.map Ex.er = s'.map Ex.er) → true = Y := fun h => by rw [← hY, sameB_t (er_iff.2 h)]
  rw [hY]
  clear hY
  show Calls Tryz.prog 56 #[.agg #[.int .u8 kk, .string rr, .string nn, .int .i64 dd, .slice A s.length c], .agg #[.int .u8 kk', .string rr', .string nn', .int .i64 dd', .slice A' s'.length c']] w _
  have hi := hin.below hB
  have hj := hin2.below hB
  obtain ⟨a0, a1, a2, a3, a4, b0, b1, b2, b3, b4⟩ := hS
  clear hin hin2 hB
  rcases int_cases kk kk' with rfl | q
  · rcases str_cases rr rr' with rfl | q
    · rcases str_cases nn nn' with rfl | q
      · rcases int_cases dd dd' with rfl | q
        · have HQ := Lib.hid (eqf_any kk rr nn dd A c s kk rr nn dd A' c' s' w1 hi hj ih Y (fun h => no (fun g => h g.2.2.2.2)) (fun h => yes ⟨rfl, rfl, rfl, rfl, h⟩))
          clear no yes hi hj ih
          go_enter Tryz.func56, Tryz.ntmps56
          go_wp2_with (go_at_call 90; ((with_reducible refine HQ.out.mono ?_); rintro x w2 ⟨rfl, hb⟩; have HW2 := Lib.hid hb; clear hb))
          go_ret
          exact ⟨rfl, btO HB.out HW2.out⟩
        · obtain rfl := no (fun h => by rw [beq_eq_false_iff_ne] at q; exact q h.2.2.2.1)
          clear no yes hi hj ih
          go_enter Tryz.func56, Tryz.ntmps56
          go_wp2_with (fail)
          go_ret
          exact ⟨rfl, HB.out⟩
      · obtain rfl := no (fun h => str_neS q h.2.2.1)
        clear no yes hi hj ih
        go_enter Tryz.func56, Tryz.ntmps56
        go_wp2_with (fail)
        go_ret
        exact ⟨rfl, HB.out⟩
    · obtain rfl := no (fun h => str_neS q h.2.1)
      clear no yes hi hj ih
      go_enter Tryz.func56, Tryz.ntmps56
      go_wp2_with (fail)
      go_ret
      exact ⟨rfl, HB.out⟩
  · obtain rfl := no (fun h => by rw [beq_eq_false_iff_ne] at q; exact q h.1)
    clear no yes hi hj ih
    go_enter Tryz.func56, Tryz.ntmps56
    go_wp2_with (fail)
    go_ret
    exact ⟨rfl, HB.out⟩
end Go.Proofs.YtalejbabhjlehaaGreatDoor
/- Layer 9: which nodes are well-formed: plain; the program's wellFormed. -/
namespace Go.Proofs.YtalejbabhjlehaaGreatDoor
open Go Go.RowKit Go.BigFrame
theorem calls_belC {P : Program} {f : FuncId} {args : Array Value} {w : World} {v : Value} (h : Calls P f args w fun e w' => e = .returned v ∧ w = w') : Calls P f args w fun e w' => e = .returned v ∧ Below w.heap.size w w' :=
  h.mono fun _ _ ⟨h1, h2⟩ => ⟨h1, h2 ▸ Below.refl _ _⟩
def pm (k : Int) : Int := if k = 1 then 0 else if k = 2 then 15 else if k = 3 then 256 else if k = 4 then 136 else if k = 5 then 272 else if k = 6 then 160 else if k = 7 then 261 else if k = 8 then 197 else if k = 9 then 208 else if k = 10 then 208 else 0
def ex10 (k : Int) : Bool := decide (1 ≤ k) && decide (k ≤ 10)
def wb (q r : Int) : Bool := bits BinOp.and IntKind.u16 q r != 0
def namB (s : ByteArray) (b : Bool) : Bool := if b = true then nameO s.data.toList else emB s
def okD9 (l : List Int) (i : Nat) : Bool := dayO (l.getD i 0) && (decide (i = 0) || decide (l.getD (i - 1) 0 < l.getD i 0))
def dysB (l : List Int) : Bool := decide (1 ≤ l.length) && decide (l.length ≤ 100) && decide (∀ i, i < l.length → okD9 l i = true)
def hvN (q : Int) (T : Ct) : Bool := namB T.f (wb q 1) && namB T.t (wb q 2) && namB T.n (wb q 4) && !(wb q 2 && decide (T.f = T.t))
def hvE (q : Int) (x : Ex) : Bool := if wb q 8 = true then x.isB 1 else if wb q 16 = true then x.isB 2 else x.bar
def hvD (q d : Int) (l : List Int) : Bool := if d ≠ 0 ∧ ¬ (wb q 32 = true ∧ dayO d = true) then false else if wb q 64 = true then dysB l else decide (l.length = 0)
def blw (q : Int) : Int := if wb q 256 = true then 2 else if wb q 128 = true then 1 else 0
def Ct.frm (T : Ct) : Bool := ex10 T.k && hvN (pm T.k) T && hvE (pm T.k) T.x && hvD (pm T.k) T.d T.dl && ((T.sub.length : Int) == blw (pm T.k))
set_option maxRecDepth 100000 in
theorem with_any (q r : Int) (w : World) : Calls Tryz.prog 100 #[.int .u16 q, .int .u16 r] w fun e w' => e = .returned (.bool (wb q r)) ∧ w = w' := by
  go_enter Tryz.func100, Tryz.ntmps100
  go_wp2_with (fail)
  go_ret
  exact ⟨rfl, rfl⟩
set_option maxRecDepth 100000 in
theorem isName9_any (s : ByteArray) (b : Bool) (w : World) : Calls Tryz.prog 99 #[.string s, .bool b] w fun e w' => e = .returned (.bool (namB s b)) ∧ w = w' := by
  have HN := Lib.hid (fun W => pname8_any s _ rfl W)
  unfold namB
  cases b
  · rw [if_neg Bool.false_ne_true]
    rcases em_cases s with ⟨rfl, h⟩ | ⟨h0, h⟩
    · rw [h]
      go_enter Tryz.func99, Tryz.ntmps99
      go_wp2_with (fail)
      go_ret
      exact ⟨rfl, rfl⟩
    · rw [h]
      go_enter Tryz.func99, Tryz.ntmps99
      go_wp2_with (fail)
      go_ret
      exact ⟨rfl, rfl⟩
  · rw [if_pos rfl]
    go_enter Tryz.func99, Tryz.ntmps99
    go_wp2_with (go_at_call 35; ((with_reducible refine (HN.out _).mono ?_); rintro e w2 ⟨rfl, rfl⟩))
    go_ret
    exact ⟨rfl, rfl⟩
set_option maxRecDepth 100000 in
theorem day9_any (d : Int) (w : World) : Calls Tryz.prog 101 #[.int .i64 d] w fun e w' => e = .returned (.bool (dayO d)) ∧ w = w' := by
  unfold dayO
  by_cases h1 : 0 ≤ d
  · by_cases h2 : d ≤ 99999
    · go_enter Tryz.func101, Tryz.ntmps101
      go_wp2
      go_ret
      exact ⟨by rw [decide_eq_true h1, decide_eq_true h2]; rfl, rfl⟩
    · go_enter Tryz.func101, Tryz.ntmps101
      go_wp2
      go_ret
      refine ⟨?_, rfl⟩
      congr 2
      simp
      omega
  · go_enter Tryz.func101, Tryz.ntmps101
    go_wp2
    go_ret
    refine ⟨?_, rfl⟩
    congr 2
    simp
    omega
set_option maxRecDepth 100000 in
set_option maxHeartbeats 1000000 in
theorem partsOf9_any (k : Int) (w : World) : Calls Tryz.prog 77 #[.int .u8 k] w fun e w' => e = .returned (.tuple #[.int .u16 (pm k), .bool (ex10 k)]) ∧ w = w' := by
  have key : k = 1 ∨ k = 2 ∨ k = 3 ∨ k = 4 ∨ k = 5 ∨ k = 6 ∨ k = 7 ∨ k = 8 ∨ k = 9 ∨ k = 10 ∨ (k ≠ 1 ∧ k ≠ 2 ∧ k ≠ 3 ∧ k ≠ 4 ∧ k ≠ 5 ∧ k ≠ 6 ∧ k ≠ 7 ∧ k ≠ 8 ∧ k ≠ 9 ∧ k ≠ 10) := by omega
  rcases key with rfl | rfl | rfl | rfl | rfl | rfl | rfl | rfl | rfl | rfl | ⟨n1, n2, n3, n4, n5, n6, n7, n8, n9, n10⟩
  iterate 10
    · go_enter Tryz.func77, Tryz.ntmps77
      go_wp2_with (fail)
      go_ret2
      exact ⟨rfl, rfl⟩
  · have e1 : pm k = 0 := by unfold pm; rw [if_neg n1, if_neg n2, if_neg n3, if_neg n4, if_neg n5, if_neg n6, if_neg n7, if_neg n8, if_neg n9, if_neg n10]
    have e2 : ex10 k = false := by
      unfold ex10
      rw [Bool.and_eq_false_iff, decide_eq_false_iff_not, decide_eq_false_iff_not]
      omega
    rw [e1, e2]
    have m1 : (k == 1) = false := beq_eq_false_iff_ne.2 n1
    have m2 : (k == 2) = false := beq_eq_false_iff_ne.2 n2
    have m3 : (k == 3) = false := beq_eq_false_iff_ne.2 n3
    have m4 : (k == 4) = false := beq_eq_false_iff_ne.2 n4
    have m5 : (k == 5) = false := beq_eq_false_iff_ne.2 n5
    have m6 : (k == 6) = false := beq_eq_false_iff_ne.2 n6
    have m7 : (k == 7) = false := beq_eq_false_iff_ne.2 n7
    have m8 : (k == 8) = false := beq_eq_false_iff_ne.2 n8
    have m9 : (k == 9) = false := beq_eq_false_iff_ne.2 n9
    have m10 : (k == 10) = false := beq_eq_false_iff_ne.2 n10
    clear n1 n2 n3 n4 n5 n6 n7 n8 n9 n10 e1 e2
    go_enter Tryz.func77, Tryz.ntmps77
    go_wp2_with (fail)
    go_ret2
    exact ⟨rfl, rfl⟩
set_option maxRecDepth 100000 in
set_option maxHeartbeats 1000000 in
theorem below9_any (q : Int) (w : World) : Calls Tryz.prog 81 #[.int .u16 q] w fun e w' => e = .returned (.int .i64 (blw q)) ∧ w = w' := by
  unfold blw
  have H1 := Lib.hid (fun W => with_any q 256 W)
  have H2 := Lib.hid (fun W => with_any q 128 W)
  generalize wb q 256 = a at *
  generalize wb q 128 = b at *
  cases a
  · cases b
    all_goals
      go_enter Tryz.func81, Tryz.ntmps81
      go_wp2_with (first
        | (go_at_call 100; ((with_reducible refine (H1.out _).mono ?_); rintro e w2 ⟨rfl, rfl⟩))
        | (go_at_call 100; ((with_reducible refine (H2.out _).mono ?_); rintro e w2 ⟨rfl, rfl⟩)))
      go_ret
      exact ⟨rfl, rfl⟩
  · go_enter Tryz.func81, Tryz.ntmps81
    go_wp2_with (go_at_call 100; ((with_reducible refine (H1.out _).mono ?_); rintro e w2 ⟨rfl, rfl⟩))
    go_ret
    exact ⟨rfl, rfl⟩
set_option maxRecDepth 100000 in
set_option maxHeartbeats 3200000 in
theorem haveNames9_any (q : Int) (T : Ct) (w : World) : Calls Tryz.prog 78 #[.int .u16 q, T.val] w (BoolRO (hvN q T) w) := by
  have mixed : Tryz.prog.follows Departure.mixedOrders = true := by kernel_rfl
  obtain ⟨w1, hw1⟩ : ∃ w1, (w.alloc (.cells #[.int .u8 T.k, .string T.f, .string T.t, .string T.n, .int .u8 T.x.k, .string T.x.r, .string T.x.n, .int .i64 T.x.d, .slice T.x.A T.x.sub.length T.x.c, .int .i64 T.d, .slice T.DA T.dl.length T.dc, .slice T.A T.sub.length T.c] 32)) = w1 := ⟨_, rfl⟩
  have HB1 := Lib.hid (show Below w.heap.size w w1 by rw [← hw1]; exact belO w _)
  have HC := Lib.hid (show Ct.Box w1 w.heap.size T by rw [← hw1]; exact Ct.Box.new w T 32)
  have c0 : w1.cell? ⟨w.heap.size, 0, none⟩ = some (.int .u8 T.k) := HC.out.c0
  have c1 : w1.cell? ⟨w.heap.size, 1, none⟩ = some (.string T.f) := HC.out.c1
  have c2 : w1.cell? ⟨w.heap.size, 2, none⟩ = some (.string T.t) := HC.out.c2
  have c3 : w1.cell? ⟨w.heap.size, 3, none⟩ = some (.string T.n) := HC.out.c3
  have c4 : w1.cell? ⟨w.heap.size, 4, none⟩ = some (.int .u8 T.x.k) := HC.out.c4
  have c5 : w1.cell? ⟨w.heap.size, 5, none⟩ = some (.string T.x.r) := HC.out.c5
  have c6 : w1.cell? ⟨w.heap.size, 6, none⟩ = some (.string T.x.n) := HC.out.c6
  have c7 : w1.cell? ⟨w.heap.size, 7, none⟩ = some (.int .i64 T.x.d) := HC.out.c7
  have c8 : w1.cell? ⟨w.heap.size, 8, none⟩ = some (.slice T.x.A T.x.sub.length T.x.c) := HC.out.c8
  have c9 : w1.cell? ⟨w.heap.size, 9, none⟩ = some (.int .i64 T.d) := HC.out.c9
  have c10 : w1.cell? ⟨w.heap.size, 10, none⟩ = some (.slice T.DA T.dl.length T.dc) := HC.out.c10
  have c11 : w1.cell? ⟨w.heap.size, 11, none⟩ = some (.slice T.A T.sub.length T.c) := HC.out.c11
  have H1 := Lib.hid (fun W (_ : Below w1.heap.size w1 W) => calls_belC (with_any q 1 W))
  have H2 := Lib.hid (fun W (_ : Below w1.heap.size w1 W) => calls_belC (with_any q 2 W))
  have H4 := Lib.hid (fun W (_ : Below w1.heap.size w1 W) => calls_belC (with_any q 4 W))
  have N1 := Lib.hid (fun W (_ : Below w1.heap.size w1 W) => calls_belC (isName9_any T.f (wb q 1) W))
  have N2 := Lib.hid (fun W (_ : Below w1.heap.size w1 W) => calls_belC (isName9_any T.t (wb q 2) W))
  have N4 := Lib.hid (fun W (_ : Below w1.heap.size w1 W) => calls_belC (isName9_any T.n (wb q 4) W))
  obtain ⟨R, hR⟩ : ∃ R, hvN q T = R := ⟨_, rfl⟩
  have hD : hvN q T = (namB T.f (wb q 1) && namB T.t (wb q 2) && namB T.n (wb q 4) && !(wb q 2 && decide (T.f = T.t))) := rfl
  rw [hR] at hD
  rw [hR]
  clear hR
  generalize namB T.f (wb q 1) = n1 at *
  generalize namB T.t (wb q 2) = n2 at *
  generalize namB T.n (wb q 4) = n4 at *
  generalize wb q 1 = b1 at *
  generalize wb q 2 = b2 at *
  generalize wb q 4 = b4 at *
  have key : (n1 = false ∧ R = false) ∨ (n1 = true ∧ n2 = false ∧ R = false) ∨ (n1 = true ∧ n2 = true ∧ n4 = false ∧ R = false) ∨ (n1 = true ∧ n2 = true ∧ n4 = true ∧ b2 = false ∧ R = true) ∨ (n1 = true ∧ n2 = true ∧ n4 = true ∧ b2 = true ∧ (T.f.toList == T.t.toList) = false ∧ R = true) ∨ (n1 = true ∧ n2 = true ∧ n4 = true ∧ b2 = true ∧ (T.f.toList == T.t.toList) = true ∧ R = false) := by
    cases n1
    · exact .inl ⟨rfl, hD⟩
    · cases n2
      · exact .inr (.inl ⟨rfl, rfl, hD⟩)
      · cases n4
        · exact .inr (.inr (.inl ⟨rfl, rfl, rfl, hD⟩))
        · cases b2
          · exact .inr (.inr (.inr (.inl ⟨rfl, rfl, rfl, rfl, hD⟩)))
          · rcases str_cases T.f T.t with h | h
            · exact .inr (.inr (.inr (.inr (.inr ⟨rfl, rfl, rfl, rfl, by rw [h]; simp, by rw [hD, decide_eq_true h]; rfl⟩))))
            · exact .inr (.inr (.inr (.inr (.inl ⟨rfl, rfl, rfl, rfl, h, by rw [hD, decide_eq_false (str_neS h)]; rfl⟩))))
  clear hD
  show Calls Tryz.prog 78 #[.int .u16 q, .agg #[.int .u8 T.k, .string T.f, .string T.t, .string T.n, .int .u8 T.x.k, .string T.x.r, .string T.x.n, .int .i64 T.x.d, .slice T.x.A T.x.sub.length T.x.c, .int .i64 T.d, .slice T.DA T.dl.length T.dc, .slice T.A T.sub.length T.c]] w _
  rcases key with ⟨rfl, rfl⟩ | ⟨rfl, rfl, rfl⟩ | ⟨rfl, rfl, rfl, rfl⟩ | ⟨rfl, rfl, rfl, rfl, rfl⟩ | ⟨rfl, rfl, rfl, rfl, hs, rfl⟩ | ⟨rfl, rfl, rfl, rfl, hs, rfl⟩
  all_goals
    go_enter Tryz.func78, Tryz.ntmps78
    go_wp2_with (fail)
    clear hw1
    have z0 := fun z : Bel w1 => z.cell c0
    have z1 := fun z : Bel w1 => z.cell c1
    have z2 := fun z : Bel w1 => z.cell c2
    have z3 := fun z : Bel w1 => z.cell c3
    have z4 := fun z : Bel w1 => z.cell c4
    have z5 := fun z : Bel w1 => z.cell c5
    have z6 := fun z : Bel w1 => z.cell c6
    have z7 := fun z : Bel w1 => z.cell c7
    have z8 := fun z : Bel w1 => z.cell c8
    have z9 := fun z : Bel w1 => z.cell c9
    have z10 := fun z : Bel w1 => z.cell c10
    have z11 := fun z : Bel w1 => z.cell c11
    refine wp_region_bel (by kernel_rfl) (by kernel_rfl) ?_
    repeat (go_big_quiet_step (first
      | (go_at_call 100; with_reducible exact Bel.calls H1.out _)
      | (go_at_call 100; with_reducible exact Bel.calls H2.out _)
      | (go_at_call 100; with_reducible exact Bel.calls H4.out _)
      | (go_at_call 99; with_reducible exact Bel.calls N1.out _)
      | (go_at_call 99; with_reducible exact Bel.calls N2.out _)
      | (go_at_call 99; with_reducible exact Bel.calls N4.out _)))
    refine wpQuiet_nil ?_
    rintro _ ⟨zz, rfl⟩
    have HZW := Lib.hid (btO HB1.out zz.2)
    generalize zz.1 = w6 at *
    go_wp2_with (fail)
    go_ret
    exact ⟨rfl, HZW.out⟩
set_option maxRecDepth 100000 in
set_option maxHeartbeats 3200000 in
theorem haveExpr9_any (q : Int) (T : Ex) (w : World) (hin : T.In w) (hby : T.byt ≤ 12000) (hv : VarR w) (HZ : ∀ W, T.In W → Calls Tryz.prog 82 #[T.val] W (BoolRO T.bar W)) : Calls Tryz.prog 79 #[.int .u16 q, T.val] w (BoolRO (hvE q T) w) := by
  obtain ⟨w1, hw1⟩ : ∃ w1, w.alloc (.cells #[.int .u8 T.k, .string T.r, .string T.n, .int .i64 T.d, .slice T.A T.sub.length T.c] 29) = w1 := ⟨_, rfl⟩
  have HB1 := Lib.hid (show Below w.heap.size w w1 by rw [← hw1]; exact belO w _)
  have HC := Lib.hid (show Ex.Box w1 w.heap.size T by rw [← hw1]; exact Ex.Box.new w T 29)
  obtain ⟨c0, c1, c2, c3, c4⟩ := HC.out
  have H1 := Lib.hid (with_any q 8 w1)
  have H2 := Lib.hid (with_any q 16 w1)
  have N1 := Lib.hid (pnumber_any T w1 (hin.below HB1.out) hby (hv.below HB1.out))
  have N2 := Lib.hid (ptruth_any T w1 (hin.below HB1.out) hby (hv.below HB1.out))
  have N3 := Lib.hid (HZ w1 (hin.below HB1.out))
  obtain ⟨R, hR⟩ : ∃ R, hvE q T = R := ⟨_, rfl⟩
  have hD : hvE q T = if wb q 8 = true then T.isB 1 else if wb q 16 = true then T.isB 2 else T.bar := rfl
  rw [hR] at hD
  rw [hR]
  clear hR hin hv HZ
  generalize wb q 8 = a at *
  generalize wb q 16 = b at *
  generalize T.isB 1 = x1 at *
  generalize T.isB 2 = x2 at *
  generalize T.bar = x3 at *
  have key : (a = true ∧ R = x1) ∨ (a = false ∧ b = true ∧ R = x2) ∨ (a = false ∧ b = false ∧ R = x3) := by
    cases a
    · cases b
      · exact .inr (.inr ⟨rfl, rfl, hD⟩)
      · exact .inr (.inl ⟨rfl, rfl, hD⟩)
    · exact .inl ⟨rfl, hD⟩
  clear hD
  show Calls Tryz.prog 79 #[.int .u16 q, .agg #[.int .u8 T.k, .string T.r, .string T.n, .int .i64 T.d, .slice T.A T.sub.length T.c]] w _
  rcases key with ⟨rfl, rfl⟩ | ⟨rfl, rfl, rfl⟩ | ⟨rfl, rfl, rfl⟩
  all_goals
    go_enter Tryz.func79, Tryz.ntmps79
    go_wp2_with (first
      | (go_at_call 100; ((with_reducible refine H1.out.mono ?_); rintro e w2 ⟨rfl, rfl⟩))
      | (go_at_call 100; ((with_reducible refine H2.out.mono ?_); rintro e w2 ⟨rfl, rfl⟩))
      | (go_at_call 33; ((with_reducible refine N1.out.mono ?_); rintro e w2 ⟨rfl, hb⟩; have HB2 := Lib.hid (btO HB1.out hb); clear hb))
      | (go_at_call 34; ((with_reducible refine N2.out.mono ?_); rintro e w2 ⟨rfl, hb⟩; have HB2 := Lib.hid (btO HB1.out hb); clear hb))
      | (go_at_call 82; ((with_reducible refine N3.out.mono ?_); rintro e w2 ⟨rfl, hb⟩; have HB2 := Lib.hid (btO HB1.out hb); clear hb)))
    go_ret
    exact ⟨rfl, HB2.out⟩
theorem IntsIn.cell {w : World} {A : Option Addr} {l : List Int} (h : IntsIn w A l) {k : Nat} (hk : k < l.length) : ∃ b o, A = some ⟨b, o, none⟩ ∧ w.cell? ⟨b, o + k, none⟩ = some (.int .i64 (l.getD k 0)) := by
  obtain ⟨b, o, h1, -, h3⟩ := h k hk
  refine ⟨b, o, h1, ?_⟩
  have := h3 0 _ rfl
  rw [Nat.mul_one, Nat.add_zero] at this
  rw [this, List.getD_eq_getElem?_getD, List.getElem?_eq_getElem hk]
  rfl
theorem dysB_no {l : List Int} {k : Nat} (hk : k < l.length) (h : okD9 l k = false) : dysB l = false := by
  unfold dysB
  rw [Bool.and_eq_false_iff]
  right
  rw [decide_eq_false_iff_not]
  intro g
  rw [g k hk] at h
  cases h
theorem dysB_yes {l : List Int} (h1 : 1 ≤ l.length) (h2 : l.length ≤ 100) (h : ∀ i, i < l.length → okD9 l i = true) : dysB l = true := by
  unfold dysB
  rw [decide_eq_true h1, decide_eq_true h2, decide_eq_true h]
  rfl
set_option maxRecDepth 100000 in
set_option maxHeartbeats 3200000 in
theorem lod9_any (A : Option Addr) (l : List Int) (c : Nat) (w : World) (hI : IntsIn w A l) (hl : l.length ≤ 140737488351232) : Calls Tryz.prog 102 #[.slice A l.length c] w fun e w' => e = .returned (.bool (dysB l)) ∧ w = w' := by
  have HD := Lib.hid (fun d W => day9_any d W)
  obtain ⟨R, hR⟩ : ∃ R, dysB l = R := ⟨_, rfl⟩
  have HNo := Lib.hid (fun k (hk : k < l.length) (h : okD9 l k = false) => (hR.symm.trans (dysB_no hk h) : R = false))
  have HYes := Lib.hid (fun (h1 : 1 ≤ l.length) (h2 : l.length ≤ 100) (h : ∀ i, i < l.length → okD9 l i = true) => (hR.symm.trans (dysB_yes h1 h2 h) : R = true))
  have h0 : l.length = 0 → R = false := fun h => by rw [← hR]; unfold dysB; rw [decide_eq_false (by omega)]; rfl
  have h1 : 100 < l.length → R = false := fun h => by rw [← hR]; unfold dysB; rw [decide_eq_false (p := l.length ≤ 100) (by omega), Bool.and_false]; rfl
  rw [hR]
  have HIn := Lib.hid (fun k (hk : k < l.length) => hI.cell hk)
  clear hR hI
  by_cases q0 : l.length = 0
  · obtain rfl := h0 q0
    have q1 : ((l.length : Int) == 0) = true := by rw [q0]; rfl
    clear h0 h1 q0
    go_enter Tryz.func102, Tryz.ntmps102
    go_wp2_with (fail)
    go_ret
    exact ⟨rfl, rfl⟩
  have q1 : ((l.length : Int) == 0) = false := by rw [beq_eq_false_iff_ne]; omega
  by_cases q2 : 100 < l.length
  · obtain rfl := h1 q2
    have q3 : (100 : Int) < l.length := by omega
    clear h0 h1 q0 q2
    go_enter Tryz.func102, Tryz.ntmps102
    go_wp2_with (fail)
    go_ret
    exact ⟨rfl, rfl⟩
  have q3 : (l.length : Int) ≤ 100 := by omega
  have HY2 := Lib.hid (HYes.out (by omega) (by omega))
  clear h0 h1 q2 HYes
  go_enter Tryz.func102, Tryz.ntmps102
  go_wp2_with (fail)
  go_loopw [15] (fun i wr => ∃ k : Nat, k ≤ l.length ∧ i = .int .i64 k ∧ Hid (∀ i, i < k → okD9 l i = true) ∧ wr = w) (fun i _ => l.length - (intOf i).toNat)
  case atStart => exact ⟨0, by omega, rfl, (fun i h => by omega), rfl⟩
  case round =>
    obtain ⟨k, hk, rfl, HJ, rfl⟩ := hrel
    by_cases hlt : k < l.length
    · obtain ⟨b, o, eA, d0⟩ := HIn.out k hlt
      have HXk : Hid (okD9 l k = false → R = false) := fun g => HNo.out k hlt g
      have HIk : Hid (okD9 l k = true → ∀ i, i < k + 1 → okD9 l i = true) := fun g i hi => by
        rcases Nat.lt_or_ge i k with q | q
        · exact HJ.out i q
        · obtain rfl : i = k := by omega
          exact g
      have hok : okD9 l k = (dayO (l.getD k 0) && (decide (k = 0) || decide (l.getD (k - 1) 0 < l.getD k 0))) := rfl
      clear HJ
      rcases Nat.eq_zero_or_pos k with rfl | hk0
      · rw [hok] at HXk HIk
        clear hok
        generalize l.getD 0 0 = v at *
        subst eA
        simp only [Nat.add_zero] at d0
        cases hv : dayO v
        · obtain rfl := HXk.out (by rw [hv]; rfl)
          clear HXk HIk
          have HD2 := Lib.hid (show Calls Tryz.prog 101 #[.int .i64 v] wr fun e w' => e = .returned (.bool false) ∧ wr = w' by rw [← hv]; exact HD.out v wr)
          clear hv
          go_wp2_with (go_at_call 101; ((with_reducible refine HD2.out.mono ?_); rintro e w2 ⟨rfl, rfl⟩))
          go_ret
          exact ⟨rfl, rfl⟩
        · have HIk2 := Lib.hid (HIk.out (by rw [hv]; rfl))
          clear HXk HIk
          have HD2 := Lib.hid (show Calls Tryz.prog 101 #[.int .i64 v] wr fun e w' => e = .returned (.bool true) ∧ wr = w' by rw [← hv]; exact HD.out v wr)
          clear hv
          go_wp2_with (go_at_call 101; ((with_reducible refine HD2.out.mono ?_); rintro e w2 ⟨rfl, rfl⟩))
          go_roundw
          case rel => exact ⟨1, by omega, by go_num, HIk2, by first | exact trivial | rfl⟩
          case measure => simp [intOf]; omega
      · obtain ⟨j, rfl⟩ : ∃ j, k = j + 1 := ⟨k - 1, by omega⟩
        obtain ⟨b', o', eA', d1⟩ := HIn.out j (by omega)
        rw [hok] at HXk HIk
        clear hok
        rw [Nat.add_sub_cancel] at HXk HIk
        generalize l.getD (j + 1) 0 = v at *
        generalize l.getD j 0 = u at *
        subst eA
        obtain ⟨rfl, rfl⟩ : b' = b ∧ o' = o := by injection eA' with e; injection e with e1 e2; exact ⟨e1.symm, e2.symm⟩
        have hj1 : IntKind.i64.wrap ((j : Int) + 1 - 1) = (j : Int) := by rw [IntKind.wrap_i64]; omega
        have hjl : (j : Int) + 1 < (l.length : Int) := by omega
        rw [show ((j + 1 : Nat) : Int) = (j : Int) + 1 from rfl]
        cases hv : dayO v
        · obtain rfl := HXk.out (by rw [hv]; rfl)
          clear HXk HIk
          have HD2 := Lib.hid (show Calls Tryz.prog 101 #[.int .i64 v] wr fun e w' => e = .returned (.bool false) ∧ wr = w' by rw [← hv]; exact HD.out v wr)
          clear hv
          go_wp2_with (go_at_call 101; ((with_reducible refine HD2.out.mono ?_); rintro e w2 ⟨rfl, rfl⟩))
          go_ret
          exact ⟨rfl, rfl⟩
        · have HD2 := Lib.hid (show Calls Tryz.prog 101 #[.int .i64 v] wr fun e w' => e = .returned (.bool true) ∧ wr = w' by rw [← hv]; exact HD.out v wr)
          by_cases hc : u < v
          · have HIk2 := Lib.hid (HIk.out (by rw [hv, decide_eq_true hc]; simp))
            have hc2 : ¬ v ≤ u := by omega
            clear HXk HIk hv
            go_wp2_with (go_at_call 101; ((with_reducible refine HD2.out.mono ?_); rintro e w2 ⟨rfl, rfl⟩))
            go_roundw
            case rel => exact ⟨j + 1 + 1, by omega, by go_num, HIk2, by first | exact trivial | rfl⟩
            case measure => simp [intOf]; omega
          · obtain rfl := HXk.out (by rw [hv, decide_eq_false hc]; simp)
            have hc2 : v ≤ u := by omega
            clear HXk HIk hv
            go_wp2_with (go_at_call 101; ((with_reducible refine HD2.out.mono ?_); rintro e w2 ⟨rfl, rfl⟩))
            go_ret
            exact ⟨rfl, rfl⟩
    · obtain rfl : k = l.length := by omega
      obtain rfl := HY2.out HJ.out
      clear HJ
      go_wp2_with (fail)
      go_ret
      exact ⟨rfl, rfl⟩
set_option maxRecDepth 100000 in
set_option maxHeartbeats 3200000 in
theorem haveDays9_any (q : Int) (T : Ct) (w : World) (hin : T.In w) : Calls Tryz.prog 80 #[.int .u16 q, T.val] w (BoolRO (hvD q T.d T.dl) w) := by
  obtain ⟨w1, hw1⟩ : ∃ w1, (w.alloc (.cells #[.int .u8 T.k, .string T.f, .string T.t, .string T.n, .int .u8 T.x.k, .string T.x.r, .string T.x.n, .int .i64 T.x.d, .slice T.x.A T.x.sub.length T.x.c, .int .i64 T.d, .slice T.DA T.dl.length T.dc, .slice T.A T.sub.length T.c] 32)) = w1 := ⟨_, rfl⟩
  have HB1 := Lib.hid (show Below w.heap.size w w1 by rw [← hw1]; exact belO w _)
  have HC := Lib.hid (show Ct.Box w1 w.heap.size T by rw [← hw1]; exact Ct.Box.new w T 32)
  have c0 : w1.cell? ⟨w.heap.size, 0, none⟩ = some (.int .u8 T.k) := HC.out.c0
  have c1 : w1.cell? ⟨w.heap.size, 1, none⟩ = some (.string T.f) := HC.out.c1
  have c2 : w1.cell? ⟨w.heap.size, 2, none⟩ = some (.string T.t) := HC.out.c2
  have c3 : w1.cell? ⟨w.heap.size, 3, none⟩ = some (.string T.n) := HC.out.c3
  have c4 : w1.cell? ⟨w.heap.size, 4, none⟩ = some (.int .u8 T.x.k) := HC.out.c4
  have c5 : w1.cell? ⟨w.heap.size, 5, none⟩ = some (.string T.x.r) := HC.out.c5
  have c6 : w1.cell? ⟨w.heap.size, 6, none⟩ = some (.string T.x.n) := HC.out.c6
  have c7 : w1.cell? ⟨w.heap.size, 7, none⟩ = some (.int .i64 T.x.d) := HC.out.c7
  have c8 : w1.cell? ⟨w.heap.size, 8, none⟩ = some (.slice T.x.A T.x.sub.length T.x.c) := HC.out.c8
  have c9 : w1.cell? ⟨w.heap.size, 9, none⟩ = some (.int .i64 T.d) := HC.out.c9
  have c10 : w1.cell? ⟨w.heap.size, 10, none⟩ = some (.slice T.DA T.dl.length T.dc) := HC.out.c10
  have c11 : w1.cell? ⟨w.heap.size, 11, none⟩ = some (.slice T.A T.sub.length T.c) := HC.out.c11
  have H1 := Lib.hid (with_any q 32 w1)
  have H2 := Lib.hid (with_any q 64 w1)
  have N1 := Lib.hid (day9_any T.d w1)
  have hl63 : T.dl.length ≤ 9223372036854775807 := by have := hin.bd.a2; omega
  have N2 := Lib.hid (lod9_any T.DA T.dl T.dc w1 (hin.days.below HB1.out) hin.bd.a2)
  obtain ⟨R, hR⟩ : ∃ R, hvD q T.d T.dl = R := ⟨_, rfl⟩
  have hD : hvD q T.d T.dl = if T.d ≠ 0 ∧ ¬ (wb q 32 = true ∧ dayO T.d = true) then false else if wb q 64 = true then dysB T.dl else decide (T.dl.length = 0) := rfl
  rw [hR] at hD
  rw [hR]
  clear hR hin
  generalize wb q 32 = a at *
  generalize wb q 64 = b at *
  generalize dayO T.d = y at *
  generalize dysB T.dl = z at *
  have key : (T.d ≠ 0 ∧ a = false ∧ R = false) ∨ (T.d ≠ 0 ∧ a = true ∧ y = false ∧ R = false) ∨ ((T.d = 0 ∨ (T.d ≠ 0 ∧ a = true ∧ y = true)) ∧ ((b = true ∧ R = z) ∨ (b = false ∧ R = ((T.dl.length : Int) == 0)))) := by
    have hl : decide (T.dl.length = 0) = ((T.dl.length : Int) == 0) := by
      by_cases h : T.dl.length = 0
      · rw [h]; rfl
      · rw [decide_eq_false h]; symm; rw [beq_eq_false_iff_ne]; omega
    by_cases h0 : T.d = 0
    · rw [if_neg (fun h => h.1 h0)] at hD
      refine .inr (.inr ⟨.inl h0, ?_⟩)
      cases b
      · exact .inr ⟨rfl, by rw [hD]; exact hl⟩
      · exact .inl ⟨rfl, hD⟩
    · cases a
      · exact .inl ⟨h0, rfl, by rw [hD]; simp [h0]⟩
      · cases y
        · exact .inr (.inl ⟨h0, rfl, rfl, by rw [hD]; simp [h0]⟩)
        · rw [if_neg (fun h => h.2 ⟨rfl, rfl⟩)] at hD
          refine .inr (.inr ⟨.inr ⟨h0, rfl, rfl⟩, ?_⟩)
          cases b
          · exact .inr ⟨rfl, by rw [hD]; exact hl⟩
          · exact .inl ⟨rfl, hD⟩
  clear hD
  show Calls Tryz.prog 80 #[.int .u16 q, .agg #[.int .u8 T.k, .string T.f, .string T.t, .string T.n, .int .u8 T.x.k, .string T.x.r, .string T.x.n, .int .i64 T.x.d, .slice T.x.A T.x.sub.length T.x.c, .int .i64 T.d, .slice T.DA T.dl.length T.dc, .slice T.A T.sub.length T.c]] w _
  rcases key with ⟨h0, rfl, rfl⟩ | ⟨h0, rfl, rfl, rfl⟩ | ⟨h0 | ⟨h0, rfl, rfl⟩, ⟨rfl, rfl⟩ | ⟨rfl, rfl⟩⟩
  all_goals
    first
      | (have hd0 : (T.d != 0) = true := by rw [bne_iff_ne]; exact h0)
      | (have hd0 : (T.d != 0) = false := by rw [bne_eq_false_iff_eq]; exact h0)
    clear h0
    go_enter Tryz.func80, Tryz.ntmps80
    go_wp2_with (first
      | (go_at_call 100; ((with_reducible refine H1.out.mono ?_); rintro e w2 ⟨rfl, rfl⟩))
      | (go_at_call 100; ((with_reducible refine H2.out.mono ?_); rintro e w2 ⟨rfl, rfl⟩))
      | (go_at_call 101; ((with_reducible refine N1.out.mono ?_); rintro e w2 ⟨rfl, rfl⟩))
      | (go_at_call 102; ((with_reducible refine N2.out.mono ?_); rintro e w2 ⟨rfl, rfl⟩)))
    go_ret
    exact ⟨rfl, HB1.out⟩
set_option maxRecDepth 100000 in
set_option maxHeartbeats 3200000 in
theorem wf9_any (T : Ct) (w : World) (hin : T.In w) (hby : T.x.byt ≤ 12000) (hv : VarR w) (HZ : ∀ W, T.x.In W → Calls Tryz.prog 82 #[T.x.val] W (BoolRO T.x.bar W)) : Calls Tryz.prog 46 #[T.val] w (BoolRO T.frm w) := by
  have mixed : Tryz.prog.follows Departure.mixedOrders = true := by kernel_rfl
  obtain ⟨w1, hw1⟩ : ∃ w1, (w.alloc (.cells #[.int .u8 T.k, .string T.f, .string T.t, .string T.n, .int .u8 T.x.k, .string T.x.r, .string T.x.n, .int .i64 T.x.d, .slice T.x.A T.x.sub.length T.x.c, .int .i64 T.d, .slice T.DA T.dl.length T.dc, .slice T.A T.sub.length T.c] 32)) = w1 := ⟨_, rfl⟩
  have HB1 := Lib.hid (show Below w.heap.size w w1 by rw [← hw1]; exact belO w _)
  have HC := Lib.hid (show Ct.Box w1 w.heap.size T by rw [← hw1]; exact Ct.Box.new w T 32)
  have c0 : w1.cell? ⟨w.heap.size, 0, none⟩ = some (.int .u8 T.k) := HC.out.c0
  have c1 : w1.cell? ⟨w.heap.size, 1, none⟩ = some (.string T.f) := HC.out.c1
  have c2 : w1.cell? ⟨w.heap.size, 2, none⟩ = some (.string T.t) := HC.out.c2
  have c3 : w1.cell? ⟨w.heap.size, 3, none⟩ = some (.string T.n) := HC.out.c3
  have c4 : w1.cell? ⟨w.heap.size, 4, none⟩ = some (.int .u8 T.x.k) := HC.out.c4
  have c5 : w1.cell? ⟨w.heap.size, 5, none⟩ = some (.string T.x.r) := HC.out.c5
  have c6 : w1.cell? ⟨w.heap.size, 6, none⟩ = some (.string T.x.n) := HC.out.c6
  have c7 : w1.cell? ⟨w.heap.size, 7, none⟩ = some (.int .i64 T.x.d) := HC.out.c7
  have c8 : w1.cell? ⟨w.heap.size, 8, none⟩ = some (.slice T.x.A T.x.sub.length T.x.c) := HC.out.c8
  have c9 : w1.cell? ⟨w.heap.size, 9, none⟩ = some (.int .i64 T.d) := HC.out.c9
  have c10 : w1.cell? ⟨w.heap.size, 10, none⟩ = some (.slice T.DA T.dl.length T.dc) := HC.out.c10
  have c11 : w1.cell? ⟨w.heap.size, 11, none⟩ = some (.slice T.A T.sub.length T.c) := HC.out.c11
  have HP := Lib.hid (fun W => partsOf9_any T.k W)
  have H1 := Lib.hid (fun W (_ : Below w1.heap.size w1 W) => haveNames9_any (pm T.k) T W)
  have H2 := Lib.hid (fun W (hW : Below w1.heap.size w1 W) => haveExpr9_any (pm T.k) T.x W (hin.ex.below (btO HB1.out hW)) hby (hv.below (btO HB1.out hW)) HZ)
  have H3 := Lib.hid (fun W (hW : Below w1.heap.size w1 W) => haveDays9_any (pm T.k) T W (hin.below (btO HB1.out hW)))
  have H4 := Lib.hid (fun W (_ : Below w1.heap.size w1 W) => calls_belC (below9_any (pm T.k) W))
  have hl63 : T.sub.length ≤ 9223372036854775807 := by have := hin.bd.c1; omega
  obtain ⟨R, hR⟩ : ∃ R, T.frm = R := ⟨_, rfl⟩
  have hD : T.frm = (ex10 T.k && hvN (pm T.k) T && hvE (pm T.k) T.x && hvD (pm T.k) T.d T.dl && ((T.sub.length : Int) == blw (pm T.k))) := rfl
  rw [hR] at hD
  rw [hR]
  clear hR hin hv HZ
  generalize ex10 T.k = a at *
  generalize hvN (pm T.k) T = b at *
  generalize hvE (pm T.k) T.x = x at *
  generalize hvD (pm T.k) T.d T.dl = y at *
  generalize blw (pm T.k) = m at *
  have key : (a = false ∧ R = false) ∨ (a = true ∧ b = false ∧ R = false) ∨ (a = true ∧ b = true ∧ x = false ∧ R = false) ∨ (a = true ∧ b = true ∧ x = true ∧ y = false ∧ R = false) ∨ (a = true ∧ b = true ∧ x = true ∧ y = true ∧ R = ((T.sub.length : Int) == m)) := by
    cases a
    · exact .inl ⟨rfl, hD⟩
    · cases b
      · exact .inr (.inl ⟨rfl, rfl, hD⟩)
      · cases x
        · exact .inr (.inr (.inl ⟨rfl, rfl, rfl, hD⟩))
        · cases y
          · exact .inr (.inr (.inr (.inl ⟨rfl, rfl, rfl, rfl, hD⟩)))
          · exact .inr (.inr (.inr (.inr ⟨rfl, rfl, rfl, rfl, hD⟩)))
  clear hD
  generalize pm T.k = q at *
  show Calls Tryz.prog 46 #[.agg #[.int .u8 T.k, .string T.f, .string T.t, .string T.n, .int .u8 T.x.k, .string T.x.r, .string T.x.n, .int .i64 T.x.d, .slice T.x.A T.x.sub.length T.x.c, .int .i64 T.d, .slice T.DA T.dl.length T.dc, .slice T.A T.sub.length T.c]] w _
  rcases key with ⟨rfl, rfl⟩ | ⟨rfl, rfl, rfl⟩ | ⟨rfl, rfl, rfl, rfl⟩ | ⟨rfl, rfl, rfl, rfl, rfl⟩ | ⟨rfl, rfl, rfl, rfl, rfl⟩
  all_goals
    go_enter Tryz.func46, Tryz.ntmps46
    go_wp2_with (go_at_call 77; ((with_reducible refine (HP.out _).mono ?_); rintro e w2 ⟨rfl, rfl⟩))
    clear hw1
    have z0 := fun z : Bel w1 => z.cell c0
    have z1 := fun z : Bel w1 => z.cell c1
    have z2 := fun z : Bel w1 => z.cell c2
    have z3 := fun z : Bel w1 => z.cell c3
    have z4 := fun z : Bel w1 => z.cell c4
    have z5 := fun z : Bel w1 => z.cell c5
    have z6 := fun z : Bel w1 => z.cell c6
    have z7 := fun z : Bel w1 => z.cell c7
    have z8 := fun z : Bel w1 => z.cell c8
    have z9 := fun z : Bel w1 => z.cell c9
    have z10 := fun z : Bel w1 => z.cell c10
    have z11 := fun z : Bel w1 => z.cell c11
    refine wp_region_bel (by kernel_rfl) (by kernel_rfl) ?_
    repeat (go_big_quiet_step (first
      | (go_at_call 78; with_reducible exact Bel.calls H1.out _)
      | (go_at_call 79; with_reducible exact Bel.calls H2.out _)
      | (go_at_call 80; with_reducible exact Bel.calls H3.out _)
      | (go_at_call 81; with_reducible exact Bel.calls H4.out _)))
    refine wpQuiet_nil ?_
    rintro _ ⟨zz, rfl⟩
    have HZW := Lib.hid (btO HB1.out zz.2)
    generalize zz.1 = w6 at *
    go_wp2_with (fail)
    go_ret
    exact ⟨rfl, HZW.out⟩
end Go.Proofs.YtalejbabhjlehaaGreatDoor
