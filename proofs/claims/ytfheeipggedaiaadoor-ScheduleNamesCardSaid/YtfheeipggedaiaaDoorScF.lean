/- Layer 6: the reference's walks: Periods. -/
import Derived.Test.YtfheeipggedaiaaDoorScE
import Derived.Deep.RegionHeld3
import Derived.Deep.RegionLaw
import Derived.IntWalk
namespace Go.Proofs.YtfheeipggedaiaaDoor
open Go Go.RowKit

theorem step_appB {P : Program} {ops : Array Oper} {o : Oper} {a : Act} {w : World} {K : Act → World → Prop} {Q : Exit → Act → World → Prop} {E : Prop}
    (hg : o.guard = none) (s x : Operand) (t : TypeId) (hop : o.op = Op.call { callee := Callee.builtin Builtin.append, args := #[s, x], argTypes := #[t, t] })
    (e : TypeId) (i : TypeInfo) (z : Value) (size bytes : Nat) (h1 : P.underlying t = some (.slice e)) (h2 : P.info? e = some i) (h3 : i.zero = some z) (h4 : i.size = size) (h5 : i.bytes = bytes) (h6 : z.cells.size = size) (h0 : 0 < size)
    (base : Nat) (v : Value) (n : Nat) (xs : List Value) (hown : w.ownsRow base e size v n xs) (hs : a.eval s = v)
    (ad : Addr) (m c : Nat) (news : List Value) (hx : a.eval x = .slice (some ad) m c) (hn : news.length = m * size) (hnews : ∀ j u, news[j]? = some u → w.cell? (ad.add j) = some u) (h1c : ∀ u ∈ news, u.oneCell' = true)
    (b1 : n + m ≤ maxLen) (b2 : (n + m) * bytes ≤ 140737488355328) (hbase : base ≤ w.heap.size)
    (hK : ∀ v' w', w'.ownsRow base e size v' (n + m) (xs ++ news) → Below base w w' → K (a.put o.dst v') w') :
    if Region.wanted o (yielded ops a.tmps) = true then Oper.wp P o a w K Q else E := by
  have hw : Region.wanted o (yielded ops a.tmps) = true := by simp [Region.wanted, hg]
  rw [if_pos hw]
  obtain ⟨v', w', hrun, r1, r2, _⟩ := run_append_own (P := P) (w := w) base t o.type e i z size bytes h1 h2 h3 h4 h5 h6 h0 v n xs hown ad m c news hn hnews h1c b1 b2 hbase
  unfold Oper.wp
  simp [execOp, hop, resolve, invoke, builtin, hs, hx, hrun, Result.andThen]
  exact hK v' w' r1 ((Below.refl _ _).grown r2 hbase fun k hk => (hown.lt k hk).1)
theorem news4 (w : World) (a b c d : Value) (t : TypeId) : ∀ (j : Nat) (u : Value), [a, b, c, d][j]? = some u → (w.alloc (.cells #[a, b, c, d] t)).cell? ((⟨w.heap.size, 0, none⟩ : Addr).add j) = some u := by
  intro j u h
  have hadd : (⟨w.heap.size, 0, none⟩ : Addr).add j = ⟨w.heap.size, j, none⟩ := by unfold Addr.add; split <;> simp_all
  rw [hadd, World.cell?_alloc_at _ _ _ _ rfl]
  simpa using h
theorem one4 (a b c d : Int) : ∀ u ∈ [Value.int .i64 a, .int .i64 b, .int .i64 c, .int .i64 d], u.oneCell' = true := by
  intro u hu
  simp only [List.mem_cons, List.not_mem_nil, or_false] at hu
  rcases hu with rfl | rfl | rfl | rfl <;> rfl
theorem Below.drewB {w w' : World} (h : Below w.drew.heap.size w.drew w') : Below w.heap.size w w' := (Below.drew (Below.refl _ w)).trans h
/-- Periods, as they stand in memory. -/
abbrev Per := Int × Int × Int × Int
def perV (p : Per) : List Value := [.int .i64 p.1, .int .i64 p.2.1, .int .i64 p.2.2.1, .int .i64 p.2.2.2]
def persV (ps : List Per) : List Value := ps.flatMap perV
theorem persV_snoc (ps : List Per) (p : Per) : persV (ps ++ [p]) = persV ps ++ perV p := by unfold persV; simp
theorem infoP : (Tryd.prog.info? 41).map (fun i => (i.zero, i.size, i.bytes)) = some (some (.agg #[.int .i64 0, .int .i64 0, .int .i64 0, .int .i64 0]), 4, 32) := by kernel_rfl
/-- A list of periods in memory. -/
def HsP (w : World) (A : Option Addr) (ps : List Per) : Prop :=
  ps = [] ∨ ∃ b, A = some ⟨b, 0, none⟩ ∧ b < w.heap.size ∧ ∀ j, j < ps.length → w.cell? ⟨b, j * 4, none⟩ = some (.int .i64 (ps.getD j (0, 0, 0, 0)).1) ∧ w.cell? ⟨b, j * 4 + 1, none⟩ = some (.int .i64 (ps.getD j (0, 0, 0, 0)).2.1) ∧ w.cell? ⟨b, j * 4 + 2, none⟩ = some (.int .i64 (ps.getD j (0, 0, 0, 0)).2.2.1) ∧ w.cell? ⟨b, j * 4 + 3, none⟩ = some (.int .i64 (ps.getD j (0, 0, 0, 0)).2.2.2)
theorem persV_get (ps : List Per) : ∀ (j : Nat), j < ps.length → (persV ps)[j * 4]? = some (.int .i64 (ps.getD j (0, 0, 0, 0)).1) ∧ (persV ps)[j * 4 + 1]? = some (.int .i64 (ps.getD j (0, 0, 0, 0)).2.1) ∧ (persV ps)[j * 4 + 2]? = some (.int .i64 (ps.getD j (0, 0, 0, 0)).2.2.1) ∧ (persV ps)[j * 4 + 3]? = some (.int .i64 (ps.getD j (0, 0, 0, 0)).2.2.2) := by
  induction ps with
  | nil => intro j h; simp at h
  | cons p ps ih =>
    intro j h
    have e : persV (p :: ps) = perV p ++ persV ps := rfl
    have hl : (perV p).length = 4 := rfl
    rw [e]
    cases j with
    | zero => exact ⟨rfl, rfl, rfl, rfl⟩
    | succ j =>
      have := ih j (by simpa using h)
      refine ⟨?_, ?_, ?_, ?_⟩
      all_goals (rw [List.getElem?_append_right (by rw [hl]; omega), hl])
      · rw [show (j + 1) * 4 - 4 = j * 4 by omega]; exact this.1
      · rw [show (j + 1) * 4 + 1 - 4 = j * 4 + 1 by omega]; exact this.2.1
      · rw [show (j + 1) * 4 + 2 - 4 = j * 4 + 2 by omega]; exact this.2.2.1
      · rw [show (j + 1) * 4 + 3 - 4 = j * 4 + 3 by omega]; exact this.2.2.2
theorem persV_len (ps : List Per) : (persV ps).length = ps.length * 4 := by
  induction ps with
  | nil => rfl
  | cons p ps ih => show (perV p ++ persV ps).length = _; rw [List.length_append, ih]; show 4 + _ = _; simp; omega
/-- What is own reads so. -/
theorem of_ownP {w : World} {base n : Nat} {v : Value} {ps : List Per} (h : w.ownsRow base 41 4 v n (persV ps)) : ∃ A c, v = .slice A n c ∧ n = ps.length ∧ HsP w A ps ∧ (A = none → c = 0) ∧ n ≤ c ∧ c ≤ maxLen := by
  have hl : n = ps.length := by have := h.1; rw [persV_len] at this; omega
  rcases h.2 with ⟨hv, hn⟩ | ⟨g, cap, cur, hv, hb, hh, hn, hm, _⟩
  · refine ⟨none, 0, by rw [hv, hn], hl, .inl (List.eq_nil_of_length_eq_zero (by omega)), fun _ => rfl, by omega, by unfold maxLen; omega⟩
  · refine ⟨some ⟨g, 0, none⟩, cap, hv, hl, .inr ⟨g, rfl, lt_of_block hh, fun j hj => ?_⟩, fun h => (by cases h), hn, hm⟩
    subst hv
    have hadd : ∀ k, (⟨g, 0, none⟩ : Addr).add k = ⟨g, k, none⟩ := fun k => by unfold Addr.add; split <;> simp_all
    obtain ⟨g0, g1, g2, g3⟩ := persV_get ps j hj
    refine ⟨?_, ?_, ?_, ?_⟩
    · have := h.cells (g := g) rfl _ _ g0; rwa [hadd] at this
    · have := h.cells (g := g) rfl _ _ g1; rwa [hadd] at this
    · have := h.cells (g := g) rfl _ _ g2; rwa [hadd] at this
    · have := h.cells (g := g) rfl _ _ g3; rwa [hadd] at this
/-- A list of periods and an error. -/
def PrsP (L : List Per) (e : Int) (w : World) (x : Ending) (w' : World) : Prop := ∃ A c, x = .returned (.tuple #[.slice A L.length c, .int .i64 e]) ∧ HsP w' A L ∧ (A = none → c = 0) ∧ L.length ≤ c ∧ c ≤ maxLen ∧ Below w.heap.size w w'
theorem prsP_nil {e : Int} {w w' : World} (h : Below w.heap.size w w') : PrsP [] e w (.returned (.tuple #[.slice none 0 0, .int .i64 e])) w' := ⟨none, 0, rfl, .inl rfl, fun _ => rfl, by simp, by unfold maxLen; omega, h⟩
section
variable (st en mo : Int) (bk la : Bool) (sb ro we : Int) (A : Option Addr) (c : Nat) (hs : List Int)
set_option maxRecDepth 100000 in
set_option maxHeartbeats 1600000 in
theorem rperiods_err (e : Int) (he : (e != 0) = true) (w : World) (H : ∀ W, Below w.heap.size w W → Calls Tryd.prog 19 #[.agg #[.int .i64 st, .int .i64 en, .int .i64 mo, .bool bk, .bool la, .int .u8 sb, .int .u8 ro, .int .u8 we, .slice A hs.length c]] W (DtsR [] e W)) :
    Calls Tryd.prog 20 #[.agg #[.int .i64 st, .int .i64 en, .int .i64 mo, .bool bk, .bool la, .int .u8 sb, .int .u8 ro, .int .u8 we, .slice A hs.length c]] w (PrsP [] e w) := by
  have J := Lib.hid H
  clear H
  go_enter Tryd.func20, Tryd.ntmps20
  go_wp2_with (go_at_call 19; ((with_reducible refine (J.out _ (belE_c _ _)).mono ?_); rintro x w1 ⟨A1, c1, rfl, -, -, -, -, b⟩; have B1 := Lib.hid (btS (belE_c _ _) b); clear b))
  go_ret2
  exact prsP_nil B1.out
/-- The periods of dates with rolled days; the first error of a rolled day. -/
def pmk (L : List Int) (v : Nat → Int) (i : Nat) : Per := (L.getD i 0, L.getD (i + 1) 0, v i, v (i + 1))
def pmkL (L : List Int) (v : Nat → Int) (k : Nat) : List Per := (List.range k).map (pmk L v)
theorem pmkL_succ (L : List Int) (v : Nat → Int) (k : Nat) : pmkL L v (k + 1) = pmkL L v k ++ [pmk L v k] := by unfold pmkL; rw [List.range_succ, List.map_append]; rfl
theorem pmkL_len (L : List Int) (v : Nat → Int) (k : Nat) : (pmkL L v k).length = k := by unfold pmkL; simp
/-- What Periods answers of N + 1 dates: v the rolled days, q their errors. -/
structure PerA (L : List Int) (v q : Nat → Int) (N : Nat) (R : List Per) (E : Int) : Prop where
  ok : (∀ i, i ≤ N → q i = 0) → R = pmkL L v N ∧ E = 0
  bad : ∀ i, i < N → (∀ j, j < i → q j = 0 ∧ q (j + 1) = 0) → (q i ≠ 0 → R = [] ∧ E = q i) ∧ (q i = 0 → q (i + 1) ≠ 0 → R = [] ∧ E = q (i + 1))
set_option maxRecDepth 100000 in
set_option maxHeartbeats 6400000 in
theorem rperiods_in (L : List Int) (N : Nat) (hN : L.length = N + 1) (n0 : 1 ≤ N) (n1 : N ≤ 1000) (v q : Nat → Int) (R : List Per) (E : Int) (hP : PerA L v q N R E) (w : World) (H : ∀ W, Below w.heap.size w W → Calls Tryd.prog 19 #[.agg #[.int .i64 st, .int .i64 en, .int .i64 mo, .bool bk, .bool la, .int .u8 sb, .int .u8 ro, .int .u8 we, .slice A hs.length c]] W (DtsR L 0 W))
    (H2 : ∀ (i : Nat) W, i ≤ N → Below w.heap.size w W → Calls Tryd.prog 34 #[.agg #[.int .u8 we, .slice A hs.length c], .int .i64 (L.getD i 0), .int .u8 ro] W fun x w' => x = .returned (.tuple #[.int .i64 (v i), .int .i64 (q i)]) ∧ Below W.heap.size W w') :
    Calls Tryd.prog 20 #[.agg #[.int .i64 st, .int .i64 en, .int .i64 mo, .bool bk, .bool la, .int .u8 sb, .int .u8 ro, .int .u8 we, .slice A hs.length c]] w (PrsP R E w) := by
  have J := Lib.hid H
  have J2 := Lib.hid H2
  have HP := Lib.hid hP
  have HN := Lib.hid hN
  obtain ⟨i0, hi0, hz0, hz1, hz2⟩ := info_parts infoP
  clear H H2 hP
  go_enter Tryd.func20, Tryd.ntmps20
  go_wp2_with (go_at_call 19; ((with_reducible refine (J.out _ (belE_c _ _)).mono ?_); rintro x w1 ⟨A1, c1, rfl, hr, -, -, -, b⟩; obtain ⟨q0, q1, q2, q3, q4, q5, q6, q7, q8⟩ := row9S b; have B1 := Lib.hid b; have HR := Lib.hid hr; clear b hr))
  clear q0 q1 q2 q3 q4 q5 q6 q7 q8 J
  go_loopw [6, 7] (fun l i wr => ∃ (k : Nat) (u : Value), k ≤ N ∧ i = .int .i64 k ∧ l = u ∧ Hid (wr.ownsRow w1.heap.size 41 4 u k (persV (pmkL L v k))) ∧ Hid (Below w1.heap.size w1 wr) ∧ Hid (∀ j, j < k → q j = 0 ∧ q (j + 1) = 0)) (fun _ i _ => N - (intOf i).toNat)
  case atStart => exact ⟨0, _, by omega, rfl, rfl, World.ownsRow_nil _ _ _ _, Below.refl _ _, fun j h => by omega⟩
  case round =>
    obtain ⟨k, u, hk, rfl, rfl, HO, HW, HQ⟩ := hrel
    obtain ⟨A', c', rfl, hlen, -, -, -, -⟩ := of_ownP HO.out
    clear hlen
    have HBW := Lib.hid (btS B1.out HW.out)
    obtain ⟨q0, q1, q2, q3, q4, q5, q6, q7, q8⟩ := row9S HBW.out
    by_cases hlt : k < N
    · obtain ⟨b, o, rfl, hbl, hcell⟩ := HR.out.get (show k < L.length by omega)
      have HC0 := Lib.hid (fun W (h : Below w1.heap.size w1 W) => cellS h (hcell k (by omega)))
      have HC1 := Lib.hid (fun W (h : Below w1.heap.size w1 W) => cellS h (hcell (k + 1) (by omega)))
      have HK0 := Lib.hid (fun W h => J2.out k W (by omega) h)
      have HK1 := Lib.hid (fun W h => J2.out (k + 1) W (by omega) h)
      have d0 := HC0.out _ HW.out
      have d1 := HC1.out _ HW.out
      have hk1 : (k : Int) + 1 < (N : Int) + 1 := by omega
      have hk0 : (k : Int) < (N : Int) + 1 := by omega
      have h00 : (0 : Int) ≤ (k : Int) := by omega
      have h01 : (0 : Int) ≤ (k : Int) + 1 := by omega
      have HWR := Lib.hid (IntWalk.i64_in ((k : Int) + 1) (by omega))
      have HTN := Lib.hid (show ((k : Int) + 1).toNat = k + 1 by omega)
      have HX := Lib.hid (pmkL_succ L v k)
      have HXp : Hid (perV (pmk L v k) = [.int .i64 (L.getD k 0), .int .i64 (L.getD (k + 1) 0), .int .i64 (v k), .int .i64 (v (k + 1))]) := rfl
      have HB := Lib.hid (HP.out.bad k hlt HQ.out)
      clear hcell J2
      generalize L.getD k 0 = x at *
      generalize L.getD (k + 1) 0 = y at *
      generalize v k = vx at *
      generalize v (k + 1) = vy at *
      have hcase : (q k ≠ 0) ∨ (q k = 0 ∧ q (k + 1) ≠ 0) ∨ (q k = 0 ∧ q (k + 1) = 0) := by omega
      have E0 := Lib.hid (Below.drew (btS (belE_c w _) HBW.out))
      rcases hcase with hq | ⟨hq, hq2⟩ | ⟨hq, hq2⟩
      · obtain ⟨rfl, rfl⟩ := HB.out.1 hq
        have hz1' : (q k != 0) = true := by rw [bne_iff_ne]; exact hq
        clear HB hq HX HXp
        generalize q k = qk at *
        go_wp2
        go_region_held3 (fun w' => w'.cell? ⟨w.heap.size, 6, none⟩ = some (.int .u8 ro) ∧ w'.cell? ⟨w.heap.size, 7, none⟩ = some (.int .u8 we) ∧ w'.cell? ⟨w.heap.size, 8, none⟩ = some (.slice A hs.length c) ∧ w'.cell? ⟨b, o + k, none⟩ = some (.int .i64 x))
          (((try go_split_ands); (and_intros) <;> first | assumption | (refine (b4.cell ?_).trans ?_; exact (World.block_lt_of_cell? _ _ (by assumption)); assumption) | (go_keep; done)))
          (first
            | (go_split_ands; go_at_call 34; refine (HK0.out _ E0.out).mono ?_; rintro z w4 ⟨rfl, b4⟩))
        have HBW4 := Lib.hid (btS (Below.drew HBW.out) b4)
        have HW4 := Lib.hid (HW.out.trans (Below.mono (Below.drewB b4) HW.out.size))
        have E4 := Lib.hid (Below.drew (btS (belE_c w _) HBW4.out))
        obtain ⟨p0, p1, p2, p3, p4, p5, p6, p7, p8⟩ := row9S HBW4.out
        have d1' := HC1.out _ HW4.out
        have O4 := Lib.hid (own_belS HO.out (Below.drewB b4))
        clear q0 q1 q2 q3 q4 q5 q6 q7 q8 d0 d1 b4
        go_wp2
        have hwr := HWR.out
        have htn := HTN.out
        go_region_held3 (fun w' => w'.cell? ⟨w.heap.size, 6, none⟩ = some (.int .u8 ro) ∧ w'.cell? ⟨w.heap.size, 7, none⟩ = some (.int .u8 we) ∧ w'.cell? ⟨w.heap.size, 8, none⟩ = some (.slice A hs.length c) ∧ w'.cell? ⟨b, o + (k + 1), none⟩ = some (.int .i64 y))
          (((try go_split_ands); (and_intros) <;> first | assumption | (refine (b5.cell ?_).trans ?_; exact (World.block_lt_of_cell? _ _ (by assumption)); assumption) | (go_keep; done)))
          (first
            | (go_split_ands; go_at_call 34; refine (HK1.out _ E4.out).mono ?_; rintro z w5 ⟨rfl, b5⟩))
        have HBW5 := Lib.hid (btS (Below.drew HBW4.out) b5)
        have HW5 := Lib.hid (HW4.out.trans (Below.mono (Below.drewB b5) HW4.out.size))
        have E5 := Lib.hid (btS (belE_c w _) HBW5.out)
        have O5 := Lib.hid (own_belS O4.out (Below.drewB b5))
        have e0 := HC0.out _ HW5.out
        have e1 := HC1.out _ HW5.out
        clear p0 p1 p2 p3 p4 p5 p6 p7 p8 d1' b5 hwr htn
        go_wp2
        go_ret2
        exact prsP_nil E5.out
      · obtain ⟨rfl, rfl⟩ := HB.out.2 hq hq2
        have hz1' : (q (k + 1) != 0) = true := by rw [bne_iff_ne]; exact hq2
        rw [hq] at HK0
        clear HB hq hq2 HX HXp
        generalize q (k + 1) = qk at *
        go_wp2
        go_region_held3 (fun w' => w'.cell? ⟨w.heap.size, 6, none⟩ = some (.int .u8 ro) ∧ w'.cell? ⟨w.heap.size, 7, none⟩ = some (.int .u8 we) ∧ w'.cell? ⟨w.heap.size, 8, none⟩ = some (.slice A hs.length c) ∧ w'.cell? ⟨b, o + k, none⟩ = some (.int .i64 x))
          (((try go_split_ands); (and_intros) <;> first | assumption | (refine (b4.cell ?_).trans ?_; exact (World.block_lt_of_cell? _ _ (by assumption)); assumption) | (go_keep; done)))
          (first
            | (go_split_ands; go_at_call 34; refine (HK0.out _ E0.out).mono ?_; rintro z w4 ⟨rfl, b4⟩))
        have HBW4 := Lib.hid (btS (Below.drew HBW.out) b4)
        have HW4 := Lib.hid (HW.out.trans (Below.mono (Below.drewB b4) HW.out.size))
        have E4 := Lib.hid (Below.drew (btS (belE_c w _) HBW4.out))
        obtain ⟨p0, p1, p2, p3, p4, p5, p6, p7, p8⟩ := row9S HBW4.out
        have d1' := HC1.out _ HW4.out
        have O4 := Lib.hid (own_belS HO.out (Below.drewB b4))
        clear q0 q1 q2 q3 q4 q5 q6 q7 q8 d0 d1 b4
        go_wp2
        have hwr := HWR.out
        have htn := HTN.out
        go_region_held3 (fun w' => w'.cell? ⟨w.heap.size, 6, none⟩ = some (.int .u8 ro) ∧ w'.cell? ⟨w.heap.size, 7, none⟩ = some (.int .u8 we) ∧ w'.cell? ⟨w.heap.size, 8, none⟩ = some (.slice A hs.length c) ∧ w'.cell? ⟨b, o + (k + 1), none⟩ = some (.int .i64 y))
          (((try go_split_ands); (and_intros) <;> first | assumption | (refine (b5.cell ?_).trans ?_; exact (World.block_lt_of_cell? _ _ (by assumption)); assumption) | (go_keep; done)))
          (first
            | (go_split_ands; go_at_call 34; refine (HK1.out _ E4.out).mono ?_; rintro z w5 ⟨rfl, b5⟩))
        have HBW5 := Lib.hid (btS (Below.drew HBW4.out) b5)
        have HW5 := Lib.hid (HW4.out.trans (Below.mono (Below.drewB b5) HW4.out.size))
        have E5 := Lib.hid (btS (belE_c w _) HBW5.out)
        have O5 := Lib.hid (own_belS O4.out (Below.drewB b5))
        have e0 := HC0.out _ HW5.out
        have e1 := HC1.out _ HW5.out
        clear p0 p1 p2 p3 p4 p5 p6 p7 p8 d1' b5 hwr htn
        go_wp2
        go_ret2
        exact prsP_nil E5.out
      · have HQ2 : Hid (∀ j, j < k + 1 → q j = 0 ∧ q (j + 1) = 0) := fun j hj => by
          rcases Nat.lt_or_ge j k with g | g
          · exact HQ.out j g
          · obtain rfl : j = k := by omega
            exact ⟨hq, hq2⟩
        rw [hq] at HK0
        rw [hq2] at HK1
        clear HB hq hq2 HQ
        go_wp2
        go_region_held3 (fun w' => w'.cell? ⟨w.heap.size, 6, none⟩ = some (.int .u8 ro) ∧ w'.cell? ⟨w.heap.size, 7, none⟩ = some (.int .u8 we) ∧ w'.cell? ⟨w.heap.size, 8, none⟩ = some (.slice A hs.length c) ∧ w'.cell? ⟨b, o + k, none⟩ = some (.int .i64 x))
          (((try go_split_ands); (and_intros) <;> first | assumption | (refine (b4.cell ?_).trans ?_; exact (World.block_lt_of_cell? _ _ (by assumption)); assumption) | (go_keep; done)))
          (first
            | (go_split_ands; go_at_call 34; refine (HK0.out _ E0.out).mono ?_; rintro z w4 ⟨rfl, b4⟩))
        have HBW4 := Lib.hid (btS (Below.drew HBW.out) b4)
        have HW4 := Lib.hid (HW.out.trans (Below.mono (Below.drewB b4) HW.out.size))
        have E4 := Lib.hid (Below.drew (btS (belE_c w _) HBW4.out))
        obtain ⟨p0, p1, p2, p3, p4, p5, p6, p7, p8⟩ := row9S HBW4.out
        have d1' := HC1.out _ HW4.out
        have O4 := Lib.hid (own_belS HO.out (Below.drewB b4))
        clear q0 q1 q2 q3 q4 q5 q6 q7 q8 d0 d1 b4
        go_wp2
        have hwr := HWR.out
        have htn := HTN.out
        go_region_held3 (fun w' => w'.cell? ⟨w.heap.size, 6, none⟩ = some (.int .u8 ro) ∧ w'.cell? ⟨w.heap.size, 7, none⟩ = some (.int .u8 we) ∧ w'.cell? ⟨w.heap.size, 8, none⟩ = some (.slice A hs.length c) ∧ w'.cell? ⟨b, o + (k + 1), none⟩ = some (.int .i64 y))
          (((try go_split_ands); (and_intros) <;> first | assumption | (refine (b5.cell ?_).trans ?_; exact (World.block_lt_of_cell? _ _ (by assumption)); assumption) | (go_keep; done)))
          (first
            | (go_split_ands; go_at_call 34; refine (HK1.out _ E4.out).mono ?_; rintro z w5 ⟨rfl, b5⟩))
        have HBW5 := Lib.hid (btS (Below.drew HBW4.out) b5)
        have HW5 := Lib.hid (HW4.out.trans (Below.mono (Below.drewB b5) HW4.out.size))
        have E5 := Lib.hid (btS (belE_c w _) HBW5.out)
        have O5 := Lib.hid (own_belS O4.out (Below.drewB b5))
        have e0 := HC0.out _ HW5.out
        have e1 := HC1.out _ HW5.out
        clear p0 p1 p2 p3 p4 p5 p6 p7 p8 d1' b5 hwr htn
        go_wp2
        have hwr := HWR.out
        have htn := HTN.out
        have z5 := HW5.out.size
        go_region_held3 (fun w' => w'.cell? ⟨b, o + k, none⟩ = some (.int .i64 x) ∧ w'.cell? ⟨b, o + (k + 1), none⟩ = some (.int .i64 y))
          (((try go_split_ands); (and_intros) <;> first | assumption | (refine (hbel.cell (p := ⟨b, _, none⟩) hbl).trans ?_; assumption) | (go_keep; done)))
          ((go_split_ands; refine step_appB rfl _ _ 34 rfl 41 i0 (.agg #[.int .i64 0, .int .i64 0, .int .i64 0, .int .i64 0]) 4 32 Tryd.underlying34 hi0 hz0 hz1 hz2 rfl (by decide) w1.heap.size _ k _ (O5.out.drew.alloc _) (by simp [Act.eval]) ⟨w5.heap.size, 0, none⟩ 1 1 [.int .i64 x, .int .i64 y, .int .i64 vx, .int .i64 vy] (by simp [Act.eval]) rfl (news4 w5.drew _ _ _ _ _) (one4 _ _ _ _) (by unfold maxLen; omega) (by omega) (by simp; omega) ?_; intro v' w6 hown hbel))
        have O6 : Hid (w6.ownsRow w1.heap.size 41 4 v' (k + 1) (persV (pmkL L v (k + 1)))) := by
          show w6.ownsRow _ _ _ _ _ _
          rw [HX.out, persV_snoc, HXp.out]; exact hown
        have W6 : Hid (Below w1.heap.size w1 w6) := ((Below.drew HW5.out).alloc z5 _).trans hbel
        clear hown hbel hwr htn e0 e1
        go_wp2
        go_roundw
        case rel => exact ⟨k + 1, _, by omega, by go_num, rfl, O6, W6, HQ2⟩
        case measure => simp [intOf]; omega
    · obtain rfl : k = N := by omega
      obtain ⟨rfl, rfl⟩ := HP.out.ok (fun i hi => by
        rcases Nat.eq_zero_or_pos i with rfl | h
        · exact (HQ.out 0 (by omega)).1
        · have := (HQ.out (i - 1) (by omega)).2; rwa [show i - 1 + 1 = i by omega] at this)
      obtain ⟨A6, c6, he, -, F1, F2, F3, F4⟩ := of_ownP HO.out
      obtain ⟨rfl, rfl⟩ : A' = A6 ∧ c' = c6 := by injection he with e1 _ e3; exact ⟨e1, e3⟩
      have G1 := Lib.hid F1
      have G2 := Lib.hid F2
      have G3 := Lib.hid F3
      have G4 := Lib.hid F4
      have HLn := Lib.hid (pmkL_len L v k)
      have E6 := Lib.hid (btS (belE_c w _) HBW.out)
      clear F1 F2 F3 F4 he HQ J2 HP
      go_wp2
      go_ret2
      exact ⟨A', c', by rw [HLn.out]; rfl, G1.out, G2.out, by rw [HLn.out]; exact G3.out, G4.out, E6.out⟩
end
end Go.Proofs.YtfheeipggedaiaaDoor
